/-
  the law KernelsAhead, places below 0
-/
import Derived.Test.YtfelmkkkaphkpaaKqP
import Derived.Test.YtfelmkkkaphkpaaRgT
import Derived.Test.YtfelmkkkaphkpaaKRgV
namespace Go.Proofs.Ytfelmkkkaphkpaa
open Go.RowKit Go.Bw Go.Sort Go.Shelf
set_option linter.unusedVariables false
set_option linter.unusedSimpArgs false

open List (setIfInBounds_toArray set_cons_zero set_cons_succ getElem_toArray getElem_cons_zero getElem_cons_succ)
attribute [local go_sem] run_store_float
set_option maxRecDepth 100000 in
set_option maxHeartbeats 8000000 in
theorem KernelsAhead_neg {w : World} {RX CX : Int} {AX : Option Addr} {nX cX : Nat} {LX : List Int} {a b : Nat} {i : Int} {up : Bool} (ba : a ≤ 18446744073709551615) (bb : b ≤ 18446744073709551615) (hX : FL w AX nX cX LX) (hb : bigM RX CX nX = false) (hs : (RX == CX) = true) (h0 : (RX == 0) = false) (hi : i < 0) : Calls Try.prog 12 #[.float .f64 a, mV RX CX AX nX cX, .float .f64 b, .int .i64 i, .bool up] w (Ans w (.bool true)) := by
 have pb := fun W => big_any RX CX AX nX cX hX.max W
 rw [hb] at pb
 obtain ⟨zX, eX, uX⟩ := big_is hb
 have bdX := (szB_bd zX).1
 clear hb
 obtain ⟨n, hn⟩ := Int.eq_ofNat_of_zero_le bdX.1
 have hsq := eq_of_beq hs
 subst hn
 obtain rfl : CX = (n : Int) := hsq.symm
 clear hsq
 have HSX := Lib.hid (And.intro zX eX)
 have ps := rSquare_any (n : Int) (n : Int) AX nX cX
 rw [hs] at ps
 have hn0 : ((n : Int) == 0) = false := h0
 have hn1 : 1 ≤ n := by have h := hn0; simp at h; omega
 have hn5 : n ≤ 512 := by omega
 obtain ⟨N, hN⟩ : ∃ N, n * n = N := ⟨_, rfl⟩
 have hNX : nX = N := by have := eX; rw [← hN]; exact_mod_cast this
 subst hNX
 have HN := Lib.hid hN
 have hNN : (n : Int) * (n : Int) = (nX : Int) := by exact_mod_cast hN
 have HL := Lib.hid (hX.1.trans HN.out.symm)
 have HNX := Lib.hid HN.out.symm
 have hN1 : 1 ≤ nX := by rw [← hN]; exact Nat.mul_le_mul hn1 hn1
 have HWX := Lib.hid hX.2.2
 obtain ⟨j, hj⟩ : ∃ j : Nat, (0 : Int).tmod (n : Int) = (j : Int) := ⟨0, by simp⟩
 have hjn : j < n := by have h := hj; simp at h; omega
 clear zX eX hs h0 hN
 have wj : IntKind.i64.wrap (j : Int) = j := by rw [IntKind.wrap_i64]; omega
 have wN : IntKind.i64.wrap (nX : Int) = nX := by rw [IntKind.wrap_i64]; omega
 have hnz : (n : Int) ≠ 0 := by omega
 have hjb : (j : Int) ≤ 9223372036854775807 := by omega
 have HX := Lib.hid hX
 have mx := hX.max
 clear hX
 have DX := Blk.new w [.int .i64 (n : Int), .int .i64 (n : Int), .slice AX nX cX] 24
 have bz := (Below.refl _ w).alloc (Nat.le_refl _) (.cells #[.int .i64 (n : Int), .int .i64 (n : Int), .slice AX nX cX] 24)
 go_enter Try.func12, Try.ntmps12
 obtain ⟨kx_0, kx_1, kx_2, kx_3, kx_4, kx_5⟩ := Mbx.cells DX
 go_wp2_with fail
 with_reducible refine (pb _).mono ?_
 rintro e w1 ⟨rfl, hb⟩
 clear kx_0 kx_1 kx_2 kx_3 kx_4 kx_5
 replace DX := DX.on hb
 replace bz := bz.trans (hb.mono bz.size)
 clear hb
 obtain ⟨kx_0, kx_1, kx_2, kx_3, kx_4, kx_5⟩ := Mbx.cells DX
 go_wp2_with fail
 with_reducible refine (ps _).mono ?_
 rintro e w2 ⟨rfl, hb⟩
 clear kx_0 kx_1 kx_2 kx_3 kx_4 kx_5
 replace DX := DX.on hb
 replace bz := bz.trans (hb.mono bz.size)
 clear hb
 obtain ⟨kx_0, kx_1, kx_2, kx_3, kx_4, kx_5⟩ := Mbx.cells DX
 go_wp2_with fail
 clear kx_0 kx_1 kx_2 kx_3 kx_4 kx_5
 replace DX := DX.drew
 replace bz := bz.drew
 refine wp_region_held_drew (S := fun w9 : World => Mbx w9 w.heap.size n n AX nX cX) (by kernel_rfl) DX (fun hS => ?_)
 have hwl := DX.lt
 generalize w2.drew = wf at hS hwl DX bz ⊢
 refine wpAnyH_take (i := 0) (v := ?v91) rfl (by kernel_rfl) (by kernel_rfl) (by kernel_rfl) (fun _ _ _ h => h) (Or.inl ⟨by rfl, ?h91⟩) (by assumption) ?r91
 case h91 => (intro w9 hSw; obtain ⟨q0, q1, q2, q3, q4, q5⟩ := Mbx.cells hSw; go_simp; try with_reducible rfl)
 try simp only [Act.put, setIfInBounds_toArray, set_cons_zero, set_cons_succ, getElem_toArray, getElem_cons_zero, getElem_cons_succ]
 refine wpAnyH_take (i := 2) (v := ?v92) rfl (by kernel_rfl) (by kernel_rfl) (by kernel_rfl) (fun _ _ _ h => h) (Or.inl ⟨by rfl, ?h92⟩) (by assumption) ?r92
 case h92 => (intro w9 hSw; obtain ⟨q0, q1, q2, q3, q4, q5⟩ := Mbx.cells hSw; go_simp; try with_reducible rfl)
 try simp only [Act.put, setIfInBounds_toArray, set_cons_zero, set_cons_succ, getElem_toArray, getElem_cons_zero, getElem_cons_succ]
 refine wpAnyH_take (i := 4) (v := ?v93) rfl (by kernel_rfl) (by kernel_rfl) (by kernel_rfl) (fun _ _ _ h => h) (Or.inl ⟨by rfl, ?h93⟩) (by assumption) ?r93
 case h93 => (intro w9 hSw; obtain ⟨q0, q1, q2, q3, q4, q5⟩ := Mbx.cells hSw; go_simp; try with_reducible rfl)
 try simp only [Act.put, setIfInBounds_toArray, set_cons_zero, set_cons_succ, getElem_toArray, getElem_cons_zero, getElem_cons_succ]
 refine wpAnyH_take (i := 6) (v := ?v94) rfl (by kernel_rfl) (by kernel_rfl) (by kernel_rfl) (fun _ _ _ h => h) (Or.inl ⟨by rfl, ?h94⟩) (by assumption) ?r94
 case h94 => (intro w9 hSw; obtain ⟨q0, q1, q2, q3, q4, q5⟩ := Mbx.cells hSw; go_simp; try with_reducible rfl)
 try simp only [Act.put, setIfInBounds_toArray, set_cons_zero, set_cons_succ, getElem_toArray, getElem_cons_zero, getElem_cons_succ]
 obtain ⟨I, hI⟩ : ∃ I : Array Value → List Bool → Act → World → Prop, I = (fun T bs a9 W => ∃ (lo hi : Nat → Nat) (v0 v1 v2 v3 v4 v5 v6 v7 : Value), a9 = { tmps := ((((((((T.setIfInBounds 49 v0).setIfInBounds 51 v1).setIfInBounds 53 v2).setIfInBounds 55 v3).setIfInBounds 12 v4).setIfInBounds 13 v5).setIfInBounds 14 v6).setIfInBounds 15 v7), defers := [] } ∧ Pol wf.heap.size W bs lo hi ∧ (bs.getD 0 false = true → OvI W (lo 0) (hi 0) n n LX v0) ∧ (bs.getD 1 false = true → OvI W (lo 1) (hi 1) n n LX v1) ∧ (bs.getD 2 false = true → OvI W (lo 2) (hi 2) n n LX v2) ∧ (bs.getD 3 false = true → OvI W (lo 3) (hi 3) n n LX v3) ∧ (bs.getD 4 false = true → CV W (lo 4) (hi 4) v4) ∧ (bs.getD 5 false = true → CV W (lo 5) (hi 5) v5) ∧ (bs.getD 6 false = true → CV W (lo 6) (hi 6) v6) ∧ (bs.getD 7 false = true → CV W (lo 7) (hi 7) v7) ∧ Mbx W w.heap.size n n AX nX cX ∧ Below w.heap.size w W ∧ wf.heap.size ≤ W.heap.size) := ⟨_, rfl⟩
 have HI := Lib.hid hI
 clear hI
 refine wpAnyH_freeT (is := [1, 3, 5, 7, 8, 9, 10, 11]) (L := fun bs => #[true, bs.getD 0 false, true, bs.getD 1 false, true, bs.getD 2 false, true, bs.getD 3 false, bs.getD 4 false, bs.getD 5 false, bs.getD 6 false, bs.getD 7 false, false, false, false, false]) (F := 4) (fun bs => (bs.getD 0 false || !(bs.getD 1 false)) && ((bs.getD 1 false || !(bs.getD 2 false)) && (bs.getD 2 false || !(bs.getD 3 false)))) I (by kernel_rfl) ?step ?fin 8 [false, false, false, false, false, false, false, false] rfl rfl rfl ?beg hS
 case beg =>
  rw [HI.out]
  exact ⟨fun _ => 0, fun _ => 0, undef, undef, undef, undef, undef, undef, undef, undef, by kernel_rfl, Pol.start (by intro k; rcases k with _ | _ | _ | _ | _ | _ | _ | _ | k <;> simp), by simp, by simp, by simp, by simp, by simp, by simp, by simp, by simp, DX, bz, Nat.le_refl _⟩
 case step =>
  intro k hk bs a9 W hl hb hok hI hS
  obtain ⟨b0, b1, b2, b3, b4, b5, b6, b7, rfl⟩ := bools8 bs hl
  rw [HI.out] at hI
  obtain ⟨lo, hi, v0, v1, v2, v3, v4, v5, v6, v7, rfl, hP, f0, f1, f2, f3, f4, f5, f6, f7, DX, bz, hsz⟩ := hI
  clear hS
  rcases k with _ | _ | _ | _ | _ | _ | _ | _ | k
  ·
   refine ⟨1, _, rfl, rfl, fun K hK => ?_⟩
   try simp only [Act.put, setIfInBounds_toArray, set_cons_zero, set_cons_succ, getElem_toArray, getElem_cons_zero, getElem_cons_succ]
   go_simp
   with_reducible refine (of_any false (HX.out.on bz) HSX.out.1 HSX.out.2).mono ?_
   rintro e w1 ⟨V, s, gg, cap, c, l9, rfl, hV, hb1⟩
   refine hK.out _ _ (DX.on hb1) ?_
   try simp only [Act.put, setIfInBounds_toArray, set_cons_zero, set_cons_succ, getElem_toArray, getElem_cons_zero, getElem_cons_succ]
   rw [HI.out]
   exact ⟨_, _, Vu.V V, v1, v2, v3, v4, v5, v6, v7, by kernel_rfl, hP.step 0 hb1.size hsz, fun _ => ⟨V, s, gg, cap, c, l9, rfl, hV, hV.st.lt, hV.st.gt.2⟩, fun h => (f1 h).on hb1, fun h => (f2 h).on hb1, fun h => (f3 h).on hb1, fun h => (f4 h).on hb1, fun h => (f5 h).on hb1, fun h => (f6 h).on hb1, fun h => (f7 h).on hb1, DX.on hb1, bz.trans (hb1.mono bz.size), Nat.le_trans hsz hb1.size⟩
  ·
   refine ⟨3, _, rfl, rfl, fun K hK => ?_⟩
   try simp only [Act.put, setIfInBounds_toArray, set_cons_zero, set_cons_succ, getElem_toArray, getElem_cons_zero, getElem_cons_succ]
   go_simp
   with_reducible refine (of_any false (HX.out.on bz) HSX.out.1 HSX.out.2).mono ?_
   rintro e w1 ⟨V, s, gg, cap, c, l9, rfl, hV, hb1⟩
   refine hK.out _ _ (DX.on hb1) ?_
   try simp only [Act.put, setIfInBounds_toArray, set_cons_zero, set_cons_succ, getElem_toArray, getElem_cons_zero, getElem_cons_succ]
   rw [HI.out]
   exact ⟨_, _, v0, Vu.V V, v2, v3, v4, v5, v6, v7, by kernel_rfl, hP.step 1 hb1.size hsz, fun h => (f0 h).on hb1, fun _ => ⟨V, s, gg, cap, c, l9, rfl, hV, hV.st.lt, hV.st.gt.2⟩, fun h => (f2 h).on hb1, fun h => (f3 h).on hb1, fun h => (f4 h).on hb1, fun h => (f5 h).on hb1, fun h => (f6 h).on hb1, fun h => (f7 h).on hb1, DX.on hb1, bz.trans (hb1.mono bz.size), Nat.le_trans hsz hb1.size⟩
  ·
   refine ⟨5, _, rfl, rfl, fun K hK => ?_⟩
   try simp only [Act.put, setIfInBounds_toArray, set_cons_zero, set_cons_succ, getElem_toArray, getElem_cons_zero, getElem_cons_succ]
   go_simp
   with_reducible refine (of_any false (HX.out.on bz) HSX.out.1 HSX.out.2).mono ?_
   rintro e w1 ⟨V, s, gg, cap, c, l9, rfl, hV, hb1⟩
   refine hK.out _ _ (DX.on hb1) ?_
   try simp only [Act.put, setIfInBounds_toArray, set_cons_zero, set_cons_succ, getElem_toArray, getElem_cons_zero, getElem_cons_succ]
   rw [HI.out]
   exact ⟨_, _, v0, v1, Vu.V V, v3, v4, v5, v6, v7, by kernel_rfl, hP.step 2 hb1.size hsz, fun h => (f0 h).on hb1, fun h => (f1 h).on hb1, fun _ => ⟨V, s, gg, cap, c, l9, rfl, hV, hV.st.lt, hV.st.gt.2⟩, fun h => (f3 h).on hb1, fun h => (f4 h).on hb1, fun h => (f5 h).on hb1, fun h => (f6 h).on hb1, fun h => (f7 h).on hb1, DX.on hb1, bz.trans (hb1.mono bz.size), Nat.le_trans hsz hb1.size⟩
  ·
   refine ⟨7, _, rfl, rfl, fun K hK => ?_⟩
   try simp only [Act.put, setIfInBounds_toArray, set_cons_zero, set_cons_succ, getElem_toArray, getElem_cons_zero, getElem_cons_succ]
   go_simp
   with_reducible refine (of_any false (HX.out.on bz) HSX.out.1 HSX.out.2).mono ?_
   rintro e w1 ⟨V, s, gg, cap, c, l9, rfl, hV, hb1⟩
   refine hK.out _ _ (DX.on hb1) ?_
   try simp only [Act.put, setIfInBounds_toArray, set_cons_zero, set_cons_succ, getElem_toArray, getElem_cons_zero, getElem_cons_succ]
   rw [HI.out]
   exact ⟨_, _, v0, v1, v2, Vu.V V, v4, v5, v6, v7, by kernel_rfl, hP.step 3 hb1.size hsz, fun h => (f0 h).on hb1, fun h => (f1 h).on hb1, fun h => (f2 h).on hb1, fun _ => ⟨V, s, gg, cap, c, l9, rfl, hV, hV.st.lt, hV.st.gt.2⟩, fun h => (f4 h).on hb1, fun h => (f5 h).on hb1, fun h => (f6 h).on hb1, fun h => (f7 h).on hb1, DX.on hb1, bz.trans (hb1.mono bz.size), Nat.le_trans hsz hb1.size⟩
  ·
   refine ⟨8, _, rfl, rfl, fun K hK => ?_⟩
   try simp only [Act.put, setIfInBounds_toArray, set_cons_zero, set_cons_succ, getElem_toArray, getElem_cons_zero, getElem_cons_succ]
   go_simp
   have hb1 := (Below.refl _ W).alloc (Nat.le_refl _) (.cells (Vu.zero).L.toArray 30)
   refine hK.out _ _ (DX.on hb1) ?_
   try simp only [Act.put, setIfInBounds_toArray, set_cons_zero, set_cons_succ, getElem_toArray, getElem_cons_zero, getElem_cons_succ]
   rw [HI.out]
   exact ⟨_, _, v0, v1, v2, v3, .pointer (some ⟨W.heap.size, 0, none⟩), v5, v6, v7, by kernel_rfl, hP.step 4 hb1.size hsz, fun h => (f0 h).on hb1, fun h => (f1 h).on hb1, fun h => (f2 h).on hb1, fun h => (f3 h).on hb1, fun _ => ⟨rfl, Blk.new W Vu.zero.L 30, by simp [upN]⟩, fun h => (f5 h).on hb1, fun h => (f6 h).on hb1, fun h => (f7 h).on hb1, DX.on hb1, bz.trans (hb1.mono bz.size), Nat.le_trans hsz hb1.size⟩
  ·
   refine ⟨9, _, rfl, rfl, fun K hK => ?_⟩
   try simp only [Act.put, setIfInBounds_toArray, set_cons_zero, set_cons_succ, getElem_toArray, getElem_cons_zero, getElem_cons_succ]
   go_simp
   have hb1 := (Below.refl _ W).alloc (Nat.le_refl _) (.cells (Vu.zero).L.toArray 30)
   refine hK.out _ _ (DX.on hb1) ?_
   try simp only [Act.put, setIfInBounds_toArray, set_cons_zero, set_cons_succ, getElem_toArray, getElem_cons_zero, getElem_cons_succ]
   rw [HI.out]
   exact ⟨_, _, v0, v1, v2, v3, v4, .pointer (some ⟨W.heap.size, 0, none⟩), v6, v7, by kernel_rfl, hP.step 5 hb1.size hsz, fun h => (f0 h).on hb1, fun h => (f1 h).on hb1, fun h => (f2 h).on hb1, fun h => (f3 h).on hb1, fun h => (f4 h).on hb1, fun _ => ⟨rfl, Blk.new W Vu.zero.L 30, by simp [upN]⟩, fun h => (f6 h).on hb1, fun h => (f7 h).on hb1, DX.on hb1, bz.trans (hb1.mono bz.size), Nat.le_trans hsz hb1.size⟩
  ·
   refine ⟨10, _, rfl, rfl, fun K hK => ?_⟩
   try simp only [Act.put, setIfInBounds_toArray, set_cons_zero, set_cons_succ, getElem_toArray, getElem_cons_zero, getElem_cons_succ]
   go_simp
   have hb1 := (Below.refl _ W).alloc (Nat.le_refl _) (.cells (Vu.zero).L.toArray 30)
   refine hK.out _ _ (DX.on hb1) ?_
   try simp only [Act.put, setIfInBounds_toArray, set_cons_zero, set_cons_succ, getElem_toArray, getElem_cons_zero, getElem_cons_succ]
   rw [HI.out]
   exact ⟨_, _, v0, v1, v2, v3, v4, v5, .pointer (some ⟨W.heap.size, 0, none⟩), v7, by kernel_rfl, hP.step 6 hb1.size hsz, fun h => (f0 h).on hb1, fun h => (f1 h).on hb1, fun h => (f2 h).on hb1, fun h => (f3 h).on hb1, fun h => (f4 h).on hb1, fun h => (f5 h).on hb1, fun _ => ⟨rfl, Blk.new W Vu.zero.L 30, by simp [upN]⟩, fun h => (f7 h).on hb1, DX.on hb1, bz.trans (hb1.mono bz.size), Nat.le_trans hsz hb1.size⟩
  ·
   refine ⟨11, _, rfl, rfl, fun K hK => ?_⟩
   try simp only [Act.put, setIfInBounds_toArray, set_cons_zero, set_cons_succ, getElem_toArray, getElem_cons_zero, getElem_cons_succ]
   go_simp
   have hb1 := (Below.refl _ W).alloc (Nat.le_refl _) (.cells (Vu.zero).L.toArray 30)
   refine hK.out _ _ (DX.on hb1) ?_
   try simp only [Act.put, setIfInBounds_toArray, set_cons_zero, set_cons_succ, getElem_toArray, getElem_cons_zero, getElem_cons_succ]
   rw [HI.out]
   exact ⟨_, _, v0, v1, v2, v3, v4, v5, v6, .pointer (some ⟨W.heap.size, 0, none⟩), by kernel_rfl, hP.step 7 hb1.size hsz, fun h => (f0 h).on hb1, fun h => (f1 h).on hb1, fun h => (f2 h).on hb1, fun h => (f3 h).on hb1, fun h => (f4 h).on hb1, fun h => (f5 h).on hb1, fun h => (f6 h).on hb1, fun _ => ⟨rfl, Blk.new W Vu.zero.L 30, by simp [upN]⟩, DX.on hb1, bz.trans (hb1.mono bz.size), Nat.le_trans hsz hb1.size⟩
  · simp at hk; omega
 case fin =>
  intro a9 W hI hS
  rw [HI.out] at hI
  obtain ⟨lo, hi, v0, v1, v2, v3, v4, v5, v6, v7, rfl, hP, f0, f1, f2, f3, f4, f5, f6, f7, DX, bz, hsz⟩ := hI
  clear hS
  try simp only [Act.put, setIfInBounds_toArray, set_cons_zero, set_cons_succ, getElem_toArray, getElem_cons_zero, getElem_cons_succ]
  obtain ⟨VA, sA, gA, capA, cA, lA, rfl, hVA, aA, bA⟩ := f0 rfl
  have isA := And.intro hVA.st.lo aA
  have igA := And.intro hVA.st.gt.1 bA
  obtain ⟨VB, sB, gB, capB, cB, lB, rfl, hVB, aB, bB⟩ := f1 rfl
  have isB := And.intro hVB.st.lo aB
  have igB := And.intro hVB.st.gt.1 bB
  obtain ⟨VC, sC, gC, capC, cC, lC, rfl, hVC, aC, bC⟩ := f2 rfl
  have isC := And.intro hVC.st.lo aC
  have igC := And.intro hVC.st.gt.1 bC
  obtain ⟨VD, sD, gD, capD, cD, lD, rfl, hVD, aD, bD⟩ := f3 rfl
  have isD := And.intro hVD.st.lo aD
  have igD := And.intro hVD.st.gt.1 bD
  obtain ⟨rfl, DA, bxA⟩ := f4 rfl
  have ihA := And.intro (Nat.le_refl (lo 4)) bxA
  obtain ⟨rfl, DB, bxB⟩ := f5 rfl
  have ihB := And.intro (Nat.le_refl (lo 5)) bxB
  obtain ⟨rfl, DC, bxC⟩ := f6 rfl
  have ihC := And.intro (Nat.le_refl (lo 6)) bxC
  obtain ⟨rfl, DD, bxD⟩ := f7 rfl
  have ihD := And.intro (Nat.le_refl (lo 7)) bxD
  have n_hA_gA := hP.ne_ (j := 4) (k := 0) (by decide) rfl rfl ihA igA
  have n_sA_hA := hP.ne_ (j := 0) (k := 4) (by decide) rfl rfl isA ihA
  have n_gA_hA := hP.ne_ (j := 0) (k := 4) (by decide) rfl rfl igA ihA
  have n_sB_gA := hP.ne_ (j := 1) (k := 0) (by decide) rfl rfl isB igA
  have n_gB_gA := hP.ne_ (j := 1) (k := 0) (by decide) rfl rfl igB igA
  have n_hB_gA := hP.ne_ (j := 5) (k := 0) (by decide) rfl rfl ihB igA
  have n_sB_hA := hP.ne_ (j := 1) (k := 4) (by decide) rfl rfl isB ihA
  have n_gB_hA := hP.ne_ (j := 1) (k := 4) (by decide) rfl rfl igB ihA
  have n_hB_hA := hP.ne_ (j := 5) (k := 4) (by decide) rfl rfl ihB ihA
  have n_sC_gA := hP.ne_ (j := 2) (k := 0) (by decide) rfl rfl isC igA
  have n_gC_gA := hP.ne_ (j := 2) (k := 0) (by decide) rfl rfl igC igA
  have n_hC_gA := hP.ne_ (j := 6) (k := 0) (by decide) rfl rfl ihC igA
  have n_sC_hA := hP.ne_ (j := 2) (k := 4) (by decide) rfl rfl isC ihA
  have n_gC_hA := hP.ne_ (j := 2) (k := 4) (by decide) rfl rfl igC ihA
  have n_hC_hA := hP.ne_ (j := 6) (k := 4) (by decide) rfl rfl ihC ihA
  have n_sD_gA := hP.ne_ (j := 3) (k := 0) (by decide) rfl rfl isD igA
  have n_gD_gA := hP.ne_ (j := 3) (k := 0) (by decide) rfl rfl igD igA
  have n_hD_gA := hP.ne_ (j := 7) (k := 0) (by decide) rfl rfl ihD igA
  have n_sD_hA := hP.ne_ (j := 3) (k := 4) (by decide) rfl rfl isD ihA
  have n_gD_hA := hP.ne_ (j := 3) (k := 4) (by decide) rfl rfl igD ihA
  have n_hD_hA := hP.ne_ (j := 7) (k := 4) (by decide) rfl rfl ihD ihA
  have rA := (hP.rng 0 rfl).1
  have zA : Hid (w.heap.size < gA) := Lib.hid (by omega)
  have rhA := (hP.rng 4 rfl).1
  have zhA : Hid (w.heap.size < lo 4) := Lib.hid (by omega)
  clear rA rhA
  have n_sA_gB := hP.ne_ (j := 0) (k := 1) (by decide) rfl rfl isA igB
  have n_gA_gB := hP.ne_ (j := 0) (k := 1) (by decide) rfl rfl igA igB
  have n_hA_gB := hP.ne_ (j := 4) (k := 1) (by decide) rfl rfl ihA igB
  have n_sA_hB := hP.ne_ (j := 0) (k := 5) (by decide) rfl rfl isA ihB
  have n_gA_hB := hP.ne_ (j := 0) (k := 5) (by decide) rfl rfl igA ihB
  have n_hA_hB := hP.ne_ (j := 4) (k := 5) (by decide) rfl rfl ihA ihB
  have n_hB_gB := hP.ne_ (j := 5) (k := 1) (by decide) rfl rfl ihB igB
  have n_sB_hB := hP.ne_ (j := 1) (k := 5) (by decide) rfl rfl isB ihB
  have n_gB_hB := hP.ne_ (j := 1) (k := 5) (by decide) rfl rfl igB ihB
  have n_sC_gB := hP.ne_ (j := 2) (k := 1) (by decide) rfl rfl isC igB
  have n_gC_gB := hP.ne_ (j := 2) (k := 1) (by decide) rfl rfl igC igB
  have n_hC_gB := hP.ne_ (j := 6) (k := 1) (by decide) rfl rfl ihC igB
  have n_sC_hB := hP.ne_ (j := 2) (k := 5) (by decide) rfl rfl isC ihB
  have n_gC_hB := hP.ne_ (j := 2) (k := 5) (by decide) rfl rfl igC ihB
  have n_hC_hB := hP.ne_ (j := 6) (k := 5) (by decide) rfl rfl ihC ihB
  have n_sD_gB := hP.ne_ (j := 3) (k := 1) (by decide) rfl rfl isD igB
  have n_gD_gB := hP.ne_ (j := 3) (k := 1) (by decide) rfl rfl igD igB
  have n_hD_gB := hP.ne_ (j := 7) (k := 1) (by decide) rfl rfl ihD igB
  have n_sD_hB := hP.ne_ (j := 3) (k := 5) (by decide) rfl rfl isD ihB
  have n_gD_hB := hP.ne_ (j := 3) (k := 5) (by decide) rfl rfl igD ihB
  have n_hD_hB := hP.ne_ (j := 7) (k := 5) (by decide) rfl rfl ihD ihB
  have rB := (hP.rng 1 rfl).1
  have zB : Hid (w.heap.size < gB) := Lib.hid (by omega)
  have rhB := (hP.rng 5 rfl).1
  have zhB : Hid (w.heap.size < lo 5) := Lib.hid (by omega)
  clear rB rhB
  have n_sA_gC := hP.ne_ (j := 0) (k := 2) (by decide) rfl rfl isA igC
  have n_gA_gC := hP.ne_ (j := 0) (k := 2) (by decide) rfl rfl igA igC
  have n_hA_gC := hP.ne_ (j := 4) (k := 2) (by decide) rfl rfl ihA igC
  have n_sA_hC := hP.ne_ (j := 0) (k := 6) (by decide) rfl rfl isA ihC
  have n_gA_hC := hP.ne_ (j := 0) (k := 6) (by decide) rfl rfl igA ihC
  have n_hA_hC := hP.ne_ (j := 4) (k := 6) (by decide) rfl rfl ihA ihC
  have n_sB_gC := hP.ne_ (j := 1) (k := 2) (by decide) rfl rfl isB igC
  have n_gB_gC := hP.ne_ (j := 1) (k := 2) (by decide) rfl rfl igB igC
  have n_hB_gC := hP.ne_ (j := 5) (k := 2) (by decide) rfl rfl ihB igC
  have n_sB_hC := hP.ne_ (j := 1) (k := 6) (by decide) rfl rfl isB ihC
  have n_gB_hC := hP.ne_ (j := 1) (k := 6) (by decide) rfl rfl igB ihC
  have n_hB_hC := hP.ne_ (j := 5) (k := 6) (by decide) rfl rfl ihB ihC
  have n_hC_gC := hP.ne_ (j := 6) (k := 2) (by decide) rfl rfl ihC igC
  have n_sC_hC := hP.ne_ (j := 2) (k := 6) (by decide) rfl rfl isC ihC
  have n_gC_hC := hP.ne_ (j := 2) (k := 6) (by decide) rfl rfl igC ihC
  have n_sD_gC := hP.ne_ (j := 3) (k := 2) (by decide) rfl rfl isD igC
  have n_gD_gC := hP.ne_ (j := 3) (k := 2) (by decide) rfl rfl igD igC
  have n_hD_gC := hP.ne_ (j := 7) (k := 2) (by decide) rfl rfl ihD igC
  have n_sD_hC := hP.ne_ (j := 3) (k := 6) (by decide) rfl rfl isD ihC
  have n_gD_hC := hP.ne_ (j := 3) (k := 6) (by decide) rfl rfl igD ihC
  have n_hD_hC := hP.ne_ (j := 7) (k := 6) (by decide) rfl rfl ihD ihC
  have rC := (hP.rng 2 rfl).1
  have zC : Hid (w.heap.size < gC) := Lib.hid (by omega)
  have rhC := (hP.rng 6 rfl).1
  have zhC : Hid (w.heap.size < lo 6) := Lib.hid (by omega)
  clear rC rhC
  have n_sA_gD := hP.ne_ (j := 0) (k := 3) (by decide) rfl rfl isA igD
  have n_gA_gD := hP.ne_ (j := 0) (k := 3) (by decide) rfl rfl igA igD
  have n_hA_gD := hP.ne_ (j := 4) (k := 3) (by decide) rfl rfl ihA igD
  have n_sA_hD := hP.ne_ (j := 0) (k := 7) (by decide) rfl rfl isA ihD
  have n_gA_hD := hP.ne_ (j := 0) (k := 7) (by decide) rfl rfl igA ihD
  have n_hA_hD := hP.ne_ (j := 4) (k := 7) (by decide) rfl rfl ihA ihD
  have n_sB_gD := hP.ne_ (j := 1) (k := 3) (by decide) rfl rfl isB igD
  have n_gB_gD := hP.ne_ (j := 1) (k := 3) (by decide) rfl rfl igB igD
  have n_hB_gD := hP.ne_ (j := 5) (k := 3) (by decide) rfl rfl ihB igD
  have n_sB_hD := hP.ne_ (j := 1) (k := 7) (by decide) rfl rfl isB ihD
  have n_gB_hD := hP.ne_ (j := 1) (k := 7) (by decide) rfl rfl igB ihD
  have n_hB_hD := hP.ne_ (j := 5) (k := 7) (by decide) rfl rfl ihB ihD
  have n_sC_gD := hP.ne_ (j := 2) (k := 3) (by decide) rfl rfl isC igD
  have n_gC_gD := hP.ne_ (j := 2) (k := 3) (by decide) rfl rfl igC igD
  have n_hC_gD := hP.ne_ (j := 6) (k := 3) (by decide) rfl rfl ihC igD
  have n_sC_hD := hP.ne_ (j := 2) (k := 7) (by decide) rfl rfl isC ihD
  have n_gC_hD := hP.ne_ (j := 2) (k := 7) (by decide) rfl rfl igC ihD
  have n_hC_hD := hP.ne_ (j := 6) (k := 7) (by decide) rfl rfl ihC ihD
  have n_hD_gD := hP.ne_ (j := 7) (k := 3) (by decide) rfl rfl ihD igD
  have n_sD_hD := hP.ne_ (j := 3) (k := 7) (by decide) rfl rfl isD ihD
  have n_gD_hD := hP.ne_ (j := 3) (k := 7) (by decide) rfl rfl igD ihD
  have rD := (hP.rng 3 rfl).1
  have zD : Hid (w.heap.size < gD) := Lib.hid (by omega)
  have rhD := (hP.rng 7 rfl).1
  have zhD : Hid (w.heap.size < lo 7) := Lib.hid (by omega)
  clear rD rhD
  clear hP f0 f1 f2 f3 f4 f5 f6 f7 aA bA isA igA bxA ihA aB bB isB igB bxB ihB aC bC isC igC bxC ihC aD bD isD igD bxD ihD
  generalize lo 4 = HA at *
  replace hVA : Ov W (lo 0) VA sA gA capA cA lA n n LX := hVA
  generalize lo 0 = BA at *
  generalize lo 5 = HB at *
  replace hVB : Ov W (lo 1) VB sB gB capB cB lB n n LX := hVB
  generalize lo 1 = BB at *
  generalize lo 6 = HC at *
  replace hVC : Ov W (lo 2) VC sC gC capC cC lC n n LX := hVC
  generalize lo 2 = BC at *
  generalize lo 7 = HD at *
  replace hVD : Ov W (lo 3) VD sD gD capD cD lD n n LX := hVD
  generalize lo 3 = BD at *
  have zz := zhA.out
  obtain ⟨fc0, fc1, fc2, fc3, fc4, fc5, fc6, fc7, fc8⟩ := Vbx.cells DA
  obtain ⟨fr0, fr1, fr2, fr3, fr4, fr5, fr6, fr7, fr8⟩ := Vbx.free DA
  refine wpAnyH_ready (rs := [12]) (by kernel_rfl) (by simp) ?_
  refine AllReadyH.cons rfl (fun K hK => ?_) AllReadyH.nil
  go_simp
  clear fc0 fr0 fc1 fr1 fc2 fr2 fc3 fr3 fc4 fr4 fc5 fr5 fc6 fr6 fc7 fr7 fc8 fr8
  have hgS := set9_grown W (HA) (.pointer (VA).p) (.int .i64 (VA).f0) (.int .i64 (VA).f1) (.int .i64 (VA).d0) (.int .i64 (VA).d1) (.int .i64 (VA).r0) (.int .i64 (VA).r1) (.int .i64 (VA).R) (.int .i64 (VA).C)
  replace DA := Vbx.put DA (VA)
  replace DX := DX.grown hgS (fun e => by have h9 := zhA.out; have h8 := Option.some.inj e; omega)
  replace hVA := hVA.grown hgS n_sA_hA.out n_gA_hA.out
  replace hVB := hVB.grown hgS n_sB_hA.out n_gB_hA.out
  replace hVC := hVC.grown hgS n_sC_hA.out n_gC_hA.out
  replace hVD := hVD.grown hgS n_sD_hA.out n_gD_hA.out
  replace DB := DB.grown hgS (fun e => n_hB_hA.out (Option.some.inj e))
  replace DC := DC.grown hgS (fun e => n_hC_hA.out (Option.some.inj e))
  replace DD := DD.grown hgS (fun e => n_hD_hA.out (Option.some.inj e))
  replace bz := bz.grown hgS bz.size (fun k e => by cases e; omega)
  generalize (((((((((W.setCell ⟨HA, 0, none⟩ (.pointer (VA).p)).setCell ⟨HA, 1, none⟩ (.int .i64 (VA).f0)).setCell ⟨HA, 2, none⟩ (.int .i64 (VA).f1)).setCell ⟨HA, 3, none⟩ (.int .i64 (VA).d0)).setCell ⟨HA, 4, none⟩ (.int .i64 (VA).d1)).setCell ⟨HA, 5, none⟩ (.int .i64 (VA).r0)).setCell ⟨HA, 6, none⟩ (.int .i64 (VA).r1)).setCell ⟨HA, 7, none⟩ (.int .i64 (VA).R)).setCell ⟨HA, 8, none⟩ (.int .i64 (VA).C)) = WsA at DX hVA hVB hVC hVD DA DB DC DD bz ⊢
  clear hgS
  clear zz
  refine hK.out _ _ DX (fun hS => ?_)
  clear hK K hS
  try simp only [Act.put, setIfInBounds_toArray, set_cons_zero, set_cons_succ, getElem_toArray, getElem_cons_zero, getElem_cons_succ]
  have zz := zhB.out
  obtain ⟨fc0, fc1, fc2, fc3, fc4, fc5, fc6, fc7, fc8⟩ := Vbx.cells DB
  obtain ⟨fr0, fr1, fr2, fr3, fr4, fr5, fr6, fr7, fr8⟩ := Vbx.free DB
  refine wpAnyH_ready (rs := [13]) (by kernel_rfl) (by simp) ?_
  refine AllReadyH.cons rfl (fun K hK => ?_) AllReadyH.nil
  go_simp
  clear fc0 fr0 fc1 fr1 fc2 fr2 fc3 fr3 fc4 fr4 fc5 fr5 fc6 fr6 fc7 fr7 fc8 fr8
  have hgS := set9_grown WsA (HB) (.pointer (VB).p) (.int .i64 (VB).f0) (.int .i64 (VB).f1) (.int .i64 (VB).d0) (.int .i64 (VB).d1) (.int .i64 (VB).r0) (.int .i64 (VB).r1) (.int .i64 (VB).R) (.int .i64 (VB).C)
  replace DB := Vbx.put DB (VB)
  replace DX := DX.grown hgS (fun e => by have h9 := zhB.out; have h8 := Option.some.inj e; omega)
  replace hVA := hVA.grown hgS n_sA_hB.out n_gA_hB.out
  replace hVB := hVB.grown hgS n_sB_hB.out n_gB_hB.out
  replace hVC := hVC.grown hgS n_sC_hB.out n_gC_hB.out
  replace hVD := hVD.grown hgS n_sD_hB.out n_gD_hB.out
  replace DA := DA.grown hgS (fun e => n_hA_hB.out (Option.some.inj e))
  replace DC := DC.grown hgS (fun e => n_hC_hB.out (Option.some.inj e))
  replace DD := DD.grown hgS (fun e => n_hD_hB.out (Option.some.inj e))
  replace bz := bz.grown hgS bz.size (fun k e => by cases e; omega)
  generalize (((((((((WsA.setCell ⟨HB, 0, none⟩ (.pointer (VB).p)).setCell ⟨HB, 1, none⟩ (.int .i64 (VB).f0)).setCell ⟨HB, 2, none⟩ (.int .i64 (VB).f1)).setCell ⟨HB, 3, none⟩ (.int .i64 (VB).d0)).setCell ⟨HB, 4, none⟩ (.int .i64 (VB).d1)).setCell ⟨HB, 5, none⟩ (.int .i64 (VB).r0)).setCell ⟨HB, 6, none⟩ (.int .i64 (VB).r1)).setCell ⟨HB, 7, none⟩ (.int .i64 (VB).R)).setCell ⟨HB, 8, none⟩ (.int .i64 (VB).C)) = WsB at DX hVA hVB hVC hVD DA DB DC DD bz ⊢
  clear hgS
  clear zz
  refine hK.out _ _ DX (fun hS => ?_)
  clear hK K hS
  try simp only [Act.put, setIfInBounds_toArray, set_cons_zero, set_cons_succ, getElem_toArray, getElem_cons_zero, getElem_cons_succ]
  have zz := zhC.out
  obtain ⟨fc0, fc1, fc2, fc3, fc4, fc5, fc6, fc7, fc8⟩ := Vbx.cells DC
  obtain ⟨fr0, fr1, fr2, fr3, fr4, fr5, fr6, fr7, fr8⟩ := Vbx.free DC
  refine wpAnyH_ready (rs := [14]) (by kernel_rfl) (by simp) ?_
  refine AllReadyH.cons rfl (fun K hK => ?_) AllReadyH.nil
  go_simp
  clear fc0 fr0 fc1 fr1 fc2 fr2 fc3 fr3 fc4 fr4 fc5 fr5 fc6 fr6 fc7 fr7 fc8 fr8
  have hgS := set9_grown WsB (HC) (.pointer (VC).p) (.int .i64 (VC).f0) (.int .i64 (VC).f1) (.int .i64 (VC).d0) (.int .i64 (VC).d1) (.int .i64 (VC).r0) (.int .i64 (VC).r1) (.int .i64 (VC).R) (.int .i64 (VC).C)
  replace DC := Vbx.put DC (VC)
  replace DX := DX.grown hgS (fun e => by have h9 := zhC.out; have h8 := Option.some.inj e; omega)
  replace hVA := hVA.grown hgS n_sA_hC.out n_gA_hC.out
  replace hVB := hVB.grown hgS n_sB_hC.out n_gB_hC.out
  replace hVC := hVC.grown hgS n_sC_hC.out n_gC_hC.out
  replace hVD := hVD.grown hgS n_sD_hC.out n_gD_hC.out
  replace DA := DA.grown hgS (fun e => n_hA_hC.out (Option.some.inj e))
  replace DB := DB.grown hgS (fun e => n_hB_hC.out (Option.some.inj e))
  replace DD := DD.grown hgS (fun e => n_hD_hC.out (Option.some.inj e))
  replace bz := bz.grown hgS bz.size (fun k e => by cases e; omega)
  generalize (((((((((WsB.setCell ⟨HC, 0, none⟩ (.pointer (VC).p)).setCell ⟨HC, 1, none⟩ (.int .i64 (VC).f0)).setCell ⟨HC, 2, none⟩ (.int .i64 (VC).f1)).setCell ⟨HC, 3, none⟩ (.int .i64 (VC).d0)).setCell ⟨HC, 4, none⟩ (.int .i64 (VC).d1)).setCell ⟨HC, 5, none⟩ (.int .i64 (VC).r0)).setCell ⟨HC, 6, none⟩ (.int .i64 (VC).r1)).setCell ⟨HC, 7, none⟩ (.int .i64 (VC).R)).setCell ⟨HC, 8, none⟩ (.int .i64 (VC).C)) = WsC at DX hVA hVB hVC hVD DA DB DC DD bz ⊢
  clear hgS
  clear zz
  refine hK.out _ _ DX (fun hS => ?_)
  clear hK K hS
  try simp only [Act.put, setIfInBounds_toArray, set_cons_zero, set_cons_succ, getElem_toArray, getElem_cons_zero, getElem_cons_succ]
  have zz := zhD.out
  obtain ⟨fc0, fc1, fc2, fc3, fc4, fc5, fc6, fc7, fc8⟩ := Vbx.cells DD
  obtain ⟨fr0, fr1, fr2, fr3, fr4, fr5, fr6, fr7, fr8⟩ := Vbx.free DD
  refine wpAnyH_ready (rs := [15]) (by kernel_rfl) (by simp) ?_
  refine AllReadyH.cons rfl (fun K hK => ?_) AllReadyH.nil
  go_simp
  clear fc0 fr0 fc1 fr1 fc2 fr2 fc3 fr3 fc4 fr4 fc5 fr5 fc6 fr6 fc7 fr7 fc8 fr8
  have hgS := set9_grown WsC (HD) (.pointer (VD).p) (.int .i64 (VD).f0) (.int .i64 (VD).f1) (.int .i64 (VD).d0) (.int .i64 (VD).d1) (.int .i64 (VD).r0) (.int .i64 (VD).r1) (.int .i64 (VD).R) (.int .i64 (VD).C)
  replace DD := Vbx.put DD (VD)
  replace DX := DX.grown hgS (fun e => by have h9 := zhD.out; have h8 := Option.some.inj e; omega)
  replace hVA := hVA.grown hgS n_sA_hD.out n_gA_hD.out
  replace hVB := hVB.grown hgS n_sB_hD.out n_gB_hD.out
  replace hVC := hVC.grown hgS n_sC_hD.out n_gC_hD.out
  replace hVD := hVD.grown hgS n_sD_hD.out n_gD_hD.out
  replace DA := DA.grown hgS (fun e => n_hA_hD.out (Option.some.inj e))
  replace DB := DB.grown hgS (fun e => n_hB_hD.out (Option.some.inj e))
  replace DC := DC.grown hgS (fun e => n_hC_hD.out (Option.some.inj e))
  replace bz := bz.grown hgS bz.size (fun k e => by cases e; omega)
  generalize (((((((((WsC.setCell ⟨HD, 0, none⟩ (.pointer (VD).p)).setCell ⟨HD, 1, none⟩ (.int .i64 (VD).f0)).setCell ⟨HD, 2, none⟩ (.int .i64 (VD).f1)).setCell ⟨HD, 3, none⟩ (.int .i64 (VD).d0)).setCell ⟨HD, 4, none⟩ (.int .i64 (VD).d1)).setCell ⟨HD, 5, none⟩ (.int .i64 (VD).r0)).setCell ⟨HD, 6, none⟩ (.int .i64 (VD).r1)).setCell ⟨HD, 7, none⟩ (.int .i64 (VD).R)).setCell ⟨HD, 8, none⟩ (.int .i64 (VD).C)) = WsD at DX hVA hVB hVC hVD DA DB DC DD bz ⊢
  clear hgS
  clear zz
  refine hK.out _ _ DX (fun hS => ?_)
  clear hK K hS
  try simp only [Act.put, setIfInBounds_toArray, set_cons_zero, set_cons_succ, getElem_toArray, getElem_cons_zero, getElem_cons_succ]
  refine wpAnyH_done (by kernel_rfl) ?_ _
  clear HI I hsz hwl
  go_wp2_with fail
  replace DX := DX.drew
  replace hVA := hVA.drew
  replace hVB := hVB.drew
  replace hVC := hVC.drew
  replace hVD := hVD.drew
  replace DA := DA.drew
  replace DB := DB.drew
  replace DC := DC.drew
  replace DD := DD.drew
  replace bz := bz.drew
  refine wp_region_held_drew (S := fun w9 : World => Mbx w9 w.heap.size n n AX nX cX ∧ Vbx w9 HA VA ∧ Vbx w9 HB VB ∧ Vbx w9 HC VC ∧ Vbx w9 HD VD) (by kernel_rfl) ⟨DX, DA, DB, DC, DD⟩ (fun hS => ?_)
  generalize WsD.drew = wd8 at hS DX hVA hVB hVC hVD DA DB DC DD  bz ⊢
  refine wpAnyH_take (i := 0) (v := ?v95) rfl (by kernel_rfl) (by kernel_rfl) (by kernel_rfl) (fun _ _ _ h => h) (Or.inl ⟨by rfl, ?h95⟩) (by assumption) ?r95
  case h95 => (intro w9 hSw; clear hSw; go_simp; try with_reducible rfl)
  try simp only [Act.put, setIfInBounds_toArray, set_cons_zero, set_cons_succ, getElem_toArray, getElem_cons_zero, getElem_cons_succ]
  refine wpAnyH_take (i := 1) (v := ?v96) rfl (by kernel_rfl) (by kernel_rfl) (by kernel_rfl) (fun _ _ _ h => h) (Or.inl ⟨by rfl, ?h96⟩) (by assumption) ?r96
  case h96 => (intro w9 hSw; obtain ⟨m0, m1, m2, m3, m4⟩ := hSw; refine (ld_v (by rfl) (by kernel_rfl) m1).trans ?_; with_reducible rfl)
  try simp only [Act.put, setIfInBounds_toArray, set_cons_zero, set_cons_succ, getElem_toArray, getElem_cons_zero, getElem_cons_succ]
  refine wpAnyH_take (i := 2) (v := ?v97) rfl (by kernel_rfl) (by kernel_rfl) (by kernel_rfl) (fun _ _ _ h => h) (Or.inl ⟨by rfl, ?h97⟩) (by assumption) ?r97
  case h97 => (intro w9 hSw; obtain ⟨m0, m1, m2, m3, m4⟩ := hSw; refine (ld_v (by rfl) (by kernel_rfl) m1).trans ?_; with_reducible rfl)
  try simp only [Act.put, setIfInBounds_toArray, set_cons_zero, set_cons_succ, getElem_toArray, getElem_cons_zero, getElem_cons_succ]
  refine wpAnyH_take (i := 4) (v := ?v98) rfl (by kernel_rfl) (by kernel_rfl) (by kernel_rfl) (fun _ _ _ h => h) (Or.inl ⟨by rfl, ?h98⟩) (by assumption) ?r98
  case h98 => (intro w9 hSw; clear hSw; go_simp; try with_reducible rfl)
  try simp only [Act.put, setIfInBounds_toArray, set_cons_zero, set_cons_succ, getElem_toArray, getElem_cons_zero, getElem_cons_succ]
  refine wpAnyH_take (i := 5) (v := ?v99) rfl (by kernel_rfl) (by kernel_rfl) (by kernel_rfl) (fun _ _ _ h => h) (Or.inl ⟨by rfl, ?h99⟩) (by assumption) ?r99
  case h99 => (intro w9 hSw; obtain ⟨m0, m1, m2, m3, m4⟩ := hSw; refine (ld_v (by rfl) (by kernel_rfl) m1).trans ?_; with_reducible rfl)
  try simp only [Act.put, setIfInBounds_toArray, set_cons_zero, set_cons_succ, getElem_toArray, getElem_cons_zero, getElem_cons_succ]
  refine wpAnyH_ready (rs := [3]) (by kernel_rfl) (by simp) ?_
  refine AllReadyH.cons rfl (fun K hK => ?_) AllReadyH.nil
  go_simp
  with_reducible refine (T_any VA _).mono ?_
  rintro e w3 ⟨rfl, hb⟩
  replace DX := DX.on hb
  replace hVA := hVA.on hb
  replace hVB := hVB.on hb
  replace hVC := hVC.on hb
  replace hVD := hVD.on hb
  replace DA := DA.on hb
  replace DB := DB.on hb
  replace DC := DC.on hb
  replace DD := DD.on hb
  replace bz := bz.trans (hb.mono bz.size)
  clear hb
  clear hS; refine hK.out _ _ ⟨DX, DA, DB, DC, DD⟩ (fun hS => ?_); clear hK K
  try simp only [Act.put, setIfInBounds_toArray, set_cons_zero, set_cons_succ, getElem_toArray, getElem_cons_zero, getElem_cons_succ]
  refine wpAnyH_ready (rs := [6]) (by kernel_rfl) (by simp) ?_
  refine AllReadyH.cons rfl (fun K hK => ?_) AllReadyH.nil
  go_simp
  with_reducible refine (ahead_gemm ba bb hVA HL.out).mono ?_
  rintro e w61 ⟨lyA, GA, rfl, hVA2, hIA, hg⟩
  replace DX := DX.grown hg (fun e => by have h9 := zA.out; have h8 := Option.some.inj e; omega)
  replace hVB := hVB.grown hg n_sB_gA.out n_gB_gA.out
  replace hVC := hVC.grown hg n_sC_gA.out n_gC_gA.out
  replace hVD := hVD.grown hg n_sD_gA.out n_gD_gA.out
  replace DA := DA.grown hg (fun e => n_hA_gA.out (Option.some.inj e))
  replace DB := DB.grown hg (fun e => n_hB_gA.out (Option.some.inj e))
  replace DC := DC.grown hg (fun e => n_hC_gA.out (Option.some.inj e))
  replace DD := DD.grown hg (fun e => n_hD_gA.out (Option.some.inj e))
  replace hVA := hVA2
  replace bz := bz.grown hg bz.size (fun k e => by cases e; have := zA.out; omega)
  have HIA := Lib.hid hIA
  clear hVA2 hg hIA
  clear hS; refine hK.out _ _ ⟨DX, DA, DB, DC, DD⟩ (fun hS => ?_); clear hK K
  try simp only [Act.put, setIfInBounds_toArray, set_cons_zero, set_cons_succ, getElem_toArray, getElem_cons_zero, getElem_cons_succ]
  refine wpAnyH_take (i := 7) (v := ?v100) rfl (by kernel_rfl) (by kernel_rfl) (by kernel_rfl) (fun _ _ _ h => h) (Or.inl ⟨by rfl, ?h100⟩) (by assumption) ?r100
  case h100 => (intro w9 hSw; clear hSw; go_simp; try with_reducible rfl)
  try simp only [Act.put, setIfInBounds_toArray, set_cons_zero, set_cons_succ, getElem_toArray, getElem_cons_zero, getElem_cons_succ]
  refine wpAnyH_done (by kernel_rfl) ?_ _
  have pRow : ∀ (V : Vu) K W, Bd V K → Calls Try.prog 50 #[V.V, .int .i64 j] W (Ans W (V.partO j 0 1 V.C).V) := fun V K W h => Row_any h hjb W
  have pCol : ∀ (V : Vu) K W, Bd V K → Calls Try.prog 52 #[V.V, .int .i64 j] W (Ans W (V.partO 0 j V.R 1).V) := fun V K W h => Col_any h hjb W
  go_wp2_with fail
  have prB := fun W => pRow VB _ W hVB.vk.bd
  have pcB := fun W => pCol VB _ W hVB.vk.bd
  rw [row_is hVB hjn] at prB
  rw [col_is hVB hjn] at pcB
  have prD := fun W => pRow VD _ W hVD.vk.bd
  have pcD := fun W => pCol VD _ W hVD.vk.bd
  rw [row_is hVD hjn] at prD
  rw [col_is hVD hjn] at pcD
  replace DX := DX.drew
  replace hVA := hVA.drew
  replace hVB := hVB.drew
  replace hVC := hVC.drew
  replace hVD := hVD.drew
  replace DA := DA.drew
  replace DB := DB.drew
  replace DC := DC.drew
  replace DD := DD.drew
  replace bz := bz.drew
  refine wp_region_held_drew (S := fun w9 : World => Mbx w9 w.heap.size n n AX nX cX ∧ Vbx w9 HA VA ∧ Vbx w9 HB VB ∧ Vbx w9 HC VC ∧ Vbx w9 HD VD) (by kernel_rfl) ⟨DX, DA, DB, DC, DD⟩ (fun hS => ?_)
  generalize w61.drew = wd9 at hS DX hVA hVB hVC hVD DA DB DC DD  bz ⊢
  refine wpAnyH_take (i := 0) (v := ?v101) rfl (by kernel_rfl) (by kernel_rfl) (by kernel_rfl) (fun _ _ _ h => h) (Or.inl ⟨by rfl, ?h101⟩) (by assumption) ?r101
  case h101 => (intro w9 hSw; obtain ⟨m0, m1, m2, m3, m4⟩ := hSw; refine (ld_v (by rfl) (by kernel_rfl) m2).trans ?_; with_reducible rfl)
  try simp only [Act.put, setIfInBounds_toArray, set_cons_zero, set_cons_succ, getElem_toArray, getElem_cons_zero, getElem_cons_succ]
  refine wpAnyH_take (i := 1) (v := ?v102) rfl (by kernel_rfl) (by kernel_rfl) (by kernel_rfl) (fun _ _ _ h => h) (Or.inl ⟨by rfl, ?h102⟩) (by assumption) ?r102
  case h102 => (intro w9 hSw; clear hSw; go_simp; try with_reducible rfl)
  try simp only [Act.put, setIfInBounds_toArray, set_cons_zero, set_cons_succ, getElem_toArray, getElem_cons_zero, getElem_cons_succ]
  refine wpAnyH_take (i := 5) (v := ?v103) rfl (by kernel_rfl) (by kernel_rfl) (by kernel_rfl) (fun _ _ _ h => h) (Or.inl ⟨by rfl, ?h103⟩) (by assumption) ?r103
  case h103 => (intro w9 hSw; obtain ⟨m0, m1, m2, m3, m4⟩ := hSw; refine (ld_v (by rfl) (by kernel_rfl) m2).trans ?_; with_reducible rfl)
  try simp only [Act.put, setIfInBounds_toArray, set_cons_zero, set_cons_succ, getElem_toArray, getElem_cons_zero, getElem_cons_succ]
  refine wpAnyH_take (i := 6) (v := ?v104) rfl (by kernel_rfl) (by kernel_rfl) (by kernel_rfl) (fun _ _ _ h => h) (Or.inl ⟨by rfl, ?h104⟩) (by assumption) ?r104
  case h104 => (intro w9 hSw; clear hSw; go_simp; try with_reducible rfl)
  try simp only [Act.put, setIfInBounds_toArray, set_cons_zero, set_cons_succ, getElem_toArray, getElem_cons_zero, getElem_cons_succ]
  refine wpAnyH_ready (rs := [2]) (by kernel_rfl) (by simp) ?_
  refine AllReadyH.cons rfl (fun K hK => ?_) AllReadyH.nil
  go_simp
  with_reducible refine (prB _).mono ?_
  rintro e w4 ⟨rfl, hb⟩
  replace DX := DX.on hb
  replace hVA := hVA.on hb
  replace hVB := hVB.on hb
  replace hVC := hVC.on hb
  replace hVD := hVD.on hb
  replace DA := DA.on hb
  replace DB := DB.on hb
  replace DC := DC.on hb
  replace DD := DD.on hb
  replace bz := bz.trans (hb.mono bz.size)
  clear hb
  clear hS; refine hK.out _ _ ⟨DX, DA, DB, DC, DD⟩ (fun hS => ?_); clear hK K
  try simp only [Act.put, setIfInBounds_toArray, set_cons_zero, set_cons_succ, getElem_toArray, getElem_cons_zero, getElem_cons_succ]
  refine wpAnyH_ready (rs := [3]) (by kernel_rfl) (by simp) ?_
  refine AllReadyH.cons rfl (fun K hK => ?_) AllReadyH.nil
  go_simp
  obtain ⟨FR, hFR, lFR, dFR⟩ := row_sv hVB hjn
  have wFR := hFR.wd
  have tA := hVA.st.gt.2
  have tB := hVB.st.gt.2
  have tC := hVC.st.gt.2
  have tD := hVD.st.gt.2
  with_reducible refine (svMat hFR).mono ?_
  rintro e w5 ⟨AR, kR, rfl, oR, _, hb⟩
  replace DX := DX.on hb
  replace hVA := hVA.on hb
  replace hVB := hVB.on hb
  replace hVC := hVC.on hb
  replace hVD := hVD.on hb
  replace DA := DA.on hb
  replace DB := DB.on hb
  replace DC := DC.on hb
  replace DD := DD.on hb
  replace bz := bz.trans (hb.mono bz.size)
  have qfR_A : Hid (∀ a, AR = some a → a.block ≠ gA) := Lib.hid (fun a e => by have h9 := (oR.gt e).1; omega)
  have qfR_B : Hid (∀ a, AR = some a → a.block ≠ gB) := Lib.hid (fun a e => by have h9 := (oR.gt e).1; omega)
  have qfR_C : Hid (∀ a, AR = some a → a.block ≠ gC) := Lib.hid (fun a e => by have h9 := (oR.gt e).1; omega)
  have qfR_D : Hid (∀ a, AR = some a → a.block ≠ gD) := Lib.hid (fun a e => by have h9 := (oR.gt e).1; omega)
  have fR := oR.fl wFR
  rw [lFR] at fR ⊢
  have HFR := Lib.hid dFR
  clear hb oR hFR dFR wFR tA tB tC tD
  clear hS; refine hK.out _ _ ⟨DX, DA, DB, DC, DD⟩ (fun hS => ?_); clear hK K
  try simp only [Act.put, setIfInBounds_toArray, set_cons_zero, set_cons_succ, getElem_toArray, getElem_cons_zero, getElem_cons_succ]
  refine wpAnyH_take (i := 4) (v := ?v105) rfl (by kernel_rfl) (by kernel_rfl) (by kernel_rfl) (fun _ _ _ h => h) (Or.inl ⟨by rfl, ?h105⟩) (by assumption) ?r105
  case h105 => (intro w9 hSw; clear hSw; have hf2 := run_field_2; go_simp; try with_reducible rfl)
  try simp only [Act.put, setIfInBounds_toArray, set_cons_zero, set_cons_succ, getElem_toArray, getElem_cons_zero, getElem_cons_succ]
  refine wpAnyH_ready (rs := [7]) (by kernel_rfl) (by simp) ?_
  refine AllReadyH.cons rfl (fun K hK => ?_) AllReadyH.nil
  go_simp
  with_reducible refine (pcB _).mono ?_
  rintro e w6 ⟨rfl, hb⟩
  replace DX := DX.on hb
  replace hVA := hVA.on hb
  replace hVB := hVB.on hb
  replace hVC := hVC.on hb
  replace hVD := hVD.on hb
  replace DA := DA.on hb
  replace DB := DB.on hb
  replace DC := DC.on hb
  replace DD := DD.on hb
  replace fR := fR.on hb
  replace bz := bz.trans (hb.mono bz.size)
  clear hb
  clear hS; refine hK.out _ _ ⟨DX, DA, DB, DC, DD⟩ (fun hS => ?_); clear hK K
  try simp only [Act.put, setIfInBounds_toArray, set_cons_zero, set_cons_succ, getElem_toArray, getElem_cons_zero, getElem_cons_succ]
  refine wpAnyH_ready (rs := [8]) (by kernel_rfl) (by simp) ?_
  refine AllReadyH.cons rfl (fun K hK => ?_) AllReadyH.nil
  go_simp
  obtain ⟨FC, hFC, lFC, dFC⟩ := col_sv hVB hjn
  have wFC := hFC.wd
  have tA := hVA.st.gt.2
  have tB := hVB.st.gt.2
  have tC := hVC.st.gt.2
  have tD := hVD.st.gt.2
  with_reducible refine (svMat hFC).mono ?_
  rintro e w7 ⟨AC, kC, rfl, oC, _, hb⟩
  replace DX := DX.on hb
  replace hVA := hVA.on hb
  replace hVB := hVB.on hb
  replace hVC := hVC.on hb
  replace hVD := hVD.on hb
  replace DA := DA.on hb
  replace DB := DB.on hb
  replace DC := DC.on hb
  replace DD := DD.on hb
  replace fR := fR.on hb
  replace bz := bz.trans (hb.mono bz.size)
  have qfC_A : Hid (∀ a, AC = some a → a.block ≠ gA) := Lib.hid (fun a e => by have h9 := (oC.gt e).1; omega)
  have qfC_B : Hid (∀ a, AC = some a → a.block ≠ gB) := Lib.hid (fun a e => by have h9 := (oC.gt e).1; omega)
  have qfC_C : Hid (∀ a, AC = some a → a.block ≠ gC) := Lib.hid (fun a e => by have h9 := (oC.gt e).1; omega)
  have qfC_D : Hid (∀ a, AC = some a → a.block ≠ gD) := Lib.hid (fun a e => by have h9 := (oC.gt e).1; omega)
  have fC := oC.fl wFC
  rw [lFC] at fC ⊢
  have HFC := Lib.hid dFC
  clear hb oC hFC dFC wFC tA tB tC tD
  clear hS; refine hK.out _ _ ⟨DX, DA, DB, DC, DD⟩ (fun hS => ?_); clear hK K
  try simp only [Act.put, setIfInBounds_toArray, set_cons_zero, set_cons_succ, getElem_toArray, getElem_cons_zero, getElem_cons_succ]
  refine wpAnyH_take (i := 9) (v := ?v106) rfl (by kernel_rfl) (by kernel_rfl) (by kernel_rfl) (fun _ _ _ h => h) (Or.inl ⟨by rfl, ?h106⟩) (by assumption) ?r106
  case h106 => (intro w9 hSw; clear hSw; have hf2 := run_field_2; go_simp; try with_reducible rfl)
  try simp only [Act.put, setIfInBounds_toArray, set_cons_zero, set_cons_succ, getElem_toArray, getElem_cons_zero, getElem_cons_succ]
  refine wpAnyH_take (i := 10) (v := ?v107) rfl (by kernel_rfl) (by kernel_rfl) (by kernel_rfl) (fun _ _ _ h => h) (Or.inl ⟨by rfl, ?h107⟩) (by assumption) ?r107
  case h107 => (intro w9 hSw; clear hSw; go_simp; try with_reducible rfl)
  try simp only [Act.put, setIfInBounds_toArray, set_cons_zero, set_cons_succ, getElem_toArray, getElem_cons_zero, getElem_cons_succ]
  refine wpAnyH_take (i := 11) (v := ?v108) rfl (by kernel_rfl) (by kernel_rfl) (by kernel_rfl) (fun _ _ _ h => h) (Or.inl ⟨by rfl, ?h108⟩) (by assumption) ?r108
  case h108 => (intro w9 hSw; clear hSw; go_simp; try with_reducible rfl)
  try simp only [Act.put, setIfInBounds_toArray, set_cons_zero, set_cons_succ, getElem_toArray, getElem_cons_zero, getElem_cons_succ]
  refine wpAnyH_done (by kernel_rfl) ?_ _
  obtain ⟨kx_0, kx_1, kx_2, kx_3, kx_4, kx_5⟩ := Mbx.cells DX
  go_wp2_with fail
  with_reducible refine (of_any false (HX.out.on bz) HSX.out.1 HSX.out.2).mono ?_
  rintro e w8 ⟨VU, sVU, gVU, capVU, cVU, lVU, rfl, hVU, hb⟩
  clear kx_0 kx_1 kx_2 kx_3 kx_4 kx_5
  replace DX := DX.on hb
  replace hVA := hVA.on hb
  replace hVB := hVB.on hb
  replace hVC := hVC.on hb
  replace hVD := hVD.on hb
  replace DA := DA.on hb
  replace DB := DB.on hb
  replace DC := DC.on hb
  replace DD := DD.on hb
  replace fR := fR.on hb
  replace fC := fC.on hb
  replace bz := bz.trans (hb.mono bz.size)
  clear hb
  go_wp2_with fail
  with_reducible refine (T_any VU _).mono ?_
  rintro e w9 ⟨rfl, hb⟩
  replace DX := DX.on hb
  replace hVA := hVA.on hb
  replace hVB := hVB.on hb
  replace hVC := hVC.on hb
  replace hVD := hVD.on hb
  replace DA := DA.on hb
  replace DB := DB.on hb
  replace DC := DC.on hb
  replace DD := DD.on hb
  replace fR := fR.on hb
  replace fC := fC.on hb
  replace hVU := hVU.on hb
  replace bz := bz.trans (hb.mono bz.size)
  clear hb
  obtain ⟨XT, hXT, dXT⟩ := hVU.sv.turn hVU.ne hVU.R hVU.C
  have yR : VU.turnO.R = (n : Int) := by rw [turn_is hVU]; exact hVU.C
  have yC : VU.turnO.C = (n : Int) := by rw [turn_is hVU]; exact hVU.R
  have lXT : XT.length = nX := by have := hXT.len; rw [yR, yC, hNN] at this; omega
  have wXT := hXT.wd
  have pMat := svMat hXT
  rw [yR, yC] at pMat
  have tA := hVA.st.gt.2
  have tB := hVB.st.gt.2
  have tC := hVC.st.gt.2
  have tD := hVD.st.gt.2
  clear hVU hXT yR yC
  go_wp2_with fail
  with_reducible refine (pMat).mono ?_
  rintro e w10 ⟨AT, kT, rfl, oT, _, hb⟩
  replace DX := DX.on hb
  replace hVA := hVA.on hb
  replace hVB := hVB.on hb
  replace hVC := hVC.on hb
  replace hVD := hVD.on hb
  replace DA := DA.on hb
  replace DB := DB.on hb
  replace DC := DC.on hb
  replace DD := DD.on hb
  replace fR := fR.on hb
  replace fC := fC.on hb
  replace bz := bz.trans (hb.mono bz.size)
  have qfT_A : Hid (∀ a, AT = some a → a.block ≠ gA) := Lib.hid (fun a e => by have h9 := (oT.gt e).1; omega)
  have qfT_B : Hid (∀ a, AT = some a → a.block ≠ gB) := Lib.hid (fun a e => by have h9 := (oT.gt e).1; omega)
  have qfT_C : Hid (∀ a, AT = some a → a.block ≠ gC) := Lib.hid (fun a e => by have h9 := (oT.gt e).1; omega)
  have qfT_D : Hid (∀ a, AT = some a → a.block ≠ gD) := Lib.hid (fun a e => by have h9 := (oT.gt e).1; omega)
  have fT := oT.fl wXT
  rw [lXT] at fT ⊢
  have HXT := Lib.hid dXT
  clear hb pMat oT dXT wXT tA tB tC tD
  have tA := hVA.st.gt.2
  have tB := hVB.st.gt.2
  have tC := hVC.st.gt.2
  have tD := hVD.st.gt.2
  have D19 := Blk.new w10 [.int .i64 n, .int .i64 n, .slice AT nX kT] 24
  obtain ⟨HD19, eHD19⟩ : ∃ H, w10.heap.size = H := ⟨_, rfl⟩
  rw [eHD19] at D19
  have hbA := (Below.refl _ w10).alloc (Nat.le_refl _) (.cells #[.int .i64 n, .int .i64 n, .slice AT nX kT] 24)
  replace DX := DX.on hbA
  replace hVA := hVA.on hbA
  replace hVB := hVB.on hbA
  replace hVC := hVC.on hbA
  replace hVD := hVD.on hbA
  replace DA := DA.on hbA
  replace DB := DB.on hbA
  replace DC := DC.on hbA
  replace DD := DD.on hbA
  replace fR := fR.on hbA
  replace fC := fC.on hbA
  replace fT := fT.on hbA
  clear hbA
  replace bz := bz.alloc bz.size (.cells #[.int .i64 n, .int .i64 n, .slice AT nX kT] 24)
  have HHD19 := Lib.hid eHD19
  rw [eHD19] at tA
  have qD19_A : Hid (HD19 ≠ gA) := Lib.hid (by omega)
  rw [eHD19] at tB
  have qD19_B : Hid (HD19 ≠ gB) := Lib.hid (by omega)
  rw [eHD19] at tC
  have qD19_C : Hid (HD19 ≠ gC) := Lib.hid (by omega)
  rw [eHD19] at tD
  have qD19_D : Hid (HD19 ≠ gD) := Lib.hid (by omega)
  clear tA tB tC tD
  obtain ⟨k19_0, k19_1, k19_2, k19_3, k19_4, k19_5⟩ := Mbx.cells D19
  go_wp2_with fail
  clear eHD19 k19_0 k19_1 k19_2 k19_3 k19_4 k19_5
  replace DX := DX.drew
  replace hVA := hVA.drew
  replace hVB := hVB.drew
  replace hVC := hVC.drew
  replace hVD := hVD.drew
  replace DA := DA.drew
  replace DB := DB.drew
  replace DC := DC.drew
  replace DD := DD.drew
  replace fR := fR.on (Below.refl _ _).drew
  replace fC := fC.on (Below.refl _ _).drew
  replace fT := fT.on (Below.refl _ _).drew
  replace D19 := D19.drew
  replace bz := bz.drew
  clear D19
  clear fT
  refine wp_region_held_drew (S := fun w9 : World => Mbx w9 w.heap.size n n AX nX cX ∧ Vbx w9 HA VA ∧ Vbx w9 HB VB ∧ Vbx w9 HC VC ∧ Vbx w9 HD VD) (by kernel_rfl) ⟨DX, DA, DB, DC, DD⟩ (fun hS => ?_)
  generalize (w10.alloc (.cells #[.int .i64 n, .int .i64 n, .slice AT nX kT] 24)).drew = wd13 at hS DX hVA hVB hVC hVD DA DB DC DD fR fC  bz ⊢
  refine wpAnyH_take (i := 0) (v := ?v109) rfl (by kernel_rfl) (by kernel_rfl) (by kernel_rfl) (fun _ _ _ h => h) (Or.inl ⟨by rfl, ?h109⟩) (by assumption) ?r109
  case h109 => (intro w9 hSw; clear hSw; go_simp; try with_reducible rfl)
  try simp only [Act.put, setIfInBounds_toArray, set_cons_zero, set_cons_succ, getElem_toArray, getElem_cons_zero, getElem_cons_succ]
  refine wpAnyH_take (i := 1) (v := ?v110) rfl (by kernel_rfl) (by kernel_rfl) (by kernel_rfl) (fun _ _ _ h => h) (Or.inl ⟨by rfl, ?h110⟩) (by assumption) ?r110
  case h110 => (intro w9 hSw; obtain ⟨m0, m1, m2, m3, m4⟩ := hSw; refine (ld_v (by rfl) (by kernel_rfl) m2).trans ?_; with_reducible rfl)
  try simp only [Act.put, setIfInBounds_toArray, set_cons_zero, set_cons_succ, getElem_toArray, getElem_cons_zero, getElem_cons_succ]
  refine wpAnyH_take (i := 2) (v := ?v111) rfl (by kernel_rfl) (by kernel_rfl) (by kernel_rfl) (fun _ _ _ h => h) (Or.inl ⟨by rfl, ?h111⟩) (by assumption) ?r111
  case h111 => (intro w9 hSw; clear hSw; go_simp; try with_reducible rfl)
  try simp only [Act.put, setIfInBounds_toArray, set_cons_zero, set_cons_succ, getElem_toArray, getElem_cons_zero, getElem_cons_succ]
  refine wpAnyH_take (i := 4) (v := ?v112) rfl (by kernel_rfl) (by kernel_rfl) (by kernel_rfl) (fun _ _ _ h => h) (Or.inl ⟨by rfl, ?h112⟩) (by assumption) ?r112
  case h112 => (intro w9 hSw; obtain ⟨m0, m1, m2, m3, m4⟩ := hSw; refine (ld_v (by rfl) (by kernel_rfl) m2).trans ?_; with_reducible rfl)
  try simp only [Act.put, setIfInBounds_toArray, set_cons_zero, set_cons_succ, getElem_toArray, getElem_cons_zero, getElem_cons_succ]
  refine wpAnyH_take (i := 5) (v := ?v113) rfl (by kernel_rfl) (by kernel_rfl) (by kernel_rfl) (fun _ _ _ h => h) (Or.inl ⟨by rfl, ?h113⟩) (by assumption) ?r113
  case h113 => (intro w9 hSw; clear hSw; go_simp; try with_reducible rfl)
  try simp only [Act.put, setIfInBounds_toArray, set_cons_zero, set_cons_succ, getElem_toArray, getElem_cons_zero, getElem_cons_succ]
  refine wpAnyH_take (i := 7) (v := ?v114) rfl (by kernel_rfl) (by kernel_rfl) (by kernel_rfl) (fun _ _ _ h => h) (Or.inl ⟨by rfl, ?h114⟩) (by assumption) ?r114
  case h114 => (intro w9 hSw; obtain ⟨m0, m1, m2, m3, m4⟩ := hSw; refine (ld_v (by rfl) (by kernel_rfl) m2).trans ?_; with_reducible rfl)
  try simp only [Act.put, setIfInBounds_toArray, set_cons_zero, set_cons_succ, getElem_toArray, getElem_cons_zero, getElem_cons_succ]
  refine wpAnyH_ready (rs := [3]) (by kernel_rfl) (by simp) ?_
  refine AllReadyH.cons rfl (fun K hK => ?_) AllReadyH.nil
  go_simp
  with_reducible refine (prB _).mono ?_
  rintro e w11 ⟨rfl, hb⟩
  replace DX := DX.on hb
  replace hVA := hVA.on hb
  replace hVB := hVB.on hb
  replace hVC := hVC.on hb
  replace hVD := hVD.on hb
  replace DA := DA.on hb
  replace DB := DB.on hb
  replace DC := DC.on hb
  replace DD := DD.on hb
  replace fR := fR.on hb
  replace fC := fC.on hb
  replace bz := bz.trans (hb.mono bz.size)
  clear hb
  clear hS; refine hK.out _ _ ⟨DX, DA, DB, DC, DD⟩ (fun hS => ?_); clear hK K
  try simp only [Act.put, setIfInBounds_toArray, set_cons_zero, set_cons_succ, getElem_toArray, getElem_cons_zero, getElem_cons_succ]
  refine wpAnyH_ready (rs := [6]) (by kernel_rfl) (by simp) ?_
  refine AllReadyH.cons rfl (fun K hK => ?_) AllReadyH.nil
  go_simp
  with_reducible refine (pcB _).mono ?_
  rintro e w12 ⟨rfl, hb⟩
  replace DX := DX.on hb
  replace hVA := hVA.on hb
  replace hVB := hVB.on hb
  replace hVC := hVC.on hb
  replace hVD := hVD.on hb
  replace DA := DA.on hb
  replace DB := DB.on hb
  replace DC := DC.on hb
  replace DD := DD.on hb
  replace fR := fR.on hb
  replace fC := fC.on hb
  replace bz := bz.trans (hb.mono bz.size)
  clear hb
  clear hS; refine hK.out _ _ ⟨DX, DA, DB, DC, DD⟩ (fun hS => ?_); clear hK K
  try simp only [Act.put, setIfInBounds_toArray, set_cons_zero, set_cons_succ, getElem_toArray, getElem_cons_zero, getElem_cons_succ]
  refine wpAnyH_ready (rs := [8]) (by kernel_rfl) (by simp) ?_
  refine AllReadyH.cons rfl (fun K hK => ?_) AllReadyH.nil
  go_simp
  with_reducible refine (ahead_ger ba hVB HL.out hjn).mono ?_
  rintro e w63 ⟨lyB, GB, rfl, hVB2, hIB, hg⟩
  replace DX := DX.grown hg (fun e => by have h9 := zB.out; have h8 := Option.some.inj e; omega)
  replace hVA := hVA.grown hg n_sA_gB.out n_gA_gB.out
  replace hVC := hVC.grown hg n_sC_gB.out n_gC_gB.out
  replace hVD := hVD.grown hg n_sD_gB.out n_gD_gB.out
  replace DA := DA.grown hg (fun e => n_hA_gB.out (Option.some.inj e))
  replace DB := DB.grown hg (fun e => n_hB_gB.out (Option.some.inj e))
  replace DC := DC.grown hg (fun e => n_hC_gB.out (Option.some.inj e))
  replace DD := DD.grown hg (fun e => n_hD_gB.out (Option.some.inj e))
  replace fR := fR.farB hg (qfR_B.out)
  replace fC := fC.farB hg (qfC_B.out)
  replace hVB := hVB2
  replace bz := bz.grown hg bz.size (fun k e => by cases e; have := zB.out; omega)
  have HIB := Lib.hid hIB
  clear hVB2 hg hIB
  clear hS; refine hK.out _ _ ⟨DX, DA, DB, DC, DD⟩ (fun hS => ?_); clear hK K
  try simp only [Act.put, setIfInBounds_toArray, set_cons_zero, set_cons_succ, getElem_toArray, getElem_cons_zero, getElem_cons_succ]
  refine wpAnyH_take (i := 9) (v := ?v115) rfl (by kernel_rfl) (by kernel_rfl) (by kernel_rfl) (fun _ _ _ h => h) (Or.inl ⟨by rfl, ?h115⟩) (by assumption) ?r115
  case h115 => (intro w9 hSw; clear hSw; go_simp; try with_reducible rfl)
  try simp only [Act.put, setIfInBounds_toArray, set_cons_zero, set_cons_succ, getElem_toArray, getElem_cons_zero, getElem_cons_succ]
  refine wpAnyH_done (by kernel_rfl) ?_ _
  obtain ⟨cDC_0, cDC_1, cDC_2, cDC_3, cDC_4, cDC_5, cDC_6, cDC_7, cDC_8⟩ := Vbx.cells DC
  go_wp2_with fail
  with_reducible refine (ahead_trmm hVC HL.out).mono ?_
  rintro e w64 ⟨lyC, GC, rfl, hVC2, hIC, hg⟩
  replace DX := DX.grown hg (fun e => by have h9 := zC.out; have h8 := Option.some.inj e; omega)
  replace hVA := hVA.grown hg n_sA_gC.out n_gA_gC.out
  replace hVB := hVB.grown hg n_sB_gC.out n_gB_gC.out
  replace hVD := hVD.grown hg n_sD_gC.out n_gD_gC.out
  replace DA := DA.grown hg (fun e => n_hA_gC.out (Option.some.inj e))
  replace DB := DB.grown hg (fun e => n_hB_gC.out (Option.some.inj e))
  replace DC := DC.grown hg (fun e => n_hC_gC.out (Option.some.inj e))
  replace DD := DD.grown hg (fun e => n_hD_gC.out (Option.some.inj e))
  replace fR := fR.farB hg (qfR_C.out)
  replace fC := fC.farB hg (qfC_C.out)
  replace hVC := hVC2
  replace bz := bz.grown hg bz.size (fun k e => by cases e; have := zC.out; omega)
  have HIC := Lib.hid hIC
  clear hVC2 hg hIC
  clear cDC_0 cDC_1 cDC_2 cDC_3 cDC_4 cDC_5 cDC_6 cDC_7 cDC_8
  go_wp2_with fail
  have prD := fun W => pRow VD _ W hVD.vk.bd
  have pcD := fun W => pCol VD _ W hVD.vk.bd
  rw [row_is hVD hjn] at prD
  rw [col_is hVD hjn] at pcD
  replace DX := DX.drew
  replace hVA := hVA.drew
  replace hVB := hVB.drew
  replace hVC := hVC.drew
  replace hVD := hVD.drew
  replace DA := DA.drew
  replace DB := DB.drew
  replace DC := DC.drew
  replace DD := DD.drew
  replace fR := fR.on (Below.refl _ _).drew
  replace fC := fC.on (Below.refl _ _).drew
  replace bz := bz.drew
  refine wp_region_held_drew (S := fun w9 : World => Mbx w9 w.heap.size n n AX nX cX ∧ Vbx w9 HA VA ∧ Vbx w9 HB VB ∧ Vbx w9 HC VC ∧ Vbx w9 HD VD) (by kernel_rfl) ⟨DX, DA, DB, DC, DD⟩ (fun hS => ?_)
  generalize w64.drew = wd15 at hS DX hVA hVB hVC hVD DA DB DC DD fR fC  bz ⊢
  refine wpAnyH_take (i := 0) (v := ?v116) rfl (by kernel_rfl) (by kernel_rfl) (by kernel_rfl) (fun _ _ _ h => h) (Or.inl ⟨by rfl, ?h116⟩) (by assumption) ?r116
  case h116 => (intro w9 hSw; clear hSw; go_simp; try with_reducible rfl)
  try simp only [Act.put, setIfInBounds_toArray, set_cons_zero, set_cons_succ, getElem_toArray, getElem_cons_zero, getElem_cons_succ]
  refine wpAnyH_take (i := 1) (v := ?v117) rfl (by kernel_rfl) (by kernel_rfl) (by kernel_rfl) (fun _ _ _ h => h) (Or.inl ⟨by rfl, ?h117⟩) (by assumption) ?r117
  case h117 => (intro w9 hSw; obtain ⟨m0, m1, m2, m3, m4⟩ := hSw; refine (ld_v (by rfl) (by kernel_rfl) m4).trans ?_; with_reducible rfl)
  try simp only [Act.put, setIfInBounds_toArray, set_cons_zero, set_cons_succ, getElem_toArray, getElem_cons_zero, getElem_cons_succ]
  refine wpAnyH_take (i := 2) (v := ?v118) rfl (by kernel_rfl) (by kernel_rfl) (by kernel_rfl) (fun _ _ _ h => h) (Or.inl ⟨by rfl, ?h118⟩) (by assumption) ?r118
  case h118 => (intro w9 hSw; obtain ⟨m0, m1, m2, m3, m4⟩ := hSw; refine (ld_v (by rfl) (by kernel_rfl) m4).trans ?_; with_reducible rfl)
  try simp only [Act.put, setIfInBounds_toArray, set_cons_zero, set_cons_succ, getElem_toArray, getElem_cons_zero, getElem_cons_succ]
  refine wpAnyH_take (i := 3) (v := ?v119) rfl (by kernel_rfl) (by kernel_rfl) (by kernel_rfl) (fun _ _ _ h => h) (Or.inl ⟨by rfl, ?h119⟩) (by assumption) ?r119
  case h119 => (intro w9 hSw; clear hSw; go_simp; try with_reducible rfl)
  try simp only [Act.put, setIfInBounds_toArray, set_cons_zero, set_cons_succ, getElem_toArray, getElem_cons_zero, getElem_cons_succ]
  refine wpAnyH_take (i := 5) (v := ?v120) rfl (by kernel_rfl) (by kernel_rfl) (by kernel_rfl) (fun _ _ _ h => h) (Or.inl ⟨by rfl, ?h120⟩) (by assumption) ?r120
  case h120 => (intro w9 hSw; clear hSw; go_simp; try with_reducible rfl)
  try simp only [Act.put, setIfInBounds_toArray, set_cons_zero, set_cons_succ, getElem_toArray, getElem_cons_zero, getElem_cons_succ]
  refine wpAnyH_take (i := 6) (v := ?v121) rfl (by kernel_rfl) (by kernel_rfl) (by kernel_rfl) (fun _ _ _ h => h) (Or.inl ⟨by rfl, ?h121⟩) (by assumption) ?r121
  case h121 => (intro w9 hSw; obtain ⟨m0, m1, m2, m3, m4⟩ := hSw; refine (ld_v (by rfl) (by kernel_rfl) m4).trans ?_; with_reducible rfl)
  try simp only [Act.put, setIfInBounds_toArray, set_cons_zero, set_cons_succ, getElem_toArray, getElem_cons_zero, getElem_cons_succ]
  refine wpAnyH_take (i := 7) (v := ?v122) rfl (by kernel_rfl) (by kernel_rfl) (by kernel_rfl) (fun _ _ _ h => h) (Or.inl ⟨by rfl, ?h122⟩) (by assumption) ?r122
  case h122 => (intro w9 hSw; clear hSw; go_simp; try with_reducible rfl)
  try simp only [Act.put, setIfInBounds_toArray, set_cons_zero, set_cons_succ, getElem_toArray, getElem_cons_zero, getElem_cons_succ]
  refine wpAnyH_ready (rs := [4]) (by kernel_rfl) (by simp) ?_
  refine AllReadyH.cons rfl (fun K hK => ?_) AllReadyH.nil
  go_simp
  with_reducible refine (prD _).mono ?_
  rintro e w13 ⟨rfl, hb⟩
  replace DX := DX.on hb
  replace hVA := hVA.on hb
  replace hVB := hVB.on hb
  replace hVC := hVC.on hb
  replace hVD := hVD.on hb
  replace DA := DA.on hb
  replace DB := DB.on hb
  replace DC := DC.on hb
  replace DD := DD.on hb
  replace fR := fR.on hb
  replace fC := fC.on hb
  replace bz := bz.trans (hb.mono bz.size)
  clear hb
  clear hS; refine hK.out _ _ ⟨DX, DA, DB, DC, DD⟩ (fun hS => ?_); clear hK K
  try simp only [Act.put, setIfInBounds_toArray, set_cons_zero, set_cons_succ, getElem_toArray, getElem_cons_zero, getElem_cons_succ]
  refine wpAnyH_ready (rs := [8]) (by kernel_rfl) (by simp) ?_
  refine AllReadyH.cons rfl (fun K hK => ?_) AllReadyH.nil
  go_simp
  with_reducible refine (pcD _).mono ?_
  rintro e w14 ⟨rfl, hb⟩
  replace DX := DX.on hb
  replace hVA := hVA.on hb
  replace hVB := hVB.on hb
  replace hVC := hVC.on hb
  replace hVD := hVD.on hb
  replace DA := DA.on hb
  replace DB := DB.on hb
  replace DC := DC.on hb
  replace DD := DD.on hb
  replace fR := fR.on hb
  replace fC := fC.on hb
  replace bz := bz.trans (hb.mono bz.size)
  clear hb
  clear hS; refine hK.out _ _ ⟨DX, DA, DB, DC, DD⟩ (fun hS => ?_); clear hK K
  try simp only [Act.put, setIfInBounds_toArray, set_cons_zero, set_cons_succ, getElem_toArray, getElem_cons_zero, getElem_cons_succ]
  refine wpAnyH_ready (rs := [9]) (by kernel_rfl) (by simp) ?_
  refine AllReadyH.cons rfl (fun K hK => ?_) AllReadyH.nil
  go_simp
  with_reducible refine (ahead_gemv ba bb hVD HL.out hjn).mono ?_
  rintro e w65 ⟨lyD, GD, rfl, hVD2, hID, hg⟩
  replace DX := DX.grown hg (fun e => by have h9 := zD.out; have h8 := Option.some.inj e; omega)
  replace hVA := hVA.grown hg n_sA_gD.out n_gA_gD.out
  replace hVB := hVB.grown hg n_sB_gD.out n_gB_gD.out
  replace hVC := hVC.grown hg n_sC_gD.out n_gC_gD.out
  replace DA := DA.grown hg (fun e => n_hA_gD.out (Option.some.inj e))
  replace DB := DB.grown hg (fun e => n_hB_gD.out (Option.some.inj e))
  replace DC := DC.grown hg (fun e => n_hC_gD.out (Option.some.inj e))
  replace DD := DD.grown hg (fun e => n_hD_gD.out (Option.some.inj e))
  replace fR := fR.farB hg (qfR_D.out)
  replace fC := fC.farB hg (qfC_D.out)
  replace hVD := hVD2
  replace bz := bz.grown hg bz.size (fun k e => by cases e; have := zD.out; omega)
  have HID := Lib.hid hID
  clear hVD2 hg hID
  clear hS; refine hK.out _ _ ⟨DX, DA, DB, DC, DD⟩ (fun hS => ?_); clear hK K
  try simp only [Act.put, setIfInBounds_toArray, set_cons_zero, set_cons_succ, getElem_toArray, getElem_cons_zero, getElem_cons_succ]
  refine wpAnyH_take (i := 10) (v := ?v123) rfl (by kernel_rfl) (by kernel_rfl) (by kernel_rfl) (fun _ _ _ h => h) (Or.inl ⟨by rfl, ?h123⟩) (by assumption) ?r123
  case h123 => (intro w9 hSw; clear hSw; go_simp; try with_reducible rfl)
  try simp only [Act.put, setIfInBounds_toArray, set_cons_zero, set_cons_succ, getElem_toArray, getElem_cons_zero, getElem_cons_succ]
  refine wpAnyH_done (by kernel_rfl) ?_ _
  obtain ⟨kx_0, kx_1, kx_2, kx_3, kx_4, kx_5⟩ := Mbx.cells DX
  go_wp2_with fail
  with_reducible refine (of_any false (HX.out.on bz) HSX.out.1 HSX.out.2).mono ?_
  rintro e w15 ⟨VU, sVU, gVU, capVU, cVU, lVU, rfl, hVU, hb⟩
  clear kx_0 kx_1 kx_2 kx_3 kx_4 kx_5
  replace DX := DX.on hb
  replace hVA := hVA.on hb
  replace hVB := hVB.on hb
  replace hVC := hVC.on hb
  replace hVD := hVD.on hb
  replace DA := DA.on hb
  replace DB := DB.on hb
  replace DC := DC.on hb
  replace DD := DD.on hb
  replace fR := fR.on hb
  replace fC := fC.on hb
  replace bz := bz.trans (hb.mono bz.size)
  clear hb
  go_wp2_with fail
  with_reducible refine (T_any VU _).mono ?_
  rintro e w16 ⟨rfl, hb⟩
  replace DX := DX.on hb
  replace hVA := hVA.on hb
  replace hVB := hVB.on hb
  replace hVC := hVC.on hb
  replace hVD := hVD.on hb
  replace DA := DA.on hb
  replace DB := DB.on hb
  replace DC := DC.on hb
  replace DD := DD.on hb
  replace fR := fR.on hb
  replace fC := fC.on hb
  replace hVU := hVU.on hb
  replace bz := bz.trans (hb.mono bz.size)
  clear hb
  obtain ⟨XS, hXT, dXS⟩ := hVU.sv.turn hVU.ne hVU.R hVU.C
  have yR : VU.turnO.R = (n : Int) := by rw [turn_is hVU]; exact hVU.C
  have yC : VU.turnO.C = (n : Int) := by rw [turn_is hVU]; exact hVU.R
  have lXS : XS.length = nX := by have := hXT.len; rw [yR, yC, hNN] at this; omega
  have wXS := hXT.wd
  have pMat := svMat hXT
  rw [yR, yC] at pMat
  have tA := hVA.st.gt.2
  have tB := hVB.st.gt.2
  have tC := hVC.st.gt.2
  have tD := hVD.st.gt.2
  clear hVU hXT yR yC
  go_wp2_with fail
  with_reducible refine (pMat).mono ?_
  rintro e w17 ⟨AS, kS, rfl, oS, _, hb⟩
  replace DX := DX.on hb
  replace hVA := hVA.on hb
  replace hVB := hVB.on hb
  replace hVC := hVC.on hb
  replace hVD := hVD.on hb
  replace DA := DA.on hb
  replace DB := DB.on hb
  replace DC := DC.on hb
  replace DD := DD.on hb
  replace fR := fR.on hb
  replace fC := fC.on hb
  replace bz := bz.trans (hb.mono bz.size)
  have qfS_A : Hid (∀ a, AS = some a → a.block ≠ gA) := Lib.hid (fun a e => by have h9 := (oS.gt e).1; omega)
  have qfS_B : Hid (∀ a, AS = some a → a.block ≠ gB) := Lib.hid (fun a e => by have h9 := (oS.gt e).1; omega)
  have qfS_C : Hid (∀ a, AS = some a → a.block ≠ gC) := Lib.hid (fun a e => by have h9 := (oS.gt e).1; omega)
  have qfS_D : Hid (∀ a, AS = some a → a.block ≠ gD) := Lib.hid (fun a e => by have h9 := (oS.gt e).1; omega)
  have fS := oS.fl wXS
  rw [lXS] at fS ⊢
  have HXS := Lib.hid dXS
  clear hb pMat oS dXS wXS tA tB tC tD
  have tA := hVA.st.gt.2
  have tB := hVB.st.gt.2
  have tC := hVC.st.gt.2
  have tD := hVD.st.gt.2
  have D23 := Blk.new w17 [.int .i64 n, .int .i64 n, .slice AS nX kS] 24
  obtain ⟨HD23, eHD23⟩ : ∃ H, w17.heap.size = H := ⟨_, rfl⟩
  rw [eHD23] at D23
  have hbA := (Below.refl _ w17).alloc (Nat.le_refl _) (.cells #[.int .i64 n, .int .i64 n, .slice AS nX kS] 24)
  replace DX := DX.on hbA
  replace hVA := hVA.on hbA
  replace hVB := hVB.on hbA
  replace hVC := hVC.on hbA
  replace hVD := hVD.on hbA
  replace DA := DA.on hbA
  replace DB := DB.on hbA
  replace DC := DC.on hbA
  replace DD := DD.on hbA
  replace fR := fR.on hbA
  replace fC := fC.on hbA
  replace fS := fS.on hbA
  clear hbA
  replace bz := bz.alloc bz.size (.cells #[.int .i64 n, .int .i64 n, .slice AS nX kS] 24)
  have HHD23 := Lib.hid eHD23
  rw [eHD23] at tA
  have qD23_A : Hid (HD23 ≠ gA) := Lib.hid (by omega)
  rw [eHD23] at tB
  have qD23_B : Hid (HD23 ≠ gB) := Lib.hid (by omega)
  rw [eHD23] at tC
  have qD23_C : Hid (HD23 ≠ gC) := Lib.hid (by omega)
  rw [eHD23] at tD
  have qD23_D : Hid (HD23 ≠ gD) := Lib.hid (by omega)
  clear tA tB tC tD
  obtain ⟨kx_0, kx_1, kx_2, kx_3, kx_4, kx_5⟩ := Mbx.cells DX
  skip
  have tA := And.intro hVA.st.lt hVA.st.gt.2
  have thA := DA.lt
  have tB := And.intro hVB.st.lt hVB.st.gt.2
  have thB := DB.lt
  have tC := And.intro hVC.st.lt hVC.st.gt.2
  have thC := DC.lt
  have tD := And.intro hVD.st.lt hVD.st.gt.2
  have thD := DD.lt
  have tX := DX.lt
  have t23 := D23.lt
  obtain ⟨adR, ewR, bR, -⟩ := fR.at_ (k := 0) (by omega)
  have eR := Lib.hid ewR
  clear ewR
  obtain ⟨adC, ewC, bC, -⟩ := fC.at_ (k := 0) (by omega)
  have eC := Lib.hid ewC
  clear ewC
  obtain ⟨adS, ewS, bS, -⟩ := fS.at_ (k := 0) (by omega)
  have eS := Lib.hid ewS
  clear ewS
  go_wp2_with fail
  with_reducible refine (rCopy_any (m := n) (q := n) (HX.out.on bz) (by omega)).mono ?_
  rintro e w18 ⟨A24, k24, rfl, o24, hb⟩
  clear kx_0 kx_1 kx_2 kx_3 kx_4 kx_5
  replace DX := DX.on hb
  replace hVA := hVA.on hb
  replace hVB := hVB.on hb
  replace hVC := hVC.on hb
  replace hVD := hVD.on hb
  replace DA := DA.on hb
  replace DB := DB.on hb
  replace DC := DC.on hb
  replace DD := DD.on hb
  replace fR := fR.on hb
  replace fC := fC.on hb
  replace fS := fS.on hb
  replace D23 := D23.on hb
  replace bz := bz.trans (hb.mono bz.size)
  clear hb
  obtain ⟨gK, rfl, bK, mK⟩ := o24.form (by rw [HL.out, ← HNX.out]; omega)
  have n_sA_gK : Hid (sA ≠ gK) := Lib.hid (by omega)
  have n_gA_gK : Hid (gA ≠ gK) := Lib.hid (by omega)
  have n_hA_gK : Hid (HA ≠ gK) := Lib.hid (by omega)
  have n_sB_gK : Hid (sB ≠ gK) := Lib.hid (by omega)
  have n_gB_gK : Hid (gB ≠ gK) := Lib.hid (by omega)
  have n_hB_gK : Hid (HB ≠ gK) := Lib.hid (by omega)
  have n_sC_gK : Hid (sC ≠ gK) := Lib.hid (by omega)
  have n_gC_gK : Hid (gC ≠ gK) := Lib.hid (by omega)
  have n_hC_gK : Hid (HC ≠ gK) := Lib.hid (by omega)
  have n_sD_gK : Hid (sD ≠ gK) := Lib.hid (by omega)
  have n_gD_gK : Hid (gD ≠ gK) := Lib.hid (by omega)
  have n_hD_gK : Hid (HD ≠ gK) := Lib.hid (by omega)
  have zK : Hid (w.heap.size < gK) := Lib.hid (by omega)
  have qD23_K : Hid (HD23 ≠ gK) := Lib.hid (by omega)
  have qfR_K : Hid (∀ a, AR = some a → a.block ≠ gK) := Lib.hid (fun a e => by rw [eR.out] at e; injection e with e; rw [← e]; omega)
  have qfC_K : Hid (∀ a, AC = some a → a.block ≠ gK) := Lib.hid (fun a e => by rw [eC.out] at e; injection e with e; rw [← e]; omega)
  have qfS_K : Hid (∀ a, AS = some a → a.block ≠ gK) := Lib.hid (fun a e => by rw [eS.out] at e; injection e with e; rw [← e]; omega)
  clear eHD23 tA thA tB thB tC thC tD thD tX t23 bK eR bR eC bC eS bS
  have D24 := Blk.new w18 [.int .i64 n, .int .i64 n, .slice (some ⟨gK, 0, none⟩) nX k24] 24
  obtain ⟨HD24, eHD24⟩ : ∃ H, w18.heap.size = H := ⟨_, rfl⟩
  rw [eHD24] at D24
  have hbA := (Below.refl _ w18).alloc (Nat.le_refl _) (.cells #[.int .i64 n, .int .i64 n, .slice (some ⟨gK, 0, none⟩) nX k24] 24)
  replace DX := DX.on hbA
  replace hVA := hVA.on hbA
  replace hVB := hVB.on hbA
  replace hVC := hVC.on hbA
  replace hVD := hVD.on hbA
  replace DA := DA.on hbA
  replace DB := DB.on hbA
  replace DC := DC.on hbA
  replace DD := DD.on hbA
  replace fR := fR.on hbA
  replace fC := fC.on hbA
  replace fS := fS.on hbA
  replace D23 := D23.on hbA
  replace o24 := o24.alloc_ (.cells #[.int .i64 n, .int .i64 n, .slice (some ⟨gK, 0, none⟩) nX k24] 24)
  clear hbA
  replace bz := bz.alloc bz.size (.cells #[.int .i64 n, .int .i64 n, .slice (some ⟨gK, 0, none⟩) nX k24] 24)
  have HHD24 := Lib.hid eHD24
  rw [eHD24] at mK
  have qD24_K : Hid (HD24 ≠ gK) := Lib.hid (by omega)
  skip
  obtain ⟨kx_0, kx_1, kx_2, kx_3, kx_4, kx_5⟩ := Mbx.cells DX
  go_wp2_with fail
  with_reducible refine (rGemv_any (m := n) (q := n) ba bb (HX.out.on bz) HNX.out hn5 hn5 fR fC (Nat.le_refl _) (Nat.le_refl _)).mono ?_
  rintro e w19 ⟨A9, k9, L9, rfl, hI9, ho9, hb⟩
  clear kx_0 kx_1 kx_2 kx_3 kx_4 kx_5
  have qf9_K : Hid (∀ a, A9 = some a → a.block ≠ gK) := Lib.hid (fun a e => by have h9 := (ho9.gt e).1; have h8 := (o24.gt rfl).2; have h7 : gK < _ := h8; omega)
  replace DX := DX.on hb
  replace hVA := hVA.on hb
  replace hVB := hVB.on hb
  replace hVC := hVC.on hb
  replace hVD := hVD.on hb
  replace DA := DA.on hb
  replace DB := DB.on hb
  replace DC := DC.on hb
  replace DD := DD.on hb
  replace fR := fR.on hb
  replace fC := fC.on hb
  replace fS := fS.on hb
  replace D23 := D23.on hb
  replace o24 := o24.on_ hb
  replace D24 := D24.on hb
  replace bz := bz.trans (hb.mono bz.size)
  clear hb
  have f9 := hI9.fl ho9
  have HI9 := Lib.hid hI9
  clear ho9 hI9 eHD24 mK
  have QDX := Lib.hid DX
  clear DX
  have QhVA := Lib.hid hVA
  clear hVA
  have QhVB := Lib.hid hVB
  clear hVB
  have QhVC := Lib.hid hVC
  clear hVC
  have QhVD := Lib.hid hVD
  clear hVD
  have QDA := Lib.hid DA
  clear DA
  have QDB := Lib.hid DB
  clear DB
  have QDC := Lib.hid DC
  clear DC
  have QDD := Lib.hid DD
  clear DD
  have QfR := Lib.hid fR
  clear fR
  have QfC := Lib.hid fC
  clear fC
  have QfS := Lib.hid fS
  clear fS
  have QD23 := Lib.hid D23
  clear D23
  have Qo24 := Lib.hid o24
  clear o24
  have QD24 := Lib.hid D24
  clear D24
  have Qf9 := Lib.hid f9
  clear f9
  have Qbz := Lib.hid bz
  clear bz
  go_wp2_with fail
  go_loopw [26] (fun rr wr => ∃ (r : Nat) (LK : List Int), r ≤ n ∧ rr = .int .i64 r ∧ Mr LK LX n n (fun x k => decide (k = j ∧ x < r)) (fun x _ => fa (D L9 x)) ∧ (∃ B, OwnF wr B (some ⟨gK, 0, none⟩) k24 LK) ∧ w19.grownBy wr (some gK)) (fun rr _ => n - (intOf rr).toNat)
  case atStart => exact ⟨0, LX, Nat.zero_le _, rfl, Mr.start HL.out HWX.out (fun x k _ _ => by simp), ⟨_, Qo24.out⟩, World.grownBy.refl _ _⟩
  case round =>
   obtain ⟨r, LK, hr, rfl, hM, ⟨BO, hO⟩, hgr⟩ := hrel
   by_cases hlt : r < n
   ·
    have D24r := QD24.out.grown hgr (fun e => qD24_K.out (Option.some.inj e))
    have f9r := Qf9.out.farB hgr qf9_K.out
    obtain ⟨ad9, hA9, _, hc9⟩ := f9r.at_ hlt
    obtain ⟨l9, u9⟩ := f9r.2.2.at_ r
    obtain ⟨V9, eV⟩ : ∃ V, (D L9 r).toNat = V := ⟨_, rfl⟩
    have e9 : D L9 r = (V9 : Int) := by omega
    have b9 : V9 ≤ 18446744073709551615 := by omega
    rw [eV] at hc9
    have hKl := ix_lt hlt hjn
    rw [← hM.len] at hKl
    have hX2 : r * n ≤ 512 * 512 := Nat.mul_le_mul (by omega) hn5
    obtain ⟨X, hX⟩ : ∃ X, r * n = X := ⟨_, rfl⟩
    have hXi : (r : Int) * (n : Int) = (X : Int) := by exact_mod_cast hX
    obtain ⟨Kp, hKp⟩ : ∃ Kp, X + j = Kp := ⟨_, rfl⟩
    have hKi : (X : Int) + (j : Int) = (Kp : Int) := by exact_mod_cast hKp
    have HK := Lib.hid (show r * n + j = Kp by rw [hX, hKp])
    rw [hX, hKp] at hKl
    rw [hX] at hX2
    have hKn : Kp < nX := by rw [HNX.out, ← hM.len]; exact hKl
    have hKl2 := Lib.hid hKl
    have k0 : (0 : Int) ≤ Kp := by omega
    have k1 : (Kp : Int) < nX := by omega
    have r0 : (0 : Int) ≤ r := by omega
    have r1 : (r : Int) < n := by omega
    have v1 : IntKind.i64.wrap (X : Int) = X := by rw [IntKind.wrap_i64]; omega
    have v2 : IntKind.i64.wrap (Kp : Int) = Kp := by rw [IntKind.wrap_i64]; omega
    have HMM := Lib.hid hM
    have HE9 := Lib.hid e9
    clear hX hKp l9 u9 eV e9 hM hKl D24r f9r
    subst hA9
    go_wp2_with fail
    have hOd : OwnF wr.drew BO (some ⟨gK, 0, none⟩) k24 LK := hO.on_ (Below.refl _ wr).drew
    have hgd : w19.grownBy wr.drew (some gK) := grown_on hgr (Below.refl _ wr).drew
    have hc9d : wr.drew.cell? (ad9.add r) = some (.float .f64 V9) := hc9
    clear hO hgr hc9
    refine wp_region_held_drew (S := fun w9 : World => Mbx w9 HD24 n n (some ⟨gK, 0, none⟩) nX k24 ∧ FL w9 (some ad9) n k9 L9) (by kernel_rfl) ⟨QD24.out.grown hgd (fun e => qD24_K.out (Option.some.inj e)), Qf9.out.farB hgd qf9_K.out⟩ (fun hS => ?_)
    refine wpAnyH_take (i := 0) (v := ?v124) rfl (by kernel_rfl) (by kernel_rfl) (by kernel_rfl) (fun _ _ _ h => h) (Or.inl ⟨by rfl, ?h124⟩) (by assumption) ?r124
    case h124 => (intro w9 hSw; clear hSw; go_simp; try with_reducible rfl)
    try simp only [Act.put, setIfInBounds_toArray, set_cons_zero, set_cons_succ, getElem_toArray, getElem_cons_zero, getElem_cons_succ]
    refine wpAnyH_take (i := 1) (v := ?v125) rfl (by kernel_rfl) (by kernel_rfl) (by kernel_rfl) (fun _ _ _ h => h) (Or.inl ⟨by rfl, ?h125⟩) (by assumption) ?r125
    case h125 => (intro w9 hSw; obtain ⟨m0, m1⟩ := hSw; obtain ⟨q0, q1, q2, q3, q4, q5⟩ := Mbx.cells m0; have c9 := FL.at_ad m1 (k := r) hlt; rw [HE9.out, Int.toNat_natCast] at c9; go_simp; try with_reducible rfl)
    try simp only [Act.put, setIfInBounds_toArray, set_cons_zero, set_cons_succ, getElem_toArray, getElem_cons_zero, getElem_cons_succ]
    refine wpAnyH_take (i := 2) (v := ?v126) rfl (by kernel_rfl) (by kernel_rfl) (by kernel_rfl) (fun _ _ _ h => h) (Or.inl ⟨by rfl, ?h126⟩) (by assumption) ?r126
    case h126 => (intro w9 hSw; clear hSw; go_simp; try with_reducible rfl)
    try simp only [Act.put, setIfInBounds_toArray, set_cons_zero, set_cons_succ, getElem_toArray, getElem_cons_zero, getElem_cons_succ]
    refine wpAnyH_take (i := 3) (v := ?v127) rfl (by kernel_rfl) (by kernel_rfl) (by kernel_rfl) (fun _ _ _ h => h) (Or.inl ⟨by rfl, ?h127⟩) (by assumption) ?r127
    case h127 => (intro w9 hSw; clear hSw; go_simp; try with_reducible rfl)
    try simp only [Act.put, setIfInBounds_toArray, set_cons_zero, set_cons_succ, getElem_toArray, getElem_cons_zero, getElem_cons_succ]
    refine wpAnyH_take (i := 4) (v := ?v128) rfl (by kernel_rfl) (by kernel_rfl) (by kernel_rfl) (fun _ _ _ h => h) (Or.inl ⟨by rfl, ?h128⟩) (by assumption) ?r128
    case h128 => (intro w9 hSw; clear hSw; go_simp; try with_reducible rfl)
    try simp only [Act.put, setIfInBounds_toArray, set_cons_zero, set_cons_succ, getElem_toArray, getElem_cons_zero, getElem_cons_succ]
    refine wpAnyH_take (i := 5) (v := ?v129) rfl (by kernel_rfl) (by kernel_rfl) (by kernel_rfl) (fun _ _ _ h => h) (Or.inl ⟨by rfl, ?h129⟩) (by assumption) ?r129
    case h129 => (intro w9 hSw; clear hSw; go_simp; try with_reducible rfl)
    try simp only [Act.put, setIfInBounds_toArray, set_cons_zero, set_cons_succ, getElem_toArray, getElem_cons_zero, getElem_cons_succ]
    refine wpAnyH_take (i := 6) (v := ?v130) rfl (by kernel_rfl) (by kernel_rfl) (by kernel_rfl) (fun _ _ _ h => h) (Or.inl ⟨by rfl, ?h130⟩) (by assumption) ?r130
    case h130 => (intro w9 hSw; clear hSw; go_simp; try with_reducible rfl)
    try simp only [Act.put, setIfInBounds_toArray, set_cons_zero, set_cons_succ, getElem_toArray, getElem_cons_zero, getElem_cons_succ]
    refine wpAnyH_take (i := 7) (v := ?v131) rfl (by kernel_rfl) (by kernel_rfl) (by kernel_rfl) (fun _ _ _ h => h) (Or.inl ⟨by rfl, ?h131⟩) (by assumption) ?r131
    case h131 => (intro w9 hSw; clear hSw; go_simp; try with_reducible rfl)
    try simp only [Act.put, setIfInBounds_toArray, set_cons_zero, set_cons_succ, getElem_toArray, getElem_cons_zero, getElem_cons_succ]
    refine wpAnyH_take (i := 8) (v := ?v132) rfl (by kernel_rfl) (by kernel_rfl) (by kernel_rfl) (fun _ _ _ h => h) (Or.inl ⟨by rfl, ?h132⟩) (by assumption) ?r132
    case h132 => (intro w9 hSw; clear hSw; go_simp; try with_reducible rfl)
    try simp only [Act.put, setIfInBounds_toArray, set_cons_zero, set_cons_succ, getElem_toArray, getElem_cons_zero, getElem_cons_succ]
    refine wpAnyH_take (i := 9) (v := ?v133) rfl (by kernel_rfl) (by kernel_rfl) (by kernel_rfl) (fun _ _ _ h => h) (Or.inl ⟨by rfl, ?h133⟩) (by assumption) ?r133
    case h133 => (intro w9 hSw; clear hSw; go_simp; try with_reducible rfl)
    try simp only [Act.put, setIfInBounds_toArray, set_cons_zero, set_cons_succ, getElem_toArray, getElem_cons_zero, getElem_cons_succ]
    refine wpAnyH_take (i := 10) (v := ?v134) rfl (by kernel_rfl) (by kernel_rfl) (by kernel_rfl) (fun _ _ _ h => h) (Or.inl ⟨by rfl, ?h134⟩) (by assumption) ?r134
    case h134 => (intro w9 hSw; obtain ⟨m0, m1⟩ := hSw; obtain ⟨q0, q1, q2, q3, q4, q5⟩ := Mbx.cells m0; have c9 := FL.at_ad m1 (k := r) hlt; rw [HE9.out, Int.toNat_natCast] at c9; go_simp; try with_reducible rfl)
    try simp only [Act.put, setIfInBounds_toArray, set_cons_zero, set_cons_succ, getElem_toArray, getElem_cons_zero, getElem_cons_succ]
    refine wpAnyH_take (i := 11) (v := ?v135) rfl (by kernel_rfl) (by kernel_rfl) (by kernel_rfl) (fun _ _ _ h => h) (Or.inl ⟨by rfl, ?h135⟩) (by assumption) ?r135
    case h135 => (intro w9 hSw; clear hSw; go_simp; try with_reducible rfl)
    try simp only [Act.put, setIfInBounds_toArray, set_cons_zero, set_cons_succ, getElem_toArray, getElem_cons_zero, getElem_cons_succ]
    obtain ⟨g9, e9, hc5, hf5⟩ := hOd.at_ hKl2.out
    injection e9 with e9
    injection e9 with e9
    subst e9
    refine wpAnyH_ready (rs := [12]) (by kernel_rfl) (by simp) ?_
    refine AllReadyH.cons rfl (fun K hK => ?_) AllReadyH.nil
    go_simp
    have hO2 := ownF_nat hOd Kp V9
    replace hgd := setb_grown hgd Kp (.float .f64 V9)
    clear hc5 hf5 hc9d hOd
    clear hS; refine hK.out _ _ ⟨QD24.out.grown hgd (fun e => qD24_K.out (Option.some.inj e)), Qf9.out.farB hgd qf9_K.out⟩ (fun hS => ?_); clear hK K
    try simp only [Act.put, setIfInBounds_toArray, set_cons_zero, set_cons_succ, getElem_toArray, getElem_cons_zero, getElem_cons_succ]
    refine wpAnyH_done (by kernel_rfl) ?_ _
    have hM2 : Mr (LK.set Kp (V9 : Int)) LX n n (fun x k => decide (k = j ∧ x < r + 1)) (fun x _ => fa (D L9 x)) := by rw [← HK.out]; exact tg_col hjn hlt b9 HE9.out HMM.out
    have HM2 := Lib.hid hM2
    have HO2 := Lib.hid hO2
    have HGD := Lib.hid hgd
    clear hM2 hO2 hgd HK HMM HE9 v1 v2 k0 k1 hXi hKi
    go_wp2_with fail
    go_roundw
    case rel => exact ⟨r + 1, LK.set Kp (V9 : Int), hlt, by go_num, HM2.out, ⟨BO, HO2.out⟩, HGD.out⟩
    case measure => simp [intOf]; omega
   ·
    have hrn : n = r := by omega
    subst hrn
    generalize wr = W24 at *
    have hgr2 := Lib.hid hgr
    have DX := QDX.out
    have hVA := QhVA.out
    have hVB := QhVB.out
    have hVC := QhVC.out
    have hVD := QhVD.out
    have DA := QDA.out
    have DB := QDB.out
    have DC := QDC.out
    have DD := QDD.out
    have fR := QfR.out
    have fC := QfC.out
    have fS := QfS.out
    have D23 := QD23.out
    have o24 := Qo24.out
    have D24 := QD24.out
    have f9 := Qf9.out
    have bz := Qbz.out
    have hg := hgr
    replace DX := DX.grown hg (fun e => by have h9 := zK.out; have h8 := Option.some.inj e; omega)
    replace hVA := hVA.grown hg n_sA_gK.out n_gA_gK.out
    replace hVB := hVB.grown hg n_sB_gK.out n_gB_gK.out
    replace hVC := hVC.grown hg n_sC_gK.out n_gC_gK.out
    replace hVD := hVD.grown hg n_sD_gK.out n_gD_gK.out
    replace DA := DA.grown hg (fun e => n_hA_gK.out (Option.some.inj e))
    replace DB := DB.grown hg (fun e => n_hB_gK.out (Option.some.inj e))
    replace DC := DC.grown hg (fun e => n_hC_gK.out (Option.some.inj e))
    replace DD := DD.grown hg (fun e => n_hD_gK.out (Option.some.inj e))
    replace fR := fR.farB hg (qfR_K.out)
    replace fC := fC.farB hg (qfC_K.out)
    replace fS := fS.farB hg (qfS_K.out)
    replace D23 := D23.grown hg (fun e => qD23_K.out (Option.some.inj e))
    replace D24 := D24.grown hg (fun e => qD24_K.out (Option.some.inj e))
    replace f9 := f9.farB hg (qf9_K.out)
    replace bz := bz.grown hg bz.size (fun k e => by cases e; have := zK.out; omega)
    have hIK := hM.is
    have fK := hO.fl hM.wd
    rw [hM.len, ← HNX.out] at fK
    have HIK := Lib.hid (ahV_same HFR.out HFC.out HI9.out hIK)
    clear hg hgr o24 hO hM hIK QDX QhVA QhVB QhVC QhVD QDA QDB QDC QDD QfR QfC QfS QD23 Qo24 QD24 Qf9 Qbz f9
    go_wp2_with fail
    have prA := fun W => pRow VA _ W hVA.vk.bd
    have pcA := fun W => pCol VA _ W hVA.vk.bd
    rw [row_is hVA hjn] at prA
    rw [col_is hVA hjn] at pcA
    replace DX := DX.drew
    replace hVA := hVA.drew
    replace hVB := hVB.drew
    replace hVC := hVC.drew
    replace hVD := hVD.drew
    replace DA := DA.drew
    replace DB := DB.drew
    replace DC := DC.drew
    replace DD := DD.drew
    replace fR := fR.on (Below.refl _ _).drew
    replace fC := fC.on (Below.refl _ _).drew
    replace fS := fS.on (Below.refl _ _).drew
    replace D23 := D23.drew
    replace D24 := D24.drew
    replace fK := fK.on (Below.refl _ _).drew
    replace bz := bz.drew
    refine wp_region_held_drew (S := fun w9 : World => Mbx w9 w.heap.size n n AX nX cX ∧ Vbx w9 HA VA ∧ Vbx w9 HB VB ∧ Vbx w9 HC VC ∧ Vbx w9 HD VD ∧ Mbx w9 HD23 n n AS nX kS ∧ Mbx w9 HD24 n n (some ⟨gK, 0, none⟩) nX k24) (by kernel_rfl) ⟨DX, DA, DB, DC, DD, D23, D24⟩ (fun hS => ?_)
    generalize W24.drew = wd23 at hS DX hVA hVB hVC hVD DA DB DC DD fR fC fS D23 D24 fK  bz ⊢
    refine wpAnyH_take (i := 0) (v := ?v136) rfl (by kernel_rfl) (by kernel_rfl) (by kernel_rfl) (fun _ _ _ h => h) (Or.inl ⟨by rfl, ?h136⟩) (by assumption) ?r136
    case h136 => (intro w9 hSw; obtain ⟨m0, m1, m2, m3, m4, m5, m6⟩ := hSw; refine (ld_v (by rfl) (by kernel_rfl) m1).trans ?_; with_reducible rfl)
    try simp only [Act.put, setIfInBounds_toArray, set_cons_zero, set_cons_succ, getElem_toArray, getElem_cons_zero, getElem_cons_succ]
    refine wpAnyH_take (i := 1) (v := ?v137) rfl (by kernel_rfl) (by kernel_rfl) (by kernel_rfl) (fun _ _ _ h => h) (Or.inl ⟨by rfl, ?h137⟩) (by assumption) ?r137
    case h137 => (intro w9 hSw; clear hSw; go_simp; try with_reducible rfl)
    try simp only [Act.put, setIfInBounds_toArray, set_cons_zero, set_cons_succ, getElem_toArray, getElem_cons_zero, getElem_cons_succ]
    refine wpAnyH_take (i := 3) (v := ?v138) rfl (by kernel_rfl) (by kernel_rfl) (by kernel_rfl) (fun _ _ _ h => h) (Or.inl ⟨by rfl, ?h138⟩) (by assumption) ?r138
    case h138 => (intro w9 hSw; obtain ⟨m0, m1, m2, m3, m4, m5, m6⟩ := hSw; refine (ld_v (by rfl) (by kernel_rfl) m1).trans ?_; with_reducible rfl)
    try simp only [Act.put, setIfInBounds_toArray, set_cons_zero, set_cons_succ, getElem_toArray, getElem_cons_zero, getElem_cons_succ]
    refine wpAnyH_take (i := 4) (v := ?v139) rfl (by kernel_rfl) (by kernel_rfl) (by kernel_rfl) (fun _ _ _ h => h) (Or.inl ⟨by rfl, ?h139⟩) (by assumption) ?r139
    case h139 => (intro w9 hSw; clear hSw; go_simp; try with_reducible rfl)
    try simp only [Act.put, setIfInBounds_toArray, set_cons_zero, set_cons_succ, getElem_toArray, getElem_cons_zero, getElem_cons_succ]
    refine wpAnyH_ready (rs := [2]) (by kernel_rfl) (by simp) ?_
    refine AllReadyH.cons rfl (fun K hK => ?_) AllReadyH.nil
    go_simp
    with_reducible refine (prA _).mono ?_
    rintro e w20 ⟨rfl, hb⟩
    replace DX := DX.on hb
    replace hVA := hVA.on hb
    replace hVB := hVB.on hb
    replace hVC := hVC.on hb
    replace hVD := hVD.on hb
    replace DA := DA.on hb
    replace DB := DB.on hb
    replace DC := DC.on hb
    replace DD := DD.on hb
    replace fR := fR.on hb
    replace fC := fC.on hb
    replace fS := fS.on hb
    replace D23 := D23.on hb
    replace D24 := D24.on hb
    replace fK := fK.on hb
    replace bz := bz.trans (hb.mono bz.size)
    clear hb
    clear hS; refine hK.out _ _ ⟨DX, DA, DB, DC, DD, D23, D24⟩ (fun hS => ?_); clear hK K
    try simp only [Act.put, setIfInBounds_toArray, set_cons_zero, set_cons_succ, getElem_toArray, getElem_cons_zero, getElem_cons_succ]
    refine wpAnyH_ready (rs := [5]) (by kernel_rfl) (by simp) ?_
    refine AllReadyH.cons rfl (fun K hK => ?_) AllReadyH.nil
    go_simp
    with_reducible refine (pcA _).mono ?_
    rintro e w21 ⟨rfl, hb⟩
    replace DX := DX.on hb
    replace hVA := hVA.on hb
    replace hVB := hVB.on hb
    replace hVC := hVC.on hb
    replace hVD := hVD.on hb
    replace DA := DA.on hb
    replace DB := DB.on hb
    replace DC := DC.on hb
    replace DD := DD.on hb
    replace fR := fR.on hb
    replace fC := fC.on hb
    replace fS := fS.on hb
    replace D23 := D23.on hb
    replace D24 := D24.on hb
    replace fK := fK.on hb
    replace bz := bz.trans (hb.mono bz.size)
    clear hb
    clear hS; refine hK.out _ _ ⟨DX, DA, DB, DC, DD, D23, D24⟩ (fun hS => ?_); clear hK K
    try simp only [Act.put, setIfInBounds_toArray, set_cons_zero, set_cons_succ, getElem_toArray, getElem_cons_zero, getElem_cons_succ]
    refine wpAnyH_ready (rs := [6]) (by kernel_rfl) (by simp) ?_
    refine AllReadyH.cons rfl (fun K hK => ?_) AllReadyH.nil
    go_simp
    with_reducible refine (T_any (colW VA j n) _).mono ?_
    rintro e w22 ⟨rfl, hb⟩
    replace DX := DX.on hb
    replace hVA := hVA.on hb
    replace hVB := hVB.on hb
    replace hVC := hVC.on hb
    replace hVD := hVD.on hb
    replace DA := DA.on hb
    replace DB := DB.on hb
    replace DC := DC.on hb
    replace DD := DD.on hb
    replace fR := fR.on hb
    replace fC := fC.on hb
    replace fS := fS.on hb
    replace D23 := D23.on hb
    replace D24 := D24.on hb
    replace fK := fK.on hb
    replace bz := bz.trans (hb.mono bz.size)
    clear hb
    clear hS; refine hK.out _ _ ⟨DX, DA, DB, DC, DD, D23, D24⟩ (fun hS => ?_); clear hK K
    try simp only [Act.put, setIfInBounds_toArray, set_cons_zero, set_cons_succ, getElem_toArray, getElem_cons_zero, getElem_cons_succ]
    refine wpAnyH_ready (rs := [7]) (by kernel_rfl) (by simp) ?_
    refine AllReadyH.cons rfl (fun K hK => ?_) AllReadyH.nil
    go_simp
    with_reducible refine (ahead_swap hVA hjn).mono ?_
    rintro e w23 ⟨rfl, hb⟩
    replace DX := DX.on hb
    replace hVA := hVA.on hb
    replace hVB := hVB.on hb
    replace hVC := hVC.on hb
    replace hVD := hVD.on hb
    replace DA := DA.on hb
    replace DB := DB.on hb
    replace DC := DC.on hb
    replace DD := DD.on hb
    replace fR := fR.on hb
    replace fC := fC.on hb
    replace fS := fS.on hb
    replace D23 := D23.on hb
    replace D24 := D24.on hb
    replace fK := fK.on hb
    replace bz := bz.trans (hb.mono bz.size)
    clear hb
    clear hS; refine hK.out _ _ ⟨DX, DA, DB, DC, DD, D23, D24⟩ (fun hS => ?_); clear hK K
    try simp only [Act.put, setIfInBounds_toArray, set_cons_zero, set_cons_succ, getElem_toArray, getElem_cons_zero, getElem_cons_succ]
    refine wpAnyH_take (i := 8) (v := ?v140) rfl (by kernel_rfl) (by kernel_rfl) (by kernel_rfl) (fun _ _ _ h => h) (Or.inl ⟨by rfl, ?h140⟩) (by assumption) ?r140
    case h140 => (intro w9 hSw; clear hSw; go_simp; try with_reducible rfl)
    try simp only [Act.put, setIfInBounds_toArray, set_cons_zero, set_cons_succ, getElem_toArray, getElem_cons_zero, getElem_cons_succ]
    refine wpAnyH_done (by kernel_rfl) ?_ _
    go_wp2_with fail
    replace DX := DX.drew
    replace hVA := hVA.drew
    replace hVB := hVB.drew
    replace hVC := hVC.drew
    replace hVD := hVD.drew
    replace DA := DA.drew
    replace DB := DB.drew
    replace DC := DC.drew
    replace DD := DD.drew
    replace fR := fR.on (Below.refl _ _).drew
    replace fC := fC.on (Below.refl _ _).drew
    replace fS := fS.on (Below.refl _ _).drew
    replace D23 := D23.drew
    replace D24 := D24.drew
    replace fK := fK.on (Below.refl _ _).drew
    replace bz := bz.drew
    refine wp_region_held_drew (S := fun w9 : World => Mbx w9 w.heap.size n n AX nX cX ∧ Vbx w9 HA VA ∧ Vbx w9 HB VB ∧ Vbx w9 HC VC ∧ Vbx w9 HD VD ∧ Mbx w9 HD23 n n AS nX kS ∧ Mbx w9 HD24 n n (some ⟨gK, 0, none⟩) nX k24) (by kernel_rfl) ⟨DX, DA, DB, DC, DD, D23, D24⟩ (fun hS => ?_)
    generalize w23.drew = wd24 at hS DX hVA hVB hVC hVD DA DB DC DD fR fC fS D23 D24 fK  bz ⊢
    refine wpAnyH_tab [⟨169, 65536, 0⟩, ⟨170, 374144419156711147060143317175368453031918731001856, 1⟩, ⟨171, 1048576, 0⟩, ⟨172, 1496577676626844588240573268701473812127674924007424, 6⟩, ⟨173, 3741444191567111470601433171753684530319187310018560, 10⟩, ⟨174, 2097152, 0⟩, ⟨175, 11972621413014756705924586149611790497021399392059392, 40⟩, ⟨176, 29931553532536891764811465374029476242553498480148480, 80⟩, ⟨177, 4194304, 0⟩, ⟨178, 95780971304118053647396689196894323976171195136475136, 320⟩, ⟨179, 239452428260295134118491722992235809940427987841187840, 640⟩, ⟨180, 383123885216472214589586756787577295904684780545900544, 1024⟩, ⟨181, 766247770432944429179173513575154591809369561091801088, 2560⟩, ⟨182, 1532495540865888858358347027150309183618739122317819904, 4096⟩, ⟨183, 4597486622597666575075041081450927550856217366550806528, 12288⟩, ⟨184, 7662477704329444291791735135751545918093695610918010880, 20480⟩, ⟨185, 13792459867792999725225123244352782652568652099652419584, 36864⟩, ⟨186, 24519928653854221733733552434404946937899825954937634816, 81920⟩, ⟨187, 49039857307708443467467104868809893875799651909875273728, 131072⟩, ⟨188, 49039857307708443467467104868809893875799651909875269633, 131072⟩, ⟨189, 49039857307708443467467104868809893875799651909875269696, 131072⟩, ⟨190, 49039857307708443467467104868809893875799651909883658240, 131072⟩, ⟨191, 49039857307708443467467104868809893875799651909875269636, 131072⟩, ⟨192, 49039857307708443467467104868809893875799651909875269696, 131072⟩, ⟨193, 6129982163463555433433388108601236734474956488734408704000, 16384000⟩, ⟨194, 6424221307309806094238190737814096097729754400193660321792, 17170432⟩, ⟨195, 12603243328081069971139045951284142726080510540837944295424, 33685504⟩, ⟨196, 25108406941546723055343157692830665664409421777856138051584, 100663296⟩, ⟨197, 50216813883093446110686315385661331328818843555712276111360, 134217728⟩, ⟨198, 50216813883093446110686315385661331328818843555712276103169, 134217728⟩, ⟨199, 50216813883093446110686315385661331328818843555712276234240, 134217728⟩, ⟨200, 50216813883093446110686315385661331328818843555712276365312, 134217728⟩, ⟨201, 50216813883093446110686315385661331328818843555712276103232, 134217728⟩, ⟨202, 3063225646868700212751865238525341211057949456898448842293248, 8187281408⟩, ⟨203, 3364526530167260889415983130839309199030862518232722498912256, 8992587776⟩, ⟨204, 6477968990919054548278534684750311741417630818686883617308672, 17314086912⟩, ⟨205, 12855504354071922204335696738729300820177623950262342682411008, 51539607552⟩, ⟨206, 25711008708143844408671393477458601640355247900524685364838400, 68719476736⟩, ⟨207, 25711008708143844408671393477458601640355247900524685364822032, 68719476736⟩, ⟨208, 25711008708143844408671393477458601640355247900524685364822080, 68719476736⟩, ⟨209, 25711008708143844408671393477458601640355247900524685364822080, 68719476736⟩, ⟨210, 745619252536171487851470410846299447570302189115215875579838464, 1992864825344⟩, ⟨211, 899885304785034554303498771711051057412433676518363987768770560, 2405181685760⟩, ⟨212, 1671215566029349886563640576034809106623091113534104548713431040, 4466765987840⟩, ⟨213, 3291009114642412084309938365114701009965471731267159726697218048, 13194139533312⟩, ⟨214, 6582018229284824168619876730229402019930943462534319453394468864, 17592186044416⟩, ⟨215, 6582018229284824168619876730229402019930943462534319453411213312, 17592186044416⟩, ⟨216, 46074127604993769180339137111605814139516604237740236173761052672, 123145302310912⟩, ⟨217, 59238164063563417517578890572064618179378491162808875080549924864, 158329674399744⟩, ⟨218, 105312291668557186697918027683670432318895095400549111254310977536, 422212465065984⟩, ⟨219, 210624583337114373395836055367340864637790190801098222508621955072, 562949953421312⟩, ⟨220, 631873750011343120187508166102022593913370572403294667525865865216, 1688849860263936⟩, ⟨11, 842498333348457493583344221469363458551160763204392890034487820288, 4503599627370495⟩] (by kernel_rfl) (fun hT => ?_)
    refine wpAnyH_take (i := 0) (oi := { dst := some 168, op := Go.Op.move (Go.Operand.tmp 16), type := 33, pos := "law.go:240", after := #[], guard := none }) (v := ?v141) (by kernel_rfl) (tab_ns hT) (tab_free 0 hT (by kernel_rfl) (by kernel_rfl)) (tab_rdy 0 hT (by kernel_rfl) (by kernel_rfl) (by kernel_rfl)) (fun _ _ _ h => h) (Or.inl ⟨by kernel_rfl, ?h141⟩) (by assumption) ?r141
    case h141 => (intro w9 hSw; clear hSw; go_simp; try with_reducible rfl)
    try simp only [Act.put, setIfInBounds_toArray, set_cons_zero, set_cons_succ, getElem_toArray, getElem_cons_zero, getElem_cons_succ]
    refine wpAnyH_take (i := 2) (oi := { dst := some 170, op := Go.Op.move (Go.Operand.tmp 20), type := 33, pos := "law.go:240", after := #[], guard := none }) (v := ?v142) (by kernel_rfl) (tab_ns hT) (tab_free 1 hT (by kernel_rfl) (by kernel_rfl)) (tab_rdy 1 hT (by kernel_rfl) (by kernel_rfl) (by kernel_rfl)) (fun _ _ _ h => h) (Or.inl ⟨by kernel_rfl, ?h142⟩) (by assumption) ?r142
    case h142 => (intro w9 hSw; clear hSw; go_simp; try with_reducible rfl)
    try simp only [Act.put, setIfInBounds_toArray, set_cons_zero, set_cons_succ, getElem_toArray, getElem_cons_zero, getElem_cons_succ]
    refine wpAnyH_take (i := 5) (oi := { dst := some 173, op := Go.Op.move (Go.Operand.tmp 21), type := 33, pos := "law.go:240", after := #[], guard := none }) (v := ?v143) (by kernel_rfl) (tab_ns hT) (tab_free 5 hT (by kernel_rfl) (by kernel_rfl)) (tab_rdy 5 hT (by kernel_rfl) (by kernel_rfl) (by kernel_rfl)) (fun _ _ _ h => h) (Or.inl ⟨by kernel_rfl, ?h143⟩) (by assumption) ?r143
    case h143 => (intro w9 hSw; clear hSw; go_simp; try with_reducible rfl)
    try simp only [Act.put, setIfInBounds_toArray, set_cons_zero, set_cons_succ, getElem_toArray, getElem_cons_zero, getElem_cons_succ]
    refine wpAnyH_take (i := 8) (oi := { dst := some 176, op := Go.Op.move (Go.Operand.tmp 22), type := 33, pos := "law.go:240", after := #[], guard := none }) (v := ?v144) (by kernel_rfl) (tab_ns hT) (tab_free 37 hT (by kernel_rfl) (by kernel_rfl)) (tab_rdy 37 hT (by kernel_rfl) (by kernel_rfl) (by kernel_rfl)) (fun _ _ _ h => h) (Or.inl ⟨by kernel_rfl, ?h144⟩) (by assumption) ?r144
    case h144 => (intro w9 hSw; clear hSw; go_simp; try with_reducible rfl)
    try simp only [Act.put, setIfInBounds_toArray, set_cons_zero, set_cons_succ, getElem_toArray, getElem_cons_zero, getElem_cons_succ]
    refine wpAnyH_ready (rs := [1]) (tab_ready 293 hT (by kernel_rfl) (by kernel_rfl) (by kernel_rfl)) (by simp) ?_
    refine AllReadyH.con1 (o := { dst := some 169, op := Go.Op.call { callee := Go.Callee.value (Go.Operand.func 22), args := #[Go.Operand.tmp 168], argTypes := #[33] }, type := 3, pos := "law.go:240", after := #[{ on := 0, ground := Go.Ground.data }], guard := none }) (by kernel_rfl) (by kernel_rfl) (fun K hK => ?_) AllReadyH.nil
    go_simp
    with_reducible refine (num_any _ _).mono ?_
    rintro e v124 ⟨rfl, rfl⟩
    clear hS; refine hK.out _ _ ⟨DX, DA, DB, DC, DD, D23, D24⟩ (fun hS => ?_); clear hK K
    try simp only [Act.put, setIfInBounds_toArray, set_cons_zero, set_cons_succ, getElem_toArray, getElem_cons_zero, getElem_cons_succ]
    refine wpAnyH_ready (rs := [3]) (tab_ready 295 hT (by kernel_rfl) (by kernel_rfl) (by kernel_rfl)) (by simp) ?_
    refine AllReadyH.con1 (o := { dst := some 171, op := Go.Op.call { callee := Go.Callee.value (Go.Operand.func 22), args := #[Go.Operand.tmp 170], argTypes := #[33] }, type := 3, pos := "law.go:240", after := #[{ on := 2, ground := Go.Ground.data }, { on := 1, ground := Go.Ground.chain }], guard := none }) (by kernel_rfl) (by kernel_rfl) (fun K hK => ?_) AllReadyH.nil
    go_simp
    with_reducible refine (num_any _ _).mono ?_
    rintro e v125 ⟨rfl, rfl⟩
    clear hS; refine hK.out _ _ ⟨DX, DA, DB, DC, DD, D23, D24⟩ (fun hS => ?_); clear hK K
    try simp only [Act.put, setIfInBounds_toArray, set_cons_zero, set_cons_succ, getElem_toArray, getElem_cons_zero, getElem_cons_succ]
    refine wpAnyH_take (i := 4) (oi := { dst := some 172, op := Go.Op.binOp Go.BinOp.add 3 (Go.Operand.tmp 169) (Go.Operand.tmp 171) 3, type := 3, pos := "law.go:240", after := #[{ on := 1, ground := Go.Ground.data }, { on := 3, ground := Go.Ground.data }], guard := none }) (v := ?v145) (by kernel_rfl) (tab_ns hT) (tab_free 303 hT (by kernel_rfl) (by kernel_rfl)) (tab_rdy 303 hT (by kernel_rfl) (by kernel_rfl) (by kernel_rfl)) (fun _ _ _ h => h) (Or.inl ⟨by kernel_rfl, ?h145⟩) (by assumption) ?r145
    case h145 => (intro w9 hSw; clear hSw; go_simp; try with_reducible rfl)
    try simp only [Act.put, setIfInBounds_toArray, set_cons_zero, set_cons_succ, getElem_toArray, getElem_cons_zero, getElem_cons_succ]
    refine wpAnyH_ready (rs := [6]) (tab_ready 319 hT (by kernel_rfl) (by kernel_rfl) (by kernel_rfl)) (by simp) ?_
    refine AllReadyH.con1 (o := { dst := some 174, op := Go.Op.call { callee := Go.Callee.value (Go.Operand.func 22), args := #[Go.Operand.tmp 173], argTypes := #[33] }, type := 3, pos := "law.go:240", after := #[{ on := 5, ground := Go.Ground.data }, { on := 3, ground := Go.Ground.chain }], guard := none }) (by kernel_rfl) (by kernel_rfl) (fun K hK => ?_) AllReadyH.nil
    go_simp
    with_reducible refine (num_any _ _).mono ?_
    rintro e v126 ⟨rfl, rfl⟩
    clear hS; refine hK.out _ _ ⟨DX, DA, DB, DC, DD, D23, D24⟩ (fun hS => ?_); clear hK K
    try simp only [Act.put, setIfInBounds_toArray, set_cons_zero, set_cons_succ, getElem_toArray, getElem_cons_zero, getElem_cons_succ]
    refine wpAnyH_take (i := 7) (oi := { dst := some 175, op := Go.Op.binOp Go.BinOp.add 3 (Go.Operand.tmp 172) (Go.Operand.tmp 174) 3, type := 3, pos := "law.go:240", after := #[{ on := 4, ground := Go.Ground.data }, { on := 6, ground := Go.Ground.data }], guard := none }) (v := ?v146) (by kernel_rfl) (tab_ns hT) (tab_free 383 hT (by kernel_rfl) (by kernel_rfl)) (tab_rdy 383 hT (by kernel_rfl) (by kernel_rfl) (by kernel_rfl)) (fun _ _ _ h => h) (Or.inl ⟨by kernel_rfl, ?h146⟩) (by assumption) ?r146
    case h146 => (intro w9 hSw; clear hSw; go_simp; try with_reducible rfl)
    try simp only [Act.put, setIfInBounds_toArray, set_cons_zero, set_cons_succ, getElem_toArray, getElem_cons_zero, getElem_cons_succ]
    refine wpAnyH_ready (rs := [9]) (tab_ready 511 hT (by kernel_rfl) (by kernel_rfl) (by kernel_rfl)) (by simp) ?_
    refine AllReadyH.con1 (o := { dst := some 177, op := Go.Op.call { callee := Go.Callee.value (Go.Operand.func 22), args := #[Go.Operand.tmp 176], argTypes := #[33] }, type := 3, pos := "law.go:240", after := #[{ on := 8, ground := Go.Ground.data }, { on := 6, ground := Go.Ground.chain }], guard := none }) (by kernel_rfl) (by kernel_rfl) (fun K hK => ?_) AllReadyH.nil
    go_simp
    with_reducible refine (num_any _ _).mono ?_
    rintro e v127 ⟨rfl, rfl⟩
    clear hS; refine hK.out _ _ ⟨DX, DA, DB, DC, DD, D23, D24⟩ (fun hS => ?_); clear hK K
    try simp only [Act.put, setIfInBounds_toArray, set_cons_zero, set_cons_succ, getElem_toArray, getElem_cons_zero, getElem_cons_succ]
    refine wpAnyH_take (i := 10) (oi := { dst := some 178, op := Go.Op.binOp Go.BinOp.add 3 (Go.Operand.tmp 175) (Go.Operand.tmp 177) 3, type := 3, pos := "law.go:240", after := #[{ on := 7, ground := Go.Ground.data }, { on := 9, ground := Go.Ground.data }], guard := none }) (v := ?v147) (by kernel_rfl) (tab_ns hT) (tab_free 1023 hT (by kernel_rfl) (by kernel_rfl)) (tab_rdy 1023 hT (by kernel_rfl) (by kernel_rfl) (by kernel_rfl)) (fun _ _ _ h => h) (Or.inl ⟨by kernel_rfl, ?h147⟩) (by assumption) ?r147
    case h147 => (intro w9 hSw; clear hSw; go_simp; try with_reducible rfl)
    try simp only [Act.put, setIfInBounds_toArray, set_cons_zero, set_cons_succ, getElem_toArray, getElem_cons_zero, getElem_cons_succ]
    refine wpAnyH_take (i := 11) (oi := { dst := some 179, op := Go.Op.binOp Go.BinOp.eql 3 (Go.Operand.tmp 178) (Go.Operand.const (Go.Value.int Go.IntKind.i64 0)) 3, type := 4, pos := "law.go:240", after := #[{ on := 10, ground := Go.Ground.data }], guard := none }) (v := ?v148) (by kernel_rfl) (tab_ns hT) (tab_free 2047 hT (by kernel_rfl) (by kernel_rfl)) (tab_rdy 2047 hT (by kernel_rfl) (by kernel_rfl) (by kernel_rfl)) (fun _ _ _ h => h) (Or.inl ⟨by kernel_rfl, ?h148⟩) (by assumption) ?r148
    case h148 => (intro w9 hSw; clear hSw; go_simp; try with_reducible rfl)
    try simp only [Act.put, setIfInBounds_toArray, set_cons_zero, set_cons_succ, getElem_toArray, getElem_cons_zero, getElem_cons_succ]
    refine wpAnyH_take (i := 12) (oi := { dst := some 180, op := Go.Op.move (Go.Operand.tmp 179), type := 4, pos := "law.go:240", after := #[{ on := 11, ground := Go.Ground.data }, { on := 9, ground := Go.Ground.chain }], guard := none }) (v := ?v149) (by kernel_rfl) (tab_ns hT) (tab_free 4095 hT (by kernel_rfl) (by kernel_rfl)) (tab_rdy 4095 hT (by kernel_rfl) (by kernel_rfl) (by kernel_rfl)) (fun _ _ _ h => h) (Or.inl ⟨by kernel_rfl, ?h149⟩) (by assumption) ?r149
    case h149 => (intro w9 hSw; clear hSw; go_simp; try with_reducible rfl)
    try simp only [Act.put, setIfInBounds_toArray, set_cons_zero, set_cons_succ, getElem_toArray, getElem_cons_zero, getElem_cons_succ]
    refine wpAnyH_take (i := 13) (oi := { dst := some 181, op := Go.Op.move (Go.Operand.tmp 27), type := 33, pos := "law.go:240", after := #[{ on := 12, ground := Go.Ground.guard }], guard := some (12, true) }) (v := ?v150) (by kernel_rfl) (tab_ns hT) (tab_free 8191 hT (by kernel_rfl) (by kernel_rfl)) (tab_rdy 8191 hT (by kernel_rfl) (by kernel_rfl) (by kernel_rfl)) (fun _ _ _ h => h) (Or.inl ⟨by kernel_rfl, ?h150⟩) (by assumption) ?r150
    case h150 => (intro w9 hSw; clear hSw; go_simp; try with_reducible rfl)
    try simp only [Act.put, setIfInBounds_toArray, set_cons_zero, set_cons_succ, getElem_toArray, getElem_cons_zero, getElem_cons_succ]
    refine wpAnyH_ready (rs := [14]) (tab_ready 16383 hT (by kernel_rfl) (by kernel_rfl) (by kernel_rfl)) (by simp) ?_
    refine AllReadyH.con1 (o := { dst := some 182, op := Go.Op.call { callee := Go.Callee.value (Go.Operand.func 22), args := #[Go.Operand.tmp 181], argTypes := #[33] }, type := 3, pos := "law.go:240", after := #[{ on := 13, ground := Go.Ground.data }, { on := 12, ground := Go.Ground.chain }, { on := 12, ground := Go.Ground.guard }], guard := some (12, true) }) (by kernel_rfl) (by kernel_rfl) (fun K hK => ?_) AllReadyH.nil
    go_simp
    with_reducible refine (num_any _ _).mono ?_
    rintro e v128 ⟨rfl, rfl⟩
    clear hS; refine hK.out _ _ ⟨DX, DA, DB, DC, DD, D23, D24⟩ (fun hS => ?_); clear hK K
    try simp only [Act.put, setIfInBounds_toArray, set_cons_zero, set_cons_succ, getElem_toArray, getElem_cons_zero, getElem_cons_succ]
    refine wpAnyH_take (i := 15) (oi := { dst := some 183, op := Go.Op.binOp Go.BinOp.eql 3 (Go.Operand.tmp 182) (Go.Operand.const (Go.Value.int Go.IntKind.i64 8)) 3, type := 4, pos := "law.go:240", after := #[{ on := 14, ground := Go.Ground.data }, { on := 12, ground := Go.Ground.guard }], guard := some (12, true) }) (v := ?v151) (by kernel_rfl) (tab_ns hT) (tab_free 32767 hT (by kernel_rfl) (by kernel_rfl)) (tab_rdy 32767 hT (by kernel_rfl) (by kernel_rfl) (by kernel_rfl)) (fun _ _ _ h => h) (Or.inl ⟨by kernel_rfl, ?h151⟩) (by assumption) ?r151
    case h151 => (intro w9 hSw; clear hSw; go_simp; try with_reducible rfl)
    try simp only [Act.put, setIfInBounds_toArray, set_cons_zero, set_cons_succ, getElem_toArray, getElem_cons_zero, getElem_cons_succ]
    refine wpAnyH_take (i := 16) (oi := { dst := some 184, op := Go.Op.pick (Go.Operand.tmp 180) (Go.Operand.tmp 183) (Go.Operand.const (Go.Value.bool false)), type := 4, pos := "law.go:240", after := #[{ on := 12, ground := Go.Ground.data }, { on := 15, ground := Go.Ground.data }], guard := none }) (v := ?v152) (by kernel_rfl) (tab_ns hT) (tab_free 65535 hT (by kernel_rfl) (by kernel_rfl)) (tab_rdy 65535 hT (by kernel_rfl) (by kernel_rfl) (by kernel_rfl)) (fun _ _ _ h => h) (Or.inl ⟨by kernel_rfl, ?h152⟩) (by assumption) ?r152
    case h152 => (intro w9 hSw; clear hSw; go_simp; try with_reducible rfl)
    try simp only [Act.put, setIfInBounds_toArray, set_cons_zero, set_cons_succ, getElem_toArray, getElem_cons_zero, getElem_cons_succ]
    refine wpAnyH_take (i := 17) (oi := { dst := some 185, op := Go.Op.move (Go.Operand.tmp 184), type := 4, pos := "law.go:240", after := #[{ on := 16, ground := Go.Ground.data }, { on := 14, ground := Go.Ground.chain }], guard := none }) (v := ?v153) (by kernel_rfl) (tab_ns hT) (tab_free 131071 hT (by kernel_rfl) (by kernel_rfl)) (tab_rdy 131071 hT (by kernel_rfl) (by kernel_rfl) (by kernel_rfl)) (fun _ _ _ h => h) (Or.inl ⟨by kernel_rfl, ?h153⟩) (by assumption) ?r153
    case h153 => (intro w9 hSw; clear hSw; go_simp; try with_reducible rfl)
    try simp only [Act.put, setIfInBounds_toArray, set_cons_zero, set_cons_succ, getElem_toArray, getElem_cons_zero, getElem_cons_succ]
    refine wpAnyH_take (i := 18) (oi := { dst := some 186, op := Go.Op.load 30 (Go.Operand.tmp 12), type := 30, pos := "law.go:240", after := #[{ on := 17, ground := Go.Ground.guard }], guard := some (17, true) }) (v := ?v154) (by kernel_rfl) (tab_ns hT) (tab_free 262143 hT (by kernel_rfl) (by kernel_rfl)) (tab_rdy 262143 hT (by kernel_rfl) (by kernel_rfl) (by kernel_rfl)) (fun _ _ _ h => h) (Or.inl ⟨by kernel_rfl, ?h154⟩) (by assumption) ?r154
    case h154 => (intro w9 hSw; obtain ⟨m0, m1, m2, m3, m4, m5, m6⟩ := hSw; refine (ld_v (by rfl) (by kernel_rfl) m1).trans ?_; with_reducible rfl)
    try simp only [Act.put, setIfInBounds_toArray, set_cons_zero, set_cons_succ, getElem_toArray, getElem_cons_zero, getElem_cons_succ]
    refine wpAnyH_take (i := 19) (oi := { dst := some 187, op := Go.Op.move (Go.Operand.tmp 0), type := 32, pos := "law.go:240", after := #[{ on := 17, ground := Go.Ground.guard }], guard := some (17, true) }) (v := ?v155) (by kernel_rfl) (tab_ns hT) (tab_free 524287 hT (by kernel_rfl) (by kernel_rfl)) (tab_rdy 524287 hT (by kernel_rfl) (by kernel_rfl) (by kernel_rfl)) (fun _ _ _ h => h) (Or.inl ⟨by kernel_rfl, ?h155⟩) (by assumption) ?r155
    case h155 => (intro w9 hSw; clear hSw; go_simp; try with_reducible rfl)
    try simp only [Act.put, setIfInBounds_toArray, set_cons_zero, set_cons_succ, getElem_toArray, getElem_cons_zero, getElem_cons_succ]
    refine wpAnyH_take (i := 20) (oi := { dst := some 188, op := Go.Op.load 24 (Go.Operand.tmp 6), type := 24, pos := "law.go:240", after := #[{ on := 17, ground := Go.Ground.guard }], guard := some (17, true) }) (v := ?v156) (by kernel_rfl) (tab_ns hT) (tab_free 1048575 hT (by kernel_rfl) (by kernel_rfl)) (tab_rdy 1048575 hT (by kernel_rfl) (by kernel_rfl) (by kernel_rfl)) (fun _ _ _ h => h) (Or.inl ⟨by kernel_rfl, ?h156⟩) (by assumption) ?r156
    case h156 => (intro w9 hSw; obtain ⟨m0, m1, m2, m3, m4, m5, m6⟩ := hSw; obtain ⟨q0_0, q0_1, q0_2, q0_3, q0_4, q0_5⟩ := Mbx.cells m0; obtain ⟨q1_0, q1_1, q1_2, q1_3, q1_4, q1_5⟩ := Mbx.cells m5; obtain ⟨q2_0, q2_1, q2_2, q2_3, q2_4, q2_5⟩ := Mbx.cells m6; go_simp; try with_reducible rfl)
    try simp only [Act.put, setIfInBounds_toArray, set_cons_zero, set_cons_succ, getElem_toArray, getElem_cons_zero, getElem_cons_succ]
    refine wpAnyH_take (i := 21) (oi := { dst := some 189, op := Go.Op.load 24 (Go.Operand.tmp 23), type := 24, pos := "law.go:240", after := #[{ on := 17, ground := Go.Ground.guard }], guard := some (17, true) }) (v := ?v157) (by kernel_rfl) (tab_ns hT) (tab_free 2097151 hT (by kernel_rfl) (by kernel_rfl)) (tab_rdy 2097151 hT (by kernel_rfl) (by kernel_rfl) (by kernel_rfl)) (fun _ _ _ h => h) (Or.inl ⟨by kernel_rfl, ?h157⟩) (by assumption) ?r157
    case h157 => (intro w9 hSw; obtain ⟨m0, m1, m2, m3, m4, m5, m6⟩ := hSw; obtain ⟨q0_0, q0_1, q0_2, q0_3, q0_4, q0_5⟩ := Mbx.cells m0; obtain ⟨q1_0, q1_1, q1_2, q1_3, q1_4, q1_5⟩ := Mbx.cells m5; obtain ⟨q2_0, q2_1, q2_2, q2_3, q2_4, q2_5⟩ := Mbx.cells m6; go_simp; try with_reducible rfl)
    try simp only [Act.put, setIfInBounds_toArray, set_cons_zero, set_cons_succ, getElem_toArray, getElem_cons_zero, getElem_cons_succ]
    refine wpAnyH_take (i := 22) (oi := { dst := some 190, op := Go.Op.move (Go.Operand.tmp 2), type := 32, pos := "law.go:240", after := #[{ on := 17, ground := Go.Ground.guard }], guard := some (17, true) }) (v := ?v158) (by kernel_rfl) (tab_ns hT) (tab_free 4194303 hT (by kernel_rfl) (by kernel_rfl)) (tab_rdy 4194303 hT (by kernel_rfl) (by kernel_rfl) (by kernel_rfl)) (fun _ _ _ h => h) (Or.inl ⟨by kernel_rfl, ?h158⟩) (by assumption) ?r158
    case h158 => (intro w9 hSw; clear hSw; go_simp; try with_reducible rfl)
    try simp only [Act.put, setIfInBounds_toArray, set_cons_zero, set_cons_succ, getElem_toArray, getElem_cons_zero, getElem_cons_succ]
    refine wpAnyH_take (i := 23) (oi := { dst := some 191, op := Go.Op.load 24 (Go.Operand.tmp 6), type := 24, pos := "law.go:240", after := #[{ on := 17, ground := Go.Ground.guard }], guard := some (17, true) }) (v := ?v159) (by kernel_rfl) (tab_ns hT) (tab_free 8388607 hT (by kernel_rfl) (by kernel_rfl)) (tab_rdy 8388607 hT (by kernel_rfl) (by kernel_rfl) (by kernel_rfl)) (fun _ _ _ h => h) (Or.inl ⟨by kernel_rfl, ?h159⟩) (by assumption) ?r159
    case h159 => (intro w9 hSw; obtain ⟨m0, m1, m2, m3, m4, m5, m6⟩ := hSw; obtain ⟨q0_0, q0_1, q0_2, q0_3, q0_4, q0_5⟩ := Mbx.cells m0; obtain ⟨q1_0, q1_1, q1_2, q1_3, q1_4, q1_5⟩ := Mbx.cells m5; obtain ⟨q2_0, q2_1, q2_2, q2_3, q2_4, q2_5⟩ := Mbx.cells m6; go_simp; try with_reducible rfl)
    try simp only [Act.put, setIfInBounds_toArray, set_cons_zero, set_cons_succ, getElem_toArray, getElem_cons_zero, getElem_cons_succ]
    refine wpAnyH_ready (rs := [24]) (tab_ready 16777215 hT (by kernel_rfl) (by kernel_rfl) (by kernel_rfl)) (by simp) ?_
    refine AllReadyH.con1 (o := { dst := some 192, op := Go.Op.call { callee := Go.Callee.value (Go.Operand.func 44), args := #[Go.Operand.tmp 187, Go.Operand.tmp 188, Go.Operand.tmp 189, Go.Operand.tmp 190, Go.Operand.tmp 191], argTypes := #[32, 24, 24, 32, 24] }, type := 24, pos := "law.go:240", after := #[{ on := 19, ground := Go.Ground.data }, { on := 20, ground := Go.Ground.data }, { on := 21, ground := Go.Ground.data }, { on := 22, ground := Go.Ground.data }, { on := 23, ground := Go.Ground.data }, { on := 17, ground := Go.Ground.chain }, { on := 17, ground := Go.Ground.guard }], guard := some (17, true) }) (by kernel_rfl) (by kernel_rfl) (fun K hK => ?_) AllReadyH.nil
    go_simp
    with_reducible refine (rGemm_any (a := a) (b := b) (m := n) (q := n) (p := n) ba bb (HX.out.on bz) HNX.out hn5 hn5 (HX.out.on bz) HNX.out hn5 fS HNX.out).mono ?_
    rintro e w29 ⟨A8, k8, L8, rfl, hI8, ho8, hb⟩
    replace DX := DX.on hb
    replace hVA := hVA.on hb
    replace hVB := hVB.on hb
    replace hVC := hVC.on hb
    replace hVD := hVD.on hb
    replace DA := DA.on hb
    replace DB := DB.on hb
    replace DC := DC.on hb
    replace DD := DD.on hb
    replace fR := fR.on hb
    replace fC := fC.on hb
    replace fS := fS.on hb
    replace D23 := D23.on hb
    replace D24 := D24.on hb
    replace fK := fK.on hb
    replace bz := bz.trans (hb.mono bz.size)
    clear hb
    have f8 := hI8.fl ho8
    rw [HNX.out] at hI8
    have HI8 := Lib.hid (hI8.congr (fun k hk => ahP_same HXS.out hk))
    clear ho8 hI8
    clear hS; refine hK.out _ _ ⟨DX, DA, DB, DC, DD, D23, D24⟩ (fun hS => ?_); clear hK K
    try simp only [Act.put, setIfInBounds_toArray, set_cons_zero, set_cons_succ, getElem_toArray, getElem_cons_zero, getElem_cons_succ]
    refine wpAnyH_ready (rs := [25]) (tab_ready 33554431 hT (by kernel_rfl) (by kernel_rfl) (by kernel_rfl)) (by simp) ?_
    refine AllReadyH.con1 (o := { dst := some 193, op := Go.Op.call { callee := Go.Callee.value (Go.Operand.func 30), args := #[Go.Operand.tmp 186, Go.Operand.tmp 192], argTypes := #[30, 24] }, type := 4, pos := "law.go:240", after := #[{ on := 18, ground := Go.Ground.data }, { on := 24, ground := Go.Ground.data }, { on := 24, ground := Go.Ground.chain }, { on := 17, ground := Go.Ground.guard }], guard := some (17, true) }) (by kernel_rfl) (by kernel_rfl) (fun K hK => ?_) AllReadyH.nil
    go_simp
    with_reducible refine (shows_true hVA.sv f8 hVA.R hVA.C (Is.same HIA.out HI8.out)).mono ?_
    rintro e w30 ⟨rfl, hb⟩
    replace DX := DX.on hb
    replace hVA := hVA.on hb
    replace hVB := hVB.on hb
    replace hVC := hVC.on hb
    replace hVD := hVD.on hb
    replace DA := DA.on hb
    replace DB := DB.on hb
    replace DC := DC.on hb
    replace DD := DD.on hb
    replace fR := fR.on hb
    replace fC := fC.on hb
    replace fS := fS.on hb
    replace D23 := D23.on hb
    replace D24 := D24.on hb
    replace fK := fK.on hb
    replace f8 := f8.on hb
    replace bz := bz.trans (hb.mono bz.size)
    clear hb f8 HI8
    clear hS; refine hK.out _ _ ⟨DX, DA, DB, DC, DD, D23, D24⟩ (fun hS => ?_); clear hK K
    try simp only [Act.put, setIfInBounds_toArray, set_cons_zero, set_cons_succ, getElem_toArray, getElem_cons_zero, getElem_cons_succ]
    refine wpAnyH_take (i := 26) (oi := { dst := some 194, op := Go.Op.pick (Go.Operand.tmp 185) (Go.Operand.tmp 193) (Go.Operand.const (Go.Value.bool false)), type := 4, pos := "law.go:240", after := #[{ on := 17, ground := Go.Ground.data }, { on := 25, ground := Go.Ground.data }], guard := none }) (v := ?v160) (by kernel_rfl) (tab_ns hT) (tab_free 67108863 hT (by kernel_rfl) (by kernel_rfl)) (tab_rdy 67108863 hT (by kernel_rfl) (by kernel_rfl) (by kernel_rfl)) (fun _ _ _ h => h) (Or.inl ⟨by kernel_rfl, ?h160⟩) (by assumption) ?r160
    case h160 => (intro w9 hSw; clear hSw; go_simp; try with_reducible rfl)
    try simp only [Act.put, setIfInBounds_toArray, set_cons_zero, set_cons_succ, getElem_toArray, getElem_cons_zero, getElem_cons_succ]
    refine wpAnyH_take (i := 27) (oi := { dst := some 195, op := Go.Op.move (Go.Operand.tmp 194), type := 4, pos := "law.go:240", after := #[{ on := 26, ground := Go.Ground.data }, { on := 25, ground := Go.Ground.chain }], guard := none }) (v := ?v161) (by kernel_rfl) (tab_ns hT) (tab_free 134217727 hT (by kernel_rfl) (by kernel_rfl)) (tab_rdy 134217727 hT (by kernel_rfl) (by kernel_rfl) (by kernel_rfl)) (fun _ _ _ h => h) (Or.inl ⟨by kernel_rfl, ?h161⟩) (by assumption) ?r161
    case h161 => (intro w9 hSw; clear hSw; go_simp; try with_reducible rfl)
    try simp only [Act.put, setIfInBounds_toArray, set_cons_zero, set_cons_succ, getElem_toArray, getElem_cons_zero, getElem_cons_succ]
    refine wpAnyH_take (i := 28) (oi := { dst := some 196, op := Go.Op.load 30 (Go.Operand.tmp 13), type := 30, pos := "law.go:240", after := #[{ on := 27, ground := Go.Ground.guard }], guard := some (27, true) }) (v := ?v162) (by kernel_rfl) (tab_ns hT) (tab_free 268435455 hT (by kernel_rfl) (by kernel_rfl)) (tab_rdy 268435455 hT (by kernel_rfl) (by kernel_rfl) (by kernel_rfl)) (fun _ _ _ h => h) (Or.inl ⟨by kernel_rfl, ?h162⟩) (by assumption) ?r162
    case h162 => (intro w9 hSw; obtain ⟨m0, m1, m2, m3, m4, m5, m6⟩ := hSw; refine (ld_v (by rfl) (by kernel_rfl) m2).trans ?_; with_reducible rfl)
    try simp only [Act.put, setIfInBounds_toArray, set_cons_zero, set_cons_succ, getElem_toArray, getElem_cons_zero, getElem_cons_succ]
    refine wpAnyH_take (i := 29) (oi := { dst := some 197, op := Go.Op.move (Go.Operand.tmp 0), type := 32, pos := "law.go:240", after := #[{ on := 27, ground := Go.Ground.guard }], guard := some (27, true) }) (v := ?v163) (by kernel_rfl) (tab_ns hT) (tab_free 536870911 hT (by kernel_rfl) (by kernel_rfl)) (tab_rdy 536870911 hT (by kernel_rfl) (by kernel_rfl) (by kernel_rfl)) (fun _ _ _ h => h) (Or.inl ⟨by kernel_rfl, ?h163⟩) (by assumption) ?r163
    case h163 => (intro w9 hSw; clear hSw; go_simp; try with_reducible rfl)
    try simp only [Act.put, setIfInBounds_toArray, set_cons_zero, set_cons_succ, getElem_toArray, getElem_cons_zero, getElem_cons_succ]
    refine wpAnyH_take (i := 30) (oi := { dst := some 198, op := Go.Op.move (Go.Operand.tmp 17), type := 22, pos := "law.go:240", after := #[{ on := 27, ground := Go.Ground.guard }], guard := some (27, true) }) (v := ?v164) (by kernel_rfl) (tab_ns hT) (tab_free 1073741823 hT (by kernel_rfl) (by kernel_rfl)) (tab_rdy 1073741823 hT (by kernel_rfl) (by kernel_rfl) (by kernel_rfl)) (fun _ _ _ h => h) (Or.inl ⟨by kernel_rfl, ?h164⟩) (by assumption) ?r164
    case h164 => (intro w9 hSw; clear hSw; go_simp; try with_reducible rfl)
    try simp only [Act.put, setIfInBounds_toArray, set_cons_zero, set_cons_succ, getElem_toArray, getElem_cons_zero, getElem_cons_succ]
    refine wpAnyH_take (i := 31) (oi := { dst := some 199, op := Go.Op.move (Go.Operand.tmp 18), type := 22, pos := "law.go:240", after := #[{ on := 27, ground := Go.Ground.guard }], guard := some (27, true) }) (v := ?v165) (by kernel_rfl) (tab_ns hT) (tab_free 2147483647 hT (by kernel_rfl) (by kernel_rfl)) (tab_rdy 2147483647 hT (by kernel_rfl) (by kernel_rfl) (by kernel_rfl)) (fun _ _ _ h => h) (Or.inl ⟨by kernel_rfl, ?h165⟩) (by assumption) ?r165
    case h165 => (intro w9 hSw; clear hSw; go_simp; try with_reducible rfl)
    try simp only [Act.put, setIfInBounds_toArray, set_cons_zero, set_cons_succ, getElem_toArray, getElem_cons_zero, getElem_cons_succ]
    refine wpAnyH_take (i := 32) (oi := { dst := some 200, op := Go.Op.load 24 (Go.Operand.tmp 6), type := 24, pos := "law.go:240", after := #[{ on := 27, ground := Go.Ground.guard }], guard := some (27, true) }) (v := ?v166) (by kernel_rfl) (tab_ns hT) (tab_free 4294967295 hT (by kernel_rfl) (by kernel_rfl)) (tab_rdy 4294967295 hT (by kernel_rfl) (by kernel_rfl) (by kernel_rfl)) (fun _ _ _ h => h) (Or.inl ⟨by kernel_rfl, ?h166⟩) (by assumption) ?r166
    case h166 => (intro w9 hSw; obtain ⟨m0, m1, m2, m3, m4, m5, m6⟩ := hSw; obtain ⟨q0_0, q0_1, q0_2, q0_3, q0_4, q0_5⟩ := Mbx.cells m0; obtain ⟨q1_0, q1_1, q1_2, q1_3, q1_4, q1_5⟩ := Mbx.cells m5; obtain ⟨q2_0, q2_1, q2_2, q2_3, q2_4, q2_5⟩ := Mbx.cells m6; go_simp; try with_reducible rfl)
    try simp only [Act.put, setIfInBounds_toArray, set_cons_zero, set_cons_succ, getElem_toArray, getElem_cons_zero, getElem_cons_succ]
    refine wpAnyH_ready (rs := [33]) (tab_ready 8589934591 hT (by kernel_rfl) (by kernel_rfl) (by kernel_rfl)) (by simp) ?_
    refine AllReadyH.con1 (o := { dst := some 201, op := Go.Op.call { callee := Go.Callee.value (Go.Operand.func 40), args := #[Go.Operand.tmp 197, Go.Operand.tmp 198, Go.Operand.tmp 199, Go.Operand.tmp 200], argTypes := #[32, 22, 22, 24] }, type := 24, pos := "law.go:240", after := #[{ on := 29, ground := Go.Ground.data }, { on := 30, ground := Go.Ground.data }, { on := 31, ground := Go.Ground.data }, { on := 32, ground := Go.Ground.data }, { on := 27, ground := Go.Ground.chain }, { on := 27, ground := Go.Ground.guard }], guard := some (27, true) }) (by kernel_rfl) (by kernel_rfl) (fun K hK => ?_) AllReadyH.nil
    go_simp
    with_reducible refine (rGer_any (a := a) (m := n) (q := n) ba (HX.out.on bz) HNX.out hn5 hn5 fR fC (Nat.le_refl _) (Nat.le_refl _)).mono ?_
    rintro e w31 ⟨A8, k8, L8, rfl, hI8, ho8, hb⟩
    replace DX := DX.on hb
    replace hVA := hVA.on hb
    replace hVB := hVB.on hb
    replace hVC := hVC.on hb
    replace hVD := hVD.on hb
    replace DA := DA.on hb
    replace DB := DB.on hb
    replace DC := DC.on hb
    replace DD := DD.on hb
    replace fR := fR.on hb
    replace fC := fC.on hb
    replace fS := fS.on hb
    replace D23 := D23.on hb
    replace D24 := D24.on hb
    replace fK := fK.on hb
    replace bz := bz.trans (hb.mono bz.size)
    clear hb
    have f8 := hI8.fl ho8
    rw [HNX.out] at hI8
    have HI8 := Lib.hid (hI8.congr (fun k hk => ahG_same HFR.out HFC.out hk))
    clear ho8 hI8
    clear hS; refine hK.out _ _ ⟨DX, DA, DB, DC, DD, D23, D24⟩ (fun hS => ?_); clear hK K
    try simp only [Act.put, setIfInBounds_toArray, set_cons_zero, set_cons_succ, getElem_toArray, getElem_cons_zero, getElem_cons_succ]
    refine wpAnyH_ready (rs := [34]) (tab_ready 17179869183 hT (by kernel_rfl) (by kernel_rfl) (by kernel_rfl)) (by simp) ?_
    refine AllReadyH.con1 (o := { dst := some 202, op := Go.Op.call { callee := Go.Callee.value (Go.Operand.func 30), args := #[Go.Operand.tmp 196, Go.Operand.tmp 201], argTypes := #[30, 24] }, type := 4, pos := "law.go:240", after := #[{ on := 28, ground := Go.Ground.data }, { on := 33, ground := Go.Ground.data }, { on := 33, ground := Go.Ground.chain }, { on := 27, ground := Go.Ground.guard }], guard := some (27, true) }) (by kernel_rfl) (by kernel_rfl) (fun K hK => ?_) AllReadyH.nil
    go_simp
    with_reducible refine (shows_true hVB.sv f8 hVB.R hVB.C (Is.same HIB.out HI8.out)).mono ?_
    rintro e w32 ⟨rfl, hb⟩
    replace DX := DX.on hb
    replace hVA := hVA.on hb
    replace hVB := hVB.on hb
    replace hVC := hVC.on hb
    replace hVD := hVD.on hb
    replace DA := DA.on hb
    replace DB := DB.on hb
    replace DC := DC.on hb
    replace DD := DD.on hb
    replace fR := fR.on hb
    replace fC := fC.on hb
    replace fS := fS.on hb
    replace D23 := D23.on hb
    replace D24 := D24.on hb
    replace fK := fK.on hb
    replace f8 := f8.on hb
    replace bz := bz.trans (hb.mono bz.size)
    clear hb f8 HI8
    clear hS; refine hK.out _ _ ⟨DX, DA, DB, DC, DD, D23, D24⟩ (fun hS => ?_); clear hK K
    try simp only [Act.put, setIfInBounds_toArray, set_cons_zero, set_cons_succ, getElem_toArray, getElem_cons_zero, getElem_cons_succ]
    refine wpAnyH_take (i := 35) (oi := { dst := some 203, op := Go.Op.pick (Go.Operand.tmp 195) (Go.Operand.tmp 202) (Go.Operand.const (Go.Value.bool false)), type := 4, pos := "law.go:240", after := #[{ on := 27, ground := Go.Ground.data }, { on := 34, ground := Go.Ground.data }], guard := none }) (v := ?v167) (by kernel_rfl) (tab_ns hT) (tab_free 34359738367 hT (by kernel_rfl) (by kernel_rfl)) (tab_rdy 34359738367 hT (by kernel_rfl) (by kernel_rfl) (by kernel_rfl)) (fun _ _ _ h => h) (Or.inl ⟨by kernel_rfl, ?h167⟩) (by assumption) ?r167
    case h167 => (intro w9 hSw; clear hSw; go_simp; try with_reducible rfl)
    try simp only [Act.put, setIfInBounds_toArray, set_cons_zero, set_cons_succ, getElem_toArray, getElem_cons_zero, getElem_cons_succ]
    refine wpAnyH_take (i := 36) (oi := { dst := some 204, op := Go.Op.move (Go.Operand.tmp 203), type := 4, pos := "law.go:240", after := #[{ on := 35, ground := Go.Ground.data }, { on := 34, ground := Go.Ground.chain }], guard := none }) (v := ?v168) (by kernel_rfl) (tab_ns hT) (tab_free 68719476735 hT (by kernel_rfl) (by kernel_rfl)) (tab_rdy 68719476735 hT (by kernel_rfl) (by kernel_rfl) (by kernel_rfl)) (fun _ _ _ h => h) (Or.inl ⟨by kernel_rfl, ?h168⟩) (by assumption) ?r168
    case h168 => (intro w9 hSw; clear hSw; go_simp; try with_reducible rfl)
    try simp only [Act.put, setIfInBounds_toArray, set_cons_zero, set_cons_succ, getElem_toArray, getElem_cons_zero, getElem_cons_succ]
    refine wpAnyH_take (i := 37) (oi := { dst := some 205, op := Go.Op.load 30 (Go.Operand.tmp 14), type := 30, pos := "law.go:240", after := #[{ on := 36, ground := Go.Ground.guard }], guard := some (36, true) }) (v := ?v169) (by kernel_rfl) (tab_ns hT) (tab_free 137438953471 hT (by kernel_rfl) (by kernel_rfl)) (tab_rdy 137438953471 hT (by kernel_rfl) (by kernel_rfl) (by kernel_rfl)) (fun _ _ _ h => h) (Or.inl ⟨by kernel_rfl, ?h169⟩) (by assumption) ?r169
    case h169 => (intro w9 hSw; obtain ⟨m0, m1, m2, m3, m4, m5, m6⟩ := hSw; refine (ld_v (by rfl) (by kernel_rfl) m3).trans ?_; with_reducible rfl)
    try simp only [Act.put, setIfInBounds_toArray, set_cons_zero, set_cons_succ, getElem_toArray, getElem_cons_zero, getElem_cons_succ]
    refine wpAnyH_take (i := 38) (oi := { dst := some 206, op := Go.Op.move (Go.Operand.tmp 4), type := 4, pos := "law.go:240", after := #[{ on := 36, ground := Go.Ground.guard }], guard := some (36, true) }) (v := ?v170) (by kernel_rfl) (tab_ns hT) (tab_free 274877906943 hT (by kernel_rfl) (by kernel_rfl)) (tab_rdy 274877906943 hT (by kernel_rfl) (by kernel_rfl) (by kernel_rfl)) (fun _ _ _ h => h) (Or.inl ⟨by kernel_rfl, ?h170⟩) (by assumption) ?r170
    case h170 => (intro w9 hSw; clear hSw; go_simp; try with_reducible rfl)
    try simp only [Act.put, setIfInBounds_toArray, set_cons_zero, set_cons_succ, getElem_toArray, getElem_cons_zero, getElem_cons_succ]
    refine wpAnyH_take (i := 39) (oi := { dst := some 207, op := Go.Op.load 24 (Go.Operand.tmp 6), type := 24, pos := "law.go:240", after := #[{ on := 36, ground := Go.Ground.guard }], guard := some (36, true) }) (v := ?v171) (by kernel_rfl) (tab_ns hT) (tab_free 549755813887 hT (by kernel_rfl) (by kernel_rfl)) (tab_rdy 549755813887 hT (by kernel_rfl) (by kernel_rfl) (by kernel_rfl)) (fun _ _ _ h => h) (Or.inl ⟨by kernel_rfl, ?h171⟩) (by assumption) ?r171
    case h171 => (intro w9 hSw; obtain ⟨m0, m1, m2, m3, m4, m5, m6⟩ := hSw; obtain ⟨q0_0, q0_1, q0_2, q0_3, q0_4, q0_5⟩ := Mbx.cells m0; obtain ⟨q1_0, q1_1, q1_2, q1_3, q1_4, q1_5⟩ := Mbx.cells m5; obtain ⟨q2_0, q2_1, q2_2, q2_3, q2_4, q2_5⟩ := Mbx.cells m6; go_simp; try with_reducible rfl)
    try simp only [Act.put, setIfInBounds_toArray, set_cons_zero, set_cons_succ, getElem_toArray, getElem_cons_zero, getElem_cons_succ]
    refine wpAnyH_take (i := 40) (oi := { dst := some 208, op := Go.Op.load 24 (Go.Operand.tmp 6), type := 24, pos := "law.go:240", after := #[{ on := 36, ground := Go.Ground.guard }], guard := some (36, true) }) (v := ?v172) (by kernel_rfl) (tab_ns hT) (tab_free 1099511627775 hT (by kernel_rfl) (by kernel_rfl)) (tab_rdy 1099511627775 hT (by kernel_rfl) (by kernel_rfl) (by kernel_rfl)) (fun _ _ _ h => h) (Or.inl ⟨by kernel_rfl, ?h172⟩) (by assumption) ?r172
    case h172 => (intro w9 hSw; obtain ⟨m0, m1, m2, m3, m4, m5, m6⟩ := hSw; obtain ⟨q0_0, q0_1, q0_2, q0_3, q0_4, q0_5⟩ := Mbx.cells m0; obtain ⟨q1_0, q1_1, q1_2, q1_3, q1_4, q1_5⟩ := Mbx.cells m5; obtain ⟨q2_0, q2_1, q2_2, q2_3, q2_4, q2_5⟩ := Mbx.cells m6; go_simp; try with_reducible rfl)
    try simp only [Act.put, setIfInBounds_toArray, set_cons_zero, set_cons_succ, getElem_toArray, getElem_cons_zero, getElem_cons_succ]
    refine wpAnyH_ready (rs := [41]) (tab_ready 2199023255551 hT (by kernel_rfl) (by kernel_rfl) (by kernel_rfl)) (by simp) ?_
    refine AllReadyH.con1 (o := { dst := some 209, op := Go.Op.call { callee := Go.Callee.value (Go.Operand.func 48), args := #[Go.Operand.tmp 206, Go.Operand.const (Go.Value.bool false), Go.Operand.tmp 207, Go.Operand.tmp 208], argTypes := #[4, 4, 24, 24] }, type := 24, pos := "law.go:240", after := #[{ on := 38, ground := Go.Ground.data }, { on := 39, ground := Go.Ground.data }, { on := 40, ground := Go.Ground.data }, { on := 36, ground := Go.Ground.chain }, { on := 36, ground := Go.Ground.guard }], guard := some (36, true) }) (by kernel_rfl) (by kernel_rfl) (fun K hK => ?_) AllReadyH.nil
    go_simp
    with_reducible refine (rTrmm_any (up := up) (unit := false) (m := n) (q := n) (HX.out.on bz) HNX.out hn5 hn5 (HX.out.on bz) HNX.out).mono ?_
    rintro e w33 ⟨A8, k8, L8, rfl, hI8, ho8, hb⟩
    replace DX := DX.on hb
    replace hVA := hVA.on hb
    replace hVB := hVB.on hb
    replace hVC := hVC.on hb
    replace hVD := hVD.on hb
    replace DA := DA.on hb
    replace DB := DB.on hb
    replace DC := DC.on hb
    replace DD := DD.on hb
    replace fR := fR.on hb
    replace fC := fC.on hb
    replace fS := fS.on hb
    replace D23 := D23.on hb
    replace D24 := D24.on hb
    replace fK := fK.on hb
    replace bz := bz.trans (hb.mono bz.size)
    clear hb
    have f8 := hI8.fl ho8
    rw [HNX.out] at hI8
    have HI8 := Lib.hid (hI8.congr (fun k hk => rfl))
    clear ho8 hI8
    clear hS; refine hK.out _ _ ⟨DX, DA, DB, DC, DD, D23, D24⟩ (fun hS => ?_); clear hK K
    try simp only [Act.put, setIfInBounds_toArray, set_cons_zero, set_cons_succ, getElem_toArray, getElem_cons_zero, getElem_cons_succ]
    refine wpAnyH_ready (rs := [42]) (tab_ready 4398046511103 hT (by kernel_rfl) (by kernel_rfl) (by kernel_rfl)) (by simp) ?_
    refine AllReadyH.con1 (o := { dst := some 210, op := Go.Op.call { callee := Go.Callee.value (Go.Operand.func 30), args := #[Go.Operand.tmp 205, Go.Operand.tmp 209], argTypes := #[30, 24] }, type := 4, pos := "law.go:240", after := #[{ on := 37, ground := Go.Ground.data }, { on := 41, ground := Go.Ground.data }, { on := 41, ground := Go.Ground.chain }, { on := 36, ground := Go.Ground.guard }], guard := some (36, true) }) (by kernel_rfl) (by kernel_rfl) (fun K hK => ?_) AllReadyH.nil
    go_simp
    with_reducible refine (shows_true hVC.sv f8 hVC.R hVC.C (Is.same HIC.out HI8.out)).mono ?_
    rintro e w34 ⟨rfl, hb⟩
    replace DX := DX.on hb
    replace hVA := hVA.on hb
    replace hVB := hVB.on hb
    replace hVC := hVC.on hb
    replace hVD := hVD.on hb
    replace DA := DA.on hb
    replace DB := DB.on hb
    replace DC := DC.on hb
    replace DD := DD.on hb
    replace fR := fR.on hb
    replace fC := fC.on hb
    replace fS := fS.on hb
    replace D23 := D23.on hb
    replace D24 := D24.on hb
    replace fK := fK.on hb
    replace f8 := f8.on hb
    replace bz := bz.trans (hb.mono bz.size)
    clear hb f8 HI8
    clear hS; refine hK.out _ _ ⟨DX, DA, DB, DC, DD, D23, D24⟩ (fun hS => ?_); clear hK K
    try simp only [Act.put, setIfInBounds_toArray, set_cons_zero, set_cons_succ, getElem_toArray, getElem_cons_zero, getElem_cons_succ]
    refine wpAnyH_take (i := 43) (oi := { dst := some 211, op := Go.Op.pick (Go.Operand.tmp 204) (Go.Operand.tmp 210) (Go.Operand.const (Go.Value.bool false)), type := 4, pos := "law.go:240", after := #[{ on := 36, ground := Go.Ground.data }, { on := 42, ground := Go.Ground.data }], guard := none }) (v := ?v173) (by kernel_rfl) (tab_ns hT) (tab_free 8796093022207 hT (by kernel_rfl) (by kernel_rfl)) (tab_rdy 8796093022207 hT (by kernel_rfl) (by kernel_rfl) (by kernel_rfl)) (fun _ _ _ h => h) (Or.inl ⟨by kernel_rfl, ?h173⟩) (by assumption) ?r173
    case h173 => (intro w9 hSw; clear hSw; go_simp; try with_reducible rfl)
    try simp only [Act.put, setIfInBounds_toArray, set_cons_zero, set_cons_succ, getElem_toArray, getElem_cons_zero, getElem_cons_succ]
    refine wpAnyH_take (i := 44) (oi := { dst := some 212, op := Go.Op.move (Go.Operand.tmp 211), type := 4, pos := "law.go:240", after := #[{ on := 43, ground := Go.Ground.data }, { on := 42, ground := Go.Ground.chain }], guard := none }) (v := ?v174) (by kernel_rfl) (tab_ns hT) (tab_free 17592186044415 hT (by kernel_rfl) (by kernel_rfl)) (tab_rdy 17592186044415 hT (by kernel_rfl) (by kernel_rfl) (by kernel_rfl)) (fun _ _ _ h => h) (Or.inl ⟨by kernel_rfl, ?h174⟩) (by assumption) ?r174
    case h174 => (intro w9 hSw; clear hSw; go_simp; try with_reducible rfl)
    try simp only [Act.put, setIfInBounds_toArray, set_cons_zero, set_cons_succ, getElem_toArray, getElem_cons_zero, getElem_cons_succ]
    refine wpAnyH_take (i := 45) (oi := { dst := some 213, op := Go.Op.load 30 (Go.Operand.tmp 15), type := 30, pos := "law.go:240", after := #[{ on := 44, ground := Go.Ground.guard }], guard := some (44, true) }) (v := ?v175) (by kernel_rfl) (tab_ns hT) (tab_free 35184372088831 hT (by kernel_rfl) (by kernel_rfl)) (tab_rdy 35184372088831 hT (by kernel_rfl) (by kernel_rfl) (by kernel_rfl)) (fun _ _ _ h => h) (Or.inl ⟨by kernel_rfl, ?h175⟩) (by assumption) ?r175
    case h175 => (intro w9 hSw; obtain ⟨m0, m1, m2, m3, m4, m5, m6⟩ := hSw; refine (ld_v (by rfl) (by kernel_rfl) m4).trans ?_; with_reducible rfl)
    try simp only [Act.put, setIfInBounds_toArray, set_cons_zero, set_cons_succ, getElem_toArray, getElem_cons_zero, getElem_cons_succ]
    refine wpAnyH_take (i := 46) (oi := { dst := some 214, op := Go.Op.load 24 (Go.Operand.tmp 24), type := 24, pos := "law.go:240", after := #[{ on := 44, ground := Go.Ground.guard }], guard := some (44, true) }) (v := ?v176) (by kernel_rfl) (tab_ns hT) (tab_free 70368744177663 hT (by kernel_rfl) (by kernel_rfl)) (tab_rdy 70368744177663 hT (by kernel_rfl) (by kernel_rfl) (by kernel_rfl)) (fun _ _ _ h => h) (Or.inl ⟨by kernel_rfl, ?h176⟩) (by assumption) ?r176
    case h176 => (intro w9 hSw; obtain ⟨m0, m1, m2, m3, m4, m5, m6⟩ := hSw; obtain ⟨q0_0, q0_1, q0_2, q0_3, q0_4, q0_5⟩ := Mbx.cells m0; obtain ⟨q1_0, q1_1, q1_2, q1_3, q1_4, q1_5⟩ := Mbx.cells m5; obtain ⟨q2_0, q2_1, q2_2, q2_3, q2_4, q2_5⟩ := Mbx.cells m6; go_simp; try with_reducible rfl)
    try simp only [Act.put, setIfInBounds_toArray, set_cons_zero, set_cons_succ, getElem_toArray, getElem_cons_zero, getElem_cons_succ]
    refine wpAnyH_ready (rs := [47]) (tab_ready 140737488355327 hT (by kernel_rfl) (by kernel_rfl) (by kernel_rfl)) (by simp) ?_
    refine AllReadyH.con1 (o := { dst := some 215, op := Go.Op.call { callee := Go.Callee.value (Go.Operand.func 30), args := #[Go.Operand.tmp 213, Go.Operand.tmp 214], argTypes := #[30, 24] }, type := 4, pos := "law.go:240", after := #[{ on := 45, ground := Go.Ground.data }, { on := 46, ground := Go.Ground.data }, { on := 44, ground := Go.Ground.chain }, { on := 44, ground := Go.Ground.guard }], guard := some (44, true) }) (by kernel_rfl) (by kernel_rfl) (fun K hK => ?_) AllReadyH.nil
    go_simp
    with_reducible refine (shows_true hVD.sv fK hVD.R hVD.C (Is.same HID.out HIK.out)).mono ?_
    rintro e w35 ⟨rfl, hb⟩
    replace DX := DX.on hb
    replace hVA := hVA.on hb
    replace hVB := hVB.on hb
    replace hVC := hVC.on hb
    replace hVD := hVD.on hb
    replace DA := DA.on hb
    replace DB := DB.on hb
    replace DC := DC.on hb
    replace DD := DD.on hb
    replace fR := fR.on hb
    replace fC := fC.on hb
    replace fS := fS.on hb
    replace D23 := D23.on hb
    replace D24 := D24.on hb
    replace fK := fK.on hb
    replace bz := bz.trans (hb.mono bz.size)
    clear hb
    clear hS; refine hK.out _ _ ⟨DX, DA, DB, DC, DD, D23, D24⟩ (fun hS => ?_); clear hK K
    try simp only [Act.put, setIfInBounds_toArray, set_cons_zero, set_cons_succ, getElem_toArray, getElem_cons_zero, getElem_cons_succ]
    refine wpAnyH_take (i := 48) (oi := { dst := some 216, op := Go.Op.pick (Go.Operand.tmp 212) (Go.Operand.tmp 215) (Go.Operand.const (Go.Value.bool false)), type := 4, pos := "law.go:240", after := #[{ on := 44, ground := Go.Ground.data }, { on := 47, ground := Go.Ground.data }], guard := none }) (v := ?v177) (by kernel_rfl) (tab_ns hT) (tab_free 281474976710655 hT (by kernel_rfl) (by kernel_rfl)) (tab_rdy 281474976710655 hT (by kernel_rfl) (by kernel_rfl) (by kernel_rfl)) (fun _ _ _ h => h) (Or.inl ⟨by kernel_rfl, ?h177⟩) (by assumption) ?r177
    case h177 => (intro w9 hSw; clear hSw; go_simp; try with_reducible rfl)
    try simp only [Act.put, setIfInBounds_toArray, set_cons_zero, set_cons_succ, getElem_toArray, getElem_cons_zero, getElem_cons_succ]
    refine wpAnyH_take (i := 49) (oi := { dst := some 217, op := Go.Op.move (Go.Operand.tmp 216), type := 4, pos := "law.go:240", after := #[{ on := 48, ground := Go.Ground.data }, { on := 47, ground := Go.Ground.chain }], guard := none }) (v := ?v178) (by kernel_rfl) (tab_ns hT) (tab_free 562949953421311 hT (by kernel_rfl) (by kernel_rfl)) (tab_rdy 562949953421311 hT (by kernel_rfl) (by kernel_rfl) (by kernel_rfl)) (fun _ _ _ h => h) (Or.inl ⟨by kernel_rfl, ?h178⟩) (by assumption) ?r178
    case h178 => (intro w9 hSw; clear hSw; go_simp; try with_reducible rfl)
    try simp only [Act.put, setIfInBounds_toArray, set_cons_zero, set_cons_succ, getElem_toArray, getElem_cons_zero, getElem_cons_succ]
    refine wpAnyH_ready (rs := [50]) (tab_ready 1125899906842623 hT (by kernel_rfl) (by kernel_rfl) (by kernel_rfl)) (by simp) ?_
    refine AllReadyH.con1 (o := { dst := some 218, op := Go.Op.call { callee := Go.Callee.value (Go.Operand.func 16), args := #[], argTypes := #[] }, type := 4, pos := "law.go:240", after := #[{ on := 49, ground := Go.Ground.chain }, { on := 49, ground := Go.Ground.guard }], guard := some (49, true) }) (by kernel_rfl) (by kernel_rfl) (fun K hK => ?_) AllReadyH.nil
    go_simp
    with_reducible refine (known_any _).mono ?_
    rintro e w36 ⟨rfl, hb⟩
    replace DX := DX.on hb
    replace hVA := hVA.on hb
    replace hVB := hVB.on hb
    replace hVC := hVC.on hb
    replace hVD := hVD.on hb
    replace DA := DA.on hb
    replace DB := DB.on hb
    replace DC := DC.on hb
    replace DD := DD.on hb
    replace fR := fR.on hb
    replace fC := fC.on hb
    replace fS := fS.on hb
    replace D23 := D23.on hb
    replace D24 := D24.on hb
    replace fK := fK.on hb
    replace bz := bz.trans (hb.mono bz.size)
    clear hb
    clear hS; refine hK.out _ _ ⟨DX, DA, DB, DC, DD, D23, D24⟩ (fun hS => ?_); clear hK K
    try simp only [Act.put, setIfInBounds_toArray, set_cons_zero, set_cons_succ, getElem_toArray, getElem_cons_zero, getElem_cons_succ]
    refine wpAnyH_take (i := 51) (oi := { dst := some 219, op := Go.Op.pick (Go.Operand.tmp 217) (Go.Operand.tmp 218) (Go.Operand.const (Go.Value.bool false)), type := 4, pos := "law.go:240", after := #[{ on := 49, ground := Go.Ground.data }, { on := 50, ground := Go.Ground.data }], guard := none }) (v := ?v179) (by kernel_rfl) (tab_ns hT) (tab_free 2251799813685247 hT (by kernel_rfl) (by kernel_rfl)) (tab_rdy 2251799813685247 hT (by kernel_rfl) (by kernel_rfl) (by kernel_rfl)) (fun _ _ _ h => h) (Or.inl ⟨by kernel_rfl, ?h179⟩) (by assumption) ?r179
    case h179 => (intro w9 hSw; clear hSw; go_simp; try with_reducible rfl)
    try simp only [Act.put, setIfInBounds_toArray, set_cons_zero, set_cons_succ, getElem_toArray, getElem_cons_zero, getElem_cons_succ]
    refine wpAnyH_take (i := 52) (oi := { dst := some 10, op := Go.Op.assign (Go.Operand.tmp 219), type := 4, pos := "law.go:240", after := #[{ on := 51, ground := Go.Ground.data }, { on := 50, ground := Go.Ground.chain }, { on := 0, ground := Go.Ground.phase }, { on := 1, ground := Go.Ground.phase }, { on := 2, ground := Go.Ground.phase }, { on := 3, ground := Go.Ground.phase }, { on := 4, ground := Go.Ground.phase }, { on := 5, ground := Go.Ground.phase }, { on := 6, ground := Go.Ground.phase }, { on := 7, ground := Go.Ground.phase }, { on := 8, ground := Go.Ground.phase }, { on := 9, ground := Go.Ground.phase }, { on := 10, ground := Go.Ground.phase }, { on := 11, ground := Go.Ground.phase }, { on := 12, ground := Go.Ground.phase }, { on := 13, ground := Go.Ground.phase }, { on := 14, ground := Go.Ground.phase }, { on := 15, ground := Go.Ground.phase }, { on := 16, ground := Go.Ground.phase }, { on := 17, ground := Go.Ground.phase }, { on := 18, ground := Go.Ground.phase }, { on := 19, ground := Go.Ground.phase }, { on := 20, ground := Go.Ground.phase }, { on := 21, ground := Go.Ground.phase }, { on := 22, ground := Go.Ground.phase }, { on := 23, ground := Go.Ground.phase }, { on := 24, ground := Go.Ground.phase }, { on := 25, ground := Go.Ground.phase }, { on := 26, ground := Go.Ground.phase }, { on := 27, ground := Go.Ground.phase }, { on := 28, ground := Go.Ground.phase }, { on := 29, ground := Go.Ground.phase }, { on := 30, ground := Go.Ground.phase }, { on := 31, ground := Go.Ground.phase }, { on := 32, ground := Go.Ground.phase }, { on := 33, ground := Go.Ground.phase }, { on := 34, ground := Go.Ground.phase }, { on := 35, ground := Go.Ground.phase }, { on := 36, ground := Go.Ground.phase }, { on := 37, ground := Go.Ground.phase }, { on := 38, ground := Go.Ground.phase }, { on := 39, ground := Go.Ground.phase }, { on := 40, ground := Go.Ground.phase }, { on := 41, ground := Go.Ground.phase }, { on := 42, ground := Go.Ground.phase }, { on := 43, ground := Go.Ground.phase }, { on := 44, ground := Go.Ground.phase }, { on := 45, ground := Go.Ground.phase }, { on := 46, ground := Go.Ground.phase }, { on := 47, ground := Go.Ground.phase }, { on := 48, ground := Go.Ground.phase }, { on := 49, ground := Go.Ground.phase }, { on := 50, ground := Go.Ground.phase }, { on := 51, ground := Go.Ground.phase }], guard := none }) (v := ?v180) (by kernel_rfl) (tab_ns hT) (tab_free 4503599627370495 hT (by kernel_rfl) (by kernel_rfl)) (tab_rdy 4503599627370495 hT (by kernel_rfl) (by kernel_rfl) (by kernel_rfl)) (fun _ _ _ h => h) (Or.inl ⟨by kernel_rfl, ?h180⟩) (by assumption) ?r180
    case h180 => (intro w9 hSw; clear hSw; go_simp; try with_reducible rfl)
    try simp only [Act.put, setIfInBounds_toArray, set_cons_zero, set_cons_succ, getElem_toArray, getElem_cons_zero, getElem_cons_succ]
    refine wpAnyH_done (tab_ready 9007199254740991 hT (by kernel_rfl) (by kernel_rfl) (by kernel_rfl)) ?_ _
    go_wp2_with fail
    go_ret
    exact ⟨rfl, bz⟩
theorem KernelsAhead_law {w : World} {RX CX : Int} {AX : Option Addr} {nX cX : Nat} {LX : List Int} {a b : Nat} {i : Int} {up : Bool} (ba : a ≤ 18446744073709551615) (bb : b ≤ 18446744073709551615) (hX : FL w AX nX cX LX) : Calls Try.prog 12 #[.float .f64 a, mV RX CX AX nX cX, .float .f64 b, .int .i64 i, .bool up] w (Ans w (.bool true)) := by
  cases hb : bigM RX CX nX
  · cases hs : (RX == CX)
    · exact KernelsAhead_flat ba bb hX hb hs
    · cases h0 : (RX == 0)
      · by_cases hi : 0 ≤ i
        · exact KernelsAhead_pos ba bb hX hb hs h0 hi
        · exact KernelsAhead_neg ba bb hX hb hs h0 (by omega)
      · exact KernelsAhead_none ba bb hX hb hs h0
  · exact KernelsAhead_big ba bb hX hb
end Go.Proofs.Ytfelmkkkaphkpaa
