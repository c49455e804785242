/-
  Layer 8: the law KernelsMeans.
-/
import Derived.Test.YtfelmkkkaphkpaaKpM
namespace Go.Proofs.Ytfelmkkkaphkpaa
open Go.RowKit Go.Bw Go.Sort Go.Shelf
set_option linter.unusedVariables false
set_option linter.unusedSimpArgs false

set_option maxRecDepth 100000 in
set_option maxHeartbeats 8000000 in
theorem KernelsMeans_big_a {w : World} {RX CX : Int} {AX : Option Addr} {nX cX : Nat} {LX : List Int} {A1 A2 A3 : Option Addr} {n1 c1 n2 c2 n3 c3 : Nat} {L1 l k : List Int} (hX : FL w AX nX cX LX) (h1 : FL w A1 n1 c1 L1) (h2 : IL w A2 n2 c2 l) (h3 : IL w A3 n3 c3 k) (hb : bigM RX CX nX = true) (h40 : 40 < n2) : Calls Try.prog 13 #[mV RX CX AX nX cX, .slice A1 n1 c1, .slice A2 n2 c2, .slice A3 n3 c3] w (Ans w (.bool true)) := by
  have pb := fun W => big_any RX CX AX nX cX hX.max W
  rw [hb] at pb
  clear hb
  have g40 : decide ((40 : Int) < (n2 : Int)) = true := by simp; omega
  have H1 := Lib.hid h1
  have H2 := Lib.hid h2
  have H3 := Lib.hid h3
  have HX := Lib.hid hX
  have m2 := h2.max
  have m3 := h3.max
  have mx := hX.max
  have m1 := h1.max
  clear h1 h2 h3 hX
  have DX := Blk.new w [.int .i64 RX, .int .i64 CX, .slice AX nX cX] 24
  have bz := (Below.refl _ w).alloc (Nat.le_refl _) (.cells #[.int .i64 RX, .int .i64 CX, .slice AX nX cX] 24)
  go_enter Try.func13, Try.ntmps13
  go_wp2_with fail
  with_reducible refine (known_any _).mono ?_
  rintro e w1 ⟨rfl, hb⟩
  replace DX := DX.on hb
  replace bz := bz.trans (hb.mono bz.size)
  clear hb
  obtain ⟨kx_0, kx_1, kx_2, kx_3, kx_4, kx_5⟩ := Mbx.cells DX
  go_wp2_with fail
  with_reducible refine (pb _).mono ?_
  rintro e w2 ⟨rfl, hb⟩
  clear kx_0 kx_1 kx_2 kx_3 kx_4 kx_5
  replace DX := DX.on hb
  replace bz := bz.trans (hb.mono bz.size)
  clear hb
  go_wp2_with fail
  go_ret
  exact ⟨rfl, bz⟩
set_option maxRecDepth 100000 in
set_option maxHeartbeats 8000000 in
theorem KernelsMeans_ne_a {w : World} {RX CX : Int} {AX : Option Addr} {nX cX : Nat} {LX : List Int} {A1 A2 A3 : Option Addr} {n1 c1 n2 c2 n3 c3 : Nat} {L1 l k : List Int} (hX : FL w AX nX cX LX) (h1 : FL w A1 n1 c1 L1) (h2 : IL w A2 n2 c2 l) (h3 : IL w A3 n3 c3 k) (hb : bigM RX CX nX = false) (hc : ((n1 : Int) == CX) = false) (h40 : 40 < n2) : Calls Try.prog 13 #[mV RX CX AX nX cX, .slice A1 n1 c1, .slice A2 n2 c2, .slice A3 n3 c3] w (Ans w (.bool true)) := by
  have pb := fun W => big_any RX CX AX nX cX hX.max W
  rw [hb] at pb
  obtain ⟨zX, eX, uX⟩ := big_is hb
  have HSX := Lib.hid (And.intro zX eX)
  have bdX := (szB_bd zX).1
  clear hb zX eX
  have g40 : decide ((40 : Int) < (n2 : Int)) = true := by simp; omega
  have H1 := Lib.hid h1
  have H2 := Lib.hid h2
  have H3 := Lib.hid h3
  have HX := Lib.hid hX
  have m2 := h2.max
  have m3 := h3.max
  have mx := hX.max
  have m1 := h1.max
  clear h1 h2 h3 hX
  have DX := Blk.new w [.int .i64 RX, .int .i64 CX, .slice AX nX cX] 24
  have bz := (Below.refl _ w).alloc (Nat.le_refl _) (.cells #[.int .i64 RX, .int .i64 CX, .slice AX nX cX] 24)
  go_enter Try.func13, Try.ntmps13
  go_wp2_with fail
  with_reducible refine (known_any _).mono ?_
  rintro e w1 ⟨rfl, hb⟩
  replace DX := DX.on hb
  replace bz := bz.trans (hb.mono bz.size)
  clear hb
  obtain ⟨kx_0, kx_1, kx_2, kx_3, kx_4, kx_5⟩ := Mbx.cells DX
  go_wp2_with fail
  with_reducible refine (pb _).mono ?_
  rintro e w2 ⟨rfl, hb⟩
  clear kx_0 kx_1 kx_2 kx_3 kx_4 kx_5
  replace DX := DX.on hb
  replace bz := bz.trans (hb.mono bz.size)
  clear hb
  obtain ⟨kx_0, kx_1, kx_2, kx_3, kx_4, kx_5⟩ := Mbx.cells DX
  go_wp2_with fail
  go_wp2_with fail
  go_ret
  exact ⟨rfl, bz⟩
set_option maxRecDepth 100000 in
set_option maxHeartbeats 8000000 in
theorem KernelsMeans_eq_a {w : World} {RX CX : Int} {AX : Option Addr} {nX cX : Nat} {LX : List Int} {A1 A2 A3 : Option Addr} {n1 c1 n2 c2 n3 c3 : Nat} {L1 l k : List Int} (hX : FL w AX nX cX LX) (h1 : FL w A1 n1 c1 L1) (h2 : IL w A2 n2 c2 l) (h3 : IL w A3 n3 c3 k) (hb : bigM RX CX nX = false) (hc : ((n1 : Int) == CX) = true) (h40 : 40 < n2) : Calls Try.prog 13 #[mV RX CX AX nX cX, .slice A1 n1 c1, .slice A2 n2 c2, .slice A3 n3 c3] w (Ans w (.bool true)) := by
  have pb := fun W => big_any RX CX AX nX cX hX.max W
  rw [hb] at pb
  obtain ⟨zX, eX, uX⟩ := big_is hb
  have HSX := Lib.hid (And.intro zX eX)
  have bdX := (szB_bd zX).1
  clear hb zX eX
  obtain ⟨m, hm⟩ := Int.eq_ofNat_of_zero_le bdX.1
  obtain ⟨p, hp⟩ := Int.eq_ofNat_of_zero_le bdX.2.2.1
  subst hm
  subst hp
  have hnp : n1 = p := by have h := eq_of_beq hc; omega
  have HNP := Lib.hid hnp
  have HL1 := Lib.hid (h1.1.trans hnp)
  clear hnp
  have b0 : (0 : Nat) ≤ 18446744073709551615 := by omega
  have b1 : (4607182418800017408 : Nat) ≤ 18446744073709551615 := by omega
  have g40 : decide ((40 : Int) < (n2 : Int)) = true := by simp; omega
  have H1 := Lib.hid h1
  have H2 := Lib.hid h2
  have H3 := Lib.hid h3
  have HX := Lib.hid hX
  have m2 := h2.max
  have m3 := h3.max
  have mx := hX.max
  have m1 := h1.max
  clear h1 h2 h3 hX
  have DX := Blk.new w [.int .i64 (m : Int), .int .i64 (p : Int), .slice AX nX cX] 24
  have bz := (Below.refl _ w).alloc (Nat.le_refl _) (.cells #[.int .i64 (m : Int), .int .i64 (p : Int), .slice AX nX cX] 24)
  go_enter Try.func13, Try.ntmps13
  go_wp2_with fail
  with_reducible refine (known_any _).mono ?_
  rintro e w1 ⟨rfl, hb⟩
  replace DX := DX.on hb
  replace bz := bz.trans (hb.mono bz.size)
  clear hb
  obtain ⟨kx_0, kx_1, kx_2, kx_3, kx_4, kx_5⟩ := Mbx.cells DX
  go_wp2_with fail
  with_reducible refine (pb _).mono ?_
  rintro e w2 ⟨rfl, hb⟩
  clear kx_0 kx_1 kx_2 kx_3 kx_4 kx_5
  replace DX := DX.on hb
  replace bz := bz.trans (hb.mono bz.size)
  clear hb
  obtain ⟨kx_0, kx_1, kx_2, kx_3, kx_4, kx_5⟩ := Mbx.cells DX
  have hmk := run_makeF m (by omega)
  go_wp2_with fail
  clear kx_0 kx_1 kx_2 kx_3 kx_4 kx_5
  replace DX := DX.drew
  replace bz := bz.drew
  refine wp_region_held_drew (S := fun w9 : World => Mbx w9 w.heap.size m p AX nX cX) (by kernel_rfl) DX (fun hS => ?_)
  have hwl := DX.lt
  generalize w2.drew = wf at hS hwl DX bz ⊢
  refine wpAnyH_take (i := 0) (v := ?v0_1) rfl (by kernel_rfl) (by kernel_rfl) (by kernel_rfl) (fun _ _ _ h => h) (Or.inl ⟨by rfl, ?hy0_1⟩) (by assumption) ?rest0_1
  case hy0_1 => (intro w9 hSw; clear hSw; go_simp; try with_reducible rfl)
  try simp only [Act.put, List.setIfInBounds_toArray, List.set_cons_zero, List.set_cons_succ, List.getElem_toArray, List.getElem_cons_zero, List.getElem_cons_succ]
  refine wpAnyH_take (i := 1) (v := ?v1_2) rfl (by kernel_rfl) (by kernel_rfl) (by kernel_rfl) (fun _ _ _ h => h) (Or.inl ⟨by rfl, ?hy1_2⟩) (by assumption) ?rest1_2
  case hy1_2 => (intro w9 hSw; obtain ⟨q0, q1, q2, q3, q4, q5⟩ := Mbx.cells hSw; go_simp; try with_reducible rfl)
  try simp only [Act.put, List.setIfInBounds_toArray, List.set_cons_zero, List.set_cons_succ, List.getElem_toArray, List.getElem_cons_zero, List.getElem_cons_succ]
  refine wpAnyH_take (i := 4) (v := ?v4_3) rfl (by kernel_rfl) (by kernel_rfl) (by kernel_rfl) (fun _ _ _ h => h) (Or.inl ⟨by rfl, ?hy4_3⟩) (by assumption) ?rest4_3
  case hy4_3 => (intro w9 hSw; clear hSw; go_simp; try with_reducible rfl)
  try simp only [Act.put, List.setIfInBounds_toArray, List.set_cons_zero, List.set_cons_succ, List.getElem_toArray, List.getElem_cons_zero, List.getElem_cons_succ]
  refine wpAnyH_take (i := 5) (v := ?v5_4) rfl (by kernel_rfl) (by kernel_rfl) (by kernel_rfl) (fun _ _ _ h => h) (Or.inl ⟨by rfl, ?hy5_4⟩) (by assumption) ?rest5_4
  case hy5_4 => (intro w9 hSw; obtain ⟨q0, q1, q2, q3, q4, q5⟩ := Mbx.cells hSw; go_simp; try with_reducible rfl)
  try simp only [Act.put, List.setIfInBounds_toArray, List.set_cons_zero, List.set_cons_succ, List.getElem_toArray, List.getElem_cons_zero, List.getElem_cons_succ]
  obtain ⟨I, hI⟩ : ∃ I : Array Value → List Bool → Act → World → Prop, I = (fun T bs a9 W => ∃ (lo hi : Nat → Nat) (v0 v1 v2 v3 v4 v5 : Value), a9 = { tmps := ((((((T.setIfInBounds 40 v0).setIfInBounds 41 v1).setIfInBounds 44 v2).setIfInBounds 45 v3).setIfInBounds 9 v4).setIfInBounds 10 v5), defers := [] } ∧ Pol wf.heap.size W bs lo hi ∧ (bs.getD 0 false = true → CZ W (lo 0) (hi 0) m v0) ∧ (bs.getD 1 false = true → OvI W (lo 1) (hi 1) m 1 (List.replicate m 0) v1) ∧ (bs.getD 2 false = true → CZ W (lo 2) (hi 2) m v2) ∧ (bs.getD 3 false = true → OvI W (lo 3) (hi 3) m 1 (List.replicate m 0) v3) ∧ (bs.getD 4 false = true → CV W (lo 4) (hi 4) v4) ∧ (bs.getD 5 false = true → CV W (lo 5) (hi 5) v5) ∧ Mbx W w.heap.size m p AX nX cX ∧ Below w.heap.size w W ∧ wf.heap.size ≤ W.heap.size) := ⟨_, rfl⟩
  have HI := Lib.hid hI
  clear hI
  refine wpAnyH_freeT (is := [2, 3, 6, 7, 8, 9]) (L := fun bs => #[true, true, bs.getD 0 false, bs.getD 1 false, true, true, bs.getD 2 false, bs.getD 3 false, bs.getD 4 false, bs.getD 5 false, false, false]) (F := 2) (fun bs => (!(bs.getD 1 false) || bs.getD 0 false) && (!(bs.getD 3 false) || (bs.getD 1 false && bs.getD 2 false))) I (by kernel_rfl) ?step ?fin 6 [false, false, false, false, false, false] rfl rfl rfl ?beg hS
  case beg =>
    rw [HI.out]
    exact ⟨fun _ => 0, fun _ => 0, undef, undef, undef, undef, undef, undef, by kernel_rfl, Pol.start (by intro k; rcases k with _ | _ | _ | _ | _ | _ | k <;> simp), by simp, by simp, by simp, by simp, by simp, by simp, DX, bz, Nat.le_refl _⟩
  case step =>
    intro k hk bs a9 W hl hb hok hI hS
    obtain ⟨b0, b1, b2, b3, b4, b5, rfl⟩ := bools6 bs hl
    rw [HI.out] at hI
    obtain ⟨lo, hi, v0, v1, v2, v3, v4, v5, rfl, hP, f0, f1, f2, f3, f4, f5, DX, bz, hsz⟩ := hI
    clear hS
    rcases k with _ | _ | _ | _ | _ | _ | k
    · skip
      refine ⟨2, _, rfl, rfl, fun K hK => ?_⟩
      try simp only [Act.put, List.setIfInBounds_toArray, List.set_cons_zero, List.set_cons_succ, List.getElem_toArray, List.getElem_cons_zero, List.getElem_cons_succ]
      go_simp
      have hb1 := (Below.refl _ W).alloc (Nat.le_refl _) (.cells (LF (List.replicate m 0)).toArray 32)
      refine hK.out _ _ (DX.on hb1) ?_
      try simp only [Act.put, List.setIfInBounds_toArray, List.set_cons_zero, List.set_cons_succ, List.getElem_toArray, List.getElem_cons_zero, List.getElem_cons_succ]
      rw [HI.out]
      exact ⟨_, _, .slice (some ⟨W.heap.size, 0, none⟩) m m, v1, v2, v3, v4, v5, by kernel_rfl, hP.step 0 hb1.size hsz, fun _ => ⟨rfl, zl_new W (by omega), by simp [upN]⟩, fun h => (f1 h).on hb1, fun h => (f2 h).on hb1, fun h => (f3 h).on hb1, fun h => (f4 h).on hb1, fun h => (f5 h).on hb1, DX.on hb1, bz.trans (hb1.mono bz.size), Nat.le_trans hsz hb1.size⟩
    · skip
      refine ⟨3, _, rfl, rfl, fun K hK => ?_⟩
      try simp only [Act.put, List.setIfInBounds_toArray, List.set_cons_zero, List.set_cons_succ, List.getElem_toArray, List.getElem_cons_zero, List.getElem_cons_succ]
      go_simp
      have hbj : b0 = true := by simp at hok; exact hok.1
      subst hbj
      obtain ⟨rfl, hF, _⟩ := f0 rfl
      with_reducible refine (vec_any hF (by omega)).mono ?_
      rintro e w1 ⟨V, s, gg, cap, c, l9, rfl, hV, hb1⟩
      refine hK.out _ _ (DX.on hb1) ?_
      try simp only [Act.put, List.setIfInBounds_toArray, List.set_cons_zero, List.set_cons_succ, List.getElem_toArray, List.getElem_cons_zero, List.getElem_cons_succ]
      rw [HI.out]
      exact ⟨_, _, .slice (some ⟨lo 0, 0, none⟩) m m, Vu.V V, v2, v3, v4, v5, by kernel_rfl, hP.step 1 hb1.size hsz, fun h => (f0 h).on hb1, fun _ => ⟨V, s, gg, cap, c, l9, rfl, hV, hV.st.lt, hV.st.gt.2⟩, fun h => (f2 h).on hb1, fun h => (f3 h).on hb1, fun h => (f4 h).on hb1, fun h => (f5 h).on hb1, DX.on hb1, bz.trans (hb1.mono bz.size), Nat.le_trans hsz hb1.size⟩
    · skip
      refine ⟨6, _, rfl, rfl, fun K hK => ?_⟩
      try simp only [Act.put, List.setIfInBounds_toArray, List.set_cons_zero, List.set_cons_succ, List.getElem_toArray, List.getElem_cons_zero, List.getElem_cons_succ]
      go_simp
      have hb1 := (Below.refl _ W).alloc (Nat.le_refl _) (.cells (LF (List.replicate m 0)).toArray 32)
      refine hK.out _ _ (DX.on hb1) ?_
      try simp only [Act.put, List.setIfInBounds_toArray, List.set_cons_zero, List.set_cons_succ, List.getElem_toArray, List.getElem_cons_zero, List.getElem_cons_succ]
      rw [HI.out]
      exact ⟨_, _, v0, v1, .slice (some ⟨W.heap.size, 0, none⟩) m m, v3, v4, v5, by kernel_rfl, hP.step 2 hb1.size hsz, fun h => (f0 h).on hb1, fun h => (f1 h).on hb1, fun _ => ⟨rfl, zl_new W (by omega), by simp [upN]⟩, fun h => (f3 h).on hb1, fun h => (f4 h).on hb1, fun h => (f5 h).on hb1, DX.on hb1, bz.trans (hb1.mono bz.size), Nat.le_trans hsz hb1.size⟩
    · skip
      refine ⟨7, _, rfl, rfl, fun K hK => ?_⟩
      try simp only [Act.put, List.setIfInBounds_toArray, List.set_cons_zero, List.set_cons_succ, List.getElem_toArray, List.getElem_cons_zero, List.getElem_cons_succ]
      go_simp
      have hbj : b2 = true := by simp at hok; exact hok.2.2
      subst hbj
      obtain ⟨rfl, hF, _⟩ := f2 rfl
      with_reducible refine (vec_any hF (by omega)).mono ?_
      rintro e w1 ⟨V, s, gg, cap, c, l9, rfl, hV, hb1⟩
      refine hK.out _ _ (DX.on hb1) ?_
      try simp only [Act.put, List.setIfInBounds_toArray, List.set_cons_zero, List.set_cons_succ, List.getElem_toArray, List.getElem_cons_zero, List.getElem_cons_succ]
      rw [HI.out]
      exact ⟨_, _, v0, v1, .slice (some ⟨lo 2, 0, none⟩) m m, Vu.V V, v4, v5, by kernel_rfl, hP.step 3 hb1.size hsz, fun h => (f0 h).on hb1, fun h => (f1 h).on hb1, fun h => (f2 h).on hb1, fun _ => ⟨V, s, gg, cap, c, l9, rfl, hV, hV.st.lt, hV.st.gt.2⟩, fun h => (f4 h).on hb1, fun h => (f5 h).on hb1, DX.on hb1, bz.trans (hb1.mono bz.size), Nat.le_trans hsz hb1.size⟩
    · skip
      refine ⟨8, _, rfl, rfl, fun K hK => ?_⟩
      try simp only [Act.put, List.setIfInBounds_toArray, List.set_cons_zero, List.set_cons_succ, List.getElem_toArray, List.getElem_cons_zero, List.getElem_cons_succ]
      go_simp
      have hb1 := (Below.refl _ W).alloc (Nat.le_refl _) (.cells (Vu.zero).L.toArray 30)
      refine hK.out _ _ (DX.on hb1) ?_
      try simp only [Act.put, List.setIfInBounds_toArray, List.set_cons_zero, List.set_cons_succ, List.getElem_toArray, List.getElem_cons_zero, List.getElem_cons_succ]
      rw [HI.out]
      exact ⟨_, _, v0, v1, v2, v3, .pointer (some ⟨W.heap.size, 0, none⟩), v5, by kernel_rfl, hP.step 4 hb1.size hsz, fun h => (f0 h).on hb1, fun h => (f1 h).on hb1, fun h => (f2 h).on hb1, fun h => (f3 h).on hb1, fun _ => ⟨rfl, Blk.new W Vu.zero.L 30, by simp [upN]⟩, fun h => (f5 h).on hb1, DX.on hb1, bz.trans (hb1.mono bz.size), Nat.le_trans hsz hb1.size⟩
    · skip
      refine ⟨9, _, rfl, rfl, fun K hK => ?_⟩
      try simp only [Act.put, List.setIfInBounds_toArray, List.set_cons_zero, List.set_cons_succ, List.getElem_toArray, List.getElem_cons_zero, List.getElem_cons_succ]
      go_simp
      have hb1 := (Below.refl _ W).alloc (Nat.le_refl _) (.cells (Vu.zero).L.toArray 30)
      refine hK.out _ _ (DX.on hb1) ?_
      try simp only [Act.put, List.setIfInBounds_toArray, List.set_cons_zero, List.set_cons_succ, List.getElem_toArray, List.getElem_cons_zero, List.getElem_cons_succ]
      rw [HI.out]
      exact ⟨_, _, v0, v1, v2, v3, v4, .pointer (some ⟨W.heap.size, 0, none⟩), by kernel_rfl, hP.step 5 hb1.size hsz, fun h => (f0 h).on hb1, fun h => (f1 h).on hb1, fun h => (f2 h).on hb1, fun h => (f3 h).on hb1, fun h => (f4 h).on hb1, fun _ => ⟨rfl, Blk.new W Vu.zero.L 30, by simp [upN]⟩, DX.on hb1, bz.trans (hb1.mono bz.size), Nat.le_trans hsz hb1.size⟩
    · simp at hk; omega
  case fin =>
    intro a9 W hI hS
    rw [HI.out] at hI
    obtain ⟨lo, hi, v0, v1, v2, v3, v4, v5, rfl, hP, f0, f1, f2, f3, f4, f5, DX, bz, hsz⟩ := hI
    clear hS
    try simp only [Act.put, List.setIfInBounds_toArray, List.set_cons_zero, List.set_cons_succ, List.getElem_toArray, List.getElem_cons_zero, List.getElem_cons_succ]
    obtain ⟨VY, sVY, gVY, capVY, cVY, lVY, rfl, hVY, aY, bY⟩ := f1 rfl
    obtain ⟨VZ, sVZ, gVZ, capVZ, cVZ, lVZ, rfl, hVZ, aZ, bZ⟩ := f3 rfl
    obtain ⟨rfl, Da, la_⟩ := f4 rfl
    obtain ⟨rfl, Db, lb_⟩ := f5 rfl
    have r1 := (hP.rng 1 rfl).1
    have r3 := (hP.rng 3 rfl).1
    have r4 := (hP.rng 4 rfl).1
    have r5 := (hP.rng 5 rfl).1
    have tY := And.intro hVY.st.lo hVY.st.gt.1
    have tZ := And.intro hVZ.st.lo hVZ.st.gt.1
    have k1 := hP.ap 1 3 (by decide) rfl rfl
    have k2 := hP.ap 1 4 (by decide) rfl rfl
    have k3 := hP.ap 1 5 (by decide) rfl rfl
    have k4 := hP.ap 3 4 (by decide) rfl rfl
    have k5 := hP.ap 3 5 (by decide) rfl rfl
    have k6 := hP.ap 4 5 (by decide) rfl rfl
    have nq : lo 4 ≠ gVY ∧ lo 4 ≠ gVZ ∧ lo 5 ≠ gVY ∧ lo 5 ≠ gVZ ∧ w.heap.size < gVY ∧ w.heap.size < gVZ ∧ w.heap.size < lo 4 ∧ w.heap.size < lo 5 ∧ lo 4 ≠ lo 5 := by omega
    have ap : sVY ≠ gVZ ∧ gVY ≠ gVZ ∧ sVZ ≠ gVY := by omega
    have sq : lo 4 ≠ sVY ∧ lo 4 ≠ sVZ ∧ lo 5 ≠ sVY ∧ lo 5 ≠ sVZ := by omega
    clear hP f0 f1 f2 f3 f4 f5 aY bY aZ bZ la_ lb_ r1 r3 r4 r5 k1 k2 k3 k4 k5 k6 tY tZ
    generalize lo 4 = HDa at *
    generalize lo 5 = HDb at *
    replace hVY : Ov W (lo 1) VY sVY gVY capVY cVY lVY m 1 (List.replicate m 0) := hVY
    replace hVZ : Ov W (lo 3) VZ sVZ gVZ capVZ cVZ lVZ m 1 (List.replicate m 0) := hVZ
    generalize lo 1 = BVY at *
    generalize lo 3 = BVZ at *
    obtain ⟨fc0, fc1, fc2, fc3, fc4, fc5, fc6, fc7, fc8⟩ := Vbx.cells Da
    obtain ⟨fr0, fr1, fr2, fr3, fr4, fr5, fr6, fr7, fr8⟩ := Vbx.free Da
    refine wpAnyH_ready (rs := [10]) (by kernel_rfl) (by simp) ?_
    refine AllReadyH.cons rfl (fun K hK => ?_) AllReadyH.nil
    go_simp
    clear fc0 fr0 fc1 fr1 fc2 fr2 fc3 fr3 fc4 fr4 fc5 fr5 fc6 fr6 fc7 fr7 fc8 fr8
    have hgS := set9_grown W (HDa) (.pointer (VY).p) (.int .i64 (VY).f0) (.int .i64 (VY).f1) (.int .i64 (VY).d0) (.int .i64 (VY).d1) (.int .i64 (VY).r0) (.int .i64 (VY).r1) (.int .i64 (VY).R) (.int .i64 (VY).C)
    replace Da := Vbx.put Da (VY)
    replace DX := DX.grown hgS (by simp <;> omega)
    replace hVY := hVY.grown hgS (by omega) (by omega)
    replace hVZ := hVZ.grown hgS (by omega) (by omega)
    replace Db := Db.grown hgS (by simp <;> omega)
    replace bz := bz.grown hgS bz.size (fun k e => by cases e; omega)
    generalize (((((((((W.setCell ⟨HDa, 0, none⟩ (.pointer (VY).p)).setCell ⟨HDa, 1, none⟩ (.int .i64 (VY).f0)).setCell ⟨HDa, 2, none⟩ (.int .i64 (VY).f1)).setCell ⟨HDa, 3, none⟩ (.int .i64 (VY).d0)).setCell ⟨HDa, 4, none⟩ (.int .i64 (VY).d1)).setCell ⟨HDa, 5, none⟩ (.int .i64 (VY).r0)).setCell ⟨HDa, 6, none⟩ (.int .i64 (VY).r1)).setCell ⟨HDa, 7, none⟩ (.int .i64 (VY).R)).setCell ⟨HDa, 8, none⟩ (.int .i64 (VY).C)) = WsDa at DX hVY hVZ Da Db bz ⊢
    clear hgS
    refine hK.out _ _ DX (fun hS => ?_)
    clear hK K hS
    try simp only [Act.put, List.setIfInBounds_toArray, List.set_cons_zero, List.set_cons_succ, List.getElem_toArray, List.getElem_cons_zero, List.getElem_cons_succ]
    obtain ⟨fc0, fc1, fc2, fc3, fc4, fc5, fc6, fc7, fc8⟩ := Vbx.cells Db
    obtain ⟨fr0, fr1, fr2, fr3, fr4, fr5, fr6, fr7, fr8⟩ := Vbx.free Db
    refine wpAnyH_ready (rs := [11]) (by kernel_rfl) (by simp) ?_
    refine AllReadyH.cons rfl (fun K hK => ?_) AllReadyH.nil
    go_simp
    clear fc0 fr0 fc1 fr1 fc2 fr2 fc3 fr3 fc4 fr4 fc5 fr5 fc6 fr6 fc7 fr7 fc8 fr8
    have hgS := set9_grown WsDa (HDb) (.pointer (VZ).p) (.int .i64 (VZ).f0) (.int .i64 (VZ).f1) (.int .i64 (VZ).d0) (.int .i64 (VZ).d1) (.int .i64 (VZ).r0) (.int .i64 (VZ).r1) (.int .i64 (VZ).R) (.int .i64 (VZ).C)
    replace Db := Vbx.put Db (VZ)
    replace DX := DX.grown hgS (by simp <;> omega)
    replace hVY := hVY.grown hgS (by omega) (by omega)
    replace hVZ := hVZ.grown hgS (by omega) (by omega)
    replace Da := Da.grown hgS (by simp <;> omega)
    replace bz := bz.grown hgS bz.size (fun k e => by cases e; omega)
    generalize (((((((((WsDa.setCell ⟨HDb, 0, none⟩ (.pointer (VZ).p)).setCell ⟨HDb, 1, none⟩ (.int .i64 (VZ).f0)).setCell ⟨HDb, 2, none⟩ (.int .i64 (VZ).f1)).setCell ⟨HDb, 3, none⟩ (.int .i64 (VZ).d0)).setCell ⟨HDb, 4, none⟩ (.int .i64 (VZ).d1)).setCell ⟨HDb, 5, none⟩ (.int .i64 (VZ).r0)).setCell ⟨HDb, 6, none⟩ (.int .i64 (VZ).r1)).setCell ⟨HDb, 7, none⟩ (.int .i64 (VZ).R)).setCell ⟨HDb, 8, none⟩ (.int .i64 (VZ).C)) = WsDb at DX hVY hVZ Da Db bz ⊢
    clear hgS
    refine hK.out _ _ DX (fun hS => ?_)
    clear hK K hS
    try simp only [Act.put, List.setIfInBounds_toArray, List.set_cons_zero, List.set_cons_succ, List.getElem_toArray, List.getElem_cons_zero, List.getElem_cons_succ]
    refine wpAnyH_done (by kernel_rfl) ?_ _
    clear HI I hsz hwl sq hmk
    go_wp2_with fail
    replace DX := DX.drew
    replace hVY := hVY.drew
    replace hVZ := hVZ.drew
    replace Da := Da.drew
    replace Db := Db.drew
    replace bz := bz.drew
    refine wp_region_held_drew (S := fun w9 : World => Mbx w9 w.heap.size m p AX nX cX ∧ Vbx w9 HDa VY ∧ Vbx w9 HDb VZ) (by kernel_rfl) ⟨DX, Da, Db⟩ (fun hS => ?_)
    generalize WsDb.drew = wd5 at hS DX hVY hVZ Da Db  bz ⊢
    refine wpAnyH_take (i := 0) (v := ?v0_5) rfl (by kernel_rfl) (by kernel_rfl) (by kernel_rfl) (fun _ _ _ h => h) (Or.inl ⟨by rfl, ?hy0_5⟩) (by assumption) ?rest0_5
    case hy0_5 => (intro w9 hSw; obtain ⟨m0, m1, m2⟩ := hSw; obtain ⟨q0, q1, q2, q3, q4, q5⟩ := Mbx.cells m0; go_simp; try with_reducible rfl)
    try simp only [Act.put, List.setIfInBounds_toArray, List.set_cons_zero, List.set_cons_succ, List.getElem_toArray, List.getElem_cons_zero, List.getElem_cons_succ]
    refine wpAnyH_take (i := 2) (v := ?v2_6) rfl (by kernel_rfl) (by kernel_rfl) (by kernel_rfl) (fun _ _ _ h => h) (Or.inl ⟨by rfl, ?hy2_6⟩) (by assumption) ?rest2_6
    case hy2_6 => (intro w9 hSw; clear hSw; go_simp; try with_reducible rfl)
    try simp only [Act.put, List.setIfInBounds_toArray, List.set_cons_zero, List.set_cons_succ, List.getElem_toArray, List.getElem_cons_zero, List.getElem_cons_succ]
    refine wpAnyH_take (i := 4) (v := ?v4_7) rfl (by kernel_rfl) (by kernel_rfl) (by kernel_rfl) (fun _ _ _ h => h) (Or.inl ⟨by rfl, ?hy4_7⟩) (by assumption) ?rest4_7
    case hy4_7 => (intro w9 hSw; obtain ⟨m0, m1, m2⟩ := hSw; refine (ld_v (by rfl) (by kernel_rfl) m1).trans ?_; with_reducible rfl)
    try simp only [Act.put, List.setIfInBounds_toArray, List.set_cons_zero, List.set_cons_succ, List.getElem_toArray, List.getElem_cons_zero, List.getElem_cons_succ]
    refine wpAnyH_take (i := 6) (v := ?v6_8) rfl (by kernel_rfl) (by kernel_rfl) (by kernel_rfl) (fun _ _ _ h => h) (Or.inl ⟨by rfl, ?hy6_8⟩) (by assumption) ?rest6_8
    case hy6_8 => (intro w9 hSw; obtain ⟨m0, m1, m2⟩ := hSw; obtain ⟨q0, q1, q2, q3, q4, q5⟩ := Mbx.cells m0; go_simp; try with_reducible rfl)
    try simp only [Act.put, List.setIfInBounds_toArray, List.set_cons_zero, List.set_cons_succ, List.getElem_toArray, List.getElem_cons_zero, List.getElem_cons_succ]
    refine wpAnyH_take (i := 8) (v := ?v8_9) rfl (by kernel_rfl) (by kernel_rfl) (by kernel_rfl) (fun _ _ _ h => h) (Or.inl ⟨by rfl, ?hy8_9⟩) (by assumption) ?rest8_9
    case hy8_9 => (intro w9 hSw; clear hSw; go_simp; try with_reducible rfl)
    try simp only [Act.put, List.setIfInBounds_toArray, List.set_cons_zero, List.set_cons_succ, List.getElem_toArray, List.getElem_cons_zero, List.getElem_cons_succ]
    refine wpAnyH_take (i := 10) (v := ?v10_10) rfl (by kernel_rfl) (by kernel_rfl) (by kernel_rfl) (fun _ _ _ h => h) (Or.inl ⟨by rfl, ?hy10_10⟩) (by assumption) ?rest10_10
    case hy10_10 => (intro w9 hSw; obtain ⟨m0, m1, m2⟩ := hSw; refine (ld_v (by rfl) (by kernel_rfl) m2).trans ?_; with_reducible rfl)
    try simp only [Act.put, List.setIfInBounds_toArray, List.set_cons_zero, List.set_cons_succ, List.getElem_toArray, List.getElem_cons_zero, List.getElem_cons_succ]
    refine wpAnyH_ready (rs := [1]) (by kernel_rfl) (by simp) ?_
    refine AllReadyH.cons rfl (fun K hK => ?_) AllReadyH.nil
    go_simp
    with_reducible refine (of_any false (HX.out.on bz) HSX.out.1 HSX.out.2).mono ?_
    rintro e w3 ⟨VU, sVU, gVU, capVU, cVU, lVU, rfl, hVU, hb⟩
    replace DX := DX.on hb
    replace hVY := hVY.on hb
    replace hVZ := hVZ.on hb
    replace Da := Da.on hb
    replace Db := Db.on hb
    replace bz := bz.trans (hb.mono bz.size)
    clear hb
    clear hS; refine hK.out _ _ ⟨DX, Da, Db⟩ (fun hS => ?_); clear hK K
    try simp only [Act.put, List.setIfInBounds_toArray, List.set_cons_zero, List.set_cons_succ, List.getElem_toArray, List.getElem_cons_zero, List.getElem_cons_succ]
    refine wpAnyH_ready (rs := [3]) (by kernel_rfl) (by simp) ?_
    refine AllReadyH.cons rfl (fun K hK => ?_) AllReadyH.nil
    go_simp
    with_reducible refine (vec_any (H1.out.on bz) (by have := HNP.out; omega)).mono ?_
    rintro e w4 ⟨VV, sVV, gVV, capVV, cVV, lVV, rfl, hVV, hb⟩
    replace DX := DX.on hb
    replace hVY := hVY.on hb
    replace hVZ := hVZ.on hb
    replace Da := Da.on hb
    replace Db := Db.on hb
    replace hVU := hVU.on hb
    replace bz := bz.trans (hb.mono bz.size)
    clear hb
    clear hS; refine hK.out _ _ ⟨DX, Da, Db⟩ (fun hS => ?_); clear hK K
    try simp only [Act.put, List.setIfInBounds_toArray, List.set_cons_zero, List.set_cons_succ, List.getElem_toArray, List.getElem_cons_zero, List.getElem_cons_succ]
    refine wpAnyH_ready (rs := [5]) (by kernel_rfl) (by simp) ?_
    refine AllReadyH.cons rfl (fun K hK => ?_) AllReadyH.nil
    go_simp
    skip
    have hVV2 := hVV
    rw [show (n1 : Int) = (p : Int) by have := HNP.out; omega] at hVV2
    with_reducible refine (gemv_m b1 b0 hVU hVV2 hVY HL1.out (by simp)).mono ?_
    rintro e w61 ⟨lyVY, GVY, rfl, hVY2, hIVY, hg⟩
    replace DX := DX.grown hg (by simp; omega)
    replace Da := Da.grown hg (by simp; omega)
    replace Db := Db.grown hg (by simp; omega)
    replace hVZ := hVZ.grown hg (by omega) (by omega)
    replace hVY := hVY2
    replace bz := bz.grown hg bz.size (fun k e => by cases e; omega)
    have HIVY := Lib.hid hIVY
    clear hVY2 hg hIVY hVU hVV hVV2
    clear hS; refine hK.out _ _ ⟨DX, Da, Db⟩ (fun hS => ?_); clear hK K
    try simp only [Act.put, List.setIfInBounds_toArray, List.set_cons_zero, List.set_cons_succ, List.getElem_toArray, List.getElem_cons_zero, List.getElem_cons_succ]
    refine wpAnyH_ready (rs := [7]) (by kernel_rfl) (by simp) ?_
    refine AllReadyH.cons rfl (fun K hK => ?_) AllReadyH.nil
    go_simp
    with_reducible refine (of_any false (HX.out.on bz) HSX.out.1 HSX.out.2).mono ?_
    rintro e w5 ⟨VU, sVU, gVU, capVU, cVU, lVU, rfl, hVU, hb⟩
    replace DX := DX.on hb
    replace hVY := hVY.on hb
    replace hVZ := hVZ.on hb
    replace Da := Da.on hb
    replace Db := Db.on hb
    replace bz := bz.trans (hb.mono bz.size)
    clear hb
    clear hS; refine hK.out _ _ ⟨DX, Da, Db⟩ (fun hS => ?_); clear hK K
    try simp only [Act.put, List.setIfInBounds_toArray, List.set_cons_zero, List.set_cons_succ, List.getElem_toArray, List.getElem_cons_zero, List.getElem_cons_succ]
    refine wpAnyH_ready (rs := [9]) (by kernel_rfl) (by simp) ?_
    refine AllReadyH.cons rfl (fun K hK => ?_) AllReadyH.nil
    go_simp
    with_reducible refine (vec_any (H1.out.on bz) (by have := HNP.out; omega)).mono ?_
    rintro e w6 ⟨VV, sVV, gVV, capVV, cVV, lVV, rfl, hVV, hb⟩
    replace DX := DX.on hb
    replace hVY := hVY.on hb
    replace hVZ := hVZ.on hb
    replace Da := Da.on hb
    replace Db := Db.on hb
    replace hVU := hVU.on hb
    replace bz := bz.trans (hb.mono bz.size)
    clear hb
    clear hS; refine hK.out _ _ ⟨DX, Da, Db⟩ (fun hS => ?_); clear hK K
    try simp only [Act.put, List.setIfInBounds_toArray, List.set_cons_zero, List.set_cons_succ, List.getElem_toArray, List.getElem_cons_zero, List.getElem_cons_succ]
    refine wpAnyH_ready (rs := [11]) (by kernel_rfl) (by simp) ?_
    refine AllReadyH.cons rfl (fun K hK => ?_) AllReadyH.nil
    go_simp
    skip
    have hVV2 := hVV
    rw [show (n1 : Int) = (p : Int) by have := HNP.out; omega] at hVV2
    with_reducible refine (gemm_m b1 b0 hVU hVV2 hVZ (by simp)).mono ?_
    rintro e w62 ⟨lyVZ, GVZ, rfl, hVZ2, hIVZ, hg⟩
    replace DX := DX.grown hg (by simp; omega)
    replace Da := Da.grown hg (by simp; omega)
    replace Db := Db.grown hg (by simp; omega)
    replace hVY := hVY.grown hg (by omega) (by omega)
    replace hVZ := hVZ2
    replace bz := bz.grown hg bz.size (fun k e => by cases e; omega)
    have HIVZ := Lib.hid hIVZ
    clear hVZ2 hg hIVZ hVU hVV hVV2
    clear hS; refine hK.out _ _ ⟨DX, Da, Db⟩ (fun hS => ?_); clear hK K
    try simp only [Act.put, List.setIfInBounds_toArray, List.set_cons_zero, List.set_cons_succ, List.getElem_toArray, List.getElem_cons_zero, List.getElem_cons_succ]
    refine wpAnyH_take (i := 12) (v := ?v12_11) rfl (by kernel_rfl) (by kernel_rfl) (by kernel_rfl) (fun _ _ _ h => h) (Or.inl ⟨by rfl, ?hy12_11⟩) (by assumption) ?rest12_11
    case hy12_11 => (intro w9 hSw; clear hSw; go_simp; try with_reducible rfl)
    try simp only [Act.put, List.setIfInBounds_toArray, List.set_cons_zero, List.set_cons_succ, List.getElem_toArray, List.getElem_cons_zero, List.getElem_cons_succ]
    refine wpAnyH_take (i := 13) (v := ?v13_12) rfl (by kernel_rfl) (by kernel_rfl) (by kernel_rfl) (fun _ _ _ h => h) (Or.inl ⟨by rfl, ?hy13_12⟩) (by assumption) ?rest13_12
    case hy13_12 => (intro w9 hSw; clear hSw; go_simp; try with_reducible rfl)
    try simp only [Act.put, List.setIfInBounds_toArray, List.set_cons_zero, List.set_cons_succ, List.getElem_toArray, List.getElem_cons_zero, List.getElem_cons_succ]
    refine wpAnyH_done (by kernel_rfl) ?_ _
    go_wp2_with fail
    with_reducible refine (num_any _ _).mono ?_
    rintro e v107 ⟨rfl, rfl⟩
    go_wp2_with fail
    with_reducible refine (num_any _ _).mono ?_
    rintro e v108 ⟨rfl, rfl⟩
    obtain ⟨cDa_0, cDa_1, cDa_2, cDa_3, cDa_4, cDa_5, cDa_6, cDa_7, cDa_8⟩ := Vbx.cells Da
    obtain ⟨cDb_0, cDb_1, cDb_2, cDb_3, cDb_4, cDb_5, cDb_6, cDb_7, cDb_8⟩ := Vbx.cells Db
    go_wp2_with fail
    with_reducible refine (same_ov hVY hVZ (Is.same HIVY.out HIVZ.out)).mono ?_
    rintro e w9 ⟨rfl, hb⟩
    clear cDa_0 cDa_1 cDa_2 cDa_3 cDa_4 cDa_5 cDa_6 cDa_7 cDa_8 cDb_0 cDb_1 cDb_2 cDb_3 cDb_4 cDb_5 cDb_6 cDb_7 cDb_8
    replace DX := DX.on hb
    replace hVY := hVY.on hb
    replace hVZ := hVZ.on hb
    replace Da := Da.on hb
    replace Db := Db.on hb
    replace bz := bz.trans (hb.mono bz.size)
    clear hb Da Db hVY hVZ
    go_wp2_with fail
    go_ret
    exact ⟨rfl, bz⟩
set_option maxRecDepth 100000 in
set_option maxHeartbeats 8000000 in
theorem KernelsMeans_big_b {w : World} {RX CX : Int} {AX : Option Addr} {nX cX : Nat} {LX : List Int} {A1 A2 A3 : Option Addr} {n1 c1 n2 c2 n3 c3 : Nat} {L1 l k : List Int} (hX : FL w AX nX cX LX) (h1 : FL w A1 n1 c1 L1) (h2 : IL w A2 n2 c2 l) (h3 : IL w A3 n3 c3 k) (hb : bigM RX CX nX = true) (h40 : n2 ≤ 40) (hne : n3 ≠ n2) : Calls Try.prog 13 #[mV RX CX AX nX cX, .slice A1 n1 c1, .slice A2 n2 c2, .slice A3 n3 c3] w (Ans w (.bool true)) := by
  have pb := fun W => big_any RX CX AX nX cX hX.max W
  rw [hb] at pb
  clear hb
  have g40 : (n2 : Int) ≤ 40 := by omega
  have gne : ((n3 : Int) != (n2 : Int)) = true := by simp; omega
  have H1 := Lib.hid h1
  have H2 := Lib.hid h2
  have H3 := Lib.hid h3
  have HX := Lib.hid hX
  have m2 := h2.max
  have m3 := h3.max
  have mx := hX.max
  have m1 := h1.max
  clear h1 h2 h3 hX
  have DX := Blk.new w [.int .i64 RX, .int .i64 CX, .slice AX nX cX] 24
  have bz := (Below.refl _ w).alloc (Nat.le_refl _) (.cells #[.int .i64 RX, .int .i64 CX, .slice AX nX cX] 24)
  go_enter Try.func13, Try.ntmps13
  go_wp2_with fail
  with_reducible refine (known_any _).mono ?_
  rintro e w1 ⟨rfl, hb⟩
  replace DX := DX.on hb
  replace bz := bz.trans (hb.mono bz.size)
  clear hb
  obtain ⟨kx_0, kx_1, kx_2, kx_3, kx_4, kx_5⟩ := Mbx.cells DX
  go_wp2_with fail
  with_reducible refine (pb _).mono ?_
  rintro e w2 ⟨rfl, hb⟩
  clear kx_0 kx_1 kx_2 kx_3 kx_4 kx_5
  replace DX := DX.on hb
  replace bz := bz.trans (hb.mono bz.size)
  clear hb
  go_wp2_with fail
  go_ret
  exact ⟨rfl, bz⟩
set_option maxRecDepth 100000 in
set_option maxHeartbeats 8000000 in
theorem KernelsMeans_ne_b {w : World} {RX CX : Int} {AX : Option Addr} {nX cX : Nat} {LX : List Int} {A1 A2 A3 : Option Addr} {n1 c1 n2 c2 n3 c3 : Nat} {L1 l k : List Int} (hX : FL w AX nX cX LX) (h1 : FL w A1 n1 c1 L1) (h2 : IL w A2 n2 c2 l) (h3 : IL w A3 n3 c3 k) (hb : bigM RX CX nX = false) (hc : ((n1 : Int) == CX) = false) (h40 : n2 ≤ 40) (hne : n3 ≠ n2) : Calls Try.prog 13 #[mV RX CX AX nX cX, .slice A1 n1 c1, .slice A2 n2 c2, .slice A3 n3 c3] w (Ans w (.bool true)) := by
  have pb := fun W => big_any RX CX AX nX cX hX.max W
  rw [hb] at pb
  obtain ⟨zX, eX, uX⟩ := big_is hb
  have HSX := Lib.hid (And.intro zX eX)
  have bdX := (szB_bd zX).1
  clear hb zX eX
  have g40 : (n2 : Int) ≤ 40 := by omega
  have gne : ((n3 : Int) != (n2 : Int)) = true := by simp; omega
  have H1 := Lib.hid h1
  have H2 := Lib.hid h2
  have H3 := Lib.hid h3
  have HX := Lib.hid hX
  have m2 := h2.max
  have m3 := h3.max
  have mx := hX.max
  have m1 := h1.max
  clear h1 h2 h3 hX
  have DX := Blk.new w [.int .i64 RX, .int .i64 CX, .slice AX nX cX] 24
  have bz := (Below.refl _ w).alloc (Nat.le_refl _) (.cells #[.int .i64 RX, .int .i64 CX, .slice AX nX cX] 24)
  go_enter Try.func13, Try.ntmps13
  go_wp2_with fail
  with_reducible refine (known_any _).mono ?_
  rintro e w1 ⟨rfl, hb⟩
  replace DX := DX.on hb
  replace bz := bz.trans (hb.mono bz.size)
  clear hb
  obtain ⟨kx_0, kx_1, kx_2, kx_3, kx_4, kx_5⟩ := Mbx.cells DX
  go_wp2_with fail
  with_reducible refine (pb _).mono ?_
  rintro e w2 ⟨rfl, hb⟩
  clear kx_0 kx_1 kx_2 kx_3 kx_4 kx_5
  replace DX := DX.on hb
  replace bz := bz.trans (hb.mono bz.size)
  clear hb
  obtain ⟨kx_0, kx_1, kx_2, kx_3, kx_4, kx_5⟩ := Mbx.cells DX
  go_wp2_with fail
  go_wp2_with fail
  go_ret
  exact ⟨rfl, bz⟩
set_option maxRecDepth 100000 in
set_option maxHeartbeats 8000000 in
theorem KernelsMeans_eq_b {w : World} {RX CX : Int} {AX : Option Addr} {nX cX : Nat} {LX : List Int} {A1 A2 A3 : Option Addr} {n1 c1 n2 c2 n3 c3 : Nat} {L1 l k : List Int} (hX : FL w AX nX cX LX) (h1 : FL w A1 n1 c1 L1) (h2 : IL w A2 n2 c2 l) (h3 : IL w A3 n3 c3 k) (hb : bigM RX CX nX = false) (hc : ((n1 : Int) == CX) = true) (h40 : n2 ≤ 40) (hne : n3 ≠ n2) : Calls Try.prog 13 #[mV RX CX AX nX cX, .slice A1 n1 c1, .slice A2 n2 c2, .slice A3 n3 c3] w (Ans w (.bool true)) := by
  have pb := fun W => big_any RX CX AX nX cX hX.max W
  rw [hb] at pb
  obtain ⟨zX, eX, uX⟩ := big_is hb
  have HSX := Lib.hid (And.intro zX eX)
  have bdX := (szB_bd zX).1
  clear hb zX eX
  obtain ⟨m, hm⟩ := Int.eq_ofNat_of_zero_le bdX.1
  obtain ⟨p, hp⟩ := Int.eq_ofNat_of_zero_le bdX.2.2.1
  subst hm
  subst hp
  have hnp : n1 = p := by have h := eq_of_beq hc; omega
  have HNP := Lib.hid hnp
  have HL1 := Lib.hid (h1.1.trans hnp)
  clear hnp
  have b0 : (0 : Nat) ≤ 18446744073709551615 := by omega
  have b1 : (4607182418800017408 : Nat) ≤ 18446744073709551615 := by omega
  have g40 : (n2 : Int) ≤ 40 := by omega
  have gne : ((n3 : Int) != (n2 : Int)) = true := by simp; omega
  have H1 := Lib.hid h1
  have H2 := Lib.hid h2
  have H3 := Lib.hid h3
  have HX := Lib.hid hX
  have m2 := h2.max
  have m3 := h3.max
  have mx := hX.max
  have m1 := h1.max
  clear h1 h2 h3 hX
  have DX := Blk.new w [.int .i64 (m : Int), .int .i64 (p : Int), .slice AX nX cX] 24
  have bz := (Below.refl _ w).alloc (Nat.le_refl _) (.cells #[.int .i64 (m : Int), .int .i64 (p : Int), .slice AX nX cX] 24)
  go_enter Try.func13, Try.ntmps13
  go_wp2_with fail
  with_reducible refine (known_any _).mono ?_
  rintro e w1 ⟨rfl, hb⟩
  replace DX := DX.on hb
  replace bz := bz.trans (hb.mono bz.size)
  clear hb
  obtain ⟨kx_0, kx_1, kx_2, kx_3, kx_4, kx_5⟩ := Mbx.cells DX
  go_wp2_with fail
  with_reducible refine (pb _).mono ?_
  rintro e w2 ⟨rfl, hb⟩
  clear kx_0 kx_1 kx_2 kx_3 kx_4 kx_5
  replace DX := DX.on hb
  replace bz := bz.trans (hb.mono bz.size)
  clear hb
  obtain ⟨kx_0, kx_1, kx_2, kx_3, kx_4, kx_5⟩ := Mbx.cells DX
  have hmk := run_makeF m (by omega)
  go_wp2_with fail
  clear kx_0 kx_1 kx_2 kx_3 kx_4 kx_5
  replace DX := DX.drew
  replace bz := bz.drew
  refine wp_region_held_drew (S := fun w9 : World => Mbx w9 w.heap.size m p AX nX cX) (by kernel_rfl) DX (fun hS => ?_)
  have hwl := DX.lt
  generalize w2.drew = wf at hS hwl DX bz ⊢
  refine wpAnyH_take (i := 0) (v := ?v0_13) rfl (by kernel_rfl) (by kernel_rfl) (by kernel_rfl) (fun _ _ _ h => h) (Or.inl ⟨by rfl, ?hy0_13⟩) (by assumption) ?rest0_13
  case hy0_13 => (intro w9 hSw; clear hSw; go_simp; try with_reducible rfl)
  try simp only [Act.put, List.setIfInBounds_toArray, List.set_cons_zero, List.set_cons_succ, List.getElem_toArray, List.getElem_cons_zero, List.getElem_cons_succ]
  refine wpAnyH_take (i := 1) (v := ?v1_14) rfl (by kernel_rfl) (by kernel_rfl) (by kernel_rfl) (fun _ _ _ h => h) (Or.inl ⟨by rfl, ?hy1_14⟩) (by assumption) ?rest1_14
  case hy1_14 => (intro w9 hSw; obtain ⟨q0, q1, q2, q3, q4, q5⟩ := Mbx.cells hSw; go_simp; try with_reducible rfl)
  try simp only [Act.put, List.setIfInBounds_toArray, List.set_cons_zero, List.set_cons_succ, List.getElem_toArray, List.getElem_cons_zero, List.getElem_cons_succ]
  refine wpAnyH_take (i := 4) (v := ?v4_15) rfl (by kernel_rfl) (by kernel_rfl) (by kernel_rfl) (fun _ _ _ h => h) (Or.inl ⟨by rfl, ?hy4_15⟩) (by assumption) ?rest4_15
  case hy4_15 => (intro w9 hSw; clear hSw; go_simp; try with_reducible rfl)
  try simp only [Act.put, List.setIfInBounds_toArray, List.set_cons_zero, List.set_cons_succ, List.getElem_toArray, List.getElem_cons_zero, List.getElem_cons_succ]
  refine wpAnyH_take (i := 5) (v := ?v5_16) rfl (by kernel_rfl) (by kernel_rfl) (by kernel_rfl) (fun _ _ _ h => h) (Or.inl ⟨by rfl, ?hy5_16⟩) (by assumption) ?rest5_16
  case hy5_16 => (intro w9 hSw; obtain ⟨q0, q1, q2, q3, q4, q5⟩ := Mbx.cells hSw; go_simp; try with_reducible rfl)
  try simp only [Act.put, List.setIfInBounds_toArray, List.set_cons_zero, List.set_cons_succ, List.getElem_toArray, List.getElem_cons_zero, List.getElem_cons_succ]
  obtain ⟨I, hI⟩ : ∃ I : Array Value → List Bool → Act → World → Prop, I = (fun T bs a9 W => ∃ (lo hi : Nat → Nat) (v0 v1 v2 v3 v4 v5 : Value), a9 = { tmps := ((((((T.setIfInBounds 40 v0).setIfInBounds 41 v1).setIfInBounds 44 v2).setIfInBounds 45 v3).setIfInBounds 9 v4).setIfInBounds 10 v5), defers := [] } ∧ Pol wf.heap.size W bs lo hi ∧ (bs.getD 0 false = true → CZ W (lo 0) (hi 0) m v0) ∧ (bs.getD 1 false = true → OvI W (lo 1) (hi 1) m 1 (List.replicate m 0) v1) ∧ (bs.getD 2 false = true → CZ W (lo 2) (hi 2) m v2) ∧ (bs.getD 3 false = true → OvI W (lo 3) (hi 3) m 1 (List.replicate m 0) v3) ∧ (bs.getD 4 false = true → CV W (lo 4) (hi 4) v4) ∧ (bs.getD 5 false = true → CV W (lo 5) (hi 5) v5) ∧ Mbx W w.heap.size m p AX nX cX ∧ Below w.heap.size w W ∧ wf.heap.size ≤ W.heap.size) := ⟨_, rfl⟩
  have HI := Lib.hid hI
  clear hI
  refine wpAnyH_freeT (is := [2, 3, 6, 7, 8, 9]) (L := fun bs => #[true, true, bs.getD 0 false, bs.getD 1 false, true, true, bs.getD 2 false, bs.getD 3 false, bs.getD 4 false, bs.getD 5 false, false, false]) (F := 2) (fun bs => (!(bs.getD 1 false) || bs.getD 0 false) && (!(bs.getD 3 false) || (bs.getD 1 false && bs.getD 2 false))) I (by kernel_rfl) ?step ?fin 6 [false, false, false, false, false, false] rfl rfl rfl ?beg hS
  case beg =>
    rw [HI.out]
    exact ⟨fun _ => 0, fun _ => 0, undef, undef, undef, undef, undef, undef, by kernel_rfl, Pol.start (by intro k; rcases k with _ | _ | _ | _ | _ | _ | k <;> simp), by simp, by simp, by simp, by simp, by simp, by simp, DX, bz, Nat.le_refl _⟩
  case step =>
    intro k hk bs a9 W hl hb hok hI hS
    obtain ⟨b0, b1, b2, b3, b4, b5, rfl⟩ := bools6 bs hl
    rw [HI.out] at hI
    obtain ⟨lo, hi, v0, v1, v2, v3, v4, v5, rfl, hP, f0, f1, f2, f3, f4, f5, DX, bz, hsz⟩ := hI
    clear hS
    rcases k with _ | _ | _ | _ | _ | _ | k
    · skip
      refine ⟨2, _, rfl, rfl, fun K hK => ?_⟩
      try simp only [Act.put, List.setIfInBounds_toArray, List.set_cons_zero, List.set_cons_succ, List.getElem_toArray, List.getElem_cons_zero, List.getElem_cons_succ]
      go_simp
      have hb1 := (Below.refl _ W).alloc (Nat.le_refl _) (.cells (LF (List.replicate m 0)).toArray 32)
      refine hK.out _ _ (DX.on hb1) ?_
      try simp only [Act.put, List.setIfInBounds_toArray, List.set_cons_zero, List.set_cons_succ, List.getElem_toArray, List.getElem_cons_zero, List.getElem_cons_succ]
      rw [HI.out]
      exact ⟨_, _, .slice (some ⟨W.heap.size, 0, none⟩) m m, v1, v2, v3, v4, v5, by kernel_rfl, hP.step 0 hb1.size hsz, fun _ => ⟨rfl, zl_new W (by omega), by simp [upN]⟩, fun h => (f1 h).on hb1, fun h => (f2 h).on hb1, fun h => (f3 h).on hb1, fun h => (f4 h).on hb1, fun h => (f5 h).on hb1, DX.on hb1, bz.trans (hb1.mono bz.size), Nat.le_trans hsz hb1.size⟩
    · skip
      refine ⟨3, _, rfl, rfl, fun K hK => ?_⟩
      try simp only [Act.put, List.setIfInBounds_toArray, List.set_cons_zero, List.set_cons_succ, List.getElem_toArray, List.getElem_cons_zero, List.getElem_cons_succ]
      go_simp
      have hbj : b0 = true := by simp at hok; exact hok.1
      subst hbj
      obtain ⟨rfl, hF, _⟩ := f0 rfl
      with_reducible refine (vec_any hF (by omega)).mono ?_
      rintro e w1 ⟨V, s, gg, cap, c, l9, rfl, hV, hb1⟩
      refine hK.out _ _ (DX.on hb1) ?_
      try simp only [Act.put, List.setIfInBounds_toArray, List.set_cons_zero, List.set_cons_succ, List.getElem_toArray, List.getElem_cons_zero, List.getElem_cons_succ]
      rw [HI.out]
      exact ⟨_, _, .slice (some ⟨lo 0, 0, none⟩) m m, Vu.V V, v2, v3, v4, v5, by kernel_rfl, hP.step 1 hb1.size hsz, fun h => (f0 h).on hb1, fun _ => ⟨V, s, gg, cap, c, l9, rfl, hV, hV.st.lt, hV.st.gt.2⟩, fun h => (f2 h).on hb1, fun h => (f3 h).on hb1, fun h => (f4 h).on hb1, fun h => (f5 h).on hb1, DX.on hb1, bz.trans (hb1.mono bz.size), Nat.le_trans hsz hb1.size⟩
    · skip
      refine ⟨6, _, rfl, rfl, fun K hK => ?_⟩
      try simp only [Act.put, List.setIfInBounds_toArray, List.set_cons_zero, List.set_cons_succ, List.getElem_toArray, List.getElem_cons_zero, List.getElem_cons_succ]
      go_simp
      have hb1 := (Below.refl _ W).alloc (Nat.le_refl _) (.cells (LF (List.replicate m 0)).toArray 32)
      refine hK.out _ _ (DX.on hb1) ?_
      try simp only [Act.put, List.setIfInBounds_toArray, List.set_cons_zero, List.set_cons_succ, List.getElem_toArray, List.getElem_cons_zero, List.getElem_cons_succ]
      rw [HI.out]
      exact ⟨_, _, v0, v1, .slice (some ⟨W.heap.size, 0, none⟩) m m, v3, v4, v5, by kernel_rfl, hP.step 2 hb1.size hsz, fun h => (f0 h).on hb1, fun h => (f1 h).on hb1, fun _ => ⟨rfl, zl_new W (by omega), by simp [upN]⟩, fun h => (f3 h).on hb1, fun h => (f4 h).on hb1, fun h => (f5 h).on hb1, DX.on hb1, bz.trans (hb1.mono bz.size), Nat.le_trans hsz hb1.size⟩
    · skip
      refine ⟨7, _, rfl, rfl, fun K hK => ?_⟩
      try simp only [Act.put, List.setIfInBounds_toArray, List.set_cons_zero, List.set_cons_succ, List.getElem_toArray, List.getElem_cons_zero, List.getElem_cons_succ]
      go_simp
      have hbj : b2 = true := by simp at hok; exact hok.2.2
      subst hbj
      obtain ⟨rfl, hF, _⟩ := f2 rfl
      with_reducible refine (vec_any hF (by omega)).mono ?_
      rintro e w1 ⟨V, s, gg, cap, c, l9, rfl, hV, hb1⟩
      refine hK.out _ _ (DX.on hb1) ?_
      try simp only [Act.put, List.setIfInBounds_toArray, List.set_cons_zero, List.set_cons_succ, List.getElem_toArray, List.getElem_cons_zero, List.getElem_cons_succ]
      rw [HI.out]
      exact ⟨_, _, v0, v1, .slice (some ⟨lo 2, 0, none⟩) m m, Vu.V V, v4, v5, by kernel_rfl, hP.step 3 hb1.size hsz, fun h => (f0 h).on hb1, fun h => (f1 h).on hb1, fun h => (f2 h).on hb1, fun _ => ⟨V, s, gg, cap, c, l9, rfl, hV, hV.st.lt, hV.st.gt.2⟩, fun h => (f4 h).on hb1, fun h => (f5 h).on hb1, DX.on hb1, bz.trans (hb1.mono bz.size), Nat.le_trans hsz hb1.size⟩
    · skip
      refine ⟨8, _, rfl, rfl, fun K hK => ?_⟩
      try simp only [Act.put, List.setIfInBounds_toArray, List.set_cons_zero, List.set_cons_succ, List.getElem_toArray, List.getElem_cons_zero, List.getElem_cons_succ]
      go_simp
      have hb1 := (Below.refl _ W).alloc (Nat.le_refl _) (.cells (Vu.zero).L.toArray 30)
      refine hK.out _ _ (DX.on hb1) ?_
      try simp only [Act.put, List.setIfInBounds_toArray, List.set_cons_zero, List.set_cons_succ, List.getElem_toArray, List.getElem_cons_zero, List.getElem_cons_succ]
      rw [HI.out]
      exact ⟨_, _, v0, v1, v2, v3, .pointer (some ⟨W.heap.size, 0, none⟩), v5, by kernel_rfl, hP.step 4 hb1.size hsz, fun h => (f0 h).on hb1, fun h => (f1 h).on hb1, fun h => (f2 h).on hb1, fun h => (f3 h).on hb1, fun _ => ⟨rfl, Blk.new W Vu.zero.L 30, by simp [upN]⟩, fun h => (f5 h).on hb1, DX.on hb1, bz.trans (hb1.mono bz.size), Nat.le_trans hsz hb1.size⟩
    · skip
      refine ⟨9, _, rfl, rfl, fun K hK => ?_⟩
      try simp only [Act.put, List.setIfInBounds_toArray, List.set_cons_zero, List.set_cons_succ, List.getElem_toArray, List.getElem_cons_zero, List.getElem_cons_succ]
      go_simp
      have hb1 := (Below.refl _ W).alloc (Nat.le_refl _) (.cells (Vu.zero).L.toArray 30)
      refine hK.out _ _ (DX.on hb1) ?_
      try simp only [Act.put, List.setIfInBounds_toArray, List.set_cons_zero, List.set_cons_succ, List.getElem_toArray, List.getElem_cons_zero, List.getElem_cons_succ]
      rw [HI.out]
      exact ⟨_, _, v0, v1, v2, v3, v4, .pointer (some ⟨W.heap.size, 0, none⟩), by kernel_rfl, hP.step 5 hb1.size hsz, fun h => (f0 h).on hb1, fun h => (f1 h).on hb1, fun h => (f2 h).on hb1, fun h => (f3 h).on hb1, fun h => (f4 h).on hb1, fun _ => ⟨rfl, Blk.new W Vu.zero.L 30, by simp [upN]⟩, DX.on hb1, bz.trans (hb1.mono bz.size), Nat.le_trans hsz hb1.size⟩
    · simp at hk; omega
  case fin =>
    intro a9 W hI hS
    rw [HI.out] at hI
    obtain ⟨lo, hi, v0, v1, v2, v3, v4, v5, rfl, hP, f0, f1, f2, f3, f4, f5, DX, bz, hsz⟩ := hI
    clear hS
    try simp only [Act.put, List.setIfInBounds_toArray, List.set_cons_zero, List.set_cons_succ, List.getElem_toArray, List.getElem_cons_zero, List.getElem_cons_succ]
    obtain ⟨VY, sVY, gVY, capVY, cVY, lVY, rfl, hVY, aY, bY⟩ := f1 rfl
    obtain ⟨VZ, sVZ, gVZ, capVZ, cVZ, lVZ, rfl, hVZ, aZ, bZ⟩ := f3 rfl
    obtain ⟨rfl, Da, la_⟩ := f4 rfl
    obtain ⟨rfl, Db, lb_⟩ := f5 rfl
    have r1 := (hP.rng 1 rfl).1
    have r3 := (hP.rng 3 rfl).1
    have r4 := (hP.rng 4 rfl).1
    have r5 := (hP.rng 5 rfl).1
    have tY := And.intro hVY.st.lo hVY.st.gt.1
    have tZ := And.intro hVZ.st.lo hVZ.st.gt.1
    have k1 := hP.ap 1 3 (by decide) rfl rfl
    have k2 := hP.ap 1 4 (by decide) rfl rfl
    have k3 := hP.ap 1 5 (by decide) rfl rfl
    have k4 := hP.ap 3 4 (by decide) rfl rfl
    have k5 := hP.ap 3 5 (by decide) rfl rfl
    have k6 := hP.ap 4 5 (by decide) rfl rfl
    have nq : lo 4 ≠ gVY ∧ lo 4 ≠ gVZ ∧ lo 5 ≠ gVY ∧ lo 5 ≠ gVZ ∧ w.heap.size < gVY ∧ w.heap.size < gVZ ∧ w.heap.size < lo 4 ∧ w.heap.size < lo 5 ∧ lo 4 ≠ lo 5 := by omega
    have ap : sVY ≠ gVZ ∧ gVY ≠ gVZ ∧ sVZ ≠ gVY := by omega
    have sq : lo 4 ≠ sVY ∧ lo 4 ≠ sVZ ∧ lo 5 ≠ sVY ∧ lo 5 ≠ sVZ := by omega
    clear hP f0 f1 f2 f3 f4 f5 aY bY aZ bZ la_ lb_ r1 r3 r4 r5 k1 k2 k3 k4 k5 k6 tY tZ
    generalize lo 4 = HDa at *
    generalize lo 5 = HDb at *
    replace hVY : Ov W (lo 1) VY sVY gVY capVY cVY lVY m 1 (List.replicate m 0) := hVY
    replace hVZ : Ov W (lo 3) VZ sVZ gVZ capVZ cVZ lVZ m 1 (List.replicate m 0) := hVZ
    generalize lo 1 = BVY at *
    generalize lo 3 = BVZ at *
    obtain ⟨fc0, fc1, fc2, fc3, fc4, fc5, fc6, fc7, fc8⟩ := Vbx.cells Da
    obtain ⟨fr0, fr1, fr2, fr3, fr4, fr5, fr6, fr7, fr8⟩ := Vbx.free Da
    refine wpAnyH_ready (rs := [10]) (by kernel_rfl) (by simp) ?_
    refine AllReadyH.cons rfl (fun K hK => ?_) AllReadyH.nil
    go_simp
    clear fc0 fr0 fc1 fr1 fc2 fr2 fc3 fr3 fc4 fr4 fc5 fr5 fc6 fr6 fc7 fr7 fc8 fr8
    have hgS := set9_grown W (HDa) (.pointer (VY).p) (.int .i64 (VY).f0) (.int .i64 (VY).f1) (.int .i64 (VY).d0) (.int .i64 (VY).d1) (.int .i64 (VY).r0) (.int .i64 (VY).r1) (.int .i64 (VY).R) (.int .i64 (VY).C)
    replace Da := Vbx.put Da (VY)
    replace DX := DX.grown hgS (by simp <;> omega)
    replace hVY := hVY.grown hgS (by omega) (by omega)
    replace hVZ := hVZ.grown hgS (by omega) (by omega)
    replace Db := Db.grown hgS (by simp <;> omega)
    replace bz := bz.grown hgS bz.size (fun k e => by cases e; omega)
    generalize (((((((((W.setCell ⟨HDa, 0, none⟩ (.pointer (VY).p)).setCell ⟨HDa, 1, none⟩ (.int .i64 (VY).f0)).setCell ⟨HDa, 2, none⟩ (.int .i64 (VY).f1)).setCell ⟨HDa, 3, none⟩ (.int .i64 (VY).d0)).setCell ⟨HDa, 4, none⟩ (.int .i64 (VY).d1)).setCell ⟨HDa, 5, none⟩ (.int .i64 (VY).r0)).setCell ⟨HDa, 6, none⟩ (.int .i64 (VY).r1)).setCell ⟨HDa, 7, none⟩ (.int .i64 (VY).R)).setCell ⟨HDa, 8, none⟩ (.int .i64 (VY).C)) = WsDa at DX hVY hVZ Da Db bz ⊢
    clear hgS
    refine hK.out _ _ DX (fun hS => ?_)
    clear hK K hS
    try simp only [Act.put, List.setIfInBounds_toArray, List.set_cons_zero, List.set_cons_succ, List.getElem_toArray, List.getElem_cons_zero, List.getElem_cons_succ]
    obtain ⟨fc0, fc1, fc2, fc3, fc4, fc5, fc6, fc7, fc8⟩ := Vbx.cells Db
    obtain ⟨fr0, fr1, fr2, fr3, fr4, fr5, fr6, fr7, fr8⟩ := Vbx.free Db
    refine wpAnyH_ready (rs := [11]) (by kernel_rfl) (by simp) ?_
    refine AllReadyH.cons rfl (fun K hK => ?_) AllReadyH.nil
    go_simp
    clear fc0 fr0 fc1 fr1 fc2 fr2 fc3 fr3 fc4 fr4 fc5 fr5 fc6 fr6 fc7 fr7 fc8 fr8
    have hgS := set9_grown WsDa (HDb) (.pointer (VZ).p) (.int .i64 (VZ).f0) (.int .i64 (VZ).f1) (.int .i64 (VZ).d0) (.int .i64 (VZ).d1) (.int .i64 (VZ).r0) (.int .i64 (VZ).r1) (.int .i64 (VZ).R) (.int .i64 (VZ).C)
    replace Db := Vbx.put Db (VZ)
    replace DX := DX.grown hgS (by simp <;> omega)
    replace hVY := hVY.grown hgS (by omega) (by omega)
    replace hVZ := hVZ.grown hgS (by omega) (by omega)
    replace Da := Da.grown hgS (by simp <;> omega)
    replace bz := bz.grown hgS bz.size (fun k e => by cases e; omega)
    generalize (((((((((WsDa.setCell ⟨HDb, 0, none⟩ (.pointer (VZ).p)).setCell ⟨HDb, 1, none⟩ (.int .i64 (VZ).f0)).setCell ⟨HDb, 2, none⟩ (.int .i64 (VZ).f1)).setCell ⟨HDb, 3, none⟩ (.int .i64 (VZ).d0)).setCell ⟨HDb, 4, none⟩ (.int .i64 (VZ).d1)).setCell ⟨HDb, 5, none⟩ (.int .i64 (VZ).r0)).setCell ⟨HDb, 6, none⟩ (.int .i64 (VZ).r1)).setCell ⟨HDb, 7, none⟩ (.int .i64 (VZ).R)).setCell ⟨HDb, 8, none⟩ (.int .i64 (VZ).C)) = WsDb at DX hVY hVZ Da Db bz ⊢
    clear hgS
    refine hK.out _ _ DX (fun hS => ?_)
    clear hK K hS
    try simp only [Act.put, List.setIfInBounds_toArray, List.set_cons_zero, List.set_cons_succ, List.getElem_toArray, List.getElem_cons_zero, List.getElem_cons_succ]
    refine wpAnyH_done (by kernel_rfl) ?_ _
    clear HI I hsz hwl sq hmk
    go_wp2_with fail
    replace DX := DX.drew
    replace hVY := hVY.drew
    replace hVZ := hVZ.drew
    replace Da := Da.drew
    replace Db := Db.drew
    replace bz := bz.drew
    refine wp_region_held_drew (S := fun w9 : World => Mbx w9 w.heap.size m p AX nX cX ∧ Vbx w9 HDa VY ∧ Vbx w9 HDb VZ) (by kernel_rfl) ⟨DX, Da, Db⟩ (fun hS => ?_)
    generalize WsDb.drew = wd5 at hS DX hVY hVZ Da Db  bz ⊢
    refine wpAnyH_take (i := 0) (v := ?v0_17) rfl (by kernel_rfl) (by kernel_rfl) (by kernel_rfl) (fun _ _ _ h => h) (Or.inl ⟨by rfl, ?hy0_17⟩) (by assumption) ?rest0_17
    case hy0_17 => (intro w9 hSw; obtain ⟨m0, m1, m2⟩ := hSw; obtain ⟨q0, q1, q2, q3, q4, q5⟩ := Mbx.cells m0; go_simp; try with_reducible rfl)
    try simp only [Act.put, List.setIfInBounds_toArray, List.set_cons_zero, List.set_cons_succ, List.getElem_toArray, List.getElem_cons_zero, List.getElem_cons_succ]
    refine wpAnyH_take (i := 2) (v := ?v2_18) rfl (by kernel_rfl) (by kernel_rfl) (by kernel_rfl) (fun _ _ _ h => h) (Or.inl ⟨by rfl, ?hy2_18⟩) (by assumption) ?rest2_18
    case hy2_18 => (intro w9 hSw; clear hSw; go_simp; try with_reducible rfl)
    try simp only [Act.put, List.setIfInBounds_toArray, List.set_cons_zero, List.set_cons_succ, List.getElem_toArray, List.getElem_cons_zero, List.getElem_cons_succ]
    refine wpAnyH_take (i := 4) (v := ?v4_19) rfl (by kernel_rfl) (by kernel_rfl) (by kernel_rfl) (fun _ _ _ h => h) (Or.inl ⟨by rfl, ?hy4_19⟩) (by assumption) ?rest4_19
    case hy4_19 => (intro w9 hSw; obtain ⟨m0, m1, m2⟩ := hSw; refine (ld_v (by rfl) (by kernel_rfl) m1).trans ?_; with_reducible rfl)
    try simp only [Act.put, List.setIfInBounds_toArray, List.set_cons_zero, List.set_cons_succ, List.getElem_toArray, List.getElem_cons_zero, List.getElem_cons_succ]
    refine wpAnyH_take (i := 6) (v := ?v6_20) rfl (by kernel_rfl) (by kernel_rfl) (by kernel_rfl) (fun _ _ _ h => h) (Or.inl ⟨by rfl, ?hy6_20⟩) (by assumption) ?rest6_20
    case hy6_20 => (intro w9 hSw; obtain ⟨m0, m1, m2⟩ := hSw; obtain ⟨q0, q1, q2, q3, q4, q5⟩ := Mbx.cells m0; go_simp; try with_reducible rfl)
    try simp only [Act.put, List.setIfInBounds_toArray, List.set_cons_zero, List.set_cons_succ, List.getElem_toArray, List.getElem_cons_zero, List.getElem_cons_succ]
    refine wpAnyH_take (i := 8) (v := ?v8_21) rfl (by kernel_rfl) (by kernel_rfl) (by kernel_rfl) (fun _ _ _ h => h) (Or.inl ⟨by rfl, ?hy8_21⟩) (by assumption) ?rest8_21
    case hy8_21 => (intro w9 hSw; clear hSw; go_simp; try with_reducible rfl)
    try simp only [Act.put, List.setIfInBounds_toArray, List.set_cons_zero, List.set_cons_succ, List.getElem_toArray, List.getElem_cons_zero, List.getElem_cons_succ]
    refine wpAnyH_take (i := 10) (v := ?v10_22) rfl (by kernel_rfl) (by kernel_rfl) (by kernel_rfl) (fun _ _ _ h => h) (Or.inl ⟨by rfl, ?hy10_22⟩) (by assumption) ?rest10_22
    case hy10_22 => (intro w9 hSw; obtain ⟨m0, m1, m2⟩ := hSw; refine (ld_v (by rfl) (by kernel_rfl) m2).trans ?_; with_reducible rfl)
    try simp only [Act.put, List.setIfInBounds_toArray, List.set_cons_zero, List.set_cons_succ, List.getElem_toArray, List.getElem_cons_zero, List.getElem_cons_succ]
    refine wpAnyH_ready (rs := [1]) (by kernel_rfl) (by simp) ?_
    refine AllReadyH.cons rfl (fun K hK => ?_) AllReadyH.nil
    go_simp
    with_reducible refine (of_any false (HX.out.on bz) HSX.out.1 HSX.out.2).mono ?_
    rintro e w3 ⟨VU, sVU, gVU, capVU, cVU, lVU, rfl, hVU, hb⟩
    replace DX := DX.on hb
    replace hVY := hVY.on hb
    replace hVZ := hVZ.on hb
    replace Da := Da.on hb
    replace Db := Db.on hb
    replace bz := bz.trans (hb.mono bz.size)
    clear hb
    clear hS; refine hK.out _ _ ⟨DX, Da, Db⟩ (fun hS => ?_); clear hK K
    try simp only [Act.put, List.setIfInBounds_toArray, List.set_cons_zero, List.set_cons_succ, List.getElem_toArray, List.getElem_cons_zero, List.getElem_cons_succ]
    refine wpAnyH_ready (rs := [3]) (by kernel_rfl) (by simp) ?_
    refine AllReadyH.cons rfl (fun K hK => ?_) AllReadyH.nil
    go_simp
    with_reducible refine (vec_any (H1.out.on bz) (by have := HNP.out; omega)).mono ?_
    rintro e w4 ⟨VV, sVV, gVV, capVV, cVV, lVV, rfl, hVV, hb⟩
    replace DX := DX.on hb
    replace hVY := hVY.on hb
    replace hVZ := hVZ.on hb
    replace Da := Da.on hb
    replace Db := Db.on hb
    replace hVU := hVU.on hb
    replace bz := bz.trans (hb.mono bz.size)
    clear hb
    clear hS; refine hK.out _ _ ⟨DX, Da, Db⟩ (fun hS => ?_); clear hK K
    try simp only [Act.put, List.setIfInBounds_toArray, List.set_cons_zero, List.set_cons_succ, List.getElem_toArray, List.getElem_cons_zero, List.getElem_cons_succ]
    refine wpAnyH_ready (rs := [5]) (by kernel_rfl) (by simp) ?_
    refine AllReadyH.cons rfl (fun K hK => ?_) AllReadyH.nil
    go_simp
    skip
    have hVV2 := hVV
    rw [show (n1 : Int) = (p : Int) by have := HNP.out; omega] at hVV2
    with_reducible refine (gemv_m b1 b0 hVU hVV2 hVY HL1.out (by simp)).mono ?_
    rintro e w61 ⟨lyVY, GVY, rfl, hVY2, hIVY, hg⟩
    replace DX := DX.grown hg (by simp; omega)
    replace Da := Da.grown hg (by simp; omega)
    replace Db := Db.grown hg (by simp; omega)
    replace hVZ := hVZ.grown hg (by omega) (by omega)
    replace hVY := hVY2
    replace bz := bz.grown hg bz.size (fun k e => by cases e; omega)
    have HIVY := Lib.hid hIVY
    clear hVY2 hg hIVY hVU hVV hVV2
    clear hS; refine hK.out _ _ ⟨DX, Da, Db⟩ (fun hS => ?_); clear hK K
    try simp only [Act.put, List.setIfInBounds_toArray, List.set_cons_zero, List.set_cons_succ, List.getElem_toArray, List.getElem_cons_zero, List.getElem_cons_succ]
    refine wpAnyH_ready (rs := [7]) (by kernel_rfl) (by simp) ?_
    refine AllReadyH.cons rfl (fun K hK => ?_) AllReadyH.nil
    go_simp
    with_reducible refine (of_any false (HX.out.on bz) HSX.out.1 HSX.out.2).mono ?_
    rintro e w5 ⟨VU, sVU, gVU, capVU, cVU, lVU, rfl, hVU, hb⟩
    replace DX := DX.on hb
    replace hVY := hVY.on hb
    replace hVZ := hVZ.on hb
    replace Da := Da.on hb
    replace Db := Db.on hb
    replace bz := bz.trans (hb.mono bz.size)
    clear hb
    clear hS; refine hK.out _ _ ⟨DX, Da, Db⟩ (fun hS => ?_); clear hK K
    try simp only [Act.put, List.setIfInBounds_toArray, List.set_cons_zero, List.set_cons_succ, List.getElem_toArray, List.getElem_cons_zero, List.getElem_cons_succ]
    refine wpAnyH_ready (rs := [9]) (by kernel_rfl) (by simp) ?_
    refine AllReadyH.cons rfl (fun K hK => ?_) AllReadyH.nil
    go_simp
    with_reducible refine (vec_any (H1.out.on bz) (by have := HNP.out; omega)).mono ?_
    rintro e w6 ⟨VV, sVV, gVV, capVV, cVV, lVV, rfl, hVV, hb⟩
    replace DX := DX.on hb
    replace hVY := hVY.on hb
    replace hVZ := hVZ.on hb
    replace Da := Da.on hb
    replace Db := Db.on hb
    replace hVU := hVU.on hb
    replace bz := bz.trans (hb.mono bz.size)
    clear hb
    clear hS; refine hK.out _ _ ⟨DX, Da, Db⟩ (fun hS => ?_); clear hK K
    try simp only [Act.put, List.setIfInBounds_toArray, List.set_cons_zero, List.set_cons_succ, List.getElem_toArray, List.getElem_cons_zero, List.getElem_cons_succ]
    refine wpAnyH_ready (rs := [11]) (by kernel_rfl) (by simp) ?_
    refine AllReadyH.cons rfl (fun K hK => ?_) AllReadyH.nil
    go_simp
    skip
    have hVV2 := hVV
    rw [show (n1 : Int) = (p : Int) by have := HNP.out; omega] at hVV2
    with_reducible refine (gemm_m b1 b0 hVU hVV2 hVZ (by simp)).mono ?_
    rintro e w62 ⟨lyVZ, GVZ, rfl, hVZ2, hIVZ, hg⟩
    replace DX := DX.grown hg (by simp; omega)
    replace Da := Da.grown hg (by simp; omega)
    replace Db := Db.grown hg (by simp; omega)
    replace hVY := hVY.grown hg (by omega) (by omega)
    replace hVZ := hVZ2
    replace bz := bz.grown hg bz.size (fun k e => by cases e; omega)
    have HIVZ := Lib.hid hIVZ
    clear hVZ2 hg hIVZ hVU hVV hVV2
    clear hS; refine hK.out _ _ ⟨DX, Da, Db⟩ (fun hS => ?_); clear hK K
    try simp only [Act.put, List.setIfInBounds_toArray, List.set_cons_zero, List.set_cons_succ, List.getElem_toArray, List.getElem_cons_zero, List.getElem_cons_succ]
    refine wpAnyH_take (i := 12) (v := ?v12_23) rfl (by kernel_rfl) (by kernel_rfl) (by kernel_rfl) (fun _ _ _ h => h) (Or.inl ⟨by rfl, ?hy12_23⟩) (by assumption) ?rest12_23
    case hy12_23 => (intro w9 hSw; clear hSw; go_simp; try with_reducible rfl)
    try simp only [Act.put, List.setIfInBounds_toArray, List.set_cons_zero, List.set_cons_succ, List.getElem_toArray, List.getElem_cons_zero, List.getElem_cons_succ]
    refine wpAnyH_take (i := 13) (v := ?v13_24) rfl (by kernel_rfl) (by kernel_rfl) (by kernel_rfl) (fun _ _ _ h => h) (Or.inl ⟨by rfl, ?hy13_24⟩) (by assumption) ?rest13_24
    case hy13_24 => (intro w9 hSw; clear hSw; go_simp; try with_reducible rfl)
    try simp only [Act.put, List.setIfInBounds_toArray, List.set_cons_zero, List.set_cons_succ, List.getElem_toArray, List.getElem_cons_zero, List.getElem_cons_succ]
    refine wpAnyH_done (by kernel_rfl) ?_ _
    go_wp2_with fail
    with_reducible refine (num_any _ _).mono ?_
    rintro e v107 ⟨rfl, rfl⟩
    go_wp2_with fail
    with_reducible refine (num_any _ _).mono ?_
    rintro e v108 ⟨rfl, rfl⟩
    obtain ⟨cDa_0, cDa_1, cDa_2, cDa_3, cDa_4, cDa_5, cDa_6, cDa_7, cDa_8⟩ := Vbx.cells Da
    obtain ⟨cDb_0, cDb_1, cDb_2, cDb_3, cDb_4, cDb_5, cDb_6, cDb_7, cDb_8⟩ := Vbx.cells Db
    go_wp2_with fail
    with_reducible refine (same_ov hVY hVZ (Is.same HIVY.out HIVZ.out)).mono ?_
    rintro e w9 ⟨rfl, hb⟩
    clear cDa_0 cDa_1 cDa_2 cDa_3 cDa_4 cDa_5 cDa_6 cDa_7 cDa_8 cDb_0 cDb_1 cDb_2 cDb_3 cDb_4 cDb_5 cDb_6 cDb_7 cDb_8
    replace DX := DX.on hb
    replace hVY := hVY.on hb
    replace hVZ := hVZ.on hb
    replace Da := Da.on hb
    replace Db := Db.on hb
    replace bz := bz.trans (hb.mono bz.size)
    clear hb Da Db hVY hVZ
    go_wp2_with fail
    go_ret
    exact ⟨rfl, bz⟩
set_option maxRecDepth 100000 in
set_option maxHeartbeats 8000000 in
theorem KernelsMeans_big_c {w : World} {RX CX : Int} {AX : Option Addr} {nX cX : Nat} {LX : List Int} {A1 A2 A3 : Option Addr} {n1 c1 n2 c2 n3 c3 : Nat} {L1 l k : List Int} (hX : FL w AX nX cX LX) (h1 : FL w A1 n1 c1 L1) (h2 : IL w A2 n2 c2 l) (h3 : IL w A3 n3 c3 k) (hb : bigM RX CX nX = true) (h40 : n2 ≤ 40) (hne : n3 = n2) : Calls Try.prog 13 #[mV RX CX AX nX cX, .slice A1 n1 c1, .slice A2 n2 c2, .slice A3 n3 c3] w (Ans w (.bool true)) := by
  have pb := fun W => big_any RX CX AX nX cX hX.max W
  rw [hb] at pb
  clear hb
  have g40 : (n2 : Int) ≤ 40 := by omega
  have gne : ((n3 : Int) != (n2 : Int)) = false := by simp; omega
  have H1 := Lib.hid h1
  have H2 := Lib.hid h2
  have H3 := Lib.hid h3
  have HX := Lib.hid hX
  have m2 := h2.max
  have m3 := h3.max
  have mx := hX.max
  have m1 := h1.max
  clear h1 h2 h3 hX
  have DX := Blk.new w [.int .i64 RX, .int .i64 CX, .slice AX nX cX] 24
  have bz := (Below.refl _ w).alloc (Nat.le_refl _) (.cells #[.int .i64 RX, .int .i64 CX, .slice AX nX cX] 24)
  go_enter Try.func13, Try.ntmps13
  go_wp2_with fail
  with_reducible refine (known_any _).mono ?_
  rintro e w1 ⟨rfl, hb⟩
  replace DX := DX.on hb
  replace bz := bz.trans (hb.mono bz.size)
  clear hb
  obtain ⟨kx_0, kx_1, kx_2, kx_3, kx_4, kx_5⟩ := Mbx.cells DX
  go_wp2_with fail
  with_reducible refine (pb _).mono ?_
  rintro e w2 ⟨rfl, hb⟩
  clear kx_0 kx_1 kx_2 kx_3 kx_4 kx_5
  replace DX := DX.on hb
  replace bz := bz.trans (hb.mono bz.size)
  clear hb
  go_wp2_with fail
  obtain ⟨PP, hPP⟩ : ∃ P : Nat → Int, (fun t => (D l t).tmod 1048576) = P := ⟨_, rfl⟩
  obtain ⟨QQ, hQQ⟩ : ∃ P : Nat → Int, (fun t => (D k t).tmod 1048576) = P := ⟨_, rfl⟩
  have pb : ∀ t, -1048575 ≤ PP t ∧ PP t ≤ 1048575 := fun t => by rw [← hPP]; have h1 := Int.tmod_lt_of_pos (D l t) (show (0 : Int) < 1048576 by omega); have h2 := Int.lt_tmod_of_pos (D l t) (show (0 : Int) < 1048576 by omega); exact ⟨by show -1048575 ≤ (D l t).tmod 1048576; omega, by show (D l t).tmod 1048576 ≤ 1048575; omega⟩
  have qb : ∀ t, -1048575 ≤ QQ t ∧ QQ t ≤ 1048575 := fun t => by rw [← hQQ]; have h1 := Int.tmod_lt_of_pos (D k t) (show (0 : Int) < 1048576 by omega); have h2 := Int.lt_tmod_of_pos (D k t) (show (0 : Int) < 1048576 by omega); exact ⟨by show -1048575 ≤ (D k t).tmod 1048576; omega, by show (D k t).tmod 1048576 ≤ 1048575; omega⟩
  have HPB := Lib.hid pb
  have HQB := Lib.hid qb
  have HPP := Lib.hid hPP
  have HQQ := Lib.hid hQQ
  obtain ⟨xx, hxx⟩ : ∃ x : Nat → Nat, (fun t => FloatKind.f64.nearest (PP t)) = x := ⟨_, rfl⟩
  obtain ⟨yy, hyy⟩ : ∃ x : Nat → Nat, (fun t => FloatKind.f64.nearest (QQ t)) = x := ⟨_, rfl⟩
  have HXX := Lib.hid hxx
  have HYY := Lib.hid hyy
  have hsb : ∀ t, t ≤ 40 → -43980465111040 ≤ isum (fun t => PP t * QQ t) t ∧ isum (fun t => PP t * QQ t) t ≤ 43980465111040 := fun t ht => by
    have := isum_bd (p := fun t => PP t * QQ t) (b := 1099511627776) (by omega) (n := t) (fun t _ => by
      have h1 := pb t
      have h2 := qb t
      have h3 : (PP t * QQ t).natAbs ≤ 1048576 * 1048576 := by rw [Int.natAbs_mul]; exact Nat.mul_le_mul (by omega) (by omega)
      skip
      omega)
    have h9 : (t : Int) * 1099511627776 ≤ 40 * 1099511627776 := Int.mul_le_mul_of_nonneg_right (by omega) (by omega)
    omega
  have HSB := Lib.hid hsb
  clear hPP hQQ hxx hyy pb qb hsb
  obtain ⟨B, hB⟩ : ∃ B, w2.heap.size = B := ⟨_, rfl⟩
  have hBz : w.heap.size ≤ B := by rw [← hB]; exact bz.size
  have hB2 : B ≤ w2.heap.size := by omega
  clear hB
  go_loopw [13, 14, 17, 18] (fun a b s i wr => ∃ (t : Nat) (A5 A6 : Option Addr) (c5 c6 : Nat), t ≤ n2 ∧ a = .slice A5 (xs xx t).length c5 ∧ b = .slice A6 (xs yy t).length c6 ∧ s = .int .i64 (isum (fun t => PP t * QQ t) t) ∧ i = .int .i64 t ∧ Mp wr B A5 c5 (xs xx t) A6 c6 (xs yy t) ∧ B ≤ wr.heap.size ∧ Below w.heap.size w wr) (fun _ _ _ i _ => n2 - (intOf i).toNat)
  case atStart => exact ⟨0, none, none, 0, 0, Nat.zero_le _, rfl, rfl, rfl, rfl, Mp.nil _ _, hB2, bz⟩
  case round =>
    clear hB2 bz DX
    obtain ⟨t, A5, A6, c5, c6, ht, rfl, rfl, rfl, rfl, hM, hBr, bz⟩ := hrel
    by_cases hlt : t < n2
    · skip
      obtain ⟨ad2, hA2, _, hc2⟩ := (H2.out.on bz).at_ t hlt
      obtain ⟨ad3, hA3, _, hc3⟩ := (H3.out.on bz).at_ t (by omega)
      have zb := H2.out.bd t hlt
      have yb := H3.out.bd t (by omega)
      have ep : (D l t).tmod 1048576 = PP t := by rw [← HPP.out]
      have eq : (D k t).tmod 1048576 = QQ t := by rw [← HQQ.out]
      have p0 := HPB.out t
      have q0 := HQB.out t
      have ex : floatOfInt .f64 (PP t) = xx t := by rw [← HXX.out]; rfl
      have ey : floatOfInt .f64 (QQ t) = yy t := by rw [← HYY.out]; rfl
      have bx : xx t ≤ 18446744073709551615 := by rw [← HXX.out]; exact nearest_le _ (by omega)
      have by_ : yy t ≤ 18446744073709551615 := by rw [← HYY.out]; exact nearest_le _ (by omega)
      have s0 := HSB.out t (by omega)
      have s1 := HSB.out (t + 1) (by omega)
      have es : isum (fun t => PP t * QQ t) (t + 1) = isum (fun t => PP t * QQ t) t + PP t * QQ t := rfl
      have sq : -1099511627776 ≤ PP t * QQ t ∧ PP t * QQ t ≤ 1099511627776 := by
        have h3 : (PP t * QQ t).natAbs ≤ 1048576 * 1048576 := by rw [Int.natAbs_mul]; exact Nat.mul_le_mul (by omega) (by omega)
        omega
      have HES := Lib.hid es
      have exs := xs_next xx t
      have eys := xs_next yy t
      have HEX := Lib.hid exs
      have HEY := Lib.hid eys
      have hlx := xs_len xx t
      have hly := xs_len yy t
      have HLX := Lib.hid hlx
      have HLY := Lib.hid hly
      have HM := Lib.hid hM
      rw [es] at s1
      generalize hS : isum (fun t => PP t * QQ t) t = S at *
      clear es exs eys hlx hly hS
      generalize D l t = Z at *
      generalize D k t = Y at *
      generalize hPt : PP t = P at *
      generalize hQt : QQ t = Q at *
      generalize hPQ : P * Q = R at *
      generalize hxt : xx t = X at *
      generalize hyt : yy t = V at *
      have wP : IntKind.i32.wrap P = P := by rw [IntKind.wrap_i32]; omega
      have wQ : IntKind.i32.wrap Q = Q := by rw [IntKind.wrap_i32]; omega
      have wP6 : IntKind.i64.wrap P = P := (IntWalk.i64_left _).trans (IntWalk.wrap64_in _ (by omega))
      have wQ6 : IntKind.i64.wrap Q = Q := (IntWalk.i64_left _).trans (IntWalk.wrap64_in _ (by omega))
      have wR : IntKind.i64.wrap R = R := (IntWalk.i64_left _).trans (IntWalk.wrap64_in _ (by omega))
      have wS : IntKind.i64.wrap (S + R) = S + R := (IntWalk.i64_left _).trans (IntWalk.wrap64_in _ (by omega))
      have HPt := Lib.hid hPt
      have HQt := Lib.hid hQt
      have Hxt := Lib.hid hxt
      have Hyt := Lib.hid hyt
      clear hPt hQt hxt hyt hM p0 q0 s0 s1 sq zb yb
      subst hA2
      subst hA3
      have t0 : (0 : Int) ≤ t := by omega
      have t2 : (t : Int) < n2 := by omega
      have t3 : (t : Int) < n3 := by omega
      go_wp2_with fail
      refine wp_region_held_drew (S := fun w9 : World => w9.cell? (ad2.add t) = some (.int .i32 Z) ∧ w9.cell? (ad3.add t) = some (.int .i32 Y)) (by kernel_rfl) ⟨hc2, hc3⟩ (fun hS => ?_)
      refine wpAnyH_take (i := 0) (v := ?v0_25) rfl (by kernel_rfl) (by kernel_rfl) (by kernel_rfl) (fun _ _ _ h => h) (Or.inl ⟨by rfl, ?hy0_25⟩) (by assumption) ?rest0_25
      case hy0_25 => (intro w9 hSw; clear hSw; go_simp; try with_reducible rfl)
      try simp only [Act.put, List.setIfInBounds_toArray, List.set_cons_zero, List.set_cons_succ, List.getElem_toArray, List.getElem_cons_zero, List.getElem_cons_succ]
      refine wpAnyH_take (i := 1) (v := ?v1_26) rfl (by kernel_rfl) (by kernel_rfl) (by kernel_rfl) (fun _ _ _ h => h) (Or.inl ⟨by rfl, ?hy1_26⟩) (by assumption) ?rest1_26
      case hy1_26 => (intro w9 hSw; clear hSw; go_simp; try with_reducible rfl)
      try simp only [Act.put, List.setIfInBounds_toArray, List.set_cons_zero, List.set_cons_succ, List.getElem_toArray, List.getElem_cons_zero, List.getElem_cons_succ]
      refine wpAnyH_take (i := 2) (v := ?v2_27) rfl (by kernel_rfl) (by kernel_rfl) (by kernel_rfl) (fun _ _ _ h => h) (Or.inl ⟨by rfl, ?hy2_27⟩) (by assumption) ?rest2_27
      case hy2_27 => (intro w9 hSw; clear hSw; go_simp; try with_reducible rfl)
      try simp only [Act.put, List.setIfInBounds_toArray, List.set_cons_zero, List.set_cons_succ, List.getElem_toArray, List.getElem_cons_zero, List.getElem_cons_succ]
      refine wpAnyH_take (i := 3) (v := ?v3_28) rfl (by kernel_rfl) (by kernel_rfl) (by kernel_rfl) (fun _ _ _ h => h) (Or.inl ⟨by rfl, ?hy3_28⟩) (by assumption) ?rest3_28
      case hy3_28 => (intro w9 hSw; obtain ⟨m0, m1⟩ := hSw; go_simp; try with_reducible rfl)
      try simp only [Act.put, List.setIfInBounds_toArray, List.set_cons_zero, List.set_cons_succ, List.getElem_toArray, List.getElem_cons_zero, List.getElem_cons_succ]
      refine wpAnyH_take (i := 4) (v := ?v4_29) rfl (by kernel_rfl) (by kernel_rfl) (by kernel_rfl) (fun _ _ _ h => h) (Or.inl ⟨by rfl, ?hy4_29⟩) (by assumption) ?rest4_29
      case hy4_29 => (intro w9 hSw; clear hSw; go_simp; try with_reducible rfl)
      try simp only [Act.put, List.setIfInBounds_toArray, List.set_cons_zero, List.set_cons_succ, List.getElem_toArray, List.getElem_cons_zero, List.getElem_cons_succ]
      refine wpAnyH_take (i := 5) (v := ?v5_30) rfl (by kernel_rfl) (by kernel_rfl) (by kernel_rfl) (fun _ _ _ h => h) (Or.inl ⟨by rfl, ?hy5_30⟩) (by assumption) ?rest5_30
      case hy5_30 => (intro w9 hSw; clear hSw; go_simp; try with_reducible rfl)
      try simp only [Act.put, List.setIfInBounds_toArray, List.set_cons_zero, List.set_cons_succ, List.getElem_toArray, List.getElem_cons_zero, List.getElem_cons_succ]
      refine wpAnyH_take (i := 6) (v := ?v6_31) rfl (by kernel_rfl) (by kernel_rfl) (by kernel_rfl) (fun _ _ _ h => h) (Or.inl ⟨by rfl, ?hy6_31⟩) (by assumption) ?rest6_31
      case hy6_31 => (intro w9 hSw; clear hSw; go_simp; try with_reducible rfl)
      try simp only [Act.put, List.setIfInBounds_toArray, List.set_cons_zero, List.set_cons_succ, List.getElem_toArray, List.getElem_cons_zero, List.getElem_cons_succ]
      refine wpAnyH_take (i := 7) (v := ?v7_32) rfl (by kernel_rfl) (by kernel_rfl) (by kernel_rfl) (fun _ _ _ h => h) (Or.inl ⟨by rfl, ?hy7_32⟩) (by assumption) ?rest7_32
      case hy7_32 => (intro w9 hSw; clear hSw; go_simp; try with_reducible rfl)
      try simp only [Act.put, List.setIfInBounds_toArray, List.set_cons_zero, List.set_cons_succ, List.getElem_toArray, List.getElem_cons_zero, List.getElem_cons_succ]
      refine wpAnyH_take (i := 8) (v := ?v8_33) rfl (by kernel_rfl) (by kernel_rfl) (by kernel_rfl) (fun _ _ _ h => h) (Or.inl ⟨by rfl, ?hy8_33⟩) (by assumption) ?rest8_33
      case hy8_33 => (intro w9 hSw; clear hSw; go_simp; try with_reducible rfl)
      try simp only [Act.put, List.setIfInBounds_toArray, List.set_cons_zero, List.set_cons_succ, List.getElem_toArray, List.getElem_cons_zero, List.getElem_cons_succ]
      refine wpAnyH_take (i := 9) (v := ?v9_34) rfl (by kernel_rfl) (by kernel_rfl) (by kernel_rfl) (fun _ _ _ h => h) (Or.inl ⟨by rfl, ?hy9_34⟩) (by assumption) ?rest9_34
      case hy9_34 => (intro w9 hSw; obtain ⟨m0, m1⟩ := hSw; go_simp; try with_reducible rfl)
      try simp only [Act.put, List.setIfInBounds_toArray, List.set_cons_zero, List.set_cons_succ, List.getElem_toArray, List.getElem_cons_zero, List.getElem_cons_succ]
      refine wpAnyH_take (i := 10) (v := ?v10_35) rfl (by kernel_rfl) (by kernel_rfl) (by kernel_rfl) (fun _ _ _ h => h) (Or.inl ⟨by rfl, ?hy10_35⟩) (by assumption) ?rest10_35
      case hy10_35 => (intro w9 hSw; clear hSw; go_simp; try with_reducible rfl)
      try simp only [Act.put, List.setIfInBounds_toArray, List.set_cons_zero, List.set_cons_succ, List.getElem_toArray, List.getElem_cons_zero, List.getElem_cons_succ]
      refine wpAnyH_take (i := 11) (v := ?v11_36) rfl (by kernel_rfl) (by kernel_rfl) (by kernel_rfl) (fun _ _ _ h => h) (Or.inl ⟨by rfl, ?hy11_36⟩) (by assumption) ?rest11_36
      case hy11_36 => (intro w9 hSw; clear hSw; go_simp; try with_reducible rfl)
      try simp only [Act.put, List.setIfInBounds_toArray, List.set_cons_zero, List.set_cons_succ, List.getElem_toArray, List.getElem_cons_zero, List.getElem_cons_succ]
      refine wpAnyH_take (i := 12) (v := ?v12_37) rfl (by kernel_rfl) (by kernel_rfl) (by kernel_rfl) (fun _ _ _ h => h) (Or.inl ⟨by rfl, ?hy12_37⟩) (by assumption) ?rest12_37
      case hy12_37 => (intro w9 hSw; clear hSw; go_simp; try with_reducible rfl)
      try simp only [Act.put, List.setIfInBounds_toArray, List.set_cons_zero, List.set_cons_succ, List.getElem_toArray, List.getElem_cons_zero, List.getElem_cons_succ]
      refine wpAnyH_take (i := 13) (v := ?v13_38) rfl (by kernel_rfl) (by kernel_rfl) (by kernel_rfl) (fun _ _ _ h => h) (Or.inl ⟨by rfl, ?hy13_38⟩) (by assumption) ?rest13_38
      case hy13_38 => (intro w9 hSw; clear hSw; go_simp; try with_reducible rfl)
      try simp only [Act.put, List.setIfInBounds_toArray, List.set_cons_zero, List.set_cons_succ, List.getElem_toArray, List.getElem_cons_zero, List.getElem_cons_succ]
      refine wpAnyH_done (by kernel_rfl) ?_ _
      have hMd := HM.out.on (Below.refl _ wr).drew
      have bzd := bz.trans ((Below.refl _ wr).drew.mono bz.size)
      have hBq : B ≤ wr.drew.heap.size := hBr
      generalize wr.drew = wq at hMd bzd hBq ⊢
      have hbA := (Below.refl _ wq).alloc (Nat.le_refl _) (.cells #[.float .f64 X] 32)
      have hsrc := one_src wq X
      have hMa := hMd.on hbA
      have bza := bzd.alloc bzd.size (.cells #[.float .f64 X] 32)
      have hBa := Nat.le_trans hBq hbA.size
      go_wp2_with (first
        | (at_builtin; refine wpList_appF _ rfl _ _ rfl B A5 c5 (xs xx t) rfl hMa.o1 _ _ _ _ rfl hsrc (by rw [HLX.out]; simp; omega) hBa ?_; intro A7 c7 w9 ho9 hg9 hat9; have M9 := hMa.one ho9 hg9 hat9; have bz9 := below_appF bza (hMa.o1.less hBz) hg9 (Nat.le_trans hBz hBa); have hB9 := Nat.le_trans hBa hg9.size; clear ho9 hg9 hat9; have hbB := (Below.refl _ w9).alloc (Nat.le_refl _) (.cells #[.float .f64 V] 32); have hsrc2 := one_src w9 V; have hMb := M9.on hbB; have bzb := bz9.alloc bz9.size (.cells #[.float .f64 V] 32); have hBb := Nat.le_trans hB9 hbB.size)
        | (at_builtin; refine wpList_appF _ rfl _ _ rfl B A6 c6 (xs yy t) rfl hMb.o2 _ _ _ _ rfl hsrc2 (by rw [HLY.out]; simp; omega) hBb ?_; intro A8 c8 w10 ho10 hg10 hat10; have M10 := (hMb.turn.one ho10 hg10 hat10).turn; have bz10 := below_appF bzb (hMb.o2.less hBz) hg10 (Nat.le_trans hBz hBb); have hB10 := Nat.le_trans hBb hg10.size; clear ho10 hg10 hat10))
      go_roundw
      case rel => exact ⟨t + 1, A7, A8, c7, c8, by omega, by rw [HEX.out]; first | rfl | simp, by rw [HEY.out]; first | rfl | simp, by rw [HES.out], by go_num, by rw [HEX.out, HEY.out]; exact M10, hB10, bz10⟩
      case measure => simp [intOf]; omega
    · skip
      have htn : t = n2 := by omega
      subst htn
      generalize wr = W2 at *
      have hxw : ∀ s, xx s ≤ 18446744073709551615 := fun s => by rw [← HXX.out]; exact nearest_le _ (by have := HPB.out s; omega)
      have hyw : ∀ s, yy s ≤ 18446744073709551615 := fun s => by rw [← HYY.out]; exact nearest_le _ (by have := HQB.out s; omega)
      have HXW := Lib.hid hxw
      have HYW := Lib.hid hyw
      have hA := hM.o1.fl (xs_wd hxw t)
      have hB := hM.o2.fl (xs_wd hyw t)
      obtain ⟨B3, hB3⟩ : ∃ B, W2.heap.size = B := ⟨_, rfl⟩
      have hB3a : w.heap.size ≤ B3 := by rw [← hB3]; exact bz.size
      have HB3 := Lib.hid hB3
      have hlA := xs_len xx t
      have hlB := xs_len yy t
      obtain ⟨xr, hxr⟩ : ∃ x : Nat → Nat, (fun s => xx (t - 1 - s)) = x := ⟨_, rfl⟩
      obtain ⟨yr, hyr⟩ : ∃ x : Nat → Nat, (fun s => yy (t - 1 - s)) = x := ⟨_, rfl⟩
      have HXR := Lib.hid hxr
      have HYR := Lib.hid hyr
      have HHA := Lib.hid hA
      have HHB := Lib.hid hB
      have HHM := Lib.hid hM
      have HLA := Lib.hid hlA
      have HLB := Lib.hid hlB
      have HBZ := Lib.hid bz
      have h3z : B3 ≤ W2.heap.size := by omega
      clear hxw hyw hxr hyr hA hB hM hlA hlB hB3 bz hBr
      go_wp2_with fail
      go_loopw [15, 16, 21] (fun a b j wr => ∃ (s : Nat) (z : Int) (A7 A8 : Option Addr) (c7 c8 : Nat), s ≤ t ∧ z = (t : Int) - 1 - s ∧ a = .slice A7 (xs xr s).length c7 ∧ b = .slice A8 (xs yr s).length c8 ∧ j = .int .i64 z ∧ Mp wr B3 A7 c7 (xs xr s) A8 c8 (xs yr s) ∧ B3 ≤ wr.heap.size ∧ Below B3 W2 wr) (fun _ _ j _ => (intOf j + 1).toNat)
      case atStart => exact ⟨0, (t : Int) - 1, none, none, 0, 0, Nat.zero_le _, by omega, rfl, rfl, by go_num, Mp.nil _ _, h3z, by rw [← HB3.out]; exact Below.refl _ _⟩
      case round =>
        obtain ⟨s, z, A7, A8, c7, c8, hs, hz, rfl, rfl, rfl, hM, hBr, bz⟩ := hrel
        by_cases hst : s < t
        · skip
          obtain ⟨m, hm⟩ : ∃ m : Nat, z = (m : Int) := ⟨(z).toNat, by omega⟩
          subst hm
          have hmt : m < t := by omega
          have hms : t - 1 - s = m := by omega
          obtain ⟨ad5, hA5, q5, hc5⟩ := HHA.out.at_ (k := m) (by rw [HLA.out]; exact hmt)
          obtain ⟨ad6, hA6, q6, hc6⟩ := HHB.out.at_ (k := m) (by rw [HLB.out]; exact hmt)
          rw [xs_D hmt, Int.toNat_natCast] at hc5
          rw [xs_D hmt, Int.toNat_natCast] at hc6
          have q5b : (ad5.add m).block < B3 := by rw [add_block, ← HB3.out]; exact q5
          have q6b : (ad6.add m).block < B3 := by rw [add_block, ← HB3.out]; exact q6
          have exs : xs xr (s + 1) = xs xr s ++ [(xx m : Int)] := by rw [xs_next, ← HXR.out]; simp only [hms]
          have eys : xs yr (s + 1) = xs yr s ++ [(yy m : Int)] := by rw [xs_next, ← HYR.out]; simp only [hms]
          have HEX := Lib.hid exs
          have HEY := Lib.hid eys
          have bX := HXW.out m
          have bV := HYW.out m
          have jx : (m : Int) < ((xs xx t).length : Int) := by rw [HLA.out]; omega
          have jy : (m : Int) < ((xs yy t).length : Int) := by rw [HLB.out]; omega
          have j0 : (0 : Int) ≤ m := by omega
          have HLX := Lib.hid (xs_len xr s)
          have HLY := Lib.hid (xs_len yr s)
          have HZ := Lib.hid hz
          generalize xx m = X at *
          generalize yy m = V at *
          subst hA5
          subst hA6
          clear exs eys hz hms q5 q6
          go_wp2_with fail
          have bz : Below B3 W2 wr.drew := bz.drew
          have hM := hM.on (Below.refl _ wr).drew
          replace hBr : B3 ≤ wr.drew.heap.size := hBr
          refine wp_region_held_drew (S := fun w9 : World => w9.cell? (ad5.add m) = some (.float .f64 X) ∧ w9.cell? (ad6.add m) = some (.float .f64 V)) (by kernel_rfl) ⟨(bz.cell q5b).trans hc5, (bz.cell q6b).trans hc6⟩ (fun hS => ?_)
          generalize wr.drew = wd21 at hS hM hBr bz ⊢
          refine wpAnyH_take (i := 0) (v := ?v0_39) rfl (by kernel_rfl) (by kernel_rfl) (by kernel_rfl) (fun _ _ _ h => h) (Or.inl ⟨by rfl, ?hy0_39⟩) (by assumption) ?rest0_39
          case hy0_39 => (intro w9 hSw; clear hSw; go_simp; try with_reducible rfl)
          try simp only [Act.put, List.setIfInBounds_toArray, List.set_cons_zero, List.set_cons_succ, List.getElem_toArray, List.getElem_cons_zero, List.getElem_cons_succ]
          refine wpAnyH_take (i := 1) (v := ?v1_40) rfl (by kernel_rfl) (by kernel_rfl) (by kernel_rfl) (fun _ _ _ h => h) (Or.inl ⟨by rfl, ?hy1_40⟩) (by assumption) ?rest1_40
          case hy1_40 => (intro w9 hSw; clear hSw; go_simp; try with_reducible rfl)
          try simp only [Act.put, List.setIfInBounds_toArray, List.set_cons_zero, List.set_cons_succ, List.getElem_toArray, List.getElem_cons_zero, List.getElem_cons_succ]
          refine wpAnyH_take (i := 2) (v := ?v2_41) rfl (by kernel_rfl) (by kernel_rfl) (by kernel_rfl) (fun _ _ _ h => h) (Or.inl ⟨by rfl, ?hy2_41⟩) (by assumption) ?rest2_41
          case hy2_41 => (intro w9 hSw; clear hSw; go_simp; try with_reducible rfl)
          try simp only [Act.put, List.setIfInBounds_toArray, List.set_cons_zero, List.set_cons_succ, List.getElem_toArray, List.getElem_cons_zero, List.getElem_cons_succ]
          refine wpAnyH_take (i := 3) (v := ?v3_42) rfl (by kernel_rfl) (by kernel_rfl) (by kernel_rfl) (fun _ _ _ h => h) (Or.inl ⟨by rfl, ?hy3_42⟩) (by assumption) ?rest3_42
          case hy3_42 => (intro w9 hSw; clear hSw; go_simp; try with_reducible rfl)
          try simp only [Act.put, List.setIfInBounds_toArray, List.set_cons_zero, List.set_cons_succ, List.getElem_toArray, List.getElem_cons_zero, List.getElem_cons_succ]
          refine wpAnyH_take (i := 4) (v := ?v4_43) rfl (by kernel_rfl) (by kernel_rfl) (by kernel_rfl) (fun _ _ _ h => h) (Or.inl ⟨by rfl, ?hy4_43⟩) (by assumption) ?rest4_43
          case hy4_43 => (intro w9 hSw; obtain ⟨m0, m1⟩ := hSw; go_simp; try with_reducible rfl)
          try simp only [Act.put, List.setIfInBounds_toArray, List.set_cons_zero, List.set_cons_succ, List.getElem_toArray, List.getElem_cons_zero, List.getElem_cons_succ]
          refine wpAnyH_take (i := 7) (v := ?v7_44) rfl (by kernel_rfl) (by kernel_rfl) (by kernel_rfl) (fun _ _ _ h => h) (Or.inl ⟨by rfl, ?hy7_44⟩) (by assumption) ?rest7_44
          case hy7_44 => (intro w9 hSw; clear hSw; go_simp; try with_reducible rfl)
          try simp only [Act.put, List.setIfInBounds_toArray, List.set_cons_zero, List.set_cons_succ, List.getElem_toArray, List.getElem_cons_zero, List.getElem_cons_succ]
          refine wpAnyH_take (i := 8) (v := ?v8_45) rfl (by kernel_rfl) (by kernel_rfl) (by kernel_rfl) (fun _ _ _ h => h) (Or.inl ⟨by rfl, ?hy8_45⟩) (by assumption) ?rest8_45
          case hy8_45 => (intro w9 hSw; clear hSw; go_simp; try with_reducible rfl)
          try simp only [Act.put, List.setIfInBounds_toArray, List.set_cons_zero, List.set_cons_succ, List.getElem_toArray, List.getElem_cons_zero, List.getElem_cons_succ]
          refine wpAnyH_take (i := 9) (v := ?v9_46) rfl (by kernel_rfl) (by kernel_rfl) (by kernel_rfl) (fun _ _ _ h => h) (Or.inl ⟨by rfl, ?hy9_46⟩) (by assumption) ?rest9_46
          case hy9_46 => (intro w9 hSw; clear hSw; go_simp; try with_reducible rfl)
          try simp only [Act.put, List.setIfInBounds_toArray, List.set_cons_zero, List.set_cons_succ, List.getElem_toArray, List.getElem_cons_zero, List.getElem_cons_succ]
          refine wpAnyH_take (i := 10) (v := ?v10_47) rfl (by kernel_rfl) (by kernel_rfl) (by kernel_rfl) (fun _ _ _ h => h) (Or.inl ⟨by rfl, ?hy10_47⟩) (by assumption) ?rest10_47
          case hy10_47 => (intro w9 hSw; clear hSw; go_simp; try with_reducible rfl)
          try simp only [Act.put, List.setIfInBounds_toArray, List.set_cons_zero, List.set_cons_succ, List.getElem_toArray, List.getElem_cons_zero, List.getElem_cons_succ]
          refine wpAnyH_take (i := 11) (v := ?v11_48) rfl (by kernel_rfl) (by kernel_rfl) (by kernel_rfl) (fun _ _ _ h => h) (Or.inl ⟨by rfl, ?hy11_48⟩) (by assumption) ?rest11_48
          case hy11_48 => (intro w9 hSw; obtain ⟨m0, m1⟩ := hSw; go_simp; try with_reducible rfl)
          try simp only [Act.put, List.setIfInBounds_toArray, List.set_cons_zero, List.set_cons_succ, List.getElem_toArray, List.getElem_cons_zero, List.getElem_cons_succ]
          refine wpAnyH_ready (rs := [5, 12]) (by kernel_rfl) (by simp) ?_
          refine (AllReadyH.cons rfl (fun K hK => ?_) (AllReadyH.cons rfl (fun K hK => ?_) AllReadyH.nil))
          · go_simp
            have R5 := rowf_one wd21 X
            have hb1 := (Below.refl _ wd21).alloc (Nat.le_refl _) (.cells #[.float .f64 X] 32)
            replace hM := hM.on hb1
            replace bz := bz.trans (hb1.mono hBr)
            replace hBr := Nat.le_trans hBr hb1.size
            clear hb1
            obtain ⟨g5, hg5⟩ : ∃ g, wd21.heap.size = g := ⟨_, rfl⟩
            simp only [hg5] at R5 ⊢
            clear hg5
            generalize (wd21.alloc (.cells #[.float .f64 X] 32)) = Wb1 at hM R5 hBr bz ⊢
            clear hS; refine hK.out _ _ ⟨(bz.cell q5b).trans hc5, (bz.cell q6b).trans hc6⟩ (fun hS => ?_); clear hK K
            try simp only [Act.put, List.setIfInBounds_toArray, List.set_cons_zero, List.set_cons_succ, List.getElem_toArray, List.getElem_cons_zero, List.getElem_cons_succ]
            refine wpAnyH_ready (rs := [6, 12]) (by kernel_rfl) (by simp) ?_
            refine (AllReadyH.cons rfl (fun K hK => ?_) (AllReadyH.cons rfl (fun K hK => ?_) AllReadyH.nil))
            · refine step_appF _ rfl _ _ rfl B3 A7 c7 (xs xr s) rfl hM.o1 _ _ _ _ rfl (src_of R5) (by rw [HLX.out]; simp; omega) hBr ?_
              intro A9 c9 Wp2 ho9 hg9 hat9
              replace bz := below_appF bz hM.o1 hg9 hBr
              clear R5
              replace hM := hM.one ho9 hg9 hat9
              replace hBr := Nat.le_trans hBr hg9.size
              clear ho9 hg9 hat9
              clear hS; refine hK.out _ _ ⟨(bz.cell q5b).trans hc5, (bz.cell q6b).trans hc6⟩ (fun hS => ?_); clear hK K
              try simp only [Act.put, List.setIfInBounds_toArray, List.set_cons_zero, List.set_cons_succ, List.getElem_toArray, List.getElem_cons_zero, List.getElem_cons_succ]
              refine wpAnyH_ready (rs := [12]) (by kernel_rfl) (by simp) ?_
              refine AllReadyH.cons rfl (fun K hK => ?_) AllReadyH.nil
              go_simp
              have R12 := rowf_one Wp2 V
              have hb1 := (Below.refl _ Wp2).alloc (Nat.le_refl _) (.cells #[.float .f64 V] 32)
              replace hM := hM.on hb1
              replace bz := bz.trans (hb1.mono hBr)
              replace hBr := Nat.le_trans hBr hb1.size
              clear hb1
              obtain ⟨g12, hg12⟩ : ∃ g, Wp2.heap.size = g := ⟨_, rfl⟩
              simp only [hg12] at R12 ⊢
              clear hg12
              generalize (Wp2.alloc (.cells #[.float .f64 V] 32)) = Wb3 at hM R12 hBr bz ⊢
              clear hS; refine hK.out _ _ ⟨(bz.cell q5b).trans hc5, (bz.cell q6b).trans hc6⟩ (fun hS => ?_); clear hK K
              try simp only [Act.put, List.setIfInBounds_toArray, List.set_cons_zero, List.set_cons_succ, List.getElem_toArray, List.getElem_cons_zero, List.getElem_cons_succ]
              refine wpAnyH_ready (rs := [13]) (by kernel_rfl) (by simp) ?_
              refine AllReadyH.cons rfl (fun K hK => ?_) AllReadyH.nil
              refine step_appF _ rfl _ _ rfl B3 A8 c8 (xs yr s) rfl hM.o2 _ _ _ _ rfl (src_of R12) (by rw [HLY.out]; simp; omega) hBr ?_
              intro A11 c11 Wp4 ho9 hg9 hat9
              replace bz := below_appF bz hM.o2 hg9 hBr
              clear R12
              replace hM := (hM.turn.one ho9 hg9 hat9).turn
              replace hBr := Nat.le_trans hBr hg9.size
              clear ho9 hg9 hat9
              clear hS; refine hK.out _ _ ⟨(bz.cell q5b).trans hc5, (bz.cell q6b).trans hc6⟩ (fun hS => ?_); clear hK K
              try simp only [Act.put, List.setIfInBounds_toArray, List.set_cons_zero, List.set_cons_succ, List.getElem_toArray, List.getElem_cons_zero, List.getElem_cons_succ]
              refine wpAnyH_take (i := 14) (v := ?v14_49) rfl (by kernel_rfl) (by kernel_rfl) (by kernel_rfl) (fun _ _ _ h => h) (Or.inl ⟨by rfl, ?hy14_49⟩) (by assumption) ?rest14_49
              case hy14_49 => (intro w9 hSw; clear hSw; go_simp; try with_reducible rfl)
              try simp only [Act.put, List.setIfInBounds_toArray, List.set_cons_zero, List.set_cons_succ, List.getElem_toArray, List.getElem_cons_zero, List.getElem_cons_succ]
              refine wpAnyH_take (i := 15) (v := ?v15_50) rfl (by kernel_rfl) (by kernel_rfl) (by kernel_rfl) (fun _ _ _ h => h) (Or.inl ⟨by rfl, ?hy15_50⟩) (by assumption) ?rest15_50
              case hy15_50 => (intro w9 hSw; clear hSw; go_simp; try with_reducible rfl)
              try simp only [Act.put, List.setIfInBounds_toArray, List.set_cons_zero, List.set_cons_succ, List.getElem_toArray, List.getElem_cons_zero, List.getElem_cons_succ]
              refine wpAnyH_done (by kernel_rfl) ?_ _
              go_wp2_with fail
              go_roundw
              case rel => exact ⟨s + 1, (m : Int) - 1, A9, A11, c9, c11, by omega, by have := HZ.out; omega, by rw [HEX.out]; first | rfl | simp, by rw [HEY.out]; first | rfl | simp, by go_num, by rw [HEX.out, HEY.out]; exact hM, hBr, bz⟩
              case measure => simp [intOf] <;> omega
            go_simp
            have R12 := rowf_one Wb1 V
            have q12 : ∀ b, (Value.slice A7 (xs xr s).length c7).ownBlock = some b → some Wb1.heap.size ≠ some b := fun b e e2 => by { injection e2 with e3; cases hA : A7 with | none => rw [hA] at e; cases e | some a => (rw [hA] at e; injection e with e4; have := (hM.o1.gt hA).2; omega) }
            have hb1 := (Below.refl _ Wb1).alloc (Nat.le_refl _) (.cells #[.float .f64 V] 32)
            replace hM := hM.on hb1
            replace R5 := R5.on hb1
            replace bz := bz.trans (hb1.mono hBr)
            replace hBr := Nat.le_trans hBr hb1.size
            clear hb1
            obtain ⟨g12, hg12⟩ : ∃ g, Wb1.heap.size = g := ⟨_, rfl⟩
            simp only [hg12] at R12 q12 ⊢
            clear hg12
            generalize (Wb1.alloc (.cells #[.float .f64 V] 32)) = Wb2 at hM R5 R12 hBr bz ⊢
            clear hS; refine hK.out _ _ ⟨(bz.cell q5b).trans hc5, (bz.cell q6b).trans hc6⟩ (fun hS => ?_); clear hK K
            try simp only [Act.put, List.setIfInBounds_toArray, List.set_cons_zero, List.set_cons_succ, List.getElem_toArray, List.getElem_cons_zero, List.getElem_cons_succ]
            refine wpAnyH_ready (rs := [6]) (by kernel_rfl) (by simp) ?_
            refine AllReadyH.cons rfl (fun K hK => ?_) AllReadyH.nil
            refine step_appF _ rfl _ _ rfl B3 A7 c7 (xs xr s) rfl hM.o1 _ _ _ _ rfl (src_of R5) (by rw [HLX.out]; simp; omega) hBr ?_
            intro A9 c9 Wp3 ho9 hg9 hat9
            replace bz := below_appF bz hM.o1 hg9 hBr
            clear R5
            replace hM := hM.one ho9 hg9 hat9
            replace R12 := R12.grown hg9 (by intro e; exact q12 _ e.symm rfl)
            replace hBr := Nat.le_trans hBr hg9.size
            clear ho9 hg9 hat9
            clear hS; refine hK.out _ _ ⟨(bz.cell q5b).trans hc5, (bz.cell q6b).trans hc6⟩ (fun hS => ?_); clear hK K
            try simp only [Act.put, List.setIfInBounds_toArray, List.set_cons_zero, List.set_cons_succ, List.getElem_toArray, List.getElem_cons_zero, List.getElem_cons_succ]
            refine wpAnyH_ready (rs := [13]) (by kernel_rfl) (by simp) ?_
            refine AllReadyH.cons rfl (fun K hK => ?_) AllReadyH.nil
            refine step_appF _ rfl _ _ rfl B3 A8 c8 (xs yr s) rfl hM.o2 _ _ _ _ rfl (src_of R12) (by rw [HLY.out]; simp; omega) hBr ?_
            intro A11 c11 Wp4 ho9 hg9 hat9
            replace bz := below_appF bz hM.o2 hg9 hBr
            clear R12
            replace hM := (hM.turn.one ho9 hg9 hat9).turn
            replace hBr := Nat.le_trans hBr hg9.size
            clear ho9 hg9 hat9
            clear hS; refine hK.out _ _ ⟨(bz.cell q5b).trans hc5, (bz.cell q6b).trans hc6⟩ (fun hS => ?_); clear hK K
            try simp only [Act.put, List.setIfInBounds_toArray, List.set_cons_zero, List.set_cons_succ, List.getElem_toArray, List.getElem_cons_zero, List.getElem_cons_succ]
            refine wpAnyH_take (i := 14) (v := ?v14_51) rfl (by kernel_rfl) (by kernel_rfl) (by kernel_rfl) (fun _ _ _ h => h) (Or.inl ⟨by rfl, ?hy14_51⟩) (by assumption) ?rest14_51
            case hy14_51 => (intro w9 hSw; clear hSw; go_simp; try with_reducible rfl)
            try simp only [Act.put, List.setIfInBounds_toArray, List.set_cons_zero, List.set_cons_succ, List.getElem_toArray, List.getElem_cons_zero, List.getElem_cons_succ]
            refine wpAnyH_take (i := 15) (v := ?v15_52) rfl (by kernel_rfl) (by kernel_rfl) (by kernel_rfl) (fun _ _ _ h => h) (Or.inl ⟨by rfl, ?hy15_52⟩) (by assumption) ?rest15_52
            case hy15_52 => (intro w9 hSw; clear hSw; go_simp; try with_reducible rfl)
            try simp only [Act.put, List.setIfInBounds_toArray, List.set_cons_zero, List.set_cons_succ, List.getElem_toArray, List.getElem_cons_zero, List.getElem_cons_succ]
            refine wpAnyH_done (by kernel_rfl) ?_ _
            go_wp2_with fail
            go_roundw
            case rel => exact ⟨s + 1, (m : Int) - 1, A9, A11, c9, c11, by omega, by have := HZ.out; omega, by rw [HEX.out]; first | rfl | simp, by rw [HEY.out]; first | rfl | simp, by go_num, by rw [HEX.out, HEY.out]; exact hM, hBr, bz⟩
            case measure => simp [intOf] <;> omega
          go_simp
          have R12 := rowf_one wd21 V
          have q12 : ∀ b, (Value.slice A7 (xs xr s).length c7).ownBlock = some b → some wd21.heap.size ≠ some b := fun b e e2 => by { injection e2 with e3; cases hA : A7 with | none => rw [hA] at e; cases e | some a => (rw [hA] at e; injection e with e4; have := (hM.o1.gt hA).2; omega) }
          have hb1 := (Below.refl _ wd21).alloc (Nat.le_refl _) (.cells #[.float .f64 V] 32)
          replace hM := hM.on hb1
          replace bz := bz.trans (hb1.mono hBr)
          replace hBr := Nat.le_trans hBr hb1.size
          clear hb1
          obtain ⟨g12, hg12⟩ : ∃ g, wd21.heap.size = g := ⟨_, rfl⟩
          simp only [hg12] at R12 q12 ⊢
          clear hg12
          generalize (wd21.alloc (.cells #[.float .f64 V] 32)) = Wb1 at hM R12 hBr bz ⊢
          clear hS; refine hK.out _ _ ⟨(bz.cell q5b).trans hc5, (bz.cell q6b).trans hc6⟩ (fun hS => ?_); clear hK K
          try simp only [Act.put, List.setIfInBounds_toArray, List.set_cons_zero, List.set_cons_succ, List.getElem_toArray, List.getElem_cons_zero, List.getElem_cons_succ]
          refine wpAnyH_ready (rs := [5]) (by kernel_rfl) (by simp) ?_
          refine AllReadyH.cons rfl (fun K hK => ?_) AllReadyH.nil
          go_simp
          have R5 := rowf_one Wb1 X
          have hb1 := (Below.refl _ Wb1).alloc (Nat.le_refl _) (.cells #[.float .f64 X] 32)
          replace hM := hM.on hb1
          replace R12 := R12.on hb1
          replace bz := bz.trans (hb1.mono hBr)
          replace hBr := Nat.le_trans hBr hb1.size
          clear hb1
          obtain ⟨g5, hg5⟩ : ∃ g, Wb1.heap.size = g := ⟨_, rfl⟩
          simp only [hg5] at R5 ⊢
          clear hg5
          generalize (Wb1.alloc (.cells #[.float .f64 X] 32)) = Wb2 at hM R12 R5 hBr bz ⊢
          clear hS; refine hK.out _ _ ⟨(bz.cell q5b).trans hc5, (bz.cell q6b).trans hc6⟩ (fun hS => ?_); clear hK K
          try simp only [Act.put, List.setIfInBounds_toArray, List.set_cons_zero, List.set_cons_succ, List.getElem_toArray, List.getElem_cons_zero, List.getElem_cons_succ]
          refine wpAnyH_ready (rs := [6]) (by kernel_rfl) (by simp) ?_
          refine AllReadyH.cons rfl (fun K hK => ?_) AllReadyH.nil
          refine step_appF _ rfl _ _ rfl B3 A7 c7 (xs xr s) rfl hM.o1 _ _ _ _ rfl (src_of R5) (by rw [HLX.out]; simp; omega) hBr ?_
          intro A9 c9 Wp3 ho9 hg9 hat9
          replace bz := below_appF bz hM.o1 hg9 hBr
          clear R5
          replace hM := hM.one ho9 hg9 hat9
          replace R12 := R12.grown hg9 (by intro e; exact q12 _ e.symm rfl)
          replace hBr := Nat.le_trans hBr hg9.size
          clear ho9 hg9 hat9
          clear hS; refine hK.out _ _ ⟨(bz.cell q5b).trans hc5, (bz.cell q6b).trans hc6⟩ (fun hS => ?_); clear hK K
          try simp only [Act.put, List.setIfInBounds_toArray, List.set_cons_zero, List.set_cons_succ, List.getElem_toArray, List.getElem_cons_zero, List.getElem_cons_succ]
          refine wpAnyH_ready (rs := [13]) (by kernel_rfl) (by simp) ?_
          refine AllReadyH.cons rfl (fun K hK => ?_) AllReadyH.nil
          refine step_appF _ rfl _ _ rfl B3 A8 c8 (xs yr s) rfl hM.o2 _ _ _ _ rfl (src_of R12) (by rw [HLY.out]; simp; omega) hBr ?_
          intro A11 c11 Wp4 ho9 hg9 hat9
          replace bz := below_appF bz hM.o2 hg9 hBr
          clear R12
          replace hM := (hM.turn.one ho9 hg9 hat9).turn
          replace hBr := Nat.le_trans hBr hg9.size
          clear ho9 hg9 hat9
          clear hS; refine hK.out _ _ ⟨(bz.cell q5b).trans hc5, (bz.cell q6b).trans hc6⟩ (fun hS => ?_); clear hK K
          try simp only [Act.put, List.setIfInBounds_toArray, List.set_cons_zero, List.set_cons_succ, List.getElem_toArray, List.getElem_cons_zero, List.getElem_cons_succ]
          refine wpAnyH_take (i := 14) (v := ?v14_53) rfl (by kernel_rfl) (by kernel_rfl) (by kernel_rfl) (fun _ _ _ h => h) (Or.inl ⟨by rfl, ?hy14_53⟩) (by assumption) ?rest14_53
          case hy14_53 => (intro w9 hSw; clear hSw; go_simp; try with_reducible rfl)
          try simp only [Act.put, List.setIfInBounds_toArray, List.set_cons_zero, List.set_cons_succ, List.getElem_toArray, List.getElem_cons_zero, List.getElem_cons_succ]
          refine wpAnyH_take (i := 15) (v := ?v15_54) rfl (by kernel_rfl) (by kernel_rfl) (by kernel_rfl) (fun _ _ _ h => h) (Or.inl ⟨by rfl, ?hy15_54⟩) (by assumption) ?rest15_54
          case hy15_54 => (intro w9 hSw; clear hSw; go_simp; try with_reducible rfl)
          try simp only [Act.put, List.setIfInBounds_toArray, List.set_cons_zero, List.set_cons_succ, List.getElem_toArray, List.getElem_cons_zero, List.getElem_cons_succ]
          refine wpAnyH_done (by kernel_rfl) ?_ _
          go_wp2_with fail
          go_roundw
          case rel => exact ⟨s + 1, (m : Int) - 1, A9, A11, c9, c11, by omega, by have := HZ.out; omega, by rw [HEX.out]; first | rfl | simp, by rw [HEY.out]; first | rfl | simp, by go_num, by rw [HEX.out, HEY.out]; exact hM, hBr, bz⟩
          case measure => simp [intOf] <;> omega
        · skip
          have hst2 : s = t := by omega
          subst hst2
          generalize wr = W3 at *
          have b2 : Below W2.heap.size W2 W3 := by rw [HB3.out]; exact bz
          have hA := HHA.out.on b2
          have hB := HHB.out.on b2
          have hC := hM.o1.fl (xs_wd (fun t => by rw [← HXR.out]; exact HXW.out _) s)
          have hD := hM.o2.fl (xs_wd (fun t => by rw [← HYR.out]; exact HYW.out _) s)
          have bzz := HBZ.out.trans (b2.mono HBZ.out.size)
          clear hM bz
          have hwn : ∀ t, t < s → Wn (xx t) (PP t) ∧ Wn (yy t) (QQ t) ∧ -1048575 ≤ PP t ∧ PP t ≤ 1048575 ∧ -1048575 ≤ QQ t ∧ QQ t ≤ 1048575 := fun t _ => by
            have h1 := HPB.out t
            have h2 := HQB.out t
            rw [← HXX.out, ← HYY.out]
            exact ⟨wn_int (by omega), wn_int (by omega), h1.1, h1.2, h2.1, h2.2⟩
          have hwr : ∀ t, t < s → Wn (xr t) (PP (s - 1 - t)) ∧ Wn (yr t) (QQ (s - 1 - t)) ∧ -1048575 ≤ PP (s - 1 - t) ∧ PP (s - 1 - t) ≤ 1048575 ∧ -1048575 ≤ QQ (s - 1 - t) ∧ QQ (s - 1 - t) ≤ 1048575 := fun t ht => by
            rw [← HXR.out, ← HYR.out]
            exact hwn (s - 1 - t) (by omega)
          have hs40 : s ≤ 40 := by omega
          have hb40 := HSB.out s hs40
          obtain ⟨r1, e1, w1⟩ := wn_sum hs40 hwn
          obtain ⟨r2, e2, w2⟩ := wn_sum (x := xr) (y := yr) (p := fun t => PP (s - 1 - t)) (q := fun t => QQ (s - 1 - t)) hs40 hwr
          rw [isum_rev (fun t => PP t * QQ t) s] at w2
          have hwi := wn_int (n := isum (fun t => PP t * QQ t) s) (by omega)
          have d1 : dotA (xs xx s) (xs yy s) s = some r1 := by rw [← e1]; exact sumA_congr (fun t ht => by rw [xs_D ht, xs_D ht, fa_nat, fa_nat])
          have d2 : dotA (xs xr s) (xs yr s) s = some r2 := by rw [← e2]; exact sumA_congr (fun t ht => by rw [xs_D ht, xs_D ht, fa_nat, fa_nat])
          have o1 := w1.eq_ hwi
          have o2 := w2.eq_ hwi
          have HD1 := Lib.hid d1
          have HD2 := Lib.hid d2
          have HO1 := Lib.hid o1
          have HO2 := Lib.hid o2
          have HLC := Lib.hid (xs_len xr s)
          have HLD := Lib.hid (xs_len yr s)
          generalize isum (fun t => PP t * QQ t) s = SS at *
          clear d1 d2 o1 o2 e1 e2 w1 w2 hwn hwr hwi hb40
          have bz := bzz
          go_wp2_with fail
          with_reducible refine (vec_any hA (by rw [HLA.out]; omega)).mono ?_
          rintro e w3 ⟨VA, sVA, gVA, capVA, cVA, lVA, rfl, hVVA, hb⟩
          replace hA := hA.on hb
          replace hB := hB.on hb
          replace hC := hC.on hb
          replace hD := hD.on hb
          replace bz := bz.trans (hb.mono bz.size)
          clear hb
          go_wp2_with fail
          with_reducible refine (vec_any hB (by rw [HLB.out]; omega)).mono ?_
          rintro e w4 ⟨VB, sVB, gVB, capVB, cVB, lVB, rfl, hVVB, hb⟩
          replace hB := hB.on hb
          replace hC := hC.on hb
          replace hD := hD.on hb
          replace hVVA := hVVA.on hb
          replace bz := bz.trans (hb.mono bz.size)
          clear hb
          go_wp2_with fail
          with_reducible refine (Dot_yes hVVA.sv hVVB.sv (refE_ok (alk_one hVVA hVVB (HLA.out.trans HLB.out.symm)) (mem2 hVVA.ne hVVB.ne)) (by rw [HLA.out, HLB.out]; exact Nat.le_refl _)).mono ?_
          rintro e w5 ⟨ra, rfl, hd, bd, hb⟩
          replace hC := hC.on hb
          replace hD := hD.on hb
          replace hVVA := hVVA.on hb
          replace hVVB := hVVB.on hb
          replace bz := bz.trans (hb.mono bz.size)
          clear hb
          rw [HLA.out, HD1.out] at hd
          have er := af_lit hd
          rw [er] at bd ⊢
          clear hd er hVVA hVVB
          go_wp2_with fail
          with_reducible refine (vec_any hC (by rw [HLC.out]; omega)).mono ?_
          rintro e w6 ⟨VC, sVC, gVC, capVC, cVC, lVC, rfl, hVVC, hb⟩
          replace hC := hC.on hb
          replace hD := hD.on hb
          replace bz := bz.trans (hb.mono bz.size)
          clear hb
          go_wp2_with fail
          with_reducible refine (vec_any hD (by rw [HLD.out]; omega)).mono ?_
          rintro e w7 ⟨VD, sVD, gVD, capVD, cVD, lVD, rfl, hVVD, hb⟩
          replace hD := hD.on hb
          replace hVVC := hVVC.on hb
          replace bz := bz.trans (hb.mono bz.size)
          clear hb
          go_wp2_with fail
          with_reducible refine (Dot_yes hVVC.sv hVVD.sv (refE_ok (alk_one hVVC hVVD (HLC.out.trans HLD.out.symm)) (mem2 hVVC.ne hVVD.ne)) (by rw [HLC.out, HLD.out]; exact Nat.le_refl _)).mono ?_
          rintro e w8 ⟨rb, rfl, hd, bd, hb⟩
          replace hVVC := hVVC.on hb
          replace hVVD := hVVD.on hb
          replace bz := bz.trans (hb.mono bz.size)
          clear hb
          rw [HLC.out, HD2.out] at hd
          have er := af_lit hd
          rw [er] at bd ⊢
          clear hd er hVVC hVVD
          go_wp2_with fail
          with_reducible refine (num_any _ _).mono ?_
          rintro e v109 ⟨rfl, rfl⟩
          go_wp2_with fail
          with_reducible refine (num_any _ _).mono ?_
          rintro e v110 ⟨rfl, rfl⟩
          have o1 : (FloatKind.f64.format.order r1 (floatOfInt .f64 SS) == some .eq) = true := HO1.out
          have o2 : (FloatKind.f64.format.order r2 (floatOfInt .f64 SS) == some .eq) = true := HO2.out
          go_wp2_with fail
          go_ret
          exact ⟨by first | rfl | rw [o2], bz⟩
set_option maxRecDepth 100000 in
set_option maxHeartbeats 8000000 in
theorem KernelsMeans_ne_c {w : World} {RX CX : Int} {AX : Option Addr} {nX cX : Nat} {LX : List Int} {A1 A2 A3 : Option Addr} {n1 c1 n2 c2 n3 c3 : Nat} {L1 l k : List Int} (hX : FL w AX nX cX LX) (h1 : FL w A1 n1 c1 L1) (h2 : IL w A2 n2 c2 l) (h3 : IL w A3 n3 c3 k) (hb : bigM RX CX nX = false) (hc : ((n1 : Int) == CX) = false) (h40 : n2 ≤ 40) (hne : n3 = n2) : Calls Try.prog 13 #[mV RX CX AX nX cX, .slice A1 n1 c1, .slice A2 n2 c2, .slice A3 n3 c3] w (Ans w (.bool true)) := by
  have pb := fun W => big_any RX CX AX nX cX hX.max W
  rw [hb] at pb
  obtain ⟨zX, eX, uX⟩ := big_is hb
  have HSX := Lib.hid (And.intro zX eX)
  have bdX := (szB_bd zX).1
  clear hb zX eX
  have g40 : (n2 : Int) ≤ 40 := by omega
  have gne : ((n3 : Int) != (n2 : Int)) = false := by simp; omega
  have H1 := Lib.hid h1
  have H2 := Lib.hid h2
  have H3 := Lib.hid h3
  have HX := Lib.hid hX
  have m2 := h2.max
  have m3 := h3.max
  have mx := hX.max
  have m1 := h1.max
  clear h1 h2 h3 hX
  have DX := Blk.new w [.int .i64 RX, .int .i64 CX, .slice AX nX cX] 24
  have bz := (Below.refl _ w).alloc (Nat.le_refl _) (.cells #[.int .i64 RX, .int .i64 CX, .slice AX nX cX] 24)
  go_enter Try.func13, Try.ntmps13
  go_wp2_with fail
  with_reducible refine (known_any _).mono ?_
  rintro e w1 ⟨rfl, hb⟩
  replace DX := DX.on hb
  replace bz := bz.trans (hb.mono bz.size)
  clear hb
  obtain ⟨kx_0, kx_1, kx_2, kx_3, kx_4, kx_5⟩ := Mbx.cells DX
  go_wp2_with fail
  with_reducible refine (pb _).mono ?_
  rintro e w2 ⟨rfl, hb⟩
  clear kx_0 kx_1 kx_2 kx_3 kx_4 kx_5
  replace DX := DX.on hb
  replace bz := bz.trans (hb.mono bz.size)
  clear hb
  obtain ⟨kx_0, kx_1, kx_2, kx_3, kx_4, kx_5⟩ := Mbx.cells DX
  go_wp2_with fail
  go_wp2_with fail
  obtain ⟨PP, hPP⟩ : ∃ P : Nat → Int, (fun t => (D l t).tmod 1048576) = P := ⟨_, rfl⟩
  obtain ⟨QQ, hQQ⟩ : ∃ P : Nat → Int, (fun t => (D k t).tmod 1048576) = P := ⟨_, rfl⟩
  have pb : ∀ t, -1048575 ≤ PP t ∧ PP t ≤ 1048575 := fun t => by rw [← hPP]; have h1 := Int.tmod_lt_of_pos (D l t) (show (0 : Int) < 1048576 by omega); have h2 := Int.lt_tmod_of_pos (D l t) (show (0 : Int) < 1048576 by omega); exact ⟨by show -1048575 ≤ (D l t).tmod 1048576; omega, by show (D l t).tmod 1048576 ≤ 1048575; omega⟩
  have qb : ∀ t, -1048575 ≤ QQ t ∧ QQ t ≤ 1048575 := fun t => by rw [← hQQ]; have h1 := Int.tmod_lt_of_pos (D k t) (show (0 : Int) < 1048576 by omega); have h2 := Int.lt_tmod_of_pos (D k t) (show (0 : Int) < 1048576 by omega); exact ⟨by show -1048575 ≤ (D k t).tmod 1048576; omega, by show (D k t).tmod 1048576 ≤ 1048575; omega⟩
  have HPB := Lib.hid pb
  have HQB := Lib.hid qb
  have HPP := Lib.hid hPP
  have HQQ := Lib.hid hQQ
  obtain ⟨xx, hxx⟩ : ∃ x : Nat → Nat, (fun t => FloatKind.f64.nearest (PP t)) = x := ⟨_, rfl⟩
  obtain ⟨yy, hyy⟩ : ∃ x : Nat → Nat, (fun t => FloatKind.f64.nearest (QQ t)) = x := ⟨_, rfl⟩
  have HXX := Lib.hid hxx
  have HYY := Lib.hid hyy
  have hsb : ∀ t, t ≤ 40 → -43980465111040 ≤ isum (fun t => PP t * QQ t) t ∧ isum (fun t => PP t * QQ t) t ≤ 43980465111040 := fun t ht => by
    have := isum_bd (p := fun t => PP t * QQ t) (b := 1099511627776) (by omega) (n := t) (fun t _ => by
      have h1 := pb t
      have h2 := qb t
      have h3 : (PP t * QQ t).natAbs ≤ 1048576 * 1048576 := by rw [Int.natAbs_mul]; exact Nat.mul_le_mul (by omega) (by omega)
      skip
      omega)
    have h9 : (t : Int) * 1099511627776 ≤ 40 * 1099511627776 := Int.mul_le_mul_of_nonneg_right (by omega) (by omega)
    omega
  have HSB := Lib.hid hsb
  clear hPP hQQ hxx hyy pb qb hsb
  obtain ⟨B, hB⟩ : ∃ B, w2.heap.size = B := ⟨_, rfl⟩
  have hBz : w.heap.size ≤ B := by rw [← hB]; exact bz.size
  have hB2 : B ≤ w2.heap.size := by omega
  clear hB
  go_loopw [13, 14, 17, 18] (fun a b s i wr => ∃ (t : Nat) (A5 A6 : Option Addr) (c5 c6 : Nat), t ≤ n2 ∧ a = .slice A5 (xs xx t).length c5 ∧ b = .slice A6 (xs yy t).length c6 ∧ s = .int .i64 (isum (fun t => PP t * QQ t) t) ∧ i = .int .i64 t ∧ Mp wr B A5 c5 (xs xx t) A6 c6 (xs yy t) ∧ B ≤ wr.heap.size ∧ Below w.heap.size w wr) (fun _ _ _ i _ => n2 - (intOf i).toNat)
  case atStart => exact ⟨0, none, none, 0, 0, Nat.zero_le _, rfl, rfl, rfl, rfl, Mp.nil _ _, hB2, bz⟩
  case round =>
    clear hB2 bz DX
    obtain ⟨t, A5, A6, c5, c6, ht, rfl, rfl, rfl, rfl, hM, hBr, bz⟩ := hrel
    by_cases hlt : t < n2
    · skip
      obtain ⟨ad2, hA2, _, hc2⟩ := (H2.out.on bz).at_ t hlt
      obtain ⟨ad3, hA3, _, hc3⟩ := (H3.out.on bz).at_ t (by omega)
      have zb := H2.out.bd t hlt
      have yb := H3.out.bd t (by omega)
      have ep : (D l t).tmod 1048576 = PP t := by rw [← HPP.out]
      have eq : (D k t).tmod 1048576 = QQ t := by rw [← HQQ.out]
      have p0 := HPB.out t
      have q0 := HQB.out t
      have ex : floatOfInt .f64 (PP t) = xx t := by rw [← HXX.out]; rfl
      have ey : floatOfInt .f64 (QQ t) = yy t := by rw [← HYY.out]; rfl
      have bx : xx t ≤ 18446744073709551615 := by rw [← HXX.out]; exact nearest_le _ (by omega)
      have by_ : yy t ≤ 18446744073709551615 := by rw [← HYY.out]; exact nearest_le _ (by omega)
      have s0 := HSB.out t (by omega)
      have s1 := HSB.out (t + 1) (by omega)
      have es : isum (fun t => PP t * QQ t) (t + 1) = isum (fun t => PP t * QQ t) t + PP t * QQ t := rfl
      have sq : -1099511627776 ≤ PP t * QQ t ∧ PP t * QQ t ≤ 1099511627776 := by
        have h3 : (PP t * QQ t).natAbs ≤ 1048576 * 1048576 := by rw [Int.natAbs_mul]; exact Nat.mul_le_mul (by omega) (by omega)
        omega
      have HES := Lib.hid es
      have exs := xs_next xx t
      have eys := xs_next yy t
      have HEX := Lib.hid exs
      have HEY := Lib.hid eys
      have hlx := xs_len xx t
      have hly := xs_len yy t
      have HLX := Lib.hid hlx
      have HLY := Lib.hid hly
      have HM := Lib.hid hM
      rw [es] at s1
      generalize hS : isum (fun t => PP t * QQ t) t = S at *
      clear es exs eys hlx hly hS
      generalize D l t = Z at *
      generalize D k t = Y at *
      generalize hPt : PP t = P at *
      generalize hQt : QQ t = Q at *
      generalize hPQ : P * Q = R at *
      generalize hxt : xx t = X at *
      generalize hyt : yy t = V at *
      have wP : IntKind.i32.wrap P = P := by rw [IntKind.wrap_i32]; omega
      have wQ : IntKind.i32.wrap Q = Q := by rw [IntKind.wrap_i32]; omega
      have wP6 : IntKind.i64.wrap P = P := (IntWalk.i64_left _).trans (IntWalk.wrap64_in _ (by omega))
      have wQ6 : IntKind.i64.wrap Q = Q := (IntWalk.i64_left _).trans (IntWalk.wrap64_in _ (by omega))
      have wR : IntKind.i64.wrap R = R := (IntWalk.i64_left _).trans (IntWalk.wrap64_in _ (by omega))
      have wS : IntKind.i64.wrap (S + R) = S + R := (IntWalk.i64_left _).trans (IntWalk.wrap64_in _ (by omega))
      have HPt := Lib.hid hPt
      have HQt := Lib.hid hQt
      have Hxt := Lib.hid hxt
      have Hyt := Lib.hid hyt
      clear hPt hQt hxt hyt hM p0 q0 s0 s1 sq zb yb
      subst hA2
      subst hA3
      have t0 : (0 : Int) ≤ t := by omega
      have t2 : (t : Int) < n2 := by omega
      have t3 : (t : Int) < n3 := by omega
      go_wp2_with fail
      refine wp_region_held_drew (S := fun w9 : World => w9.cell? (ad2.add t) = some (.int .i32 Z) ∧ w9.cell? (ad3.add t) = some (.int .i32 Y)) (by kernel_rfl) ⟨hc2, hc3⟩ (fun hS => ?_)
      refine wpAnyH_take (i := 0) (v := ?v0_55) rfl (by kernel_rfl) (by kernel_rfl) (by kernel_rfl) (fun _ _ _ h => h) (Or.inl ⟨by rfl, ?hy0_55⟩) (by assumption) ?rest0_55
      case hy0_55 => (intro w9 hSw; clear hSw; go_simp; try with_reducible rfl)
      try simp only [Act.put, List.setIfInBounds_toArray, List.set_cons_zero, List.set_cons_succ, List.getElem_toArray, List.getElem_cons_zero, List.getElem_cons_succ]
      refine wpAnyH_take (i := 1) (v := ?v1_56) rfl (by kernel_rfl) (by kernel_rfl) (by kernel_rfl) (fun _ _ _ h => h) (Or.inl ⟨by rfl, ?hy1_56⟩) (by assumption) ?rest1_56
      case hy1_56 => (intro w9 hSw; clear hSw; go_simp; try with_reducible rfl)
      try simp only [Act.put, List.setIfInBounds_toArray, List.set_cons_zero, List.set_cons_succ, List.getElem_toArray, List.getElem_cons_zero, List.getElem_cons_succ]
      refine wpAnyH_take (i := 2) (v := ?v2_57) rfl (by kernel_rfl) (by kernel_rfl) (by kernel_rfl) (fun _ _ _ h => h) (Or.inl ⟨by rfl, ?hy2_57⟩) (by assumption) ?rest2_57
      case hy2_57 => (intro w9 hSw; clear hSw; go_simp; try with_reducible rfl)
      try simp only [Act.put, List.setIfInBounds_toArray, List.set_cons_zero, List.set_cons_succ, List.getElem_toArray, List.getElem_cons_zero, List.getElem_cons_succ]
      refine wpAnyH_take (i := 3) (v := ?v3_58) rfl (by kernel_rfl) (by kernel_rfl) (by kernel_rfl) (fun _ _ _ h => h) (Or.inl ⟨by rfl, ?hy3_58⟩) (by assumption) ?rest3_58
      case hy3_58 => (intro w9 hSw; obtain ⟨m0, m1⟩ := hSw; go_simp; try with_reducible rfl)
      try simp only [Act.put, List.setIfInBounds_toArray, List.set_cons_zero, List.set_cons_succ, List.getElem_toArray, List.getElem_cons_zero, List.getElem_cons_succ]
      refine wpAnyH_take (i := 4) (v := ?v4_59) rfl (by kernel_rfl) (by kernel_rfl) (by kernel_rfl) (fun _ _ _ h => h) (Or.inl ⟨by rfl, ?hy4_59⟩) (by assumption) ?rest4_59
      case hy4_59 => (intro w9 hSw; clear hSw; go_simp; try with_reducible rfl)
      try simp only [Act.put, List.setIfInBounds_toArray, List.set_cons_zero, List.set_cons_succ, List.getElem_toArray, List.getElem_cons_zero, List.getElem_cons_succ]
      refine wpAnyH_take (i := 5) (v := ?v5_60) rfl (by kernel_rfl) (by kernel_rfl) (by kernel_rfl) (fun _ _ _ h => h) (Or.inl ⟨by rfl, ?hy5_60⟩) (by assumption) ?rest5_60
      case hy5_60 => (intro w9 hSw; clear hSw; go_simp; try with_reducible rfl)
      try simp only [Act.put, List.setIfInBounds_toArray, List.set_cons_zero, List.set_cons_succ, List.getElem_toArray, List.getElem_cons_zero, List.getElem_cons_succ]
      refine wpAnyH_take (i := 6) (v := ?v6_61) rfl (by kernel_rfl) (by kernel_rfl) (by kernel_rfl) (fun _ _ _ h => h) (Or.inl ⟨by rfl, ?hy6_61⟩) (by assumption) ?rest6_61
      case hy6_61 => (intro w9 hSw; clear hSw; go_simp; try with_reducible rfl)
      try simp only [Act.put, List.setIfInBounds_toArray, List.set_cons_zero, List.set_cons_succ, List.getElem_toArray, List.getElem_cons_zero, List.getElem_cons_succ]
      refine wpAnyH_take (i := 7) (v := ?v7_62) rfl (by kernel_rfl) (by kernel_rfl) (by kernel_rfl) (fun _ _ _ h => h) (Or.inl ⟨by rfl, ?hy7_62⟩) (by assumption) ?rest7_62
      case hy7_62 => (intro w9 hSw; clear hSw; go_simp; try with_reducible rfl)
      try simp only [Act.put, List.setIfInBounds_toArray, List.set_cons_zero, List.set_cons_succ, List.getElem_toArray, List.getElem_cons_zero, List.getElem_cons_succ]
      refine wpAnyH_take (i := 8) (v := ?v8_63) rfl (by kernel_rfl) (by kernel_rfl) (by kernel_rfl) (fun _ _ _ h => h) (Or.inl ⟨by rfl, ?hy8_63⟩) (by assumption) ?rest8_63
      case hy8_63 => (intro w9 hSw; clear hSw; go_simp; try with_reducible rfl)
      try simp only [Act.put, List.setIfInBounds_toArray, List.set_cons_zero, List.set_cons_succ, List.getElem_toArray, List.getElem_cons_zero, List.getElem_cons_succ]
      refine wpAnyH_take (i := 9) (v := ?v9_64) rfl (by kernel_rfl) (by kernel_rfl) (by kernel_rfl) (fun _ _ _ h => h) (Or.inl ⟨by rfl, ?hy9_64⟩) (by assumption) ?rest9_64
      case hy9_64 => (intro w9 hSw; obtain ⟨m0, m1⟩ := hSw; go_simp; try with_reducible rfl)
      try simp only [Act.put, List.setIfInBounds_toArray, List.set_cons_zero, List.set_cons_succ, List.getElem_toArray, List.getElem_cons_zero, List.getElem_cons_succ]
      refine wpAnyH_take (i := 10) (v := ?v10_65) rfl (by kernel_rfl) (by kernel_rfl) (by kernel_rfl) (fun _ _ _ h => h) (Or.inl ⟨by rfl, ?hy10_65⟩) (by assumption) ?rest10_65
      case hy10_65 => (intro w9 hSw; clear hSw; go_simp; try with_reducible rfl)
      try simp only [Act.put, List.setIfInBounds_toArray, List.set_cons_zero, List.set_cons_succ, List.getElem_toArray, List.getElem_cons_zero, List.getElem_cons_succ]
      refine wpAnyH_take (i := 11) (v := ?v11_66) rfl (by kernel_rfl) (by kernel_rfl) (by kernel_rfl) (fun _ _ _ h => h) (Or.inl ⟨by rfl, ?hy11_66⟩) (by assumption) ?rest11_66
      case hy11_66 => (intro w9 hSw; clear hSw; go_simp; try with_reducible rfl)
      try simp only [Act.put, List.setIfInBounds_toArray, List.set_cons_zero, List.set_cons_succ, List.getElem_toArray, List.getElem_cons_zero, List.getElem_cons_succ]
      refine wpAnyH_take (i := 12) (v := ?v12_67) rfl (by kernel_rfl) (by kernel_rfl) (by kernel_rfl) (fun _ _ _ h => h) (Or.inl ⟨by rfl, ?hy12_67⟩) (by assumption) ?rest12_67
      case hy12_67 => (intro w9 hSw; clear hSw; go_simp; try with_reducible rfl)
      try simp only [Act.put, List.setIfInBounds_toArray, List.set_cons_zero, List.set_cons_succ, List.getElem_toArray, List.getElem_cons_zero, List.getElem_cons_succ]
      refine wpAnyH_take (i := 13) (v := ?v13_68) rfl (by kernel_rfl) (by kernel_rfl) (by kernel_rfl) (fun _ _ _ h => h) (Or.inl ⟨by rfl, ?hy13_68⟩) (by assumption) ?rest13_68
      case hy13_68 => (intro w9 hSw; clear hSw; go_simp; try with_reducible rfl)
      try simp only [Act.put, List.setIfInBounds_toArray, List.set_cons_zero, List.set_cons_succ, List.getElem_toArray, List.getElem_cons_zero, List.getElem_cons_succ]
      refine wpAnyH_done (by kernel_rfl) ?_ _
      have hMd := HM.out.on (Below.refl _ wr).drew
      have bzd := bz.trans ((Below.refl _ wr).drew.mono bz.size)
      have hBq : B ≤ wr.drew.heap.size := hBr
      generalize wr.drew = wq at hMd bzd hBq ⊢
      have hbA := (Below.refl _ wq).alloc (Nat.le_refl _) (.cells #[.float .f64 X] 32)
      have hsrc := one_src wq X
      have hMa := hMd.on hbA
      have bza := bzd.alloc bzd.size (.cells #[.float .f64 X] 32)
      have hBa := Nat.le_trans hBq hbA.size
      go_wp2_with (first
        | (at_builtin; refine wpList_appF _ rfl _ _ rfl B A5 c5 (xs xx t) rfl hMa.o1 _ _ _ _ rfl hsrc (by rw [HLX.out]; simp; omega) hBa ?_; intro A7 c7 w9 ho9 hg9 hat9; have M9 := hMa.one ho9 hg9 hat9; have bz9 := below_appF bza (hMa.o1.less hBz) hg9 (Nat.le_trans hBz hBa); have hB9 := Nat.le_trans hBa hg9.size; clear ho9 hg9 hat9; have hbB := (Below.refl _ w9).alloc (Nat.le_refl _) (.cells #[.float .f64 V] 32); have hsrc2 := one_src w9 V; have hMb := M9.on hbB; have bzb := bz9.alloc bz9.size (.cells #[.float .f64 V] 32); have hBb := Nat.le_trans hB9 hbB.size)
        | (at_builtin; refine wpList_appF _ rfl _ _ rfl B A6 c6 (xs yy t) rfl hMb.o2 _ _ _ _ rfl hsrc2 (by rw [HLY.out]; simp; omega) hBb ?_; intro A8 c8 w10 ho10 hg10 hat10; have M10 := (hMb.turn.one ho10 hg10 hat10).turn; have bz10 := below_appF bzb (hMb.o2.less hBz) hg10 (Nat.le_trans hBz hBb); have hB10 := Nat.le_trans hBb hg10.size; clear ho10 hg10 hat10))
      go_roundw
      case rel => exact ⟨t + 1, A7, A8, c7, c8, by omega, by rw [HEX.out]; first | rfl | simp, by rw [HEY.out]; first | rfl | simp, by rw [HES.out], by go_num, by rw [HEX.out, HEY.out]; exact M10, hB10, bz10⟩
      case measure => simp [intOf]; omega
    · skip
      have htn : t = n2 := by omega
      subst htn
      generalize wr = W2 at *
      have hxw : ∀ s, xx s ≤ 18446744073709551615 := fun s => by rw [← HXX.out]; exact nearest_le _ (by have := HPB.out s; omega)
      have hyw : ∀ s, yy s ≤ 18446744073709551615 := fun s => by rw [← HYY.out]; exact nearest_le _ (by have := HQB.out s; omega)
      have HXW := Lib.hid hxw
      have HYW := Lib.hid hyw
      have hA := hM.o1.fl (xs_wd hxw t)
      have hB := hM.o2.fl (xs_wd hyw t)
      obtain ⟨B3, hB3⟩ : ∃ B, W2.heap.size = B := ⟨_, rfl⟩
      have hB3a : w.heap.size ≤ B3 := by rw [← hB3]; exact bz.size
      have HB3 := Lib.hid hB3
      have hlA := xs_len xx t
      have hlB := xs_len yy t
      obtain ⟨xr, hxr⟩ : ∃ x : Nat → Nat, (fun s => xx (t - 1 - s)) = x := ⟨_, rfl⟩
      obtain ⟨yr, hyr⟩ : ∃ x : Nat → Nat, (fun s => yy (t - 1 - s)) = x := ⟨_, rfl⟩
      have HXR := Lib.hid hxr
      have HYR := Lib.hid hyr
      have HHA := Lib.hid hA
      have HHB := Lib.hid hB
      have HHM := Lib.hid hM
      have HLA := Lib.hid hlA
      have HLB := Lib.hid hlB
      have HBZ := Lib.hid bz
      have h3z : B3 ≤ W2.heap.size := by omega
      clear hxw hyw hxr hyr hA hB hM hlA hlB hB3 bz hBr
      go_wp2_with fail
      go_loopw [15, 16, 21] (fun a b j wr => ∃ (s : Nat) (z : Int) (A7 A8 : Option Addr) (c7 c8 : Nat), s ≤ t ∧ z = (t : Int) - 1 - s ∧ a = .slice A7 (xs xr s).length c7 ∧ b = .slice A8 (xs yr s).length c8 ∧ j = .int .i64 z ∧ Mp wr B3 A7 c7 (xs xr s) A8 c8 (xs yr s) ∧ B3 ≤ wr.heap.size ∧ Below B3 W2 wr) (fun _ _ j _ => (intOf j + 1).toNat)
      case atStart => exact ⟨0, (t : Int) - 1, none, none, 0, 0, Nat.zero_le _, by omega, rfl, rfl, by go_num, Mp.nil _ _, h3z, by rw [← HB3.out]; exact Below.refl _ _⟩
      case round =>
        obtain ⟨s, z, A7, A8, c7, c8, hs, hz, rfl, rfl, rfl, hM, hBr, bz⟩ := hrel
        by_cases hst : s < t
        · skip
          obtain ⟨m, hm⟩ : ∃ m : Nat, z = (m : Int) := ⟨(z).toNat, by omega⟩
          subst hm
          have hmt : m < t := by omega
          have hms : t - 1 - s = m := by omega
          obtain ⟨ad5, hA5, q5, hc5⟩ := HHA.out.at_ (k := m) (by rw [HLA.out]; exact hmt)
          obtain ⟨ad6, hA6, q6, hc6⟩ := HHB.out.at_ (k := m) (by rw [HLB.out]; exact hmt)
          rw [xs_D hmt, Int.toNat_natCast] at hc5
          rw [xs_D hmt, Int.toNat_natCast] at hc6
          have q5b : (ad5.add m).block < B3 := by rw [add_block, ← HB3.out]; exact q5
          have q6b : (ad6.add m).block < B3 := by rw [add_block, ← HB3.out]; exact q6
          have exs : xs xr (s + 1) = xs xr s ++ [(xx m : Int)] := by rw [xs_next, ← HXR.out]; simp only [hms]
          have eys : xs yr (s + 1) = xs yr s ++ [(yy m : Int)] := by rw [xs_next, ← HYR.out]; simp only [hms]
          have HEX := Lib.hid exs
          have HEY := Lib.hid eys
          have bX := HXW.out m
          have bV := HYW.out m
          have jx : (m : Int) < ((xs xx t).length : Int) := by rw [HLA.out]; omega
          have jy : (m : Int) < ((xs yy t).length : Int) := by rw [HLB.out]; omega
          have j0 : (0 : Int) ≤ m := by omega
          have HLX := Lib.hid (xs_len xr s)
          have HLY := Lib.hid (xs_len yr s)
          have HZ := Lib.hid hz
          generalize xx m = X at *
          generalize yy m = V at *
          subst hA5
          subst hA6
          clear exs eys hz hms q5 q6
          go_wp2_with fail
          have bz : Below B3 W2 wr.drew := bz.drew
          have hM := hM.on (Below.refl _ wr).drew
          replace hBr : B3 ≤ wr.drew.heap.size := hBr
          refine wp_region_held_drew (S := fun w9 : World => w9.cell? (ad5.add m) = some (.float .f64 X) ∧ w9.cell? (ad6.add m) = some (.float .f64 V)) (by kernel_rfl) ⟨(bz.cell q5b).trans hc5, (bz.cell q6b).trans hc6⟩ (fun hS => ?_)
          generalize wr.drew = wd21 at hS hM hBr bz ⊢
          refine wpAnyH_take (i := 0) (v := ?v0_69) rfl (by kernel_rfl) (by kernel_rfl) (by kernel_rfl) (fun _ _ _ h => h) (Or.inl ⟨by rfl, ?hy0_69⟩) (by assumption) ?rest0_69
          case hy0_69 => (intro w9 hSw; clear hSw; go_simp; try with_reducible rfl)
          try simp only [Act.put, List.setIfInBounds_toArray, List.set_cons_zero, List.set_cons_succ, List.getElem_toArray, List.getElem_cons_zero, List.getElem_cons_succ]
          refine wpAnyH_take (i := 1) (v := ?v1_70) rfl (by kernel_rfl) (by kernel_rfl) (by kernel_rfl) (fun _ _ _ h => h) (Or.inl ⟨by rfl, ?hy1_70⟩) (by assumption) ?rest1_70
          case hy1_70 => (intro w9 hSw; clear hSw; go_simp; try with_reducible rfl)
          try simp only [Act.put, List.setIfInBounds_toArray, List.set_cons_zero, List.set_cons_succ, List.getElem_toArray, List.getElem_cons_zero, List.getElem_cons_succ]
          refine wpAnyH_take (i := 2) (v := ?v2_71) rfl (by kernel_rfl) (by kernel_rfl) (by kernel_rfl) (fun _ _ _ h => h) (Or.inl ⟨by rfl, ?hy2_71⟩) (by assumption) ?rest2_71
          case hy2_71 => (intro w9 hSw; clear hSw; go_simp; try with_reducible rfl)
          try simp only [Act.put, List.setIfInBounds_toArray, List.set_cons_zero, List.set_cons_succ, List.getElem_toArray, List.getElem_cons_zero, List.getElem_cons_succ]
          refine wpAnyH_take (i := 3) (v := ?v3_72) rfl (by kernel_rfl) (by kernel_rfl) (by kernel_rfl) (fun _ _ _ h => h) (Or.inl ⟨by rfl, ?hy3_72⟩) (by assumption) ?rest3_72
          case hy3_72 => (intro w9 hSw; clear hSw; go_simp; try with_reducible rfl)
          try simp only [Act.put, List.setIfInBounds_toArray, List.set_cons_zero, List.set_cons_succ, List.getElem_toArray, List.getElem_cons_zero, List.getElem_cons_succ]
          refine wpAnyH_take (i := 4) (v := ?v4_73) rfl (by kernel_rfl) (by kernel_rfl) (by kernel_rfl) (fun _ _ _ h => h) (Or.inl ⟨by rfl, ?hy4_73⟩) (by assumption) ?rest4_73
          case hy4_73 => (intro w9 hSw; obtain ⟨m0, m1⟩ := hSw; go_simp; try with_reducible rfl)
          try simp only [Act.put, List.setIfInBounds_toArray, List.set_cons_zero, List.set_cons_succ, List.getElem_toArray, List.getElem_cons_zero, List.getElem_cons_succ]
          refine wpAnyH_take (i := 7) (v := ?v7_74) rfl (by kernel_rfl) (by kernel_rfl) (by kernel_rfl) (fun _ _ _ h => h) (Or.inl ⟨by rfl, ?hy7_74⟩) (by assumption) ?rest7_74
          case hy7_74 => (intro w9 hSw; clear hSw; go_simp; try with_reducible rfl)
          try simp only [Act.put, List.setIfInBounds_toArray, List.set_cons_zero, List.set_cons_succ, List.getElem_toArray, List.getElem_cons_zero, List.getElem_cons_succ]
          refine wpAnyH_take (i := 8) (v := ?v8_75) rfl (by kernel_rfl) (by kernel_rfl) (by kernel_rfl) (fun _ _ _ h => h) (Or.inl ⟨by rfl, ?hy8_75⟩) (by assumption) ?rest8_75
          case hy8_75 => (intro w9 hSw; clear hSw; go_simp; try with_reducible rfl)
          try simp only [Act.put, List.setIfInBounds_toArray, List.set_cons_zero, List.set_cons_succ, List.getElem_toArray, List.getElem_cons_zero, List.getElem_cons_succ]
          refine wpAnyH_take (i := 9) (v := ?v9_76) rfl (by kernel_rfl) (by kernel_rfl) (by kernel_rfl) (fun _ _ _ h => h) (Or.inl ⟨by rfl, ?hy9_76⟩) (by assumption) ?rest9_76
          case hy9_76 => (intro w9 hSw; clear hSw; go_simp; try with_reducible rfl)
          try simp only [Act.put, List.setIfInBounds_toArray, List.set_cons_zero, List.set_cons_succ, List.getElem_toArray, List.getElem_cons_zero, List.getElem_cons_succ]
          refine wpAnyH_take (i := 10) (v := ?v10_77) rfl (by kernel_rfl) (by kernel_rfl) (by kernel_rfl) (fun _ _ _ h => h) (Or.inl ⟨by rfl, ?hy10_77⟩) (by assumption) ?rest10_77
          case hy10_77 => (intro w9 hSw; clear hSw; go_simp; try with_reducible rfl)
          try simp only [Act.put, List.setIfInBounds_toArray, List.set_cons_zero, List.set_cons_succ, List.getElem_toArray, List.getElem_cons_zero, List.getElem_cons_succ]
          refine wpAnyH_take (i := 11) (v := ?v11_78) rfl (by kernel_rfl) (by kernel_rfl) (by kernel_rfl) (fun _ _ _ h => h) (Or.inl ⟨by rfl, ?hy11_78⟩) (by assumption) ?rest11_78
          case hy11_78 => (intro w9 hSw; obtain ⟨m0, m1⟩ := hSw; go_simp; try with_reducible rfl)
          try simp only [Act.put, List.setIfInBounds_toArray, List.set_cons_zero, List.set_cons_succ, List.getElem_toArray, List.getElem_cons_zero, List.getElem_cons_succ]
          refine wpAnyH_ready (rs := [5, 12]) (by kernel_rfl) (by simp) ?_
          refine (AllReadyH.cons rfl (fun K hK => ?_) (AllReadyH.cons rfl (fun K hK => ?_) AllReadyH.nil))
          · go_simp
            have R5 := rowf_one wd21 X
            have hb1 := (Below.refl _ wd21).alloc (Nat.le_refl _) (.cells #[.float .f64 X] 32)
            replace hM := hM.on hb1
            replace bz := bz.trans (hb1.mono hBr)
            replace hBr := Nat.le_trans hBr hb1.size
            clear hb1
            obtain ⟨g5, hg5⟩ : ∃ g, wd21.heap.size = g := ⟨_, rfl⟩
            simp only [hg5] at R5 ⊢
            clear hg5
            generalize (wd21.alloc (.cells #[.float .f64 X] 32)) = Wb1 at hM R5 hBr bz ⊢
            clear hS; refine hK.out _ _ ⟨(bz.cell q5b).trans hc5, (bz.cell q6b).trans hc6⟩ (fun hS => ?_); clear hK K
            try simp only [Act.put, List.setIfInBounds_toArray, List.set_cons_zero, List.set_cons_succ, List.getElem_toArray, List.getElem_cons_zero, List.getElem_cons_succ]
            refine wpAnyH_ready (rs := [6, 12]) (by kernel_rfl) (by simp) ?_
            refine (AllReadyH.cons rfl (fun K hK => ?_) (AllReadyH.cons rfl (fun K hK => ?_) AllReadyH.nil))
            · refine step_appF _ rfl _ _ rfl B3 A7 c7 (xs xr s) rfl hM.o1 _ _ _ _ rfl (src_of R5) (by rw [HLX.out]; simp; omega) hBr ?_
              intro A9 c9 Wp2 ho9 hg9 hat9
              replace bz := below_appF bz hM.o1 hg9 hBr
              clear R5
              replace hM := hM.one ho9 hg9 hat9
              replace hBr := Nat.le_trans hBr hg9.size
              clear ho9 hg9 hat9
              clear hS; refine hK.out _ _ ⟨(bz.cell q5b).trans hc5, (bz.cell q6b).trans hc6⟩ (fun hS => ?_); clear hK K
              try simp only [Act.put, List.setIfInBounds_toArray, List.set_cons_zero, List.set_cons_succ, List.getElem_toArray, List.getElem_cons_zero, List.getElem_cons_succ]
              refine wpAnyH_ready (rs := [12]) (by kernel_rfl) (by simp) ?_
              refine AllReadyH.cons rfl (fun K hK => ?_) AllReadyH.nil
              go_simp
              have R12 := rowf_one Wp2 V
              have hb1 := (Below.refl _ Wp2).alloc (Nat.le_refl _) (.cells #[.float .f64 V] 32)
              replace hM := hM.on hb1
              replace bz := bz.trans (hb1.mono hBr)
              replace hBr := Nat.le_trans hBr hb1.size
              clear hb1
              obtain ⟨g12, hg12⟩ : ∃ g, Wp2.heap.size = g := ⟨_, rfl⟩
              simp only [hg12] at R12 ⊢
              clear hg12
              generalize (Wp2.alloc (.cells #[.float .f64 V] 32)) = Wb3 at hM R12 hBr bz ⊢
              clear hS; refine hK.out _ _ ⟨(bz.cell q5b).trans hc5, (bz.cell q6b).trans hc6⟩ (fun hS => ?_); clear hK K
              try simp only [Act.put, List.setIfInBounds_toArray, List.set_cons_zero, List.set_cons_succ, List.getElem_toArray, List.getElem_cons_zero, List.getElem_cons_succ]
              refine wpAnyH_ready (rs := [13]) (by kernel_rfl) (by simp) ?_
              refine AllReadyH.cons rfl (fun K hK => ?_) AllReadyH.nil
              refine step_appF _ rfl _ _ rfl B3 A8 c8 (xs yr s) rfl hM.o2 _ _ _ _ rfl (src_of R12) (by rw [HLY.out]; simp; omega) hBr ?_
              intro A11 c11 Wp4 ho9 hg9 hat9
              replace bz := below_appF bz hM.o2 hg9 hBr
              clear R12
              replace hM := (hM.turn.one ho9 hg9 hat9).turn
              replace hBr := Nat.le_trans hBr hg9.size
              clear ho9 hg9 hat9
              clear hS; refine hK.out _ _ ⟨(bz.cell q5b).trans hc5, (bz.cell q6b).trans hc6⟩ (fun hS => ?_); clear hK K
              try simp only [Act.put, List.setIfInBounds_toArray, List.set_cons_zero, List.set_cons_succ, List.getElem_toArray, List.getElem_cons_zero, List.getElem_cons_succ]
              refine wpAnyH_take (i := 14) (v := ?v14_79) rfl (by kernel_rfl) (by kernel_rfl) (by kernel_rfl) (fun _ _ _ h => h) (Or.inl ⟨by rfl, ?hy14_79⟩) (by assumption) ?rest14_79
              case hy14_79 => (intro w9 hSw; clear hSw; go_simp; try with_reducible rfl)
              try simp only [Act.put, List.setIfInBounds_toArray, List.set_cons_zero, List.set_cons_succ, List.getElem_toArray, List.getElem_cons_zero, List.getElem_cons_succ]
              refine wpAnyH_take (i := 15) (v := ?v15_80) rfl (by kernel_rfl) (by kernel_rfl) (by kernel_rfl) (fun _ _ _ h => h) (Or.inl ⟨by rfl, ?hy15_80⟩) (by assumption) ?rest15_80
              case hy15_80 => (intro w9 hSw; clear hSw; go_simp; try with_reducible rfl)
              try simp only [Act.put, List.setIfInBounds_toArray, List.set_cons_zero, List.set_cons_succ, List.getElem_toArray, List.getElem_cons_zero, List.getElem_cons_succ]
              refine wpAnyH_done (by kernel_rfl) ?_ _
              go_wp2_with fail
              go_roundw
              case rel => exact ⟨s + 1, (m : Int) - 1, A9, A11, c9, c11, by omega, by have := HZ.out; omega, by rw [HEX.out]; first | rfl | simp, by rw [HEY.out]; first | rfl | simp, by go_num, by rw [HEX.out, HEY.out]; exact hM, hBr, bz⟩
              case measure => simp [intOf] <;> omega
            go_simp
            have R12 := rowf_one Wb1 V
            have q12 : ∀ b, (Value.slice A7 (xs xr s).length c7).ownBlock = some b → some Wb1.heap.size ≠ some b := fun b e e2 => by { injection e2 with e3; cases hA : A7 with | none => rw [hA] at e; cases e | some a => (rw [hA] at e; injection e with e4; have := (hM.o1.gt hA).2; omega) }
            have hb1 := (Below.refl _ Wb1).alloc (Nat.le_refl _) (.cells #[.float .f64 V] 32)
            replace hM := hM.on hb1
            replace R5 := R5.on hb1
            replace bz := bz.trans (hb1.mono hBr)
            replace hBr := Nat.le_trans hBr hb1.size
            clear hb1
            obtain ⟨g12, hg12⟩ : ∃ g, Wb1.heap.size = g := ⟨_, rfl⟩
            simp only [hg12] at R12 q12 ⊢
            clear hg12
            generalize (Wb1.alloc (.cells #[.float .f64 V] 32)) = Wb2 at hM R5 R12 hBr bz ⊢
            clear hS; refine hK.out _ _ ⟨(bz.cell q5b).trans hc5, (bz.cell q6b).trans hc6⟩ (fun hS => ?_); clear hK K
            try simp only [Act.put, List.setIfInBounds_toArray, List.set_cons_zero, List.set_cons_succ, List.getElem_toArray, List.getElem_cons_zero, List.getElem_cons_succ]
            refine wpAnyH_ready (rs := [6]) (by kernel_rfl) (by simp) ?_
            refine AllReadyH.cons rfl (fun K hK => ?_) AllReadyH.nil
            refine step_appF _ rfl _ _ rfl B3 A7 c7 (xs xr s) rfl hM.o1 _ _ _ _ rfl (src_of R5) (by rw [HLX.out]; simp; omega) hBr ?_
            intro A9 c9 Wp3 ho9 hg9 hat9
            replace bz := below_appF bz hM.o1 hg9 hBr
            clear R5
            replace hM := hM.one ho9 hg9 hat9
            replace R12 := R12.grown hg9 (by intro e; exact q12 _ e.symm rfl)
            replace hBr := Nat.le_trans hBr hg9.size
            clear ho9 hg9 hat9
            clear hS; refine hK.out _ _ ⟨(bz.cell q5b).trans hc5, (bz.cell q6b).trans hc6⟩ (fun hS => ?_); clear hK K
            try simp only [Act.put, List.setIfInBounds_toArray, List.set_cons_zero, List.set_cons_succ, List.getElem_toArray, List.getElem_cons_zero, List.getElem_cons_succ]
            refine wpAnyH_ready (rs := [13]) (by kernel_rfl) (by simp) ?_
            refine AllReadyH.cons rfl (fun K hK => ?_) AllReadyH.nil
            refine step_appF _ rfl _ _ rfl B3 A8 c8 (xs yr s) rfl hM.o2 _ _ _ _ rfl (src_of R12) (by rw [HLY.out]; simp; omega) hBr ?_
            intro A11 c11 Wp4 ho9 hg9 hat9
            replace bz := below_appF bz hM.o2 hg9 hBr
            clear R12
            replace hM := (hM.turn.one ho9 hg9 hat9).turn
            replace hBr := Nat.le_trans hBr hg9.size
            clear ho9 hg9 hat9
            clear hS; refine hK.out _ _ ⟨(bz.cell q5b).trans hc5, (bz.cell q6b).trans hc6⟩ (fun hS => ?_); clear hK K
            try simp only [Act.put, List.setIfInBounds_toArray, List.set_cons_zero, List.set_cons_succ, List.getElem_toArray, List.getElem_cons_zero, List.getElem_cons_succ]
            refine wpAnyH_take (i := 14) (v := ?v14_81) rfl (by kernel_rfl) (by kernel_rfl) (by kernel_rfl) (fun _ _ _ h => h) (Or.inl ⟨by rfl, ?hy14_81⟩) (by assumption) ?rest14_81
            case hy14_81 => (intro w9 hSw; clear hSw; go_simp; try with_reducible rfl)
            try simp only [Act.put, List.setIfInBounds_toArray, List.set_cons_zero, List.set_cons_succ, List.getElem_toArray, List.getElem_cons_zero, List.getElem_cons_succ]
            refine wpAnyH_take (i := 15) (v := ?v15_82) rfl (by kernel_rfl) (by kernel_rfl) (by kernel_rfl) (fun _ _ _ h => h) (Or.inl ⟨by rfl, ?hy15_82⟩) (by assumption) ?rest15_82
            case hy15_82 => (intro w9 hSw; clear hSw; go_simp; try with_reducible rfl)
            try simp only [Act.put, List.setIfInBounds_toArray, List.set_cons_zero, List.set_cons_succ, List.getElem_toArray, List.getElem_cons_zero, List.getElem_cons_succ]
            refine wpAnyH_done (by kernel_rfl) ?_ _
            go_wp2_with fail
            go_roundw
            case rel => exact ⟨s + 1, (m : Int) - 1, A9, A11, c9, c11, by omega, by have := HZ.out; omega, by rw [HEX.out]; first | rfl | simp, by rw [HEY.out]; first | rfl | simp, by go_num, by rw [HEX.out, HEY.out]; exact hM, hBr, bz⟩
            case measure => simp [intOf] <;> omega
          go_simp
          have R12 := rowf_one wd21 V
          have q12 : ∀ b, (Value.slice A7 (xs xr s).length c7).ownBlock = some b → some wd21.heap.size ≠ some b := fun b e e2 => by { injection e2 with e3; cases hA : A7 with | none => rw [hA] at e; cases e | some a => (rw [hA] at e; injection e with e4; have := (hM.o1.gt hA).2; omega) }
          have hb1 := (Below.refl _ wd21).alloc (Nat.le_refl _) (.cells #[.float .f64 V] 32)
          replace hM := hM.on hb1
          replace bz := bz.trans (hb1.mono hBr)
          replace hBr := Nat.le_trans hBr hb1.size
          clear hb1
          obtain ⟨g12, hg12⟩ : ∃ g, wd21.heap.size = g := ⟨_, rfl⟩
          simp only [hg12] at R12 q12 ⊢
          clear hg12
          generalize (wd21.alloc (.cells #[.float .f64 V] 32)) = Wb1 at hM R12 hBr bz ⊢
          clear hS; refine hK.out _ _ ⟨(bz.cell q5b).trans hc5, (bz.cell q6b).trans hc6⟩ (fun hS => ?_); clear hK K
          try simp only [Act.put, List.setIfInBounds_toArray, List.set_cons_zero, List.set_cons_succ, List.getElem_toArray, List.getElem_cons_zero, List.getElem_cons_succ]
          refine wpAnyH_ready (rs := [5]) (by kernel_rfl) (by simp) ?_
          refine AllReadyH.cons rfl (fun K hK => ?_) AllReadyH.nil
          go_simp
          have R5 := rowf_one Wb1 X
          have hb1 := (Below.refl _ Wb1).alloc (Nat.le_refl _) (.cells #[.float .f64 X] 32)
          replace hM := hM.on hb1
          replace R12 := R12.on hb1
          replace bz := bz.trans (hb1.mono hBr)
          replace hBr := Nat.le_trans hBr hb1.size
          clear hb1
          obtain ⟨g5, hg5⟩ : ∃ g, Wb1.heap.size = g := ⟨_, rfl⟩
          simp only [hg5] at R5 ⊢
          clear hg5
          generalize (Wb1.alloc (.cells #[.float .f64 X] 32)) = Wb2 at hM R12 R5 hBr bz ⊢
          clear hS; refine hK.out _ _ ⟨(bz.cell q5b).trans hc5, (bz.cell q6b).trans hc6⟩ (fun hS => ?_); clear hK K
          try simp only [Act.put, List.setIfInBounds_toArray, List.set_cons_zero, List.set_cons_succ, List.getElem_toArray, List.getElem_cons_zero, List.getElem_cons_succ]
          refine wpAnyH_ready (rs := [6]) (by kernel_rfl) (by simp) ?_
          refine AllReadyH.cons rfl (fun K hK => ?_) AllReadyH.nil
          refine step_appF _ rfl _ _ rfl B3 A7 c7 (xs xr s) rfl hM.o1 _ _ _ _ rfl (src_of R5) (by rw [HLX.out]; simp; omega) hBr ?_
          intro A9 c9 Wp3 ho9 hg9 hat9
          replace bz := below_appF bz hM.o1 hg9 hBr
          clear R5
          replace hM := hM.one ho9 hg9 hat9
          replace R12 := R12.grown hg9 (by intro e; exact q12 _ e.symm rfl)
          replace hBr := Nat.le_trans hBr hg9.size
          clear ho9 hg9 hat9
          clear hS; refine hK.out _ _ ⟨(bz.cell q5b).trans hc5, (bz.cell q6b).trans hc6⟩ (fun hS => ?_); clear hK K
          try simp only [Act.put, List.setIfInBounds_toArray, List.set_cons_zero, List.set_cons_succ, List.getElem_toArray, List.getElem_cons_zero, List.getElem_cons_succ]
          refine wpAnyH_ready (rs := [13]) (by kernel_rfl) (by simp) ?_
          refine AllReadyH.cons rfl (fun K hK => ?_) AllReadyH.nil
          refine step_appF _ rfl _ _ rfl B3 A8 c8 (xs yr s) rfl hM.o2 _ _ _ _ rfl (src_of R12) (by rw [HLY.out]; simp; omega) hBr ?_
          intro A11 c11 Wp4 ho9 hg9 hat9
          replace bz := below_appF bz hM.o2 hg9 hBr
          clear R12
          replace hM := (hM.turn.one ho9 hg9 hat9).turn
          replace hBr := Nat.le_trans hBr hg9.size
          clear ho9 hg9 hat9
          clear hS; refine hK.out _ _ ⟨(bz.cell q5b).trans hc5, (bz.cell q6b).trans hc6⟩ (fun hS => ?_); clear hK K
          try simp only [Act.put, List.setIfInBounds_toArray, List.set_cons_zero, List.set_cons_succ, List.getElem_toArray, List.getElem_cons_zero, List.getElem_cons_succ]
          refine wpAnyH_take (i := 14) (v := ?v14_83) rfl (by kernel_rfl) (by kernel_rfl) (by kernel_rfl) (fun _ _ _ h => h) (Or.inl ⟨by rfl, ?hy14_83⟩) (by assumption) ?rest14_83
          case hy14_83 => (intro w9 hSw; clear hSw; go_simp; try with_reducible rfl)
          try simp only [Act.put, List.setIfInBounds_toArray, List.set_cons_zero, List.set_cons_succ, List.getElem_toArray, List.getElem_cons_zero, List.getElem_cons_succ]
          refine wpAnyH_take (i := 15) (v := ?v15_84) rfl (by kernel_rfl) (by kernel_rfl) (by kernel_rfl) (fun _ _ _ h => h) (Or.inl ⟨by rfl, ?hy15_84⟩) (by assumption) ?rest15_84
          case hy15_84 => (intro w9 hSw; clear hSw; go_simp; try with_reducible rfl)
          try simp only [Act.put, List.setIfInBounds_toArray, List.set_cons_zero, List.set_cons_succ, List.getElem_toArray, List.getElem_cons_zero, List.getElem_cons_succ]
          refine wpAnyH_done (by kernel_rfl) ?_ _
          go_wp2_with fail
          go_roundw
          case rel => exact ⟨s + 1, (m : Int) - 1, A9, A11, c9, c11, by omega, by have := HZ.out; omega, by rw [HEX.out]; first | rfl | simp, by rw [HEY.out]; first | rfl | simp, by go_num, by rw [HEX.out, HEY.out]; exact hM, hBr, bz⟩
          case measure => simp [intOf] <;> omega
        · skip
          have hst2 : s = t := by omega
          subst hst2
          generalize wr = W3 at *
          have b2 : Below W2.heap.size W2 W3 := by rw [HB3.out]; exact bz
          have hA := HHA.out.on b2
          have hB := HHB.out.on b2
          have hC := hM.o1.fl (xs_wd (fun t => by rw [← HXR.out]; exact HXW.out _) s)
          have hD := hM.o2.fl (xs_wd (fun t => by rw [← HYR.out]; exact HYW.out _) s)
          have bzz := HBZ.out.trans (b2.mono HBZ.out.size)
          clear hM bz
          have hwn : ∀ t, t < s → Wn (xx t) (PP t) ∧ Wn (yy t) (QQ t) ∧ -1048575 ≤ PP t ∧ PP t ≤ 1048575 ∧ -1048575 ≤ QQ t ∧ QQ t ≤ 1048575 := fun t _ => by
            have h1 := HPB.out t
            have h2 := HQB.out t
            rw [← HXX.out, ← HYY.out]
            exact ⟨wn_int (by omega), wn_int (by omega), h1.1, h1.2, h2.1, h2.2⟩
          have hwr : ∀ t, t < s → Wn (xr t) (PP (s - 1 - t)) ∧ Wn (yr t) (QQ (s - 1 - t)) ∧ -1048575 ≤ PP (s - 1 - t) ∧ PP (s - 1 - t) ≤ 1048575 ∧ -1048575 ≤ QQ (s - 1 - t) ∧ QQ (s - 1 - t) ≤ 1048575 := fun t ht => by
            rw [← HXR.out, ← HYR.out]
            exact hwn (s - 1 - t) (by omega)
          have hs40 : s ≤ 40 := by omega
          have hb40 := HSB.out s hs40
          obtain ⟨r1, e1, w1⟩ := wn_sum hs40 hwn
          obtain ⟨r2, e2, w2⟩ := wn_sum (x := xr) (y := yr) (p := fun t => PP (s - 1 - t)) (q := fun t => QQ (s - 1 - t)) hs40 hwr
          rw [isum_rev (fun t => PP t * QQ t) s] at w2
          have hwi := wn_int (n := isum (fun t => PP t * QQ t) s) (by omega)
          have d1 : dotA (xs xx s) (xs yy s) s = some r1 := by rw [← e1]; exact sumA_congr (fun t ht => by rw [xs_D ht, xs_D ht, fa_nat, fa_nat])
          have d2 : dotA (xs xr s) (xs yr s) s = some r2 := by rw [← e2]; exact sumA_congr (fun t ht => by rw [xs_D ht, xs_D ht, fa_nat, fa_nat])
          have o1 := w1.eq_ hwi
          have o2 := w2.eq_ hwi
          have HD1 := Lib.hid d1
          have HD2 := Lib.hid d2
          have HO1 := Lib.hid o1
          have HO2 := Lib.hid o2
          have HLC := Lib.hid (xs_len xr s)
          have HLD := Lib.hid (xs_len yr s)
          generalize isum (fun t => PP t * QQ t) s = SS at *
          clear d1 d2 o1 o2 e1 e2 w1 w2 hwn hwr hwi hb40
          have bz := bzz
          go_wp2_with fail
          with_reducible refine (vec_any hA (by rw [HLA.out]; omega)).mono ?_
          rintro e w3 ⟨VA, sVA, gVA, capVA, cVA, lVA, rfl, hVVA, hb⟩
          replace hA := hA.on hb
          replace hB := hB.on hb
          replace hC := hC.on hb
          replace hD := hD.on hb
          replace bz := bz.trans (hb.mono bz.size)
          clear hb
          go_wp2_with fail
          with_reducible refine (vec_any hB (by rw [HLB.out]; omega)).mono ?_
          rintro e w4 ⟨VB, sVB, gVB, capVB, cVB, lVB, rfl, hVVB, hb⟩
          replace hB := hB.on hb
          replace hC := hC.on hb
          replace hD := hD.on hb
          replace hVVA := hVVA.on hb
          replace bz := bz.trans (hb.mono bz.size)
          clear hb
          go_wp2_with fail
          with_reducible refine (Dot_yes hVVA.sv hVVB.sv (refE_ok (alk_one hVVA hVVB (HLA.out.trans HLB.out.symm)) (mem2 hVVA.ne hVVB.ne)) (by rw [HLA.out, HLB.out]; exact Nat.le_refl _)).mono ?_
          rintro e w5 ⟨ra, rfl, hd, bd, hb⟩
          replace hC := hC.on hb
          replace hD := hD.on hb
          replace hVVA := hVVA.on hb
          replace hVVB := hVVB.on hb
          replace bz := bz.trans (hb.mono bz.size)
          clear hb
          rw [HLA.out, HD1.out] at hd
          have er := af_lit hd
          rw [er] at bd ⊢
          clear hd er hVVA hVVB
          go_wp2_with fail
          with_reducible refine (vec_any hC (by rw [HLC.out]; omega)).mono ?_
          rintro e w6 ⟨VC, sVC, gVC, capVC, cVC, lVC, rfl, hVVC, hb⟩
          replace hC := hC.on hb
          replace hD := hD.on hb
          replace bz := bz.trans (hb.mono bz.size)
          clear hb
          go_wp2_with fail
          with_reducible refine (vec_any hD (by rw [HLD.out]; omega)).mono ?_
          rintro e w7 ⟨VD, sVD, gVD, capVD, cVD, lVD, rfl, hVVD, hb⟩
          replace hD := hD.on hb
          replace hVVC := hVVC.on hb
          replace bz := bz.trans (hb.mono bz.size)
          clear hb
          go_wp2_with fail
          with_reducible refine (Dot_yes hVVC.sv hVVD.sv (refE_ok (alk_one hVVC hVVD (HLC.out.trans HLD.out.symm)) (mem2 hVVC.ne hVVD.ne)) (by rw [HLC.out, HLD.out]; exact Nat.le_refl _)).mono ?_
          rintro e w8 ⟨rb, rfl, hd, bd, hb⟩
          replace hVVC := hVVC.on hb
          replace hVVD := hVVD.on hb
          replace bz := bz.trans (hb.mono bz.size)
          clear hb
          rw [HLC.out, HD2.out] at hd
          have er := af_lit hd
          rw [er] at bd ⊢
          clear hd er hVVC hVVD
          go_wp2_with fail
          with_reducible refine (num_any _ _).mono ?_
          rintro e v109 ⟨rfl, rfl⟩
          go_wp2_with fail
          with_reducible refine (num_any _ _).mono ?_
          rintro e v110 ⟨rfl, rfl⟩
          have o1 : (FloatKind.f64.format.order r1 (floatOfInt .f64 SS) == some .eq) = true := HO1.out
          have o2 : (FloatKind.f64.format.order r2 (floatOfInt .f64 SS) == some .eq) = true := HO2.out
          go_wp2_with fail
          go_ret
          exact ⟨by first | rfl | rw [o2], bz⟩
set_option maxRecDepth 100000 in
set_option maxHeartbeats 8000000 in
theorem KernelsMeans_eq_c {w : World} {RX CX : Int} {AX : Option Addr} {nX cX : Nat} {LX : List Int} {A1 A2 A3 : Option Addr} {n1 c1 n2 c2 n3 c3 : Nat} {L1 l k : List Int} (hX : FL w AX nX cX LX) (h1 : FL w A1 n1 c1 L1) (h2 : IL w A2 n2 c2 l) (h3 : IL w A3 n3 c3 k) (hb : bigM RX CX nX = false) (hc : ((n1 : Int) == CX) = true) (h40 : n2 ≤ 40) (hne : n3 = n2) : Calls Try.prog 13 #[mV RX CX AX nX cX, .slice A1 n1 c1, .slice A2 n2 c2, .slice A3 n3 c3] w (Ans w (.bool true)) := by
  have pb := fun W => big_any RX CX AX nX cX hX.max W
  rw [hb] at pb
  obtain ⟨zX, eX, uX⟩ := big_is hb
  have HSX := Lib.hid (And.intro zX eX)
  have bdX := (szB_bd zX).1
  clear hb zX eX
  obtain ⟨m, hm⟩ := Int.eq_ofNat_of_zero_le bdX.1
  obtain ⟨p, hp⟩ := Int.eq_ofNat_of_zero_le bdX.2.2.1
  subst hm
  subst hp
  have hnp : n1 = p := by have h := eq_of_beq hc; omega
  have HNP := Lib.hid hnp
  have HL1 := Lib.hid (h1.1.trans hnp)
  clear hnp
  have b0 : (0 : Nat) ≤ 18446744073709551615 := by omega
  have b1 : (4607182418800017408 : Nat) ≤ 18446744073709551615 := by omega
  have g40 : (n2 : Int) ≤ 40 := by omega
  have gne : ((n3 : Int) != (n2 : Int)) = false := by simp; omega
  have H1 := Lib.hid h1
  have H2 := Lib.hid h2
  have H3 := Lib.hid h3
  have HX := Lib.hid hX
  have m2 := h2.max
  have m3 := h3.max
  have mx := hX.max
  have m1 := h1.max
  clear h1 h2 h3 hX
  have DX := Blk.new w [.int .i64 (m : Int), .int .i64 (p : Int), .slice AX nX cX] 24
  have bz := (Below.refl _ w).alloc (Nat.le_refl _) (.cells #[.int .i64 (m : Int), .int .i64 (p : Int), .slice AX nX cX] 24)
  go_enter Try.func13, Try.ntmps13
  go_wp2_with fail
  with_reducible refine (known_any _).mono ?_
  rintro e w1 ⟨rfl, hb⟩
  replace DX := DX.on hb
  replace bz := bz.trans (hb.mono bz.size)
  clear hb
  obtain ⟨kx_0, kx_1, kx_2, kx_3, kx_4, kx_5⟩ := Mbx.cells DX
  go_wp2_with fail
  with_reducible refine (pb _).mono ?_
  rintro e w2 ⟨rfl, hb⟩
  clear kx_0 kx_1 kx_2 kx_3 kx_4 kx_5
  replace DX := DX.on hb
  replace bz := bz.trans (hb.mono bz.size)
  clear hb
  obtain ⟨kx_0, kx_1, kx_2, kx_3, kx_4, kx_5⟩ := Mbx.cells DX
  have hmk := run_makeF m (by omega)
  go_wp2_with fail
  clear kx_0 kx_1 kx_2 kx_3 kx_4 kx_5
  replace DX := DX.drew
  replace bz := bz.drew
  refine wp_region_held_drew (S := fun w9 : World => Mbx w9 w.heap.size m p AX nX cX) (by kernel_rfl) DX (fun hS => ?_)
  have hwl := DX.lt
  generalize w2.drew = wf at hS hwl DX bz ⊢
  refine wpAnyH_take (i := 0) (v := ?v0_85) rfl (by kernel_rfl) (by kernel_rfl) (by kernel_rfl) (fun _ _ _ h => h) (Or.inl ⟨by rfl, ?hy0_85⟩) (by assumption) ?rest0_85
  case hy0_85 => (intro w9 hSw; clear hSw; go_simp; try with_reducible rfl)
  try simp only [Act.put, List.setIfInBounds_toArray, List.set_cons_zero, List.set_cons_succ, List.getElem_toArray, List.getElem_cons_zero, List.getElem_cons_succ]
  refine wpAnyH_take (i := 1) (v := ?v1_86) rfl (by kernel_rfl) (by kernel_rfl) (by kernel_rfl) (fun _ _ _ h => h) (Or.inl ⟨by rfl, ?hy1_86⟩) (by assumption) ?rest1_86
  case hy1_86 => (intro w9 hSw; obtain ⟨q0, q1, q2, q3, q4, q5⟩ := Mbx.cells hSw; go_simp; try with_reducible rfl)
  try simp only [Act.put, List.setIfInBounds_toArray, List.set_cons_zero, List.set_cons_succ, List.getElem_toArray, List.getElem_cons_zero, List.getElem_cons_succ]
  refine wpAnyH_take (i := 4) (v := ?v4_87) rfl (by kernel_rfl) (by kernel_rfl) (by kernel_rfl) (fun _ _ _ h => h) (Or.inl ⟨by rfl, ?hy4_87⟩) (by assumption) ?rest4_87
  case hy4_87 => (intro w9 hSw; clear hSw; go_simp; try with_reducible rfl)
  try simp only [Act.put, List.setIfInBounds_toArray, List.set_cons_zero, List.set_cons_succ, List.getElem_toArray, List.getElem_cons_zero, List.getElem_cons_succ]
  refine wpAnyH_take (i := 5) (v := ?v5_88) rfl (by kernel_rfl) (by kernel_rfl) (by kernel_rfl) (fun _ _ _ h => h) (Or.inl ⟨by rfl, ?hy5_88⟩) (by assumption) ?rest5_88
  case hy5_88 => (intro w9 hSw; obtain ⟨q0, q1, q2, q3, q4, q5⟩ := Mbx.cells hSw; go_simp; try with_reducible rfl)
  try simp only [Act.put, List.setIfInBounds_toArray, List.set_cons_zero, List.set_cons_succ, List.getElem_toArray, List.getElem_cons_zero, List.getElem_cons_succ]
  obtain ⟨I, hI⟩ : ∃ I : Array Value → List Bool → Act → World → Prop, I = (fun T bs a9 W => ∃ (lo hi : Nat → Nat) (v0 v1 v2 v3 v4 v5 : Value), a9 = { tmps := ((((((T.setIfInBounds 40 v0).setIfInBounds 41 v1).setIfInBounds 44 v2).setIfInBounds 45 v3).setIfInBounds 9 v4).setIfInBounds 10 v5), defers := [] } ∧ Pol wf.heap.size W bs lo hi ∧ (bs.getD 0 false = true → CZ W (lo 0) (hi 0) m v0) ∧ (bs.getD 1 false = true → OvI W (lo 1) (hi 1) m 1 (List.replicate m 0) v1) ∧ (bs.getD 2 false = true → CZ W (lo 2) (hi 2) m v2) ∧ (bs.getD 3 false = true → OvI W (lo 3) (hi 3) m 1 (List.replicate m 0) v3) ∧ (bs.getD 4 false = true → CV W (lo 4) (hi 4) v4) ∧ (bs.getD 5 false = true → CV W (lo 5) (hi 5) v5) ∧ Mbx W w.heap.size m p AX nX cX ∧ Below w.heap.size w W ∧ wf.heap.size ≤ W.heap.size) := ⟨_, rfl⟩
  have HI := Lib.hid hI
  clear hI
  refine wpAnyH_freeT (is := [2, 3, 6, 7, 8, 9]) (L := fun bs => #[true, true, bs.getD 0 false, bs.getD 1 false, true, true, bs.getD 2 false, bs.getD 3 false, bs.getD 4 false, bs.getD 5 false, false, false]) (F := 2) (fun bs => (!(bs.getD 1 false) || bs.getD 0 false) && (!(bs.getD 3 false) || (bs.getD 1 false && bs.getD 2 false))) I (by kernel_rfl) ?step ?fin 6 [false, false, false, false, false, false] rfl rfl rfl ?beg hS
  case beg =>
    rw [HI.out]
    exact ⟨fun _ => 0, fun _ => 0, undef, undef, undef, undef, undef, undef, by kernel_rfl, Pol.start (by intro k; rcases k with _ | _ | _ | _ | _ | _ | k <;> simp), by simp, by simp, by simp, by simp, by simp, by simp, DX, bz, Nat.le_refl _⟩
  case step =>
    intro k hk bs a9 W hl hb hok hI hS
    obtain ⟨b0, b1, b2, b3, b4, b5, rfl⟩ := bools6 bs hl
    rw [HI.out] at hI
    obtain ⟨lo, hi, v0, v1, v2, v3, v4, v5, rfl, hP, f0, f1, f2, f3, f4, f5, DX, bz, hsz⟩ := hI
    clear hS
    rcases k with _ | _ | _ | _ | _ | _ | k
    · skip
      refine ⟨2, _, rfl, rfl, fun K hK => ?_⟩
      try simp only [Act.put, List.setIfInBounds_toArray, List.set_cons_zero, List.set_cons_succ, List.getElem_toArray, List.getElem_cons_zero, List.getElem_cons_succ]
      go_simp
      have hb1 := (Below.refl _ W).alloc (Nat.le_refl _) (.cells (LF (List.replicate m 0)).toArray 32)
      refine hK.out _ _ (DX.on hb1) ?_
      try simp only [Act.put, List.setIfInBounds_toArray, List.set_cons_zero, List.set_cons_succ, List.getElem_toArray, List.getElem_cons_zero, List.getElem_cons_succ]
      rw [HI.out]
      exact ⟨_, _, .slice (some ⟨W.heap.size, 0, none⟩) m m, v1, v2, v3, v4, v5, by kernel_rfl, hP.step 0 hb1.size hsz, fun _ => ⟨rfl, zl_new W (by omega), by simp [upN]⟩, fun h => (f1 h).on hb1, fun h => (f2 h).on hb1, fun h => (f3 h).on hb1, fun h => (f4 h).on hb1, fun h => (f5 h).on hb1, DX.on hb1, bz.trans (hb1.mono bz.size), Nat.le_trans hsz hb1.size⟩
    · skip
      refine ⟨3, _, rfl, rfl, fun K hK => ?_⟩
      try simp only [Act.put, List.setIfInBounds_toArray, List.set_cons_zero, List.set_cons_succ, List.getElem_toArray, List.getElem_cons_zero, List.getElem_cons_succ]
      go_simp
      have hbj : b0 = true := by simp at hok; exact hok.1
      subst hbj
      obtain ⟨rfl, hF, _⟩ := f0 rfl
      with_reducible refine (vec_any hF (by omega)).mono ?_
      rintro e w1 ⟨V, s, gg, cap, c, l9, rfl, hV, hb1⟩
      refine hK.out _ _ (DX.on hb1) ?_
      try simp only [Act.put, List.setIfInBounds_toArray, List.set_cons_zero, List.set_cons_succ, List.getElem_toArray, List.getElem_cons_zero, List.getElem_cons_succ]
      rw [HI.out]
      exact ⟨_, _, .slice (some ⟨lo 0, 0, none⟩) m m, Vu.V V, v2, v3, v4, v5, by kernel_rfl, hP.step 1 hb1.size hsz, fun h => (f0 h).on hb1, fun _ => ⟨V, s, gg, cap, c, l9, rfl, hV, hV.st.lt, hV.st.gt.2⟩, fun h => (f2 h).on hb1, fun h => (f3 h).on hb1, fun h => (f4 h).on hb1, fun h => (f5 h).on hb1, DX.on hb1, bz.trans (hb1.mono bz.size), Nat.le_trans hsz hb1.size⟩
    · skip
      refine ⟨6, _, rfl, rfl, fun K hK => ?_⟩
      try simp only [Act.put, List.setIfInBounds_toArray, List.set_cons_zero, List.set_cons_succ, List.getElem_toArray, List.getElem_cons_zero, List.getElem_cons_succ]
      go_simp
      have hb1 := (Below.refl _ W).alloc (Nat.le_refl _) (.cells (LF (List.replicate m 0)).toArray 32)
      refine hK.out _ _ (DX.on hb1) ?_
      try simp only [Act.put, List.setIfInBounds_toArray, List.set_cons_zero, List.set_cons_succ, List.getElem_toArray, List.getElem_cons_zero, List.getElem_cons_succ]
      rw [HI.out]
      exact ⟨_, _, v0, v1, .slice (some ⟨W.heap.size, 0, none⟩) m m, v3, v4, v5, by kernel_rfl, hP.step 2 hb1.size hsz, fun h => (f0 h).on hb1, fun h => (f1 h).on hb1, fun _ => ⟨rfl, zl_new W (by omega), by simp [upN]⟩, fun h => (f3 h).on hb1, fun h => (f4 h).on hb1, fun h => (f5 h).on hb1, DX.on hb1, bz.trans (hb1.mono bz.size), Nat.le_trans hsz hb1.size⟩
    · skip
      refine ⟨7, _, rfl, rfl, fun K hK => ?_⟩
      try simp only [Act.put, List.setIfInBounds_toArray, List.set_cons_zero, List.set_cons_succ, List.getElem_toArray, List.getElem_cons_zero, List.getElem_cons_succ]
      go_simp
      have hbj : b2 = true := by simp at hok; exact hok.2.2
      subst hbj
      obtain ⟨rfl, hF, _⟩ := f2 rfl
      with_reducible refine (vec_any hF (by omega)).mono ?_
      rintro e w1 ⟨V, s, gg, cap, c, l9, rfl, hV, hb1⟩
      refine hK.out _ _ (DX.on hb1) ?_
      try simp only [Act.put, List.setIfInBounds_toArray, List.set_cons_zero, List.set_cons_succ, List.getElem_toArray, List.getElem_cons_zero, List.getElem_cons_succ]
      rw [HI.out]
      exact ⟨_, _, v0, v1, .slice (some ⟨lo 2, 0, none⟩) m m, Vu.V V, v4, v5, by kernel_rfl, hP.step 3 hb1.size hsz, fun h => (f0 h).on hb1, fun h => (f1 h).on hb1, fun h => (f2 h).on hb1, fun _ => ⟨V, s, gg, cap, c, l9, rfl, hV, hV.st.lt, hV.st.gt.2⟩, fun h => (f4 h).on hb1, fun h => (f5 h).on hb1, DX.on hb1, bz.trans (hb1.mono bz.size), Nat.le_trans hsz hb1.size⟩
    · skip
      refine ⟨8, _, rfl, rfl, fun K hK => ?_⟩
      try simp only [Act.put, List.setIfInBounds_toArray, List.set_cons_zero, List.set_cons_succ, List.getElem_toArray, List.getElem_cons_zero, List.getElem_cons_succ]
      go_simp
      have hb1 := (Below.refl _ W).alloc (Nat.le_refl _) (.cells (Vu.zero).L.toArray 30)
      refine hK.out _ _ (DX.on hb1) ?_
      try simp only [Act.put, List.setIfInBounds_toArray, List.set_cons_zero, List.set_cons_succ, List.getElem_toArray, List.getElem_cons_zero, List.getElem_cons_succ]
      rw [HI.out]
      exact ⟨_, _, v0, v1, v2, v3, .pointer (some ⟨W.heap.size, 0, none⟩), v5, by kernel_rfl, hP.step 4 hb1.size hsz, fun h => (f0 h).on hb1, fun h => (f1 h).on hb1, fun h => (f2 h).on hb1, fun h => (f3 h).on hb1, fun _ => ⟨rfl, Blk.new W Vu.zero.L 30, by simp [upN]⟩, fun h => (f5 h).on hb1, DX.on hb1, bz.trans (hb1.mono bz.size), Nat.le_trans hsz hb1.size⟩
    · skip
      refine ⟨9, _, rfl, rfl, fun K hK => ?_⟩
      try simp only [Act.put, List.setIfInBounds_toArray, List.set_cons_zero, List.set_cons_succ, List.getElem_toArray, List.getElem_cons_zero, List.getElem_cons_succ]
      go_simp
      have hb1 := (Below.refl _ W).alloc (Nat.le_refl _) (.cells (Vu.zero).L.toArray 30)
      refine hK.out _ _ (DX.on hb1) ?_
      try simp only [Act.put, List.setIfInBounds_toArray, List.set_cons_zero, List.set_cons_succ, List.getElem_toArray, List.getElem_cons_zero, List.getElem_cons_succ]
      rw [HI.out]
      exact ⟨_, _, v0, v1, v2, v3, v4, .pointer (some ⟨W.heap.size, 0, none⟩), by kernel_rfl, hP.step 5 hb1.size hsz, fun h => (f0 h).on hb1, fun h => (f1 h).on hb1, fun h => (f2 h).on hb1, fun h => (f3 h).on hb1, fun h => (f4 h).on hb1, fun _ => ⟨rfl, Blk.new W Vu.zero.L 30, by simp [upN]⟩, DX.on hb1, bz.trans (hb1.mono bz.size), Nat.le_trans hsz hb1.size⟩
    · simp at hk; omega
  case fin =>
    intro a9 W hI hS
    rw [HI.out] at hI
    obtain ⟨lo, hi, v0, v1, v2, v3, v4, v5, rfl, hP, f0, f1, f2, f3, f4, f5, DX, bz, hsz⟩ := hI
    clear hS
    try simp only [Act.put, List.setIfInBounds_toArray, List.set_cons_zero, List.set_cons_succ, List.getElem_toArray, List.getElem_cons_zero, List.getElem_cons_succ]
    obtain ⟨VY, sVY, gVY, capVY, cVY, lVY, rfl, hVY, aY, bY⟩ := f1 rfl
    obtain ⟨VZ, sVZ, gVZ, capVZ, cVZ, lVZ, rfl, hVZ, aZ, bZ⟩ := f3 rfl
    obtain ⟨rfl, Da, la_⟩ := f4 rfl
    obtain ⟨rfl, Db, lb_⟩ := f5 rfl
    have r1 := (hP.rng 1 rfl).1
    have r3 := (hP.rng 3 rfl).1
    have r4 := (hP.rng 4 rfl).1
    have r5 := (hP.rng 5 rfl).1
    have tY := And.intro hVY.st.lo hVY.st.gt.1
    have tZ := And.intro hVZ.st.lo hVZ.st.gt.1
    have k1 := hP.ap 1 3 (by decide) rfl rfl
    have k2 := hP.ap 1 4 (by decide) rfl rfl
    have k3 := hP.ap 1 5 (by decide) rfl rfl
    have k4 := hP.ap 3 4 (by decide) rfl rfl
    have k5 := hP.ap 3 5 (by decide) rfl rfl
    have k6 := hP.ap 4 5 (by decide) rfl rfl
    have nq : lo 4 ≠ gVY ∧ lo 4 ≠ gVZ ∧ lo 5 ≠ gVY ∧ lo 5 ≠ gVZ ∧ w.heap.size < gVY ∧ w.heap.size < gVZ ∧ w.heap.size < lo 4 ∧ w.heap.size < lo 5 ∧ lo 4 ≠ lo 5 := by omega
    have ap : sVY ≠ gVZ ∧ gVY ≠ gVZ ∧ sVZ ≠ gVY := by omega
    have sq : lo 4 ≠ sVY ∧ lo 4 ≠ sVZ ∧ lo 5 ≠ sVY ∧ lo 5 ≠ sVZ := by omega
    clear hP f0 f1 f2 f3 f4 f5 aY bY aZ bZ la_ lb_ r1 r3 r4 r5 k1 k2 k3 k4 k5 k6 tY tZ
    generalize lo 4 = HDa at *
    generalize lo 5 = HDb at *
    replace hVY : Ov W (lo 1) VY sVY gVY capVY cVY lVY m 1 (List.replicate m 0) := hVY
    replace hVZ : Ov W (lo 3) VZ sVZ gVZ capVZ cVZ lVZ m 1 (List.replicate m 0) := hVZ
    generalize lo 1 = BVY at *
    generalize lo 3 = BVZ at *
    obtain ⟨fc0, fc1, fc2, fc3, fc4, fc5, fc6, fc7, fc8⟩ := Vbx.cells Da
    obtain ⟨fr0, fr1, fr2, fr3, fr4, fr5, fr6, fr7, fr8⟩ := Vbx.free Da
    refine wpAnyH_ready (rs := [10]) (by kernel_rfl) (by simp) ?_
    refine AllReadyH.cons rfl (fun K hK => ?_) AllReadyH.nil
    go_simp
    clear fc0 fr0 fc1 fr1 fc2 fr2 fc3 fr3 fc4 fr4 fc5 fr5 fc6 fr6 fc7 fr7 fc8 fr8
    have hgS := set9_grown W (HDa) (.pointer (VY).p) (.int .i64 (VY).f0) (.int .i64 (VY).f1) (.int .i64 (VY).d0) (.int .i64 (VY).d1) (.int .i64 (VY).r0) (.int .i64 (VY).r1) (.int .i64 (VY).R) (.int .i64 (VY).C)
    replace Da := Vbx.put Da (VY)
    replace DX := DX.grown hgS (by simp <;> omega)
    replace hVY := hVY.grown hgS (by omega) (by omega)
    replace hVZ := hVZ.grown hgS (by omega) (by omega)
    replace Db := Db.grown hgS (by simp <;> omega)
    replace bz := bz.grown hgS bz.size (fun k e => by cases e; omega)
    generalize (((((((((W.setCell ⟨HDa, 0, none⟩ (.pointer (VY).p)).setCell ⟨HDa, 1, none⟩ (.int .i64 (VY).f0)).setCell ⟨HDa, 2, none⟩ (.int .i64 (VY).f1)).setCell ⟨HDa, 3, none⟩ (.int .i64 (VY).d0)).setCell ⟨HDa, 4, none⟩ (.int .i64 (VY).d1)).setCell ⟨HDa, 5, none⟩ (.int .i64 (VY).r0)).setCell ⟨HDa, 6, none⟩ (.int .i64 (VY).r1)).setCell ⟨HDa, 7, none⟩ (.int .i64 (VY).R)).setCell ⟨HDa, 8, none⟩ (.int .i64 (VY).C)) = WsDa at DX hVY hVZ Da Db bz ⊢
    clear hgS
    refine hK.out _ _ DX (fun hS => ?_)
    clear hK K hS
    try simp only [Act.put, List.setIfInBounds_toArray, List.set_cons_zero, List.set_cons_succ, List.getElem_toArray, List.getElem_cons_zero, List.getElem_cons_succ]
    obtain ⟨fc0, fc1, fc2, fc3, fc4, fc5, fc6, fc7, fc8⟩ := Vbx.cells Db
    obtain ⟨fr0, fr1, fr2, fr3, fr4, fr5, fr6, fr7, fr8⟩ := Vbx.free Db
    refine wpAnyH_ready (rs := [11]) (by kernel_rfl) (by simp) ?_
    refine AllReadyH.cons rfl (fun K hK => ?_) AllReadyH.nil
    go_simp
    clear fc0 fr0 fc1 fr1 fc2 fr2 fc3 fr3 fc4 fr4 fc5 fr5 fc6 fr6 fc7 fr7 fc8 fr8
    have hgS := set9_grown WsDa (HDb) (.pointer (VZ).p) (.int .i64 (VZ).f0) (.int .i64 (VZ).f1) (.int .i64 (VZ).d0) (.int .i64 (VZ).d1) (.int .i64 (VZ).r0) (.int .i64 (VZ).r1) (.int .i64 (VZ).R) (.int .i64 (VZ).C)
    replace Db := Vbx.put Db (VZ)
    replace DX := DX.grown hgS (by simp <;> omega)
    replace hVY := hVY.grown hgS (by omega) (by omega)
    replace hVZ := hVZ.grown hgS (by omega) (by omega)
    replace Da := Da.grown hgS (by simp <;> omega)
    replace bz := bz.grown hgS bz.size (fun k e => by cases e; omega)
    generalize (((((((((WsDa.setCell ⟨HDb, 0, none⟩ (.pointer (VZ).p)).setCell ⟨HDb, 1, none⟩ (.int .i64 (VZ).f0)).setCell ⟨HDb, 2, none⟩ (.int .i64 (VZ).f1)).setCell ⟨HDb, 3, none⟩ (.int .i64 (VZ).d0)).setCell ⟨HDb, 4, none⟩ (.int .i64 (VZ).d1)).setCell ⟨HDb, 5, none⟩ (.int .i64 (VZ).r0)).setCell ⟨HDb, 6, none⟩ (.int .i64 (VZ).r1)).setCell ⟨HDb, 7, none⟩ (.int .i64 (VZ).R)).setCell ⟨HDb, 8, none⟩ (.int .i64 (VZ).C)) = WsDb at DX hVY hVZ Da Db bz ⊢
    clear hgS
    refine hK.out _ _ DX (fun hS => ?_)
    clear hK K hS
    try simp only [Act.put, List.setIfInBounds_toArray, List.set_cons_zero, List.set_cons_succ, List.getElem_toArray, List.getElem_cons_zero, List.getElem_cons_succ]
    refine wpAnyH_done (by kernel_rfl) ?_ _
    clear HI I hsz hwl sq hmk
    go_wp2_with fail
    replace DX := DX.drew
    replace hVY := hVY.drew
    replace hVZ := hVZ.drew
    replace Da := Da.drew
    replace Db := Db.drew
    replace bz := bz.drew
    refine wp_region_held_drew (S := fun w9 : World => Mbx w9 w.heap.size m p AX nX cX ∧ Vbx w9 HDa VY ∧ Vbx w9 HDb VZ) (by kernel_rfl) ⟨DX, Da, Db⟩ (fun hS => ?_)
    generalize WsDb.drew = wd5 at hS DX hVY hVZ Da Db  bz ⊢
    refine wpAnyH_take (i := 0) (v := ?v0_89) rfl (by kernel_rfl) (by kernel_rfl) (by kernel_rfl) (fun _ _ _ h => h) (Or.inl ⟨by rfl, ?hy0_89⟩) (by assumption) ?rest0_89
    case hy0_89 => (intro w9 hSw; obtain ⟨m0, m1, m2⟩ := hSw; obtain ⟨q0, q1, q2, q3, q4, q5⟩ := Mbx.cells m0; go_simp; try with_reducible rfl)
    try simp only [Act.put, List.setIfInBounds_toArray, List.set_cons_zero, List.set_cons_succ, List.getElem_toArray, List.getElem_cons_zero, List.getElem_cons_succ]
    refine wpAnyH_take (i := 2) (v := ?v2_90) rfl (by kernel_rfl) (by kernel_rfl) (by kernel_rfl) (fun _ _ _ h => h) (Or.inl ⟨by rfl, ?hy2_90⟩) (by assumption) ?rest2_90
    case hy2_90 => (intro w9 hSw; clear hSw; go_simp; try with_reducible rfl)
    try simp only [Act.put, List.setIfInBounds_toArray, List.set_cons_zero, List.set_cons_succ, List.getElem_toArray, List.getElem_cons_zero, List.getElem_cons_succ]
    refine wpAnyH_take (i := 4) (v := ?v4_91) rfl (by kernel_rfl) (by kernel_rfl) (by kernel_rfl) (fun _ _ _ h => h) (Or.inl ⟨by rfl, ?hy4_91⟩) (by assumption) ?rest4_91
    case hy4_91 => (intro w9 hSw; obtain ⟨m0, m1, m2⟩ := hSw; refine (ld_v (by rfl) (by kernel_rfl) m1).trans ?_; with_reducible rfl)
    try simp only [Act.put, List.setIfInBounds_toArray, List.set_cons_zero, List.set_cons_succ, List.getElem_toArray, List.getElem_cons_zero, List.getElem_cons_succ]
    refine wpAnyH_take (i := 6) (v := ?v6_92) rfl (by kernel_rfl) (by kernel_rfl) (by kernel_rfl) (fun _ _ _ h => h) (Or.inl ⟨by rfl, ?hy6_92⟩) (by assumption) ?rest6_92
    case hy6_92 => (intro w9 hSw; obtain ⟨m0, m1, m2⟩ := hSw; obtain ⟨q0, q1, q2, q3, q4, q5⟩ := Mbx.cells m0; go_simp; try with_reducible rfl)
    try simp only [Act.put, List.setIfInBounds_toArray, List.set_cons_zero, List.set_cons_succ, List.getElem_toArray, List.getElem_cons_zero, List.getElem_cons_succ]
    refine wpAnyH_take (i := 8) (v := ?v8_93) rfl (by kernel_rfl) (by kernel_rfl) (by kernel_rfl) (fun _ _ _ h => h) (Or.inl ⟨by rfl, ?hy8_93⟩) (by assumption) ?rest8_93
    case hy8_93 => (intro w9 hSw; clear hSw; go_simp; try with_reducible rfl)
    try simp only [Act.put, List.setIfInBounds_toArray, List.set_cons_zero, List.set_cons_succ, List.getElem_toArray, List.getElem_cons_zero, List.getElem_cons_succ]
    refine wpAnyH_take (i := 10) (v := ?v10_94) rfl (by kernel_rfl) (by kernel_rfl) (by kernel_rfl) (fun _ _ _ h => h) (Or.inl ⟨by rfl, ?hy10_94⟩) (by assumption) ?rest10_94
    case hy10_94 => (intro w9 hSw; obtain ⟨m0, m1, m2⟩ := hSw; refine (ld_v (by rfl) (by kernel_rfl) m2).trans ?_; with_reducible rfl)
    try simp only [Act.put, List.setIfInBounds_toArray, List.set_cons_zero, List.set_cons_succ, List.getElem_toArray, List.getElem_cons_zero, List.getElem_cons_succ]
    refine wpAnyH_ready (rs := [1]) (by kernel_rfl) (by simp) ?_
    refine AllReadyH.cons rfl (fun K hK => ?_) AllReadyH.nil
    go_simp
    with_reducible refine (of_any false (HX.out.on bz) HSX.out.1 HSX.out.2).mono ?_
    rintro e w3 ⟨VU, sVU, gVU, capVU, cVU, lVU, rfl, hVU, hb⟩
    replace DX := DX.on hb
    replace hVY := hVY.on hb
    replace hVZ := hVZ.on hb
    replace Da := Da.on hb
    replace Db := Db.on hb
    replace bz := bz.trans (hb.mono bz.size)
    clear hb
    clear hS; refine hK.out _ _ ⟨DX, Da, Db⟩ (fun hS => ?_); clear hK K
    try simp only [Act.put, List.setIfInBounds_toArray, List.set_cons_zero, List.set_cons_succ, List.getElem_toArray, List.getElem_cons_zero, List.getElem_cons_succ]
    refine wpAnyH_ready (rs := [3]) (by kernel_rfl) (by simp) ?_
    refine AllReadyH.cons rfl (fun K hK => ?_) AllReadyH.nil
    go_simp
    with_reducible refine (vec_any (H1.out.on bz) (by have := HNP.out; omega)).mono ?_
    rintro e w4 ⟨VV, sVV, gVV, capVV, cVV, lVV, rfl, hVV, hb⟩
    replace DX := DX.on hb
    replace hVY := hVY.on hb
    replace hVZ := hVZ.on hb
    replace Da := Da.on hb
    replace Db := Db.on hb
    replace hVU := hVU.on hb
    replace bz := bz.trans (hb.mono bz.size)
    clear hb
    clear hS; refine hK.out _ _ ⟨DX, Da, Db⟩ (fun hS => ?_); clear hK K
    try simp only [Act.put, List.setIfInBounds_toArray, List.set_cons_zero, List.set_cons_succ, List.getElem_toArray, List.getElem_cons_zero, List.getElem_cons_succ]
    refine wpAnyH_ready (rs := [5]) (by kernel_rfl) (by simp) ?_
    refine AllReadyH.cons rfl (fun K hK => ?_) AllReadyH.nil
    go_simp
    skip
    have hVV2 := hVV
    rw [show (n1 : Int) = (p : Int) by have := HNP.out; omega] at hVV2
    with_reducible refine (gemv_m b1 b0 hVU hVV2 hVY HL1.out (by simp)).mono ?_
    rintro e w61 ⟨lyVY, GVY, rfl, hVY2, hIVY, hg⟩
    replace DX := DX.grown hg (by simp; omega)
    replace Da := Da.grown hg (by simp; omega)
    replace Db := Db.grown hg (by simp; omega)
    replace hVZ := hVZ.grown hg (by omega) (by omega)
    replace hVY := hVY2
    replace bz := bz.grown hg bz.size (fun k e => by cases e; omega)
    have HIVY := Lib.hid hIVY
    clear hVY2 hg hIVY hVU hVV hVV2
    clear hS; refine hK.out _ _ ⟨DX, Da, Db⟩ (fun hS => ?_); clear hK K
    try simp only [Act.put, List.setIfInBounds_toArray, List.set_cons_zero, List.set_cons_succ, List.getElem_toArray, List.getElem_cons_zero, List.getElem_cons_succ]
    refine wpAnyH_ready (rs := [7]) (by kernel_rfl) (by simp) ?_
    refine AllReadyH.cons rfl (fun K hK => ?_) AllReadyH.nil
    go_simp
    with_reducible refine (of_any false (HX.out.on bz) HSX.out.1 HSX.out.2).mono ?_
    rintro e w5 ⟨VU, sVU, gVU, capVU, cVU, lVU, rfl, hVU, hb⟩
    replace DX := DX.on hb
    replace hVY := hVY.on hb
    replace hVZ := hVZ.on hb
    replace Da := Da.on hb
    replace Db := Db.on hb
    replace bz := bz.trans (hb.mono bz.size)
    clear hb
    clear hS; refine hK.out _ _ ⟨DX, Da, Db⟩ (fun hS => ?_); clear hK K
    try simp only [Act.put, List.setIfInBounds_toArray, List.set_cons_zero, List.set_cons_succ, List.getElem_toArray, List.getElem_cons_zero, List.getElem_cons_succ]
    refine wpAnyH_ready (rs := [9]) (by kernel_rfl) (by simp) ?_
    refine AllReadyH.cons rfl (fun K hK => ?_) AllReadyH.nil
    go_simp
    with_reducible refine (vec_any (H1.out.on bz) (by have := HNP.out; omega)).mono ?_
    rintro e w6 ⟨VV, sVV, gVV, capVV, cVV, lVV, rfl, hVV, hb⟩
    replace DX := DX.on hb
    replace hVY := hVY.on hb
    replace hVZ := hVZ.on hb
    replace Da := Da.on hb
    replace Db := Db.on hb
    replace hVU := hVU.on hb
    replace bz := bz.trans (hb.mono bz.size)
    clear hb
    clear hS; refine hK.out _ _ ⟨DX, Da, Db⟩ (fun hS => ?_); clear hK K
    try simp only [Act.put, List.setIfInBounds_toArray, List.set_cons_zero, List.set_cons_succ, List.getElem_toArray, List.getElem_cons_zero, List.getElem_cons_succ]
    refine wpAnyH_ready (rs := [11]) (by kernel_rfl) (by simp) ?_
    refine AllReadyH.cons rfl (fun K hK => ?_) AllReadyH.nil
    go_simp
    skip
    have hVV2 := hVV
    rw [show (n1 : Int) = (p : Int) by have := HNP.out; omega] at hVV2
    with_reducible refine (gemm_m b1 b0 hVU hVV2 hVZ (by simp)).mono ?_
    rintro e w62 ⟨lyVZ, GVZ, rfl, hVZ2, hIVZ, hg⟩
    replace DX := DX.grown hg (by simp; omega)
    replace Da := Da.grown hg (by simp; omega)
    replace Db := Db.grown hg (by simp; omega)
    replace hVY := hVY.grown hg (by omega) (by omega)
    replace hVZ := hVZ2
    replace bz := bz.grown hg bz.size (fun k e => by cases e; omega)
    have HIVZ := Lib.hid hIVZ
    clear hVZ2 hg hIVZ hVU hVV hVV2
    clear hS; refine hK.out _ _ ⟨DX, Da, Db⟩ (fun hS => ?_); clear hK K
    try simp only [Act.put, List.setIfInBounds_toArray, List.set_cons_zero, List.set_cons_succ, List.getElem_toArray, List.getElem_cons_zero, List.getElem_cons_succ]
    refine wpAnyH_take (i := 12) (v := ?v12_95) rfl (by kernel_rfl) (by kernel_rfl) (by kernel_rfl) (fun _ _ _ h => h) (Or.inl ⟨by rfl, ?hy12_95⟩) (by assumption) ?rest12_95
    case hy12_95 => (intro w9 hSw; clear hSw; go_simp; try with_reducible rfl)
    try simp only [Act.put, List.setIfInBounds_toArray, List.set_cons_zero, List.set_cons_succ, List.getElem_toArray, List.getElem_cons_zero, List.getElem_cons_succ]
    refine wpAnyH_take (i := 13) (v := ?v13_96) rfl (by kernel_rfl) (by kernel_rfl) (by kernel_rfl) (fun _ _ _ h => h) (Or.inl ⟨by rfl, ?hy13_96⟩) (by assumption) ?rest13_96
    case hy13_96 => (intro w9 hSw; clear hSw; go_simp; try with_reducible rfl)
    try simp only [Act.put, List.setIfInBounds_toArray, List.set_cons_zero, List.set_cons_succ, List.getElem_toArray, List.getElem_cons_zero, List.getElem_cons_succ]
    refine wpAnyH_done (by kernel_rfl) ?_ _
    go_wp2_with fail
    with_reducible refine (num_any _ _).mono ?_
    rintro e v107 ⟨rfl, rfl⟩
    go_wp2_with fail
    with_reducible refine (num_any _ _).mono ?_
    rintro e v108 ⟨rfl, rfl⟩
    obtain ⟨cDa_0, cDa_1, cDa_2, cDa_3, cDa_4, cDa_5, cDa_6, cDa_7, cDa_8⟩ := Vbx.cells Da
    obtain ⟨cDb_0, cDb_1, cDb_2, cDb_3, cDb_4, cDb_5, cDb_6, cDb_7, cDb_8⟩ := Vbx.cells Db
    go_wp2_with fail
    with_reducible refine (same_ov hVY hVZ (Is.same HIVY.out HIVZ.out)).mono ?_
    rintro e w9 ⟨rfl, hb⟩
    clear cDa_0 cDa_1 cDa_2 cDa_3 cDa_4 cDa_5 cDa_6 cDa_7 cDa_8 cDb_0 cDb_1 cDb_2 cDb_3 cDb_4 cDb_5 cDb_6 cDb_7 cDb_8
    replace DX := DX.on hb
    replace hVY := hVY.on hb
    replace hVZ := hVZ.on hb
    replace Da := Da.on hb
    replace Db := Db.on hb
    replace bz := bz.trans (hb.mono bz.size)
    clear hb Da Db hVY hVZ
    go_wp2_with fail
    obtain ⟨PP, hPP⟩ : ∃ P : Nat → Int, (fun t => (D l t).tmod 1048576) = P := ⟨_, rfl⟩
    obtain ⟨QQ, hQQ⟩ : ∃ P : Nat → Int, (fun t => (D k t).tmod 1048576) = P := ⟨_, rfl⟩
    have pb : ∀ t, -1048575 ≤ PP t ∧ PP t ≤ 1048575 := fun t => by rw [← hPP]; have h1 := Int.tmod_lt_of_pos (D l t) (show (0 : Int) < 1048576 by omega); have h2 := Int.lt_tmod_of_pos (D l t) (show (0 : Int) < 1048576 by omega); exact ⟨by show -1048575 ≤ (D l t).tmod 1048576; omega, by show (D l t).tmod 1048576 ≤ 1048575; omega⟩
    have qb : ∀ t, -1048575 ≤ QQ t ∧ QQ t ≤ 1048575 := fun t => by rw [← hQQ]; have h1 := Int.tmod_lt_of_pos (D k t) (show (0 : Int) < 1048576 by omega); have h2 := Int.lt_tmod_of_pos (D k t) (show (0 : Int) < 1048576 by omega); exact ⟨by show -1048575 ≤ (D k t).tmod 1048576; omega, by show (D k t).tmod 1048576 ≤ 1048575; omega⟩
    have HPB := Lib.hid pb
    have HQB := Lib.hid qb
    have HPP := Lib.hid hPP
    have HQQ := Lib.hid hQQ
    obtain ⟨xx, hxx⟩ : ∃ x : Nat → Nat, (fun t => FloatKind.f64.nearest (PP t)) = x := ⟨_, rfl⟩
    obtain ⟨yy, hyy⟩ : ∃ x : Nat → Nat, (fun t => FloatKind.f64.nearest (QQ t)) = x := ⟨_, rfl⟩
    have HXX := Lib.hid hxx
    have HYY := Lib.hid hyy
    have hsb : ∀ t, t ≤ 40 → -43980465111040 ≤ isum (fun t => PP t * QQ t) t ∧ isum (fun t => PP t * QQ t) t ≤ 43980465111040 := fun t ht => by
      have := isum_bd (p := fun t => PP t * QQ t) (b := 1099511627776) (by omega) (n := t) (fun t _ => by
        have h1 := pb t
        have h2 := qb t
        have h3 : (PP t * QQ t).natAbs ≤ 1048576 * 1048576 := by rw [Int.natAbs_mul]; exact Nat.mul_le_mul (by omega) (by omega)
        skip
        omega)
      have h9 : (t : Int) * 1099511627776 ≤ 40 * 1099511627776 := Int.mul_le_mul_of_nonneg_right (by omega) (by omega)
      omega
    have HSB := Lib.hid hsb
    clear hPP hQQ hxx hyy pb qb hsb
    obtain ⟨B, hB⟩ : ∃ B, w9.heap.size = B := ⟨_, rfl⟩
    have hBz : w.heap.size ≤ B := by rw [← hB]; exact bz.size
    have hB2 : B ≤ w9.heap.size := by omega
    clear hB
    go_loopw [13, 14, 17, 18] (fun a b s i wr => ∃ (t : Nat) (A5 A6 : Option Addr) (c5 c6 : Nat), t ≤ n2 ∧ a = .slice A5 (xs xx t).length c5 ∧ b = .slice A6 (xs yy t).length c6 ∧ s = .int .i64 (isum (fun t => PP t * QQ t) t) ∧ i = .int .i64 t ∧ Mp wr B A5 c5 (xs xx t) A6 c6 (xs yy t) ∧ B ≤ wr.heap.size ∧ Below w.heap.size w wr) (fun _ _ _ i _ => n2 - (intOf i).toNat)
    case atStart => exact ⟨0, none, none, 0, 0, Nat.zero_le _, rfl, rfl, rfl, rfl, Mp.nil _ _, hB2, bz⟩
    case round =>
      clear hB2 bz DX
      obtain ⟨t, A5, A6, c5, c6, ht, rfl, rfl, rfl, rfl, hM, hBr, bz⟩ := hrel
      by_cases hlt : t < n2
      · skip
        obtain ⟨ad2, hA2, _, hc2⟩ := (H2.out.on bz).at_ t hlt
        obtain ⟨ad3, hA3, _, hc3⟩ := (H3.out.on bz).at_ t (by omega)
        have zb := H2.out.bd t hlt
        have yb := H3.out.bd t (by omega)
        have ep : (D l t).tmod 1048576 = PP t := by rw [← HPP.out]
        have eq : (D k t).tmod 1048576 = QQ t := by rw [← HQQ.out]
        have p0 := HPB.out t
        have q0 := HQB.out t
        have ex : floatOfInt .f64 (PP t) = xx t := by rw [← HXX.out]; rfl
        have ey : floatOfInt .f64 (QQ t) = yy t := by rw [← HYY.out]; rfl
        have bx : xx t ≤ 18446744073709551615 := by rw [← HXX.out]; exact nearest_le _ (by omega)
        have by_ : yy t ≤ 18446744073709551615 := by rw [← HYY.out]; exact nearest_le _ (by omega)
        have s0 := HSB.out t (by omega)
        have s1 := HSB.out (t + 1) (by omega)
        have es : isum (fun t => PP t * QQ t) (t + 1) = isum (fun t => PP t * QQ t) t + PP t * QQ t := rfl
        have sq : -1099511627776 ≤ PP t * QQ t ∧ PP t * QQ t ≤ 1099511627776 := by
          have h3 : (PP t * QQ t).natAbs ≤ 1048576 * 1048576 := by rw [Int.natAbs_mul]; exact Nat.mul_le_mul (by omega) (by omega)
          omega
        have HES := Lib.hid es
        have exs := xs_next xx t
        have eys := xs_next yy t
        have HEX := Lib.hid exs
        have HEY := Lib.hid eys
        have hlx := xs_len xx t
        have hly := xs_len yy t
        have HLX := Lib.hid hlx
        have HLY := Lib.hid hly
        have HM := Lib.hid hM
        rw [es] at s1
        generalize hS : isum (fun t => PP t * QQ t) t = S at *
        clear es exs eys hlx hly hS
        generalize D l t = Z at *
        generalize D k t = Y at *
        generalize hPt : PP t = P at *
        generalize hQt : QQ t = Q at *
        generalize hPQ : P * Q = R at *
        generalize hxt : xx t = X at *
        generalize hyt : yy t = V at *
        have wP : IntKind.i32.wrap P = P := by rw [IntKind.wrap_i32]; omega
        have wQ : IntKind.i32.wrap Q = Q := by rw [IntKind.wrap_i32]; omega
        have wP6 : IntKind.i64.wrap P = P := (IntWalk.i64_left _).trans (IntWalk.wrap64_in _ (by omega))
        have wQ6 : IntKind.i64.wrap Q = Q := (IntWalk.i64_left _).trans (IntWalk.wrap64_in _ (by omega))
        have wR : IntKind.i64.wrap R = R := (IntWalk.i64_left _).trans (IntWalk.wrap64_in _ (by omega))
        have wS : IntKind.i64.wrap (S + R) = S + R := (IntWalk.i64_left _).trans (IntWalk.wrap64_in _ (by omega))
        have HPt := Lib.hid hPt
        have HQt := Lib.hid hQt
        have Hxt := Lib.hid hxt
        have Hyt := Lib.hid hyt
        clear hPt hQt hxt hyt hM p0 q0 s0 s1 sq zb yb
        subst hA2
        subst hA3
        have t0 : (0 : Int) ≤ t := by omega
        have t2 : (t : Int) < n2 := by omega
        have t3 : (t : Int) < n3 := by omega
        go_wp2_with fail
        refine wp_region_held_drew (S := fun w9 : World => w9.cell? (ad2.add t) = some (.int .i32 Z) ∧ w9.cell? (ad3.add t) = some (.int .i32 Y)) (by kernel_rfl) ⟨hc2, hc3⟩ (fun hS => ?_)
        refine wpAnyH_take (i := 0) (v := ?v0_97) rfl (by kernel_rfl) (by kernel_rfl) (by kernel_rfl) (fun _ _ _ h => h) (Or.inl ⟨by rfl, ?hy0_97⟩) (by assumption) ?rest0_97
        case hy0_97 => (intro w9 hSw; clear hSw; go_simp; try with_reducible rfl)
        try simp only [Act.put, List.setIfInBounds_toArray, List.set_cons_zero, List.set_cons_succ, List.getElem_toArray, List.getElem_cons_zero, List.getElem_cons_succ]
        refine wpAnyH_take (i := 1) (v := ?v1_98) rfl (by kernel_rfl) (by kernel_rfl) (by kernel_rfl) (fun _ _ _ h => h) (Or.inl ⟨by rfl, ?hy1_98⟩) (by assumption) ?rest1_98
        case hy1_98 => (intro w9 hSw; clear hSw; go_simp; try with_reducible rfl)
        try simp only [Act.put, List.setIfInBounds_toArray, List.set_cons_zero, List.set_cons_succ, List.getElem_toArray, List.getElem_cons_zero, List.getElem_cons_succ]
        refine wpAnyH_take (i := 2) (v := ?v2_99) rfl (by kernel_rfl) (by kernel_rfl) (by kernel_rfl) (fun _ _ _ h => h) (Or.inl ⟨by rfl, ?hy2_99⟩) (by assumption) ?rest2_99
        case hy2_99 => (intro w9 hSw; clear hSw; go_simp; try with_reducible rfl)
        try simp only [Act.put, List.setIfInBounds_toArray, List.set_cons_zero, List.set_cons_succ, List.getElem_toArray, List.getElem_cons_zero, List.getElem_cons_succ]
        refine wpAnyH_take (i := 3) (v := ?v3_100) rfl (by kernel_rfl) (by kernel_rfl) (by kernel_rfl) (fun _ _ _ h => h) (Or.inl ⟨by rfl, ?hy3_100⟩) (by assumption) ?rest3_100
        case hy3_100 => (intro w9 hSw; obtain ⟨m0, m1⟩ := hSw; go_simp; try with_reducible rfl)
        try simp only [Act.put, List.setIfInBounds_toArray, List.set_cons_zero, List.set_cons_succ, List.getElem_toArray, List.getElem_cons_zero, List.getElem_cons_succ]
        refine wpAnyH_take (i := 4) (v := ?v4_101) rfl (by kernel_rfl) (by kernel_rfl) (by kernel_rfl) (fun _ _ _ h => h) (Or.inl ⟨by rfl, ?hy4_101⟩) (by assumption) ?rest4_101
        case hy4_101 => (intro w9 hSw; clear hSw; go_simp; try with_reducible rfl)
        try simp only [Act.put, List.setIfInBounds_toArray, List.set_cons_zero, List.set_cons_succ, List.getElem_toArray, List.getElem_cons_zero, List.getElem_cons_succ]
        refine wpAnyH_take (i := 5) (v := ?v5_102) rfl (by kernel_rfl) (by kernel_rfl) (by kernel_rfl) (fun _ _ _ h => h) (Or.inl ⟨by rfl, ?hy5_102⟩) (by assumption) ?rest5_102
        case hy5_102 => (intro w9 hSw; clear hSw; go_simp; try with_reducible rfl)
        try simp only [Act.put, List.setIfInBounds_toArray, List.set_cons_zero, List.set_cons_succ, List.getElem_toArray, List.getElem_cons_zero, List.getElem_cons_succ]
        refine wpAnyH_take (i := 6) (v := ?v6_103) rfl (by kernel_rfl) (by kernel_rfl) (by kernel_rfl) (fun _ _ _ h => h) (Or.inl ⟨by rfl, ?hy6_103⟩) (by assumption) ?rest6_103
        case hy6_103 => (intro w9 hSw; clear hSw; go_simp; try with_reducible rfl)
        try simp only [Act.put, List.setIfInBounds_toArray, List.set_cons_zero, List.set_cons_succ, List.getElem_toArray, List.getElem_cons_zero, List.getElem_cons_succ]
        refine wpAnyH_take (i := 7) (v := ?v7_104) rfl (by kernel_rfl) (by kernel_rfl) (by kernel_rfl) (fun _ _ _ h => h) (Or.inl ⟨by rfl, ?hy7_104⟩) (by assumption) ?rest7_104
        case hy7_104 => (intro w9 hSw; clear hSw; go_simp; try with_reducible rfl)
        try simp only [Act.put, List.setIfInBounds_toArray, List.set_cons_zero, List.set_cons_succ, List.getElem_toArray, List.getElem_cons_zero, List.getElem_cons_succ]
        refine wpAnyH_take (i := 8) (v := ?v8_105) rfl (by kernel_rfl) (by kernel_rfl) (by kernel_rfl) (fun _ _ _ h => h) (Or.inl ⟨by rfl, ?hy8_105⟩) (by assumption) ?rest8_105
        case hy8_105 => (intro w9 hSw; clear hSw; go_simp; try with_reducible rfl)
        try simp only [Act.put, List.setIfInBounds_toArray, List.set_cons_zero, List.set_cons_succ, List.getElem_toArray, List.getElem_cons_zero, List.getElem_cons_succ]
        refine wpAnyH_take (i := 9) (v := ?v9_106) rfl (by kernel_rfl) (by kernel_rfl) (by kernel_rfl) (fun _ _ _ h => h) (Or.inl ⟨by rfl, ?hy9_106⟩) (by assumption) ?rest9_106
        case hy9_106 => (intro w9 hSw; obtain ⟨m0, m1⟩ := hSw; go_simp; try with_reducible rfl)
        try simp only [Act.put, List.setIfInBounds_toArray, List.set_cons_zero, List.set_cons_succ, List.getElem_toArray, List.getElem_cons_zero, List.getElem_cons_succ]
        refine wpAnyH_take (i := 10) (v := ?v10_107) rfl (by kernel_rfl) (by kernel_rfl) (by kernel_rfl) (fun _ _ _ h => h) (Or.inl ⟨by rfl, ?hy10_107⟩) (by assumption) ?rest10_107
        case hy10_107 => (intro w9 hSw; clear hSw; go_simp; try with_reducible rfl)
        try simp only [Act.put, List.setIfInBounds_toArray, List.set_cons_zero, List.set_cons_succ, List.getElem_toArray, List.getElem_cons_zero, List.getElem_cons_succ]
        refine wpAnyH_take (i := 11) (v := ?v11_108) rfl (by kernel_rfl) (by kernel_rfl) (by kernel_rfl) (fun _ _ _ h => h) (Or.inl ⟨by rfl, ?hy11_108⟩) (by assumption) ?rest11_108
        case hy11_108 => (intro w9 hSw; clear hSw; go_simp; try with_reducible rfl)
        try simp only [Act.put, List.setIfInBounds_toArray, List.set_cons_zero, List.set_cons_succ, List.getElem_toArray, List.getElem_cons_zero, List.getElem_cons_succ]
        refine wpAnyH_take (i := 12) (v := ?v12_109) rfl (by kernel_rfl) (by kernel_rfl) (by kernel_rfl) (fun _ _ _ h => h) (Or.inl ⟨by rfl, ?hy12_109⟩) (by assumption) ?rest12_109
        case hy12_109 => (intro w9 hSw; clear hSw; go_simp; try with_reducible rfl)
        try simp only [Act.put, List.setIfInBounds_toArray, List.set_cons_zero, List.set_cons_succ, List.getElem_toArray, List.getElem_cons_zero, List.getElem_cons_succ]
        refine wpAnyH_take (i := 13) (v := ?v13_110) rfl (by kernel_rfl) (by kernel_rfl) (by kernel_rfl) (fun _ _ _ h => h) (Or.inl ⟨by rfl, ?hy13_110⟩) (by assumption) ?rest13_110
        case hy13_110 => (intro w9 hSw; clear hSw; go_simp; try with_reducible rfl)
        try simp only [Act.put, List.setIfInBounds_toArray, List.set_cons_zero, List.set_cons_succ, List.getElem_toArray, List.getElem_cons_zero, List.getElem_cons_succ]
        refine wpAnyH_done (by kernel_rfl) ?_ _
        have hMd := HM.out.on (Below.refl _ wr).drew
        have bzd := bz.trans ((Below.refl _ wr).drew.mono bz.size)
        have hBq : B ≤ wr.drew.heap.size := hBr
        generalize wr.drew = wq at hMd bzd hBq ⊢
        have hbA := (Below.refl _ wq).alloc (Nat.le_refl _) (.cells #[.float .f64 X] 32)
        have hsrc := one_src wq X
        have hMa := hMd.on hbA
        have bza := bzd.alloc bzd.size (.cells #[.float .f64 X] 32)
        have hBa := Nat.le_trans hBq hbA.size
        go_wp2_with (first
          | (at_builtin; refine wpList_appF _ rfl _ _ rfl B A5 c5 (xs xx t) rfl hMa.o1 _ _ _ _ rfl hsrc (by rw [HLX.out]; simp; omega) hBa ?_; intro A7 c7 w9 ho9 hg9 hat9; have M9 := hMa.one ho9 hg9 hat9; have bz9 := below_appF bza (hMa.o1.less hBz) hg9 (Nat.le_trans hBz hBa); have hB9 := Nat.le_trans hBa hg9.size; clear ho9 hg9 hat9; have hbB := (Below.refl _ w9).alloc (Nat.le_refl _) (.cells #[.float .f64 V] 32); have hsrc2 := one_src w9 V; have hMb := M9.on hbB; have bzb := bz9.alloc bz9.size (.cells #[.float .f64 V] 32); have hBb := Nat.le_trans hB9 hbB.size)
          | (at_builtin; refine wpList_appF _ rfl _ _ rfl B A6 c6 (xs yy t) rfl hMb.o2 _ _ _ _ rfl hsrc2 (by rw [HLY.out]; simp; omega) hBb ?_; intro A8 c8 w10 ho10 hg10 hat10; have M10 := (hMb.turn.one ho10 hg10 hat10).turn; have bz10 := below_appF bzb (hMb.o2.less hBz) hg10 (Nat.le_trans hBz hBb); have hB10 := Nat.le_trans hBb hg10.size; clear ho10 hg10 hat10))
        go_roundw
        case rel => exact ⟨t + 1, A7, A8, c7, c8, by omega, by rw [HEX.out]; first | rfl | simp, by rw [HEY.out]; first | rfl | simp, by rw [HES.out], by go_num, by rw [HEX.out, HEY.out]; exact M10, hB10, bz10⟩
        case measure => simp [intOf]; omega
      · skip
        have htn : t = n2 := by omega
        subst htn
        generalize wr = W2 at *
        have hxw : ∀ s, xx s ≤ 18446744073709551615 := fun s => by rw [← HXX.out]; exact nearest_le _ (by have := HPB.out s; omega)
        have hyw : ∀ s, yy s ≤ 18446744073709551615 := fun s => by rw [← HYY.out]; exact nearest_le _ (by have := HQB.out s; omega)
        have HXW := Lib.hid hxw
        have HYW := Lib.hid hyw
        have hA := hM.o1.fl (xs_wd hxw t)
        have hB := hM.o2.fl (xs_wd hyw t)
        obtain ⟨B3, hB3⟩ : ∃ B, W2.heap.size = B := ⟨_, rfl⟩
        have hB3a : w.heap.size ≤ B3 := by rw [← hB3]; exact bz.size
        have HB3 := Lib.hid hB3
        have hlA := xs_len xx t
        have hlB := xs_len yy t
        obtain ⟨xr, hxr⟩ : ∃ x : Nat → Nat, (fun s => xx (t - 1 - s)) = x := ⟨_, rfl⟩
        obtain ⟨yr, hyr⟩ : ∃ x : Nat → Nat, (fun s => yy (t - 1 - s)) = x := ⟨_, rfl⟩
        have HXR := Lib.hid hxr
        have HYR := Lib.hid hyr
        have HHA := Lib.hid hA
        have HHB := Lib.hid hB
        have HHM := Lib.hid hM
        have HLA := Lib.hid hlA
        have HLB := Lib.hid hlB
        have HBZ := Lib.hid bz
        have h3z : B3 ≤ W2.heap.size := by omega
        clear hxw hyw hxr hyr hA hB hM hlA hlB hB3 bz hBr
        go_wp2_with fail
        go_loopw [15, 16, 21] (fun a b j wr => ∃ (s : Nat) (z : Int) (A7 A8 : Option Addr) (c7 c8 : Nat), s ≤ t ∧ z = (t : Int) - 1 - s ∧ a = .slice A7 (xs xr s).length c7 ∧ b = .slice A8 (xs yr s).length c8 ∧ j = .int .i64 z ∧ Mp wr B3 A7 c7 (xs xr s) A8 c8 (xs yr s) ∧ B3 ≤ wr.heap.size ∧ Below B3 W2 wr) (fun _ _ j _ => (intOf j + 1).toNat)
        case atStart => exact ⟨0, (t : Int) - 1, none, none, 0, 0, Nat.zero_le _, by omega, rfl, rfl, by go_num, Mp.nil _ _, h3z, by rw [← HB3.out]; exact Below.refl _ _⟩
        case round =>
          obtain ⟨s, z, A7, A8, c7, c8, hs, hz, rfl, rfl, rfl, hM, hBr, bz⟩ := hrel
          by_cases hst : s < t
          · skip
            obtain ⟨m, hm⟩ : ∃ m : Nat, z = (m : Int) := ⟨(z).toNat, by omega⟩
            subst hm
            have hmt : m < t := by omega
            have hms : t - 1 - s = m := by omega
            obtain ⟨ad5, hA5, q5, hc5⟩ := HHA.out.at_ (k := m) (by rw [HLA.out]; exact hmt)
            obtain ⟨ad6, hA6, q6, hc6⟩ := HHB.out.at_ (k := m) (by rw [HLB.out]; exact hmt)
            rw [xs_D hmt, Int.toNat_natCast] at hc5
            rw [xs_D hmt, Int.toNat_natCast] at hc6
            have q5b : (ad5.add m).block < B3 := by rw [add_block, ← HB3.out]; exact q5
            have q6b : (ad6.add m).block < B3 := by rw [add_block, ← HB3.out]; exact q6
            have exs : xs xr (s + 1) = xs xr s ++ [(xx m : Int)] := by rw [xs_next, ← HXR.out]; simp only [hms]
            have eys : xs yr (s + 1) = xs yr s ++ [(yy m : Int)] := by rw [xs_next, ← HYR.out]; simp only [hms]
            have HEX := Lib.hid exs
            have HEY := Lib.hid eys
            have bX := HXW.out m
            have bV := HYW.out m
            have jx : (m : Int) < ((xs xx t).length : Int) := by rw [HLA.out]; omega
            have jy : (m : Int) < ((xs yy t).length : Int) := by rw [HLB.out]; omega
            have j0 : (0 : Int) ≤ m := by omega
            have HLX := Lib.hid (xs_len xr s)
            have HLY := Lib.hid (xs_len yr s)
            have HZ := Lib.hid hz
            generalize xx m = X at *
            generalize yy m = V at *
            subst hA5
            subst hA6
            clear exs eys hz hms q5 q6
            go_wp2_with fail
            have bz : Below B3 W2 wr.drew := bz.drew
            have hM := hM.on (Below.refl _ wr).drew
            replace hBr : B3 ≤ wr.drew.heap.size := hBr
            refine wp_region_held_drew (S := fun w9 : World => w9.cell? (ad5.add m) = some (.float .f64 X) ∧ w9.cell? (ad6.add m) = some (.float .f64 V)) (by kernel_rfl) ⟨(bz.cell q5b).trans hc5, (bz.cell q6b).trans hc6⟩ (fun hS => ?_)
            generalize wr.drew = wd21 at hS hM hBr bz ⊢
            refine wpAnyH_take (i := 0) (v := ?v0_111) rfl (by kernel_rfl) (by kernel_rfl) (by kernel_rfl) (fun _ _ _ h => h) (Or.inl ⟨by rfl, ?hy0_111⟩) (by assumption) ?rest0_111
            case hy0_111 => (intro w9 hSw; clear hSw; go_simp; try with_reducible rfl)
            try simp only [Act.put, List.setIfInBounds_toArray, List.set_cons_zero, List.set_cons_succ, List.getElem_toArray, List.getElem_cons_zero, List.getElem_cons_succ]
            refine wpAnyH_take (i := 1) (v := ?v1_112) rfl (by kernel_rfl) (by kernel_rfl) (by kernel_rfl) (fun _ _ _ h => h) (Or.inl ⟨by rfl, ?hy1_112⟩) (by assumption) ?rest1_112
            case hy1_112 => (intro w9 hSw; clear hSw; go_simp; try with_reducible rfl)
            try simp only [Act.put, List.setIfInBounds_toArray, List.set_cons_zero, List.set_cons_succ, List.getElem_toArray, List.getElem_cons_zero, List.getElem_cons_succ]
            refine wpAnyH_take (i := 2) (v := ?v2_113) rfl (by kernel_rfl) (by kernel_rfl) (by kernel_rfl) (fun _ _ _ h => h) (Or.inl ⟨by rfl, ?hy2_113⟩) (by assumption) ?rest2_113
            case hy2_113 => (intro w9 hSw; clear hSw; go_simp; try with_reducible rfl)
            try simp only [Act.put, List.setIfInBounds_toArray, List.set_cons_zero, List.set_cons_succ, List.getElem_toArray, List.getElem_cons_zero, List.getElem_cons_succ]
            refine wpAnyH_take (i := 3) (v := ?v3_114) rfl (by kernel_rfl) (by kernel_rfl) (by kernel_rfl) (fun _ _ _ h => h) (Or.inl ⟨by rfl, ?hy3_114⟩) (by assumption) ?rest3_114
            case hy3_114 => (intro w9 hSw; clear hSw; go_simp; try with_reducible rfl)
            try simp only [Act.put, List.setIfInBounds_toArray, List.set_cons_zero, List.set_cons_succ, List.getElem_toArray, List.getElem_cons_zero, List.getElem_cons_succ]
            refine wpAnyH_take (i := 4) (v := ?v4_115) rfl (by kernel_rfl) (by kernel_rfl) (by kernel_rfl) (fun _ _ _ h => h) (Or.inl ⟨by rfl, ?hy4_115⟩) (by assumption) ?rest4_115
            case hy4_115 => (intro w9 hSw; obtain ⟨m0, m1⟩ := hSw; go_simp; try with_reducible rfl)
            try simp only [Act.put, List.setIfInBounds_toArray, List.set_cons_zero, List.set_cons_succ, List.getElem_toArray, List.getElem_cons_zero, List.getElem_cons_succ]
            refine wpAnyH_take (i := 7) (v := ?v7_116) rfl (by kernel_rfl) (by kernel_rfl) (by kernel_rfl) (fun _ _ _ h => h) (Or.inl ⟨by rfl, ?hy7_116⟩) (by assumption) ?rest7_116
            case hy7_116 => (intro w9 hSw; clear hSw; go_simp; try with_reducible rfl)
            try simp only [Act.put, List.setIfInBounds_toArray, List.set_cons_zero, List.set_cons_succ, List.getElem_toArray, List.getElem_cons_zero, List.getElem_cons_succ]
            refine wpAnyH_take (i := 8) (v := ?v8_117) rfl (by kernel_rfl) (by kernel_rfl) (by kernel_rfl) (fun _ _ _ h => h) (Or.inl ⟨by rfl, ?hy8_117⟩) (by assumption) ?rest8_117
            case hy8_117 => (intro w9 hSw; clear hSw; go_simp; try with_reducible rfl)
            try simp only [Act.put, List.setIfInBounds_toArray, List.set_cons_zero, List.set_cons_succ, List.getElem_toArray, List.getElem_cons_zero, List.getElem_cons_succ]
            refine wpAnyH_take (i := 9) (v := ?v9_118) rfl (by kernel_rfl) (by kernel_rfl) (by kernel_rfl) (fun _ _ _ h => h) (Or.inl ⟨by rfl, ?hy9_118⟩) (by assumption) ?rest9_118
            case hy9_118 => (intro w9 hSw; clear hSw; go_simp; try with_reducible rfl)
            try simp only [Act.put, List.setIfInBounds_toArray, List.set_cons_zero, List.set_cons_succ, List.getElem_toArray, List.getElem_cons_zero, List.getElem_cons_succ]
            refine wpAnyH_take (i := 10) (v := ?v10_119) rfl (by kernel_rfl) (by kernel_rfl) (by kernel_rfl) (fun _ _ _ h => h) (Or.inl ⟨by rfl, ?hy10_119⟩) (by assumption) ?rest10_119
            case hy10_119 => (intro w9 hSw; clear hSw; go_simp; try with_reducible rfl)
            try simp only [Act.put, List.setIfInBounds_toArray, List.set_cons_zero, List.set_cons_succ, List.getElem_toArray, List.getElem_cons_zero, List.getElem_cons_succ]
            refine wpAnyH_take (i := 11) (v := ?v11_120) rfl (by kernel_rfl) (by kernel_rfl) (by kernel_rfl) (fun _ _ _ h => h) (Or.inl ⟨by rfl, ?hy11_120⟩) (by assumption) ?rest11_120
            case hy11_120 => (intro w9 hSw; obtain ⟨m0, m1⟩ := hSw; go_simp; try with_reducible rfl)
            try simp only [Act.put, List.setIfInBounds_toArray, List.set_cons_zero, List.set_cons_succ, List.getElem_toArray, List.getElem_cons_zero, List.getElem_cons_succ]
            refine wpAnyH_ready (rs := [5, 12]) (by kernel_rfl) (by simp) ?_
            refine (AllReadyH.cons rfl (fun K hK => ?_) (AllReadyH.cons rfl (fun K hK => ?_) AllReadyH.nil))
            · go_simp
              have R5 := rowf_one wd21 X
              have hb1 := (Below.refl _ wd21).alloc (Nat.le_refl _) (.cells #[.float .f64 X] 32)
              replace hM := hM.on hb1
              replace bz := bz.trans (hb1.mono hBr)
              replace hBr := Nat.le_trans hBr hb1.size
              clear hb1
              obtain ⟨g5, hg5⟩ : ∃ g, wd21.heap.size = g := ⟨_, rfl⟩
              simp only [hg5] at R5 ⊢
              clear hg5
              generalize (wd21.alloc (.cells #[.float .f64 X] 32)) = Wb1 at hM R5 hBr bz ⊢
              clear hS; refine hK.out _ _ ⟨(bz.cell q5b).trans hc5, (bz.cell q6b).trans hc6⟩ (fun hS => ?_); clear hK K
              try simp only [Act.put, List.setIfInBounds_toArray, List.set_cons_zero, List.set_cons_succ, List.getElem_toArray, List.getElem_cons_zero, List.getElem_cons_succ]
              refine wpAnyH_ready (rs := [6, 12]) (by kernel_rfl) (by simp) ?_
              refine (AllReadyH.cons rfl (fun K hK => ?_) (AllReadyH.cons rfl (fun K hK => ?_) AllReadyH.nil))
              · refine step_appF _ rfl _ _ rfl B3 A7 c7 (xs xr s) rfl hM.o1 _ _ _ _ rfl (src_of R5) (by rw [HLX.out]; simp; omega) hBr ?_
                intro A9 c9 Wp2 ho9 hg9 hat9
                replace bz := below_appF bz hM.o1 hg9 hBr
                clear R5
                replace hM := hM.one ho9 hg9 hat9
                replace hBr := Nat.le_trans hBr hg9.size
                clear ho9 hg9 hat9
                clear hS; refine hK.out _ _ ⟨(bz.cell q5b).trans hc5, (bz.cell q6b).trans hc6⟩ (fun hS => ?_); clear hK K
                try simp only [Act.put, List.setIfInBounds_toArray, List.set_cons_zero, List.set_cons_succ, List.getElem_toArray, List.getElem_cons_zero, List.getElem_cons_succ]
                refine wpAnyH_ready (rs := [12]) (by kernel_rfl) (by simp) ?_
                refine AllReadyH.cons rfl (fun K hK => ?_) AllReadyH.nil
                go_simp
                have R12 := rowf_one Wp2 V
                have hb1 := (Below.refl _ Wp2).alloc (Nat.le_refl _) (.cells #[.float .f64 V] 32)
                replace hM := hM.on hb1
                replace bz := bz.trans (hb1.mono hBr)
                replace hBr := Nat.le_trans hBr hb1.size
                clear hb1
                obtain ⟨g12, hg12⟩ : ∃ g, Wp2.heap.size = g := ⟨_, rfl⟩
                simp only [hg12] at R12 ⊢
                clear hg12
                generalize (Wp2.alloc (.cells #[.float .f64 V] 32)) = Wb3 at hM R12 hBr bz ⊢
                clear hS; refine hK.out _ _ ⟨(bz.cell q5b).trans hc5, (bz.cell q6b).trans hc6⟩ (fun hS => ?_); clear hK K
                try simp only [Act.put, List.setIfInBounds_toArray, List.set_cons_zero, List.set_cons_succ, List.getElem_toArray, List.getElem_cons_zero, List.getElem_cons_succ]
                refine wpAnyH_ready (rs := [13]) (by kernel_rfl) (by simp) ?_
                refine AllReadyH.cons rfl (fun K hK => ?_) AllReadyH.nil
                refine step_appF _ rfl _ _ rfl B3 A8 c8 (xs yr s) rfl hM.o2 _ _ _ _ rfl (src_of R12) (by rw [HLY.out]; simp; omega) hBr ?_
                intro A11 c11 Wp4 ho9 hg9 hat9
                replace bz := below_appF bz hM.o2 hg9 hBr
                clear R12
                replace hM := (hM.turn.one ho9 hg9 hat9).turn
                replace hBr := Nat.le_trans hBr hg9.size
                clear ho9 hg9 hat9
                clear hS; refine hK.out _ _ ⟨(bz.cell q5b).trans hc5, (bz.cell q6b).trans hc6⟩ (fun hS => ?_); clear hK K
                try simp only [Act.put, List.setIfInBounds_toArray, List.set_cons_zero, List.set_cons_succ, List.getElem_toArray, List.getElem_cons_zero, List.getElem_cons_succ]
                refine wpAnyH_take (i := 14) (v := ?v14_121) rfl (by kernel_rfl) (by kernel_rfl) (by kernel_rfl) (fun _ _ _ h => h) (Or.inl ⟨by rfl, ?hy14_121⟩) (by assumption) ?rest14_121
                case hy14_121 => (intro w9 hSw; clear hSw; go_simp; try with_reducible rfl)
                try simp only [Act.put, List.setIfInBounds_toArray, List.set_cons_zero, List.set_cons_succ, List.getElem_toArray, List.getElem_cons_zero, List.getElem_cons_succ]
                refine wpAnyH_take (i := 15) (v := ?v15_122) rfl (by kernel_rfl) (by kernel_rfl) (by kernel_rfl) (fun _ _ _ h => h) (Or.inl ⟨by rfl, ?hy15_122⟩) (by assumption) ?rest15_122
                case hy15_122 => (intro w9 hSw; clear hSw; go_simp; try with_reducible rfl)
                try simp only [Act.put, List.setIfInBounds_toArray, List.set_cons_zero, List.set_cons_succ, List.getElem_toArray, List.getElem_cons_zero, List.getElem_cons_succ]
                refine wpAnyH_done (by kernel_rfl) ?_ _
                go_wp2_with fail
                go_roundw
                case rel => exact ⟨s + 1, (m : Int) - 1, A9, A11, c9, c11, by omega, by have := HZ.out; omega, by rw [HEX.out]; first | rfl | simp, by rw [HEY.out]; first | rfl | simp, by go_num, by rw [HEX.out, HEY.out]; exact hM, hBr, bz⟩
                case measure => simp [intOf] <;> omega
              go_simp
              have R12 := rowf_one Wb1 V
              have q12 : ∀ b, (Value.slice A7 (xs xr s).length c7).ownBlock = some b → some Wb1.heap.size ≠ some b := fun b e e2 => by { injection e2 with e3; cases hA : A7 with | none => rw [hA] at e; cases e | some a => (rw [hA] at e; injection e with e4; have := (hM.o1.gt hA).2; omega) }
              have hb1 := (Below.refl _ Wb1).alloc (Nat.le_refl _) (.cells #[.float .f64 V] 32)
              replace hM := hM.on hb1
              replace R5 := R5.on hb1
              replace bz := bz.trans (hb1.mono hBr)
              replace hBr := Nat.le_trans hBr hb1.size
              clear hb1
              obtain ⟨g12, hg12⟩ : ∃ g, Wb1.heap.size = g := ⟨_, rfl⟩
              simp only [hg12] at R12 q12 ⊢
              clear hg12
              generalize (Wb1.alloc (.cells #[.float .f64 V] 32)) = Wb2 at hM R5 R12 hBr bz ⊢
              clear hS; refine hK.out _ _ ⟨(bz.cell q5b).trans hc5, (bz.cell q6b).trans hc6⟩ (fun hS => ?_); clear hK K
              try simp only [Act.put, List.setIfInBounds_toArray, List.set_cons_zero, List.set_cons_succ, List.getElem_toArray, List.getElem_cons_zero, List.getElem_cons_succ]
              refine wpAnyH_ready (rs := [6]) (by kernel_rfl) (by simp) ?_
              refine AllReadyH.cons rfl (fun K hK => ?_) AllReadyH.nil
              refine step_appF _ rfl _ _ rfl B3 A7 c7 (xs xr s) rfl hM.o1 _ _ _ _ rfl (src_of R5) (by rw [HLX.out]; simp; omega) hBr ?_
              intro A9 c9 Wp3 ho9 hg9 hat9
              replace bz := below_appF bz hM.o1 hg9 hBr
              clear R5
              replace hM := hM.one ho9 hg9 hat9
              replace R12 := R12.grown hg9 (by intro e; exact q12 _ e.symm rfl)
              replace hBr := Nat.le_trans hBr hg9.size
              clear ho9 hg9 hat9
              clear hS; refine hK.out _ _ ⟨(bz.cell q5b).trans hc5, (bz.cell q6b).trans hc6⟩ (fun hS => ?_); clear hK K
              try simp only [Act.put, List.setIfInBounds_toArray, List.set_cons_zero, List.set_cons_succ, List.getElem_toArray, List.getElem_cons_zero, List.getElem_cons_succ]
              refine wpAnyH_ready (rs := [13]) (by kernel_rfl) (by simp) ?_
              refine AllReadyH.cons rfl (fun K hK => ?_) AllReadyH.nil
              refine step_appF _ rfl _ _ rfl B3 A8 c8 (xs yr s) rfl hM.o2 _ _ _ _ rfl (src_of R12) (by rw [HLY.out]; simp; omega) hBr ?_
              intro A11 c11 Wp4 ho9 hg9 hat9
              replace bz := below_appF bz hM.o2 hg9 hBr
              clear R12
              replace hM := (hM.turn.one ho9 hg9 hat9).turn
              replace hBr := Nat.le_trans hBr hg9.size
              clear ho9 hg9 hat9
              clear hS; refine hK.out _ _ ⟨(bz.cell q5b).trans hc5, (bz.cell q6b).trans hc6⟩ (fun hS => ?_); clear hK K
              try simp only [Act.put, List.setIfInBounds_toArray, List.set_cons_zero, List.set_cons_succ, List.getElem_toArray, List.getElem_cons_zero, List.getElem_cons_succ]
              refine wpAnyH_take (i := 14) (v := ?v14_123) rfl (by kernel_rfl) (by kernel_rfl) (by kernel_rfl) (fun _ _ _ h => h) (Or.inl ⟨by rfl, ?hy14_123⟩) (by assumption) ?rest14_123
              case hy14_123 => (intro w9 hSw; clear hSw; go_simp; try with_reducible rfl)
              try simp only [Act.put, List.setIfInBounds_toArray, List.set_cons_zero, List.set_cons_succ, List.getElem_toArray, List.getElem_cons_zero, List.getElem_cons_succ]
              refine wpAnyH_take (i := 15) (v := ?v15_124) rfl (by kernel_rfl) (by kernel_rfl) (by kernel_rfl) (fun _ _ _ h => h) (Or.inl ⟨by rfl, ?hy15_124⟩) (by assumption) ?rest15_124
              case hy15_124 => (intro w9 hSw; clear hSw; go_simp; try with_reducible rfl)
              try simp only [Act.put, List.setIfInBounds_toArray, List.set_cons_zero, List.set_cons_succ, List.getElem_toArray, List.getElem_cons_zero, List.getElem_cons_succ]
              refine wpAnyH_done (by kernel_rfl) ?_ _
              go_wp2_with fail
              go_roundw
              case rel => exact ⟨s + 1, (m : Int) - 1, A9, A11, c9, c11, by omega, by have := HZ.out; omega, by rw [HEX.out]; first | rfl | simp, by rw [HEY.out]; first | rfl | simp, by go_num, by rw [HEX.out, HEY.out]; exact hM, hBr, bz⟩
              case measure => simp [intOf] <;> omega
            go_simp
            have R12 := rowf_one wd21 V
            have q12 : ∀ b, (Value.slice A7 (xs xr s).length c7).ownBlock = some b → some wd21.heap.size ≠ some b := fun b e e2 => by { injection e2 with e3; cases hA : A7 with | none => rw [hA] at e; cases e | some a => (rw [hA] at e; injection e with e4; have := (hM.o1.gt hA).2; omega) }
            have hb1 := (Below.refl _ wd21).alloc (Nat.le_refl _) (.cells #[.float .f64 V] 32)
            replace hM := hM.on hb1
            replace bz := bz.trans (hb1.mono hBr)
            replace hBr := Nat.le_trans hBr hb1.size
            clear hb1
            obtain ⟨g12, hg12⟩ : ∃ g, wd21.heap.size = g := ⟨_, rfl⟩
            simp only [hg12] at R12 q12 ⊢
            clear hg12
            generalize (wd21.alloc (.cells #[.float .f64 V] 32)) = Wb1 at hM R12 hBr bz ⊢
            clear hS; refine hK.out _ _ ⟨(bz.cell q5b).trans hc5, (bz.cell q6b).trans hc6⟩ (fun hS => ?_); clear hK K
            try simp only [Act.put, List.setIfInBounds_toArray, List.set_cons_zero, List.set_cons_succ, List.getElem_toArray, List.getElem_cons_zero, List.getElem_cons_succ]
            refine wpAnyH_ready (rs := [5]) (by kernel_rfl) (by simp) ?_
            refine AllReadyH.cons rfl (fun K hK => ?_) AllReadyH.nil
            go_simp
            have R5 := rowf_one Wb1 X
            have hb1 := (Below.refl _ Wb1).alloc (Nat.le_refl _) (.cells #[.float .f64 X] 32)
            replace hM := hM.on hb1
            replace R12 := R12.on hb1
            replace bz := bz.trans (hb1.mono hBr)
            replace hBr := Nat.le_trans hBr hb1.size
            clear hb1
            obtain ⟨g5, hg5⟩ : ∃ g, Wb1.heap.size = g := ⟨_, rfl⟩
            simp only [hg5] at R5 ⊢
            clear hg5
            generalize (Wb1.alloc (.cells #[.float .f64 X] 32)) = Wb2 at hM R12 R5 hBr bz ⊢
            clear hS; refine hK.out _ _ ⟨(bz.cell q5b).trans hc5, (bz.cell q6b).trans hc6⟩ (fun hS => ?_); clear hK K
            try simp only [Act.put, List.setIfInBounds_toArray, List.set_cons_zero, List.set_cons_succ, List.getElem_toArray, List.getElem_cons_zero, List.getElem_cons_succ]
            refine wpAnyH_ready (rs := [6]) (by kernel_rfl) (by simp) ?_
            refine AllReadyH.cons rfl (fun K hK => ?_) AllReadyH.nil
            refine step_appF _ rfl _ _ rfl B3 A7 c7 (xs xr s) rfl hM.o1 _ _ _ _ rfl (src_of R5) (by rw [HLX.out]; simp; omega) hBr ?_
            intro A9 c9 Wp3 ho9 hg9 hat9
            replace bz := below_appF bz hM.o1 hg9 hBr
            clear R5
            replace hM := hM.one ho9 hg9 hat9
            replace R12 := R12.grown hg9 (by intro e; exact q12 _ e.symm rfl)
            replace hBr := Nat.le_trans hBr hg9.size
            clear ho9 hg9 hat9
            clear hS; refine hK.out _ _ ⟨(bz.cell q5b).trans hc5, (bz.cell q6b).trans hc6⟩ (fun hS => ?_); clear hK K
            try simp only [Act.put, List.setIfInBounds_toArray, List.set_cons_zero, List.set_cons_succ, List.getElem_toArray, List.getElem_cons_zero, List.getElem_cons_succ]
            refine wpAnyH_ready (rs := [13]) (by kernel_rfl) (by simp) ?_
            refine AllReadyH.cons rfl (fun K hK => ?_) AllReadyH.nil
            refine step_appF _ rfl _ _ rfl B3 A8 c8 (xs yr s) rfl hM.o2 _ _ _ _ rfl (src_of R12) (by rw [HLY.out]; simp; omega) hBr ?_
            intro A11 c11 Wp4 ho9 hg9 hat9
            replace bz := below_appF bz hM.o2 hg9 hBr
            clear R12
            replace hM := (hM.turn.one ho9 hg9 hat9).turn
            replace hBr := Nat.le_trans hBr hg9.size
            clear ho9 hg9 hat9
            clear hS; refine hK.out _ _ ⟨(bz.cell q5b).trans hc5, (bz.cell q6b).trans hc6⟩ (fun hS => ?_); clear hK K
            try simp only [Act.put, List.setIfInBounds_toArray, List.set_cons_zero, List.set_cons_succ, List.getElem_toArray, List.getElem_cons_zero, List.getElem_cons_succ]
            refine wpAnyH_take (i := 14) (v := ?v14_125) rfl (by kernel_rfl) (by kernel_rfl) (by kernel_rfl) (fun _ _ _ h => h) (Or.inl ⟨by rfl, ?hy14_125⟩) (by assumption) ?rest14_125
            case hy14_125 => (intro w9 hSw; clear hSw; go_simp; try with_reducible rfl)
            try simp only [Act.put, List.setIfInBounds_toArray, List.set_cons_zero, List.set_cons_succ, List.getElem_toArray, List.getElem_cons_zero, List.getElem_cons_succ]
            refine wpAnyH_take (i := 15) (v := ?v15_126) rfl (by kernel_rfl) (by kernel_rfl) (by kernel_rfl) (fun _ _ _ h => h) (Or.inl ⟨by rfl, ?hy15_126⟩) (by assumption) ?rest15_126
            case hy15_126 => (intro w9 hSw; clear hSw; go_simp; try with_reducible rfl)
            try simp only [Act.put, List.setIfInBounds_toArray, List.set_cons_zero, List.set_cons_succ, List.getElem_toArray, List.getElem_cons_zero, List.getElem_cons_succ]
            refine wpAnyH_done (by kernel_rfl) ?_ _
            go_wp2_with fail
            go_roundw
            case rel => exact ⟨s + 1, (m : Int) - 1, A9, A11, c9, c11, by omega, by have := HZ.out; omega, by rw [HEX.out]; first | rfl | simp, by rw [HEY.out]; first | rfl | simp, by go_num, by rw [HEX.out, HEY.out]; exact hM, hBr, bz⟩
            case measure => simp [intOf] <;> omega
          · skip
            have hst2 : s = t := by omega
            subst hst2
            generalize wr = W3 at *
            have b2 : Below W2.heap.size W2 W3 := by rw [HB3.out]; exact bz
            have hA := HHA.out.on b2
            have hB := HHB.out.on b2
            have hC := hM.o1.fl (xs_wd (fun t => by rw [← HXR.out]; exact HXW.out _) s)
            have hD := hM.o2.fl (xs_wd (fun t => by rw [← HYR.out]; exact HYW.out _) s)
            have bzz := HBZ.out.trans (b2.mono HBZ.out.size)
            clear hM bz
            have hwn : ∀ t, t < s → Wn (xx t) (PP t) ∧ Wn (yy t) (QQ t) ∧ -1048575 ≤ PP t ∧ PP t ≤ 1048575 ∧ -1048575 ≤ QQ t ∧ QQ t ≤ 1048575 := fun t _ => by
              have h1 := HPB.out t
              have h2 := HQB.out t
              rw [← HXX.out, ← HYY.out]
              exact ⟨wn_int (by omega), wn_int (by omega), h1.1, h1.2, h2.1, h2.2⟩
            have hwr : ∀ t, t < s → Wn (xr t) (PP (s - 1 - t)) ∧ Wn (yr t) (QQ (s - 1 - t)) ∧ -1048575 ≤ PP (s - 1 - t) ∧ PP (s - 1 - t) ≤ 1048575 ∧ -1048575 ≤ QQ (s - 1 - t) ∧ QQ (s - 1 - t) ≤ 1048575 := fun t ht => by
              rw [← HXR.out, ← HYR.out]
              exact hwn (s - 1 - t) (by omega)
            have hs40 : s ≤ 40 := by omega
            have hb40 := HSB.out s hs40
            obtain ⟨r1, e1, w1⟩ := wn_sum hs40 hwn
            obtain ⟨r2, e2, w2⟩ := wn_sum (x := xr) (y := yr) (p := fun t => PP (s - 1 - t)) (q := fun t => QQ (s - 1 - t)) hs40 hwr
            rw [isum_rev (fun t => PP t * QQ t) s] at w2
            have hwi := wn_int (n := isum (fun t => PP t * QQ t) s) (by omega)
            have d1 : dotA (xs xx s) (xs yy s) s = some r1 := by rw [← e1]; exact sumA_congr (fun t ht => by rw [xs_D ht, xs_D ht, fa_nat, fa_nat])
            have d2 : dotA (xs xr s) (xs yr s) s = some r2 := by rw [← e2]; exact sumA_congr (fun t ht => by rw [xs_D ht, xs_D ht, fa_nat, fa_nat])
            have o1 := w1.eq_ hwi
            have o2 := w2.eq_ hwi
            have HD1 := Lib.hid d1
            have HD2 := Lib.hid d2
            have HO1 := Lib.hid o1
            have HO2 := Lib.hid o2
            have HLC := Lib.hid (xs_len xr s)
            have HLD := Lib.hid (xs_len yr s)
            generalize isum (fun t => PP t * QQ t) s = SS at *
            clear d1 d2 o1 o2 e1 e2 w1 w2 hwn hwr hwi hb40
            have bz := bzz
            go_wp2_with fail
            with_reducible refine (vec_any hA (by rw [HLA.out]; omega)).mono ?_
            rintro e w10 ⟨VA, sVA, gVA, capVA, cVA, lVA, rfl, hVVA, hb⟩
            replace hA := hA.on hb
            replace hB := hB.on hb
            replace hC := hC.on hb
            replace hD := hD.on hb
            replace bz := bz.trans (hb.mono bz.size)
            clear hb
            go_wp2_with fail
            with_reducible refine (vec_any hB (by rw [HLB.out]; omega)).mono ?_
            rintro e w11 ⟨VB, sVB, gVB, capVB, cVB, lVB, rfl, hVVB, hb⟩
            replace hB := hB.on hb
            replace hC := hC.on hb
            replace hD := hD.on hb
            replace hVVA := hVVA.on hb
            replace bz := bz.trans (hb.mono bz.size)
            clear hb
            go_wp2_with fail
            with_reducible refine (Dot_yes hVVA.sv hVVB.sv (refE_ok (alk_one hVVA hVVB (HLA.out.trans HLB.out.symm)) (mem2 hVVA.ne hVVB.ne)) (by rw [HLA.out, HLB.out]; exact Nat.le_refl _)).mono ?_
            rintro e w12 ⟨ra, rfl, hd, bd, hb⟩
            replace hC := hC.on hb
            replace hD := hD.on hb
            replace hVVA := hVVA.on hb
            replace hVVB := hVVB.on hb
            replace bz := bz.trans (hb.mono bz.size)
            clear hb
            rw [HLA.out, HD1.out] at hd
            have er := af_lit hd
            rw [er] at bd ⊢
            clear hd er hVVA hVVB
            go_wp2_with fail
            with_reducible refine (vec_any hC (by rw [HLC.out]; omega)).mono ?_
            rintro e w13 ⟨VC, sVC, gVC, capVC, cVC, lVC, rfl, hVVC, hb⟩
            replace hC := hC.on hb
            replace hD := hD.on hb
            replace bz := bz.trans (hb.mono bz.size)
            clear hb
            go_wp2_with fail
            with_reducible refine (vec_any hD (by rw [HLD.out]; omega)).mono ?_
            rintro e w14 ⟨VD, sVD, gVD, capVD, cVD, lVD, rfl, hVVD, hb⟩
            replace hD := hD.on hb
            replace hVVC := hVVC.on hb
            replace bz := bz.trans (hb.mono bz.size)
            clear hb
            go_wp2_with fail
            with_reducible refine (Dot_yes hVVC.sv hVVD.sv (refE_ok (alk_one hVVC hVVD (HLC.out.trans HLD.out.symm)) (mem2 hVVC.ne hVVD.ne)) (by rw [HLC.out, HLD.out]; exact Nat.le_refl _)).mono ?_
            rintro e w15 ⟨rb, rfl, hd, bd, hb⟩
            replace hVVC := hVVC.on hb
            replace hVVD := hVVD.on hb
            replace bz := bz.trans (hb.mono bz.size)
            clear hb
            rw [HLC.out, HD2.out] at hd
            have er := af_lit hd
            rw [er] at bd ⊢
            clear hd er hVVC hVVD
            go_wp2_with fail
            with_reducible refine (num_any _ _).mono ?_
            rintro e v116 ⟨rfl, rfl⟩
            go_wp2_with fail
            with_reducible refine (num_any _ _).mono ?_
            rintro e v117 ⟨rfl, rfl⟩
            have o1 : (FloatKind.f64.format.order r1 (floatOfInt .f64 SS) == some .eq) = true := HO1.out
            have o2 : (FloatKind.f64.format.order r2 (floatOfInt .f64 SS) == some .eq) = true := HO2.out
            go_wp2_with fail
            go_ret
            exact ⟨by first | rfl | rw [o2], bz⟩
theorem KernelsMeans_law {w : World} {RX CX : Int} {AX : Option Addr} {nX cX : Nat} {LX : List Int} {A1 A2 A3 : Option Addr} {n1 c1 n2 c2 n3 c3 : Nat} {L1 l k : List Int} (hX : FL w AX nX cX LX) (h1 : FL w A1 n1 c1 L1) (h2 : IL w A2 n2 c2 l) (h3 : IL w A3 n3 c3 k) : Calls Try.prog 13 #[mV RX CX AX nX cX, .slice A1 n1 c1, .slice A2 n2 c2, .slice A3 n3 c3] w (Ans w (.bool true)) := by
  cases hb : bigM RX CX nX
  · cases hc : ((n1 : Int) == CX)
    · skip
      by_cases h40 : n2 ≤ 40
      · by_cases hne : n3 = n2
        · exact KernelsMeans_ne_c hX h1 h2 h3 hb hc h40 hne
        · exact KernelsMeans_ne_b hX h1 h2 h3 hb hc h40 hne
      · exact KernelsMeans_ne_a hX h1 h2 h3 hb hc (by omega)
    · skip
      by_cases h40 : n2 ≤ 40
      · by_cases hne : n3 = n2
        · exact KernelsMeans_eq_c hX h1 h2 h3 hb hc h40 hne
        · exact KernelsMeans_eq_b hX h1 h2 h3 hb hc h40 hne
      · exact KernelsMeans_eq_a hX h1 h2 h3 hb hc (by omega)
  · skip
    by_cases h40 : n2 ≤ 40
    · by_cases hne : n3 = n2
      · exact KernelsMeans_big_c hX h1 h2 h3 hb h40 hne
      · exact KernelsMeans_big_b hX h1 h2 h3 hb h40 hne
    · exact KernelsMeans_big_a hX h1 h2 h3 hb (by omega)
end Go.Proofs.Ytfelmkkkaphkpaa
