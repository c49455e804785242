/-
  Layer 9, walks: several reflections' factor, by the program: the whole. (Written by wip/tools/gen_rft.py.)
-/
import Derived.Test.YtcdbjlmegkcaiaaRfS
import Derived.Test.YtcdbjlmegkcaiaaRfJ
namespace Go.Proofs.Ytcdbjlmegkcaiaa
open Go.RowKit Go.Bw
set_option linter.unusedVariables false
set_option linter.unusedSimpArgs false
attribute [local go_sem] run_store_float

theorem Rl.farB {w w' : World} {A : Option Addr} {n c g : Nat} {hs : List Re} (h : Rl w A n c hs) (hg : w.grownBy w' (some g)) (hA : ∀ a, A = some a → a.block ≠ g) (hE : ∀ e ∈ hs, ∀ a, e.A = some a → a.block ≠ g) : Rl w' A n c hs := by
  obtain ⟨h1, h2, h3, h4⟩ := h
  refine ⟨h1, h2, fun e he => ⟨(h3 e he).1.farB hg (hE e he), (h3 e he).2⟩, fun hn => ?_⟩
  obtain ⟨ad, e1, hl, hc⟩ := h4 hn
  have hbl : w'.heap[ad.block]? = w.heap[ad.block]? := hg.block _ hl (fun e2 => hA ad e1 (by injection e2))
  refine ⟨ad, e1, Nat.lt_of_lt_of_le hl hg.size, fun i e hi => ?_⟩
  obtain ⟨c0, c1⟩ := hc i e hi
  exact ⟨(World.cell?_of_block (by rw [add_block]; exact hbl)).trans c0, (World.cell?_of_block (by rw [add_block]; exact hbl)).trans c1⟩
theorem Rl.drew {w : World} {A : Option Addr} {n c : Nat} {hs : List Re} (h : Rl w A n c hs) : Rl w.drew A n c hs := h
theorem fl_blk {w : World} {A : Option Addr} {n c : Nat} {l : List Int} (h : FL w A n c l) (hn : 0 < n) : ∀ a, A = some a → a.block < w.heap.size := fun a e => by
  obtain ⟨ad, e2, hb, _⟩ := h.at_ hn
  rw [e] at e2
  injection e2 with e2
  rw [e2]; exact hb
theorem Rl.blk {w : World} {A : Option Addr} {n c : Nat} {hs : List Re} (h : Rl w A n c hs) (hn : 0 < n) : ∀ a, A = some a → a.block < w.heap.size := fun a e => by
  obtain ⟨ad, e1, hl, _⟩ := h.2.2.2 (by omega)
  rw [e] at e1
  injection e1 with e1
  rw [e1]; exact hl
/-- the places of a factor that are done -/
def fP (j i a b : Nat) : Bool := decide (b < j ∨ (b = j ∧ a < i) ∨ b < a)
theorem mrZero {hs : List Re} {m n N : Nat} (hN : n * n = N) : Mr (List.replicate N (0 : Int)) (List.replicate N (0 : Int)) n n (fP 0 0) (facC hs m n) := by
  refine ⟨by rw [List.length_replicate, hN], wd_zeros N, fun a b ha hb hp => ?_, fun a b _ _ _ => rfl⟩
  have h9 := of_decide_eq_true hp
  rw [facB hb (by omega)]
  unfold ma
  rw [D_zeros]
  exact fa_zero
theorem tog_len {hs : List Re} (h : togB hs = true) : ∃ m, 0 < m ∧ ∀ e ∈ hs, e.l.length = m := by
  rcases hs with _ | ⟨e0, hs⟩
  · cases h
  · have h9 : (decide (0 < e0.l.length) && longB e0.l.length (e0 :: hs)) = true := h
    simp only [Bool.and_eq_true, decide_eq_true_eq] at h9
    refine ⟨e0.l.length, h9.1, fun e he => ?_⟩
    have := List.all_eq_true.1 h9.2 e he
    have := of_decide_eq_true this
    omega

set_option maxRecDepth 100000 in
set_option maxHeartbeats 8000000 in
theorem gFactor_no {w : World} {A : Option Addr} {n c : Nat} {hs : List Re} (hL : Rl w A n c hs) (hb0 : togB hs = false) :
    Calls Try.prog 21 #[.slice A n c] w (NoP w 2) := by
  have bz := ((Below.refl _ w).alloc (Nat.le_refl _) (.cells #[.slice A n c] 45)).alloc (by simp) (.cells #[.int .i64 0, .int .i64 0, .slice none 0 0] 36)
  have DL := (Blk.new w [.slice A n c] 45).alloc (.cells #[.int .i64 0, .int .i64 0, .slice none 0 0] 36)
  have DZ := Blk.new (w.alloc (.cells #[.slice A n c] 45)) [.int .i64 0, .int .i64 0, .slice none 0 0] 36
  rw [World.size_alloc] at DZ
  replace hL := hL.on bz
  have hsz : ((w.alloc (.cells #[.slice A n c] 45)).alloc (.cells #[.int .i64 0, .int .i64 0, .slice none 0 0] 36)).heap.size = w.heap.size + 1 + 1 := by simp
  obtain ⟨z0, z1, z2, z3, z4, z5⟩ := Mbx.cells DZ
  have pt := gtog_any hL hb0
  have l0 := Blk.cell DL 0 rfl
  go_enter Try.func21, Try.ntmps21
  go_wp2_with fail
  with_reducible refine (pt).mono ?_
  rintro e w1 ⟨rfl, hb⟩
  clear z0 z1 z2 z3 z4 z5 l0 pt
  replace hL := hL.on hb
  replace DL := DL.on hb
  replace DZ := DZ.on hb
  replace bz := bz.trans (hb.mono bz.size)
  clear hb
  obtain ⟨z0, z1, z2, z3, z4, z5⟩ := Mbx.cells DZ
  have DZ9 := Mbx.put DZ 0 0 none 0 0
  obtain ⟨c0, c1, c2, _, _, _⟩ := Mbx.cells DZ9
  have bz9 := ((bz.setCell (p := ⟨w.heap.size + 1, 0, none⟩) (by simp) (.int .i64 0)).setCell (p := ⟨w.heap.size + 1, 1, none⟩) (by simp) (.int .i64 0)).setCell (p := ⟨w.heap.size + 1, 2, none⟩) (by simp) (.slice none 0 0)
  go_wp2_with fail
  with_reducible refine (gRef_bad _).mono ?_
  rintro e w2 ⟨rfl, rfl⟩
  go_wp2_with fail
  refine bodyPost_ret (v := .tuple #[mV 0 0 none 0 0, .int .i64 2]) (by simp [results, Try.results21, go_sem, c0, c1, c2]) rfl ?_
  exact ⟨rfl, bz9⟩

set_option maxRecDepth 100000 in
set_option maxHeartbeats 16000000 in
theorem gFactor_yes {w : World} {A : Option Addr} {n c m N : Nat} {hs : List Re} (hL : Rl w A n c hs) (hN : n * n = N) (hb0 : togB hs = true) (hlen : ∀ e ∈ hs, e.l.length = m) (hm0 : 0 < m) (h1 : 0 < n) (h2 : n ≤ 2000) :
    Calls Try.prog 21 #[.slice A n c] w (MatP w n n N (fun k => facC hs m n (k / n) (k % n))) := by
  have HBA := Lib.hid (show ∀ e ∈ hs, ∀ a, e.A = some a → a.block < w.heap.size from fun e he a ea => by have h9 := (hL.2.2.1 e he).1; exact fl_blk h9 (by rw [hlen e he]; exact hm0) a ea)
  have hAB := hL.blk h1
  have eN : (n : Int) * (n : Int) = (N : Int) := by exact_mod_cast hN
  have hN4 : N ≤ 4000000 := by rw [← hN]; exact Nat.le_trans (Nat.mul_le_mul h2 h2) (by decide)
  have wN : IntKind.i64.wrap (N : Int) = (N : Int) := IntWalk.i64_in _ (by omega)
  have hmk := run_makeF N hN4
  have HN := Lib.hid hN
  clear hN
  have HLEN := Lib.hid hlen
  clear hlen
  have bz := ((Below.refl _ w).alloc (Nat.le_refl _) (.cells #[.slice A n c] 45)).alloc (by simp) (.cells #[.int .i64 0, .int .i64 0, .slice none 0 0] 36)
  have DL := (Blk.new w [.slice A n c] 45).alloc (.cells #[.int .i64 0, .int .i64 0, .slice none 0 0] 36)
  have DZ := Blk.new (w.alloc (.cells #[.slice A n c] 45)) [.int .i64 0, .int .i64 0, .slice none 0 0] 36
  rw [World.size_alloc] at DZ
  replace hL := hL.on bz
  have hsz : ((w.alloc (.cells #[.slice A n c] 45)).alloc (.cells #[.int .i64 0, .int .i64 0, .slice none 0 0] 36)).heap.size = w.heap.size + 1 + 1 := by simp
  have l0 := Blk.cell DL 0 rfl
  have pt := gtog_any hL hb0
  go_enter Try.func21, Try.ntmps21
  go_wp2_with fail
  with_reducible refine (pt).mono ?_
  rintro e w1 ⟨rfl, hb⟩
  clear l0 pt
  replace hL := hL.on hb
  replace DL := DL.on hb
  replace DZ := DZ.on hb
  replace bz := bz.trans (hb.mono bz.size)
  clear hb
  have l0 := Blk.cell DL 0 rfl
  have pr := gRef_any (A := none) (n := 0) (c := 0) (bs := []) (w := w1) (E := 0) ⟨rfl, by omega, fun h9 => absurd rfl h9⟩ rfl
  have hO0 := (RowF.new w1 (List.replicate N 0)).owned (B := w.heap.size) (by rw [List.length_replicate]; exact hN4) (by have := DZ.lt; omega)
  rw [List.length_replicate] at hO0
  obtain ⟨G, hG⟩ : ∃ G, w1.heap.size = G := ⟨_, rfl⟩
  have hGs : w.heap.size + 1 + 1 ≤ G := by have := DZ.lt; omega
  have bz2 := bz.alloc bz.size (.cells (LF (List.replicate N 0)).toArray 24)
  have hbA := (Below.refl _ w1).alloc (Nat.le_refl _) (.cells (LF (List.replicate N 0)).toArray 24)
  have hL2 := hL.on hbA
  have DL2 := DL.on hbA
  have DZ2 := DZ.on hbA
  have l02 := Blk.cell DL2 0 rfl
  clear hbA
  go_wp2_with fail
  with_reducible refine pr.mono ?_
  rintro e w2 ⟨rfl, rfl⟩
  rw [hG] at hO0
  go_wp2_with fail
  clear l0 l02 pr hmk hL DL DZ bz
  generalize w1.alloc (.cells (LF (List.replicate N 0)).toArray 24) = w5 at hO0 hL2 DL2 DZ2 bz2 ⊢
  have hMr := mrZero (hs := hs) (m := m) HN.out
  clear hG
  have HAG : Hid (∀ e ∈ hs, ∀ a, e.A = some a → a.block ≠ G) := Lib.hid (fun e he a ea => by have := HBA.out e he a ea; omega)
  have hADG : ∀ a, A = some a → a.block ≠ G := fun a ea => by have := hAB a ea; omega
  clear HBA hAB
  go_loopw [27] (fun i wr => ∃ (j : Nat) (L : List Int), j ≤ n ∧ i = .int .i64 j ∧ Mr L (List.replicate N (0 : Int)) n n (fP j 0) (facC hs m n) ∧ OwnF wr w.heap.size (some ⟨G, 0, none⟩) N L ∧ Rl wr A n c hs ∧ Blk wr w.heap.size [.slice A n c] ∧ Mbx wr (w.heap.size + 1) 0 0 none 0 0 ∧ Below w.heap.size w wr) (fun i _ => n - (intOf i).toNat)
  case atStart => exact ⟨0, _, Nat.zero_le _, rfl, hMr, hO0, hL2, DL2, DZ2, bz2⟩
  case round =>
    clear hMr hO0 hL2 DL2 DZ2 bz2
    obtain ⟨j, L, hj, rfl, hMr, hO, hL, DL, DZ, bz⟩ := hrel
    by_cases hlt : j < n
    · have j0 : (0 : Int) ≤ j := by omega
      have j1 : (j : Int) < n := by omega
      obtain ⟨e, ad, ea, he, hA, hE, hl, hc0, hc1, hv, bt⟩ := hL.at_ hlt
      have hem : e.l.length = m := HLEN.out e (List.mem_of_getElem? he)
      subst hA
      have hmx := hv.max
      rw [hem] at hc0 hv hmx
      have HVj := Lib.hid (hV_at he)
      have HTj := Lib.hid (hT_at he)
      have hvG := Lib.hid (HAG.out e (List.mem_of_getElem? he))
      clear he hem
      have hGlt := (hO.gt rfl).2
      have hZlt := DZ.lt
      obtain ⟨BH, hBH⟩ : ∃ b, wr.heap.size = b := ⟨_, rfl⟩
      rw [hBH] at hGlt hZlt
      have DH := Blk.new wr [.slice e.A m e.c, .float .f64 e.t] 26
      rw [hBH] at DH
      have hbA := (Below.refl _ wr).alloc (Nat.le_refl _) (.cells #[.slice e.A m e.c, .float .f64 e.t] 26)
      replace hO := hO.alloc_ (.cells #[.slice e.A m e.c, .float .f64 e.t] 26)
      replace hL := hL.on hbA
      replace DL := DL.on hbA
      replace DZ := DZ.on hbA
      replace hv := hv.on hbA
      clear hbA
      replace bz := bz.alloc bz.size (.cells #[.slice e.A m e.c, .float .f64 e.t] 26)
      have HC : Hid (∀ W, Below ((wr.alloc (.cells #[.slice e.A m e.c, .float .f64 e.t] 26))).heap.size (wr.alloc (.cells #[.slice e.A m e.c, .float .f64 e.t] 26)) W → ∀ k, k < j → Calls Try.prog 40 #[.int .i64 k, .pointer (some ⟨BH, 0, none⟩), .pointer (some ⟨w.heap.size, 0, none⟩)] W (FB ((fun i => yA hs m i j) k) W)) := Lib.hid (fun W hd k hk => by
        have h9 := fac1_any (hL.on hd) HLEN.out (hv.on hd) (DL.on hd) (DH.on hd) (i := k) (by omega)
        rw [← HVj.out] at h9
        exact h9)
      have pl := list_fac1 BH w.heap.size _ j (by omega) HC
      clear HC
      obtain ⟨wo, hwo⟩ : ∃ x, x = wr := ⟨_, rfl⟩
      subst hwo
      go_wp2_with fail
      with_reducible refine (pl).mono ?_
      rintro e w2 ⟨gy, y, rfl, RY, hgy, IY, hb⟩
      clear hc0 hc1 pl
      replace hO := hO.on_ hb
      replace hL := hL.on hb
      replace DL := DL.on hb
      replace DZ := DZ.on hb
      replace hv := hv.on hb
      replace DH := DH.on hb
      replace bz := bz.trans (hb.mono bz.size)
      clear hb
      have hgy2 : BH < gy := by simp only [World.size_alloc, hBH] at hgy; omega
      have hRlt := RY.lt
      have FY := RY.fl IY.wd (by rw [IY.len]; unfold maxLen; omega)
      rw [IY.len] at FY
      clear RY
      have DY := Blk.new w2 [.slice (some ⟨gy, 0, none⟩) j j] 22
      have hbA := (Below.refl _ w2).alloc (Nat.le_refl _) (.cells #[.slice (some ⟨gy, 0, none⟩) j j] 22)
      replace hO := hO.alloc_ (.cells #[.slice (some ⟨gy, 0, none⟩) j j] 22)
      replace hL := hL.on hbA
      replace DL := DL.on hbA
      replace DZ := DZ.on hbA
      replace hv := hv.on hbA
      replace DH := DH.on hbA
      replace FY := FY.on hbA
      clear hbA
      replace bz := bz.alloc bz.size (.cells #[.slice (some ⟨gy, 0, none⟩) j j] 22)
      obtain ⟨BY, hBY⟩ : ∃ b, w2.heap.size = b := ⟨_, rfl⟩
      rw [hBY] at DY
      rw [hBY] at hRlt
      skip
      skip
      go_wp2_with fail
      generalize (w2.alloc (.cells #[.slice (some ⟨gy, 0, none⟩) j j] 22)) = w6 at hO hL DL DZ hv DH FY DY bz ⊢
      skip
      have hIY := Lib.hid IY
      clear IY
      go_loopw [36] (fun i wr => ∃ (i2 : Nat) (L2 : List Int), i2 ≤ j ∧ i = .int .i64 i2 ∧ Mr L2 (List.replicate N (0 : Int)) n n (fP j i2) (facC hs m n) ∧ OwnF wr w.heap.size (some ⟨G, 0, none⟩) N L2 ∧ Rl wr (some ad) n c hs ∧ Blk wr w.heap.size [.slice (some ad) n c] ∧ Mbx wr (w.heap.size + 1) 0 0 none 0 0 ∧ FL wr e.A m e.c e.l ∧ Rbx wr BH e.A m e.c e.t ∧ FL wr (some ⟨gy, 0, none⟩) j j y ∧ Blk wr BY [.slice (some ⟨gy, 0, none⟩) j j] ∧ Below w.heap.size w wr) (fun i _ => j - (intOf i).toNat)
      case atStart => exact ⟨0, L, Nat.zero_le _, rfl, hMr, hO, hL, DL, DZ, hv, DH, FY, DY, bz⟩
      case round =>
        clear hMr hO hL DL DZ hv DH FY DY bz
        obtain ⟨i, L2, hi, rfl, hMr, hO, hL, DL, DZ, hv, DH, FY, DY, bz⟩ := hrel
        by_cases hit : i < j
        · have i0 : (0 : Int) ≤ i := by omega
          have i1 : (i : Int) < j := by omega
          have hGw := (hO.gt rfl).2
          obtain ⟨y1, hy1⟩ : ∃ y1, i * n = y1 := ⟨_, rfl⟩
          obtain ⟨o, ho⟩ : ∃ o, y1 + i = o := ⟨_, rfl⟩
          obtain ⟨pz, hpz⟩ : ∃ pz, y1 + j = pz := ⟨_, rfl⟩
          have hoN : o < N := by rw [← ho, ← hy1, ← HN.out]; exact ix_lt (by omega) (by omega)
          have hpN : pz < N := by rw [← hpz, ← hy1, ← HN.out]; exact ix_lt (by omega) (by omega)
          have ey1 : (i : Int) * (n : Int) = (y1 : Int) := by exact_mod_cast hy1
          have eo : (y1 : Int) + (i : Int) = (o : Int) := by omega
          have ep : (y1 : Int) + (j : Int) = (pz : Int) := by omega
          have wy1 : IntKind.i64.wrap (y1 : Int) = (y1 : Int) := IntWalk.i64_in _ (by omega)
          have wo9 : IntKind.i64.wrap (o : Int) = (o : Int) := IntWalk.i64_in _ (by omega)
          have wp9 : IntKind.i64.wrap (pz : Int) = (pz : Int) := IntWalk.i64_in _ (by omega)
          have o0 : (0 : Int) ≤ o := by omega
          have o2 : (o : Int) ≤ N := by omega
          have o3 : ¬ N = o := by omega
          have p0 : (0 : Int) ≤ pz := by omega
          have p1 : (pz : Int) < N := by omega
          obtain ⟨d, hd⟩ : ∃ d, j - i = d := ⟨_, rfl⟩
          have ed : (j : Int) - (i : Int) = (d : Int) := by omega
          have wd9 : IntKind.i64.wrap (d : Int) = (d : Int) := IntWalk.i64_in _ (by omega)
          have hLN : L2.length = N := by rw [hMr.len, HN.out]
          have DI := Blk.new wr [.int .i64 i] 3
          have hbA := (Below.refl _ wr).alloc (Nat.le_refl _) (.cells #[.int .i64 i] 3)
          replace hO := hO.alloc_ (.cells #[.int .i64 i] 3)
          replace hL := hL.on hbA
          replace DL := DL.on hbA
          replace DZ := DZ.on hbA
          replace hv := hv.on hbA
          replace DH := DH.on hbA
          replace FY := FY.on hbA
          replace DY := DY.on hbA
          clear hbA
          replace bz := bz.alloc bz.size (.cells #[.int .i64 i] 3)
          have DS := Blk.new (wr.alloc (.cells #[.int .i64 i] 3)) [.slice (some ⟨G, o, none⟩) (N - o) (N - o)] 22
          rw [World.size_alloc] at DS
          have hbA := (Below.refl _ (wr.alloc (.cells #[.int .i64 i] 3))).alloc (Nat.le_refl _) (.cells #[.slice (some ⟨G, o, none⟩) (N - o) (N - o)] 22)
          replace hO := hO.alloc_ (.cells #[.slice (some ⟨G, o, none⟩) (N - o) (N - o)] 22)
          replace hL := hL.on hbA
          replace DL := DL.on hbA
          replace DZ := DZ.on hbA
          replace hv := hv.on hbA
          replace DH := DH.on hbA
          replace FY := FY.on hbA
          replace DY := DY.on hbA
          replace DI := DI.on hbA
          clear hbA
          replace bz := bz.alloc bz.size (.cells #[.slice (some ⟨G, o, none⟩) (N - o) (N - o)] 22)
          skip
          go_wp2_with fail
          replace hO := hO.drew
          replace hL := hL.drew
          replace DL := DL.drew
          replace DZ := DZ.drew
          replace hv := hv.drew
          replace DH := DH.drew
          replace FY := FY.drew
          replace DY := DY.drew
          replace DI := DI.drew
          replace DS := DS.drew
          replace bz := bz.drew
          skip
          obtain ⟨nt, hnt, hNt, bnt⟩ := run_neg (P := Try.prog) bt
          have hG1 : w.heap.size ≠ G := by omega
          have hG2 : w.heap.size + 1 ≠ G := by omega
          refine wp_region_held_drew (S := fun w9 : World => Blk w9 wr.heap.size [.int .i64 i] ∧ Rbx w9 BH e.A m e.c e.t) (by kernel_rfl) ⟨DI, DH⟩ (fun hS => ?_)
          generalize ((wr.alloc (.cells #[.int .i64 i] 3)).alloc (.cells #[.slice (some ⟨G, o, none⟩) (N - o) (N - o)] 22)).drew = wd at hS hO hL DL DZ hv DH FY DY DI DS  bz ⊢
          refine wpAnyH_take (i := 0) (v := ?v0_26) rfl (by kernel_rfl) (by kernel_rfl) (by kernel_rfl) (fun _ _ _ h => h) (Or.inl ⟨by rfl, ?hy0_26⟩) (by assumption) ?rest0_26
          case hy0_26 => (intro w9 hSw; clear hSw; go_simp; try with_reducible rfl)
          try simp only [Act.put, List.setIfInBounds_toArray, List.set_cons_zero, List.set_cons_succ, List.getElem_toArray, List.getElem_cons_zero, List.getElem_cons_succ]
          refine wpAnyH_take (i := 1) (v := ?v1_27) rfl (by kernel_rfl) (by kernel_rfl) (by kernel_rfl) (fun _ _ _ h => h) (Or.inl ⟨by rfl, ?hy1_27⟩) (by assumption) ?rest1_27
          case hy1_27 => (intro w9 hSw; obtain ⟨ma1, ma2⟩ := hSw; have q0 := Blk.cell ma1 0 rfl; obtain ⟨u0, u1, _, _⟩ := Rbx.cells ma2; go_simp; try with_reducible rfl)
          try simp only [Act.put, List.setIfInBounds_toArray, List.set_cons_zero, List.set_cons_succ, List.getElem_toArray, List.getElem_cons_zero, List.getElem_cons_succ]
          refine wpAnyH_take (i := 2) (v := ?v2_28) rfl (by kernel_rfl) (by kernel_rfl) (by kernel_rfl) (fun _ _ _ h => h) (Or.inl ⟨by rfl, ?hy2_28⟩) (by assumption) ?rest2_28
          case hy2_28 => (intro w9 hSw; clear hSw; go_simp; try with_reducible rfl)
          try simp only [Act.put, List.setIfInBounds_toArray, List.set_cons_zero, List.set_cons_succ, List.getElem_toArray, List.getElem_cons_zero, List.getElem_cons_succ]
          refine wpAnyH_take (i := 3) (v := ?v3_29) rfl (by kernel_rfl) (by kernel_rfl) (by kernel_rfl) (fun _ _ _ h => h) (Or.inl ⟨by rfl, ?hy3_29⟩) (by assumption) ?rest3_29
          case hy3_29 => (intro w9 hSw; clear hSw; go_simp; try with_reducible rfl)
          try simp only [Act.put, List.setIfInBounds_toArray, List.set_cons_zero, List.set_cons_succ, List.getElem_toArray, List.getElem_cons_zero, List.getElem_cons_succ]
          refine wpAnyH_take (i := 4) (v := ?v4_30) rfl (by kernel_rfl) (by kernel_rfl) (by kernel_rfl) (fun _ _ _ h => h) (Or.inl ⟨by rfl, ?hy4_30⟩) (by assumption) ?rest4_30
          case hy4_30 => (intro w9 hSw; clear hSw; go_simp; try with_reducible rfl)
          try simp only [Act.put, List.setIfInBounds_toArray, List.set_cons_zero, List.set_cons_succ, List.getElem_toArray, List.getElem_cons_zero, List.getElem_cons_succ]
          refine wpAnyH_take (i := 5) (v := ?v5_31) rfl (by kernel_rfl) (by kernel_rfl) (by kernel_rfl) (fun _ _ _ h => h) (Or.inl ⟨by rfl, ?hy5_31⟩) (by assumption) ?rest5_31
          case hy5_31 => (intro w9 hSw; clear hSw; go_simp; try with_reducible rfl)
          try simp only [Act.put, List.setIfInBounds_toArray, List.set_cons_zero, List.set_cons_succ, List.getElem_toArray, List.getElem_cons_zero, List.getElem_cons_succ]
          refine wpAnyH_take (i := 6) (v := ?v6_32) rfl (by kernel_rfl) (by kernel_rfl) (by kernel_rfl) (fun _ _ _ h => h) (Or.inl ⟨by rfl, ?hy6_32⟩) (by assumption) ?rest6_32
          case hy6_32 => (intro w9 hSw; clear hSw; go_simp; try with_reducible rfl)
          try simp only [Act.put, List.setIfInBounds_toArray, List.set_cons_zero, List.set_cons_succ, List.getElem_toArray, List.getElem_cons_zero, List.getElem_cons_succ]
          refine wpAnyH_take (i := 7) (v := ?v7_33) rfl (by kernel_rfl) (by kernel_rfl) (by kernel_rfl) (fun _ _ _ h => h) (Or.inl ⟨by rfl, ?hy7_33⟩) (by assumption) ?rest7_33
          case hy7_33 => (intro w9 hSw; obtain ⟨ma1, ma2⟩ := hSw; have q0 := Blk.cell ma1 0 rfl; obtain ⟨u0, u1, _, _⟩ := Rbx.cells ma2; go_simp; try with_reducible rfl)
          try simp only [Act.put, List.setIfInBounds_toArray, List.set_cons_zero, List.set_cons_succ, List.getElem_toArray, List.getElem_cons_zero, List.getElem_cons_succ]
          refine wpAnyH_take (i := 8) (v := ?v8_34) rfl (by kernel_rfl) (by kernel_rfl) (by kernel_rfl) (fun _ _ _ h => h) (Or.inl ⟨by rfl, ?hy8_34⟩) (by assumption) ?rest8_34
          case hy8_34 => (intro w9 hSw; clear hSw; go_simp; try with_reducible rfl)
          try simp only [Act.put, List.setIfInBounds_toArray, List.set_cons_zero, List.set_cons_succ, List.getElem_toArray, List.getElem_cons_zero, List.getElem_cons_succ]
          refine wpAnyH_take (i := 9) (v := ?v9_35) rfl (by kernel_rfl) (by kernel_rfl) (by kernel_rfl) (fun _ _ _ h => h) (Or.inl ⟨by rfl, ?hy9_35⟩) (by assumption) ?rest9_35
          case hy9_35 => (intro w9 hSw; clear hSw; go_simp; try with_reducible rfl)
          try simp only [Act.put, List.setIfInBounds_toArray, List.set_cons_zero, List.set_cons_succ, List.getElem_toArray, List.getElem_cons_zero, List.getElem_cons_succ]
          refine wpAnyH_take (i := 10) (v := ?v10_36) rfl (by kernel_rfl) (by kernel_rfl) (by kernel_rfl) (fun _ _ _ h => h) (Or.inl ⟨by rfl, ?hy10_36⟩) (by assumption) ?rest10_36
          case hy10_36 => (intro w9 hSw; obtain ⟨ma1, ma2⟩ := hSw; have q0 := Blk.cell ma1 0 rfl; obtain ⟨u0, u1, _, _⟩ := Rbx.cells ma2; go_simp; try with_reducible rfl)
          try simp only [Act.put, List.setIfInBounds_toArray, List.set_cons_zero, List.set_cons_succ, List.getElem_toArray, List.getElem_cons_zero, List.getElem_cons_succ]
          refine wpAnyH_take (i := 11) (v := ?v11_37) rfl (by kernel_rfl) (by kernel_rfl) (by kernel_rfl) (fun _ _ _ h => h) (Or.inl ⟨by rfl, ?hy11_37⟩) (by assumption) ?rest11_37
          case hy11_37 => (intro w9 hSw; clear hSw; go_simp; try with_reducible rfl)
          try simp only [Act.put, List.setIfInBounds_toArray, List.set_cons_zero, List.set_cons_succ, List.getElem_toArray, List.getElem_cons_zero, List.getElem_cons_succ]
          refine wpAnyH_take (i := 12) (v := ?v12_38) rfl (by kernel_rfl) (by kernel_rfl) (by kernel_rfl) (fun _ _ _ h => h) (Or.inl ⟨by rfl, ?hy12_38⟩) (by assumption) ?rest12_38
          case hy12_38 => (intro w9 hSw; clear hSw; go_simp; try with_reducible rfl)
          try simp only [Act.put, List.setIfInBounds_toArray, List.set_cons_zero, List.set_cons_succ, List.getElem_toArray, List.getElem_cons_zero, List.getElem_cons_succ]
          refine wpAnyH_ready (rs := [13]) (by kernel_rfl) (by simp) ?_
          refine AllReadyH.cons rfl (fun K hK => ?_) AllReadyH.nil
          go_simp
          have HC : Hid (∀ W, Dr wd W → ∀ x, x < d → Calls Try.prog 43 #[.int .i64 x, .pointer (some ⟨wr.heap.size + 1, 0, none⟩), .pointer (some ⟨BY, 0, none⟩), .pointer (some ⟨wr.heap.size, 0, none⟩)] W (FA ((fun x => aop .mul (facC hs m n i (i + x)) (yA hs m (i + x) j)) x) W)) := Lib.hid (fun W hd9 x hx => by
            have h9 := fac2_any (hO.on_ (hd9.below _)) hMr.wd (FY.on (hd9.below _)) (DS.on (hd9.below _)) (DY.on (hd9.below _)) (DI.on (hd9.below _)) (x := x) (z := i + x) (by omega) (by omega) (Nat.le_refl _) (by omega) rfl (by omega)
            have e1 : fa (D L2 (o + x)) = facC hs m n i (i + x) := by
              have h8 := hMr.new i (i + x) (by omega) (by omega) (by unfold fP; simp; omega)
              unfold ma at h8
              rw [← h8, ← ho, ← hy1, Nat.add_assoc]
            rw [e1, hIY.out.at_ (i + x) (by omega)] at h9
            exact h9)
          have ps := sum_fac2 (wr.heap.size + 1) BY wr.heap.size _ d (by omega) HC
          with_reducible refine ps.mono ?_
          rintro e9 w8 ⟨r1, rfl, hq, b1, dq⟩
          have H1 := Lib.hid hq
          clear hq ps HC
          have hb := dq.below wd.heap.size
          replace hO := hO.on_ hb
          replace hL := hL.on hb
          replace DL := DL.on hb
          replace DZ := DZ.on hb
          replace hv := hv.on hb
          replace DH := DH.on hb
          replace FY := FY.on hb
          replace DY := DY.on hb
          replace DI := DI.on hb
          replace DS := DS.on hb
          replace bz := bz.trans (hb.mono bz.size)
          clear hb dq
          clear hS; refine hK.out _ _ ⟨DI, DH⟩ (fun hS => ?_); clear hK K
          try simp only [Act.put, List.setIfInBounds_toArray, List.set_cons_zero, List.set_cons_succ, List.getElem_toArray, List.getElem_cons_zero, List.getElem_cons_succ]
          refine wpAnyH_ready (rs := [14]) (by kernel_rfl) (by simp) ?_
          refine AllReadyH.cons rfl (fun K hK => ?_) AllReadyH.nil
          refine step_arith .mul (.inr (.inr (.inl rfl))) rfl _ _ _ _ nt r1 rfl rfl rfl bnt b1 ?_
          intro r2 w9 hb hq b2 dq
          have H2 := Lib.hid hq
          clear hq dq
          replace hO := hO.on_ hb
          replace hL := hL.on hb
          replace DL := DL.on hb
          replace DZ := DZ.on hb
          replace hv := hv.on hb
          replace DH := DH.on hb
          replace FY := FY.on hb
          replace DY := DY.on hb
          replace DI := DI.on hb
          replace DS := DS.on hb
          replace bz := bz.trans (hb.mono bz.size)
          clear hb
          clear hS; refine hK.out _ _ ⟨DI, DH⟩ (fun hS => ?_); clear hK K
          try simp only [Act.put, List.setIfInBounds_toArray, List.set_cons_zero, List.set_cons_succ, List.getElem_toArray, List.getElem_cons_zero, List.getElem_cons_succ]
          refine wpAnyH_take (i := 15) (v := ?v15_39) rfl (by kernel_rfl) (by kernel_rfl) (by kernel_rfl) (fun _ _ _ h => h) (Or.inl ⟨by rfl, ?hy15_39⟩) (by assumption) ?rest15_39
          case hy15_39 => (intro w9 hSw; clear hSw; go_simp; try with_reducible rfl)
          try simp only [Act.put, List.setIfInBounds_toArray, List.set_cons_zero, List.set_cons_succ, List.getElem_toArray, List.getElem_cons_zero, List.getElem_cons_succ]
          obtain ⟨c00, c11⟩ := hO.at' (k := pz) (by rw [hLN]; exact hpN)
          refine wpAnyH_ready (rs := [16]) (by kernel_rfl) (by simp) ?_
          refine AllReadyH.cons rfl (fun K hK => ?_) AllReadyH.nil
          go_simp
          clear c00 c11
          have hgs : w9.grownBy (w9.setCell ⟨G, pz, none⟩ (.float .f64 r2)) (some G) := grown_setCell (World.grownBy.refl w9 _) _ _
          replace DL := DL.grown hgs (by simp; omega)
          replace DZ := DZ.grown hgs (by simp; omega)
          replace DH := DH.grown hgs (by simp; omega)
          replace DY := DY.grown hgs (by simp; omega)
          replace DI := DI.grown hgs (by simp; omega)
          replace FY := FY.farB hgs (fun a e => by injection e with e; subst e; simp; omega)
          replace hv := hv.farB hgs hvG.out
          replace hL := hL.farB hgs hADG HAG.out
          have hO9 : OwnF (w9.setCell ⟨G, pz, none⟩ (.float .f64 r2)) w.heap.size (some ⟨G, 0, none⟩) N (L2.set pz r2) := hO.set_ pz r2
          replace bz := bz.setCell (p := ⟨G, pz, none⟩) (by simp; omega) (.float .f64 r2)
          clear hS; refine hK.out _ _ ⟨DI, DH⟩ (fun hS => ?_); clear hK K
          try simp only [Act.put, List.setIfInBounds_toArray, List.set_cons_zero, List.set_cons_succ, List.getElem_toArray, List.getElem_cons_zero, List.getElem_cons_succ]
          refine wpAnyH_done (by kernel_rfl) ?_ _
          have hfe : fa (r2 : Int) = facC hs m n i j := by rw [fa_nat, H2.out, H1.out, hNt, neg_mul_A bt, facE hlt hit, HTj.out, hd]
          have hM9 := hMr.set (i := i) (j := j) (x := (r2 : Int)) (by omega) hlt (by omega) (by omega) hfe (Q := fP j (i + 1)) (fun a b ha hb => by unfold fP; rw [← Bool.decide_or, decide_eq_decide]; omega)
          rw [hy1, hpz] at hM9
          clear hMr hfe hO
          go_wp2_with fail
          go_roundw
          case rel => exact ⟨i + 1, _, by omega, by go_num, hM9, hO9, hL, DL, DZ, hv, DH, FY, DY, bz⟩
          case measure => simp [intOf]; omega
        · obtain rfl : i = j := by omega
          obtain ⟨y1, hy1⟩ : ∃ y1, i * n = y1 := ⟨_, rfl⟩
          obtain ⟨pz, hpz⟩ : ∃ pz, y1 + i = pz := ⟨_, rfl⟩
          have hpN : pz < N := by rw [← hpz, ← hy1, ← HN.out]; exact ix_lt (by omega) (by omega)
          have ey1 : (i : Int) * (n : Int) = (y1 : Int) := by exact_mod_cast hy1
          have ep : (y1 : Int) + (i : Int) = (pz : Int) := by omega
          have wy1 : IntKind.i64.wrap (y1 : Int) = (y1 : Int) := IntWalk.i64_in _ (by omega)
          have wp9 : IntKind.i64.wrap (pz : Int) = (pz : Int) := IntWalk.i64_in _ (by omega)
          have p0 : (0 : Int) ≤ pz := by omega
          have p1 : (pz : Int) < N := by omega
          have hLN : L2.length = N := by rw [hMr.len, HN.out]
          obtain ⟨c00, c11⟩ := hO.at' (k := pz) (by rw [hLN]; exact hpN)
          obtain ⟨u0, u1, _, _⟩ := Rbx.cells DH
          have hgs : wr.grownBy (wr.setCell ⟨G, pz, none⟩ (.float .f64 e.t)) (some G) := grown_setCell (World.grownBy.refl wr _) _ _
          replace DL := DL.grown hgs (by simp; omega)
          replace DZ := DZ.grown hgs (by simp; omega)
          replace hL := hL.farB hgs hADG HAG.out
          have hO9 : OwnF (wr.setCell ⟨G, pz, none⟩ (.float .f64 e.t)) w.heap.size (some ⟨G, 0, none⟩) N (L2.set pz e.t) := hO.set_ pz e.t
          replace bz := bz.setCell (p := ⟨G, pz, none⟩) (by simp; omega) (.float .f64 e.t)
          have hM9 := hMr.set (i := i) (j := i) (x := (e.t : Int)) (by omega) (by omega) (by omega) (by omega) (by rw [fa_nat, facD hlt, HTj.out]) (Q := fP (i + 1) 0) (fun a b ha hb => by unfold fP; rw [← Bool.decide_or, decide_eq_decide]; omega)
          rw [hy1, hpz] at hM9
          clear hMr hO
          go_wp2_with fail
          go_roundw
          case rel => exact ⟨i + 1, _, by omega, by go_num, hM9, hO9, hL, DL, DZ, bz⟩
          case measure => simp [intOf]; omega
    · obtain rfl : j = n := by omega
      obtain ⟨z0, z1, z2, z3, z4, z5⟩ := Mbx.cells DZ
      have DZ9 := Mbx.put DZ j j (some ⟨G, 0, none⟩) N N
      obtain ⟨c00, c11, c22, _, _, _⟩ := Mbx.cells DZ9
      have hO9 := hO.grown_ (row := some (w.heap.size + 1)) (w' := ((wr.setCell ⟨w.heap.size + 1, 0, none⟩ (.int .i64 j)).setCell ⟨w.heap.size + 1, 1, none⟩ (.int .i64 j)).setCell ⟨w.heap.size + 1, 2, none⟩ (.slice (some ⟨G, 0, none⟩) N N)) (grown_setCell (grown_setCell (grown_setCell (World.grownBy.refl wr _) 0 _) 1 _) 2 _) (fun a e => by injection e with e; subst e; simp; omega)
      have bz9 := ((bz.setCell (p := ⟨w.heap.size + 1, 0, none⟩) (by simp) (.int .i64 j)).setCell (p := ⟨w.heap.size + 1, 1, none⟩) (by simp) (.int .i64 j)).setCell (p := ⟨w.heap.size + 1, 2, none⟩) (by simp) (.slice (some ⟨G, 0, none⟩) N N)
      have hI := hMr.is
      rw [HN.out] at hI
      go_wp2_with fail
      refine bodyPost_ret (v := .tuple #[mV j j (some ⟨G, 0, none⟩) N N, .int .i64 0]) (by simp [results, Try.results21, go_sem, c00, c11, c22]) rfl ?_
      refine ⟨G, N, L, rfl, hO9, hI.congr (fun k hk => ?_), bz9⟩
      have j0 : 0 < j := h1
      have hk2 : k < j * j := by rw [HN.out]; exact hk
      have h9 := Nat.mod_lt k j0
      unfold tg fP
      rw [if_pos (decide_eq_true (.inl h9))]
end Go.Proofs.Ytcdbjlmegkcaiaa
