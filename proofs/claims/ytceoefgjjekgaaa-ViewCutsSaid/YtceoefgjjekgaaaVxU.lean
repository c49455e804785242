/-
  Layer 7: the law ViewSets. (Written by wip/tools/gen_vxu.py.)
-/
import Derived.Test.YtceoefgjjekgaaaVxT
namespace Go.Proofs.Ytceoefgjjekgaaa
open Go.RowKit Go.Bw Go.Sort Go.Shelf
set_option linter.unusedVariables false
set_option linter.unusedSimpArgs false
attribute [local go_sem] run_store_float

theorem put_zero (c : Nat) (l : List Int) (j x : Int) : Vu.zero.putE j = 1 ∧ Vu.zero.putL c l j x = l := by
  constructor
  · rfl
  · unfold Vu.putL Vu.setL
    rw [Vu.has_zero]
    simp
theorem put_shape {v : Vu} (hp : (v.p == none) = false) (hv : v.vec = false) (c : Nat) (l : List Int) (j x : Int) : v.putE j = 8 ∧ v.putL c l j x = l := by
  unfold Vu.putE Vu.putL
  rw [hp, hv]
  exact ⟨rfl, rfl⟩
theorem vec_has {v : Vu} (hp : (v.p == none) = false) (hv : v.vec = true) (R0 : 0 ≤ v.R) (C0 : 0 ≤ v.C) (j : Int) : v.has (v.ai j) (v.aj j) = decide (0 ≤ j ∧ j < v.R * v.C) := by
  unfold Vu.vec at hv
  rw [hp] at hv
  unfold Vu.has Vu.ai Vu.aj
  by_cases h1 : v.C = 1
  · rw [h1]
    simp only [if_true, Int.mul_one]
    congr 1
    apply propext
    constructor <;> (intro h; omega)
  · simp only [h1, if_false]
    by_cases h2 : v.R = 1
    · rw [h2, Int.one_mul]
      congr 1
      apply propext
      constructor <;> (intro h; omega)
    · have h3 : v.R = 0 ∧ v.C = 0 := by simpa [h1, h2] using hv
      rw [h3.1, h3.2]
      congr 1
      apply propext
      constructor <;> (intro h; omega)
theorem put_out {v : Vu} (hp : (v.p == none) = false) (hv : v.vec = true) (R0 : 0 ≤ v.R) (C0 : 0 ≤ v.C) (c : Nat) (l : List Int) {j : Int} (x : Int) (hj : ¬ (0 ≤ j ∧ j < v.R * v.C)) : v.putE j = 2 ∧ v.putL c l j x = l := by
  have hh := vec_has hp hv R0 C0 j
  rw [decide_eq_false hj] at hh
  unfold Vu.putE Vu.putL Vu.setE Vu.setL
  rw [hp, hv, hh]
  exact ⟨rfl, rfl⟩
theorem put_in {v : Vu} (hp : (v.p == none) = false) (hv : v.vec = true) (R0 : 0 ≤ v.R) (C0 : 0 ≤ v.C) (c : Nat) (l : List Int) {j : Nat} (x : Int) (hj : (j : Int) < v.R * v.C) :
    v.putE j = 0 ∧ v.has (v.ai j) (v.aj j) = true ∧ v.putL c l j x = l.set (v.ix c (v.ai j) (v.aj j)).toNat x ∧ D (v.ats c) j = v.ix c (v.ai j) (v.aj j) := by
  have hh := vec_has hp hv R0 C0 j
  rw [decide_eq_true ⟨by omega, hj⟩] at hh
  have hat := ats_D v c (k := j) (by omega)
  refine ⟨?_, hh, ?_, ?_⟩
  · unfold Vu.putE Vu.setE
    rw [hp, hv, hh]
    rfl
  · unfold Vu.putL Vu.setL
    rw [hp, hv, hh]
    rfl
  · rw [hat]
    have h := of_decide_eq_true hh
    unfold Vu.ei Vu.ej
    unfold Vu.ai Vu.aj at h ⊢
    by_cases h1 : v.C = 1
    · simp only [h1, if_true] at h ⊢
      simp [Nat.mod_one]
    · simp only [h1, if_false] at h ⊢
      have hlt : j < v.C.toNat := by omega
      rw [Nat.div_eq_of_lt hlt, Nat.mod_eq_of_lt hlt]
      rfl

section
variable {w : World} {R C : Int} {A : Option Addr} {n c : Nat} {l : List Int} {A9 : Option Addr} {m c9 : Nat} {ss : List Sp} {i j x : Int}
set_option maxRecDepth 100000 in
set_option maxHeartbeats 16000000 in
theorem sets_1 (h : FL w A n c l) (hL : SL w w.heap.size A9 m c9 ss) (bj : ((-9223372036854775808 ≤ i ∧ i ≤ 9223372036854775807) ∧ (-9223372036854775808 ≤ j ∧ j ≤ 9223372036854775807) ∧ 0 ≤ x ∧ x ≤ 18446744073709551615)) (hb1 : bigB n = true) :
    Calls Try.prog 6 #[mV R C A n c, .slice A9 m c9, .int .i64 i, .int .i64 j, .float .f64 x.toNat] w (Ans w (.bool true)) := by
  have pb := fun W => big_any R C A n c h.max W
  have pM := fun W => May_any R C A n c W h.max
  have hll := h.1
  have hmm9 := hL.2.1
  rw [hb1] at pb
  clear hb1
  have DM := Blk.new w [.int .i64 R, .int .i64 C, .slice A n c] 24
  have bz := (Below.refl _ w).alloc (Nat.le_refl _) (.cells #[.int .i64 R, .int .i64 C, .slice A n c] 24)
  have hF := h.lo.on bz
  replace hL := hL.on bz
  clear h
  go_enter Try.func6, Try.ntmps6
  obtain ⟨c0, c1, c2, f0, f1, f2⟩ := Mbx.cells DM
  go_wp2_with fail
  with_reducible refine (pb _).mono ?_
  rintro e w1 ⟨rfl, hb⟩
  replace DM := DM.on hb
  replace hF := hF.on hb
  replace hL := hL.on hb
  replace bz := bz.trans (hb.mono bz.size)
  clear hb c0 c1 c2 f0 f1 f2
  go_wp2_with fail
  with_reducible refine (known_any _).mono ?_
  rintro e w2 ⟨rfl, hb⟩
  replace DM := DM.on hb
  replace hF := hF.on hb
  replace hL := hL.on hb
  replace bz := bz.trans (hb.mono bz.size)
  go_wp2_with fail
  go_ret
  exact ⟨rfl, bz⟩
set_option maxRecDepth 100000 in
set_option maxHeartbeats 16000000 in
theorem sets_2 (h : FL w A n c l) (hL : SL w w.heap.size A9 m c9 ss) (bj : ((-9223372036854775808 ≤ i ∧ i ≤ 9223372036854775807) ∧ (-9223372036854775808 ≤ j ∧ j ≤ 9223372036854775807) ∧ 0 ≤ x ∧ x ≤ 18446744073709551615)) (hb1 : bigB n = false) (hm : decide ((12 : Int) < m) = true) :
    Calls Try.prog 6 #[mV R C A n c, .slice A9 m c9, .int .i64 i, .int .i64 j, .float .f64 x.toNat] w (Ans w (.bool true)) := by
  have pb := fun W => big_any R C A n c h.max W
  have pM := fun W => May_any R C A n c W h.max
  have hll := h.1
  have hmm9 := hL.2.1
  rw [hb1] at pb
  clear hb1
  have DM := Blk.new w [.int .i64 R, .int .i64 C, .slice A n c] 24
  have bz := (Below.refl _ w).alloc (Nat.le_refl _) (.cells #[.int .i64 R, .int .i64 C, .slice A n c] 24)
  have hF := h.lo.on bz
  replace hL := hL.on bz
  clear h
  go_enter Try.func6, Try.ntmps6
  obtain ⟨c0, c1, c2, f0, f1, f2⟩ := Mbx.cells DM
  go_wp2_with fail
  with_reducible refine (pb _).mono ?_
  rintro e w1 ⟨rfl, hb⟩
  replace DM := DM.on hb
  replace hF := hF.on hb
  replace hL := hL.on hb
  replace bz := bz.trans (hb.mono bz.size)
  clear hb c0 c1 c2 f0 f1 f2
  go_wp2_with fail
  with_reducible refine (known_any _).mono ?_
  rintro e w2 ⟨rfl, hb⟩
  replace DM := DM.on hb
  replace hF := hF.on hb
  replace hL := hL.on hb
  replace bz := bz.trans (hb.mono bz.size)
  go_wp2_with fail
  go_ret
  exact ⟨rfl, bz⟩
set_option maxRecDepth 100000 in
set_option maxHeartbeats 16000000 in
theorem sets_3 (h : FL w A n c l) (hL : SL w w.heap.size A9 m c9 ss) (bj : ((-9223372036854775808 ≤ i ∧ i ≤ 9223372036854775807) ∧ (-9223372036854775808 ≤ j ∧ j ≤ 9223372036854775807) ∧ 0 ≤ x ∧ x ≤ 18446744073709551615)) (hb1 : bigB n = false) (hm : decide ((12 : Int) < m) = false) (hm1 : mayB R C n = false) :
    Calls Try.prog 6 #[mV R C A n c, .slice A9 m c9, .int .i64 i, .int .i64 j, .float .f64 x.toNat] w (Ans w (.bool true)) := by
  have pb := fun W => big_any R C A n c h.max W
  have pM := fun W => May_any R C A n c W h.max
  have hll := h.1
  have hmm9 := hL.2.1
  rw [hb1] at pb
  rw [hm1] at pM
  have pO := fun (W : World) (hF : FL W A n c l) => open_no hF hm1
  clear hb1 hm1
  have DM := Blk.new w [.int .i64 R, .int .i64 C, .slice A n c] 24
  have bz := (Below.refl _ w).alloc (Nat.le_refl _) (.cells #[.int .i64 R, .int .i64 C, .slice A n c] 24)
  have hF := h.lo.on bz
  replace hL := hL.on bz
  clear h
  go_enter Try.func6, Try.ntmps6
  obtain ⟨c0, c1, c2, f0, f1, f2⟩ := Mbx.cells DM
  go_wp2_with fail
  with_reducible refine (pb _).mono ?_
  rintro e w1 ⟨rfl, hb⟩
  replace DM := DM.on hb
  replace hF := hF.on hb
  replace hL := hL.on hb
  replace bz := bz.trans (hb.mono bz.size)
  clear hb c0 c1 c2 f0 f1 f2
  obtain ⟨c0, c1, c2, f0, f1, f2⟩ := Mbx.cells DM
  go_wp2_with fail
  with_reducible refine (pO _ hF.fl).mono ?_
  rintro e w2 ⟨rfl, hb⟩
  replace DM := DM.on hb
  replace hF := hF.on hb
  replace hL := hL.on hb
  replace bz := bz.trans (hb.mono bz.size)
  clear hb c0 c1 c2 f0 f1 f2
  obtain ⟨HD7, eHD7⟩ : ∃ H, w2.heap.size = H := ⟨_, rfl⟩
  have D7 := (Blk.new w2 (Vu.zero).L 30).alloc (.cells (Ru.L Ru.zero).toArray 51)
  have D8 := Blk.new (w2.alloc (.cells (Vu.zero).L.toArray 30)) (Ru.L Ru.zero) 51
  rw [World.size_alloc, eHD7] at D8
  rw [eHD7] at D7
  replace DM := DM.on ((Below.refl _ _).alloc (Nat.le_refl _) (.cells (Vu.zero).L.toArray 30))
  replace hF := hF.on ((Below.refl _ _).alloc (Nat.le_refl _) (.cells (Vu.zero).L.toArray 30))
  replace hL := hL.on ((Below.refl _ _).alloc (Nat.le_refl _) (.cells (Vu.zero).L.toArray 30))
  replace bz := bz.alloc bz.size (.cells (Vu.zero).L.toArray 30)
  replace DM := DM.on ((Below.refl _ _).alloc (Nat.le_refl _) (.cells (Ru.L Ru.zero).toArray 51))
  replace hF := hF.on ((Below.refl _ _).alloc (Nat.le_refl _) (.cells (Ru.L Ru.zero).toArray 51))
  replace hL := hL.on ((Below.refl _ _).alloc (Nat.le_refl _) (.cells (Ru.L Ru.zero).toArray 51))
  replace bz := bz.alloc bz.size (.cells (Ru.L Ru.zero).toArray 51)
  obtain ⟨c0, c1, c2, f0, f1, f2⟩ := Mbx.cells DM
  go_wp2_with fail
  with_reducible refine (pM _).mono ?_
  rintro e w3 ⟨rfl, hb⟩
  replace DM := DM.on hb
  replace hF := hF.on hb
  replace hL := hL.on hb
  replace D7 := D7.on hb
  replace D8 := D8.on hb
  replace bz := bz.trans (hb.mono bz.size)
  clear hb c0 c1 c2 f0 f1 f2
  go_wp2_with fail
  with_reducible refine (known_any _).mono ?_
  rintro e w4 ⟨rfl, hb⟩
  replace DM := DM.on hb
  replace hF := hF.on hb
  replace hL := hL.on hb
  replace D7 := D7.on hb
  replace D8 := D8.on hb
  replace bz := bz.trans (hb.mono bz.size)
  go_wp2_with fail
  go_ret
  exact ⟨rfl, bz⟩
set_option maxRecDepth 100000 in
set_option maxHeartbeats 16000000 in
theorem sets_4 (h : FL w A n c l) (hL : SL w w.heap.size A9 m c9 ss) (bj : ((-9223372036854775808 ≤ i ∧ i ≤ 9223372036854775807) ∧ (-9223372036854775808 ≤ j ∧ j ≤ 9223372036854775807) ∧ 0 ≤ x ∧ x ≤ 18446744073709551615)) (hb1 : bigB n = false) (hm : decide ((12 : Int) < m) = false) (hm1 : mayB R C n = true) :
    Calls Try.prog 6 #[mV R C A n c, .slice A9 m c9, .int .i64 i, .int .i64 j, .float .f64 x.toNat] w (Ans w (.bool true)) := by
  have pb := fun W => big_any R C A n c h.max W
  have pM := fun W => May_any R C A n c W h.max
  have hll := h.1
  have hmm9 := hL.2.1
  rw [hb1] at pb
  have q1 := Bool.and_eq_true_iff.1 hm1
  have hs1 : szB R C = true := q1.1
  have hl1 : (n : Int) = R * C := of_decide_eq_true q1.2
  have hm12 : m ≤ 12 := by have := of_decide_eq_false hm; omega
  have pO1 := fun (W : World) (hF : FL W A n c l) => open_yes hF hs1 hl1
  clear hb1 hm1 q1 hs1 hl1
  have DM := Blk.new w [.int .i64 R, .int .i64 C, .slice A n c] 24
  have bz := (Below.refl _ w).alloc (Nat.le_refl _) (.cells #[.int .i64 R, .int .i64 C, .slice A n c] 24)
  have hF := h.lo.on bz
  replace hL := hL.on bz
  clear h
  go_enter Try.func6, Try.ntmps6
  obtain ⟨c0, c1, c2, f0, f1, f2⟩ := Mbx.cells DM
  go_wp2_with fail
  with_reducible refine (pb _).mono ?_
  rintro e w1 ⟨rfl, hb⟩
  replace DM := DM.on hb
  replace hF := hF.on hb
  replace hL := hL.on hb
  replace bz := bz.trans (hb.mono bz.size)
  clear hb c0 c1 c2 f0 f1 f2
  obtain ⟨c0, c1, c2, f0, f1, f2⟩ := Mbx.cells DM
  have hz0 := DM.lt
  go_wp2_with fail
  with_reducible refine (pO1 _ hF.fl).mono ?_
  rintro e w2 ⟨s, g, cap, A5, c5, r, rfl, hT, hP, hlow, hb⟩
  replace DM := DM.on hb
  replace hF := hF.on hb
  replace hL := hL.on hb
  replace bz := bz.trans (hb.mono bz.size)
  clear hb c0 c1 c2 f0 f1 f2
  have hlt : s < w2.heap.size ∧ g < w2.heap.size ∧ ∀ a, A5 = some a → a.block < w2.heap.size := ⟨hT.st.lt, hT.st.gt.2, fun a e => (hT.sr.own.gt e).2⟩
  have hge : w.heap.size < s ∧ w.heap.size < g ∧ ∀ a, A5 = some a → w.heap.size < a.block := ⟨by have := hT.st.lo; omega, by have := hT.st.gt.1; omega, fun a e => by have := (hT.sr.own.gt e).1; omega⟩
  obtain ⟨HD7, eHD7⟩ : ∃ H, w2.heap.size = H := ⟨_, rfl⟩
  have D7 := (Blk.new w2 (Vu.all s R C).L 30).alloc (.cells (Ru.L r).toArray 51)
  have D8 := Blk.new (w2.alloc (.cells (Vu.all s R C).L.toArray 30)) (Ru.L r) 51
  rw [World.size_alloc, eHD7] at D8
  rw [eHD7] at D7
  have hzD7 := DM.lt
  rw [eHD7] at hzD7
  replace DM := DM.on ((Below.refl _ _).alloc (Nat.le_refl _) (.cells (Vu.all s R C).L.toArray 30))
  replace hF := hF.on ((Below.refl _ _).alloc (Nat.le_refl _) (.cells (Vu.all s R C).L.toArray 30))
  replace hL := hL.on ((Below.refl _ _).alloc (Nat.le_refl _) (.cells (Vu.all s R C).L.toArray 30))
  replace hT := hT.on ((Below.refl _ _).alloc (Nat.le_refl _) (.cells (Vu.all s R C).L.toArray 30))
  replace hP := hP.on ((Below.refl _ _).alloc (Nat.le_refl _) (.cells (Vu.all s R C).L.toArray 30))
  replace bz := bz.alloc bz.size (.cells (Vu.all s R C).L.toArray 30)
  replace DM := DM.on ((Below.refl _ _).alloc (Nat.le_refl _) (.cells (Ru.L r).toArray 51))
  replace hF := hF.on ((Below.refl _ _).alloc (Nat.le_refl _) (.cells (Ru.L r).toArray 51))
  replace hL := hL.on ((Below.refl _ _).alloc (Nat.le_refl _) (.cells (Ru.L r).toArray 51))
  replace hT := hT.on ((Below.refl _ _).alloc (Nat.le_refl _) (.cells (Ru.L r).toArray 51))
  replace hP := hP.on ((Below.refl _ _).alloc (Nat.le_refl _) (.cells (Ru.L r).toArray 51))
  replace bz := bz.alloc bz.size (.cells (Ru.L r).toArray 51)
  rw [eHD7] at hlt
  simp only [eHD7] at hlow
  obtain ⟨cD7_0, cD7_1, cD7_2, cD7_3, cD7_4, cD7_5, cD7_6, cD7_7, cD7_8⟩ := Vbx.cells D7
  obtain ⟨cD8_0, cD8_1, cD8_2, cD8_3, cD8_4⟩ := Rbx.cells D8
  have hzc := D8.lt
  go_wp2_with fail
  with_reducible refine (cut_any hT hP hL.more hm12).mono ?_
  rintro e w3 ⟨r3, rfl, hT3, hP3, hlw3, hb⟩
  replace DM := DM.on hb
  replace hF := hF.on hb
  replace hL := hL.on hb
  replace hT := hT.on hb
  replace hP := hP.on hb
  replace D7 := D7.on hb
  replace D8 := D8.on hb
  replace bz := bz.trans (hb.mono bz.size)
  replace hT := hT3
  clear hT3
  clear hb hzc cD7_0 cD7_1 cD7_2 cD7_3 cD7_4 cD7_5 cD7_6 cD7_7 cD7_8 cD8_0 cD8_1 cD8_2 cD8_3 cD8_4
  obtain ⟨V3, hV3⟩ : ∃ V, cutV (Vu.all s R C) ss = V := ⟨_, rfl⟩
  simp only [hV3] at hP3 ⊢
  clear hV3
  obtain ⟨HD14, eHD14⟩ : ∃ H, w3.heap.size = H := ⟨_, rfl⟩
  have D14 := (Blk.new w3 (V3).L 30).alloc (.cells (Ru.L r3).toArray 51)
  have D15 := Blk.new (w3.alloc (.cells (V3).L.toArray 30)) (Ru.L r3) 51
  rw [World.size_alloc, eHD14] at D15
  rw [eHD14] at D14
  have hzD14 := D8.lt
  rw [eHD14] at hzD14
  replace DM := DM.on ((Below.refl _ _).alloc (Nat.le_refl _) (.cells (V3).L.toArray 30))
  replace hF := hF.on ((Below.refl _ _).alloc (Nat.le_refl _) (.cells (V3).L.toArray 30))
  replace hL := hL.on ((Below.refl _ _).alloc (Nat.le_refl _) (.cells (V3).L.toArray 30))
  replace hT := hT.on ((Below.refl _ _).alloc (Nat.le_refl _) (.cells (V3).L.toArray 30))
  replace hP := hP.on ((Below.refl _ _).alloc (Nat.le_refl _) (.cells (V3).L.toArray 30))
  replace D7 := D7.on ((Below.refl _ _).alloc (Nat.le_refl _) (.cells (V3).L.toArray 30))
  replace D8 := D8.on ((Below.refl _ _).alloc (Nat.le_refl _) (.cells (V3).L.toArray 30))
  replace hP3 := hP3.on ((Below.refl _ _).alloc (Nat.le_refl _) (.cells (V3).L.toArray 30))
  replace bz := bz.alloc bz.size (.cells (V3).L.toArray 30)
  replace DM := DM.on ((Below.refl _ _).alloc (Nat.le_refl _) (.cells (Ru.L r3).toArray 51))
  replace hF := hF.on ((Below.refl _ _).alloc (Nat.le_refl _) (.cells (Ru.L r3).toArray 51))
  replace hL := hL.on ((Below.refl _ _).alloc (Nat.le_refl _) (.cells (Ru.L r3).toArray 51))
  replace hT := hT.on ((Below.refl _ _).alloc (Nat.le_refl _) (.cells (Ru.L r3).toArray 51))
  replace hP := hP.on ((Below.refl _ _).alloc (Nat.le_refl _) (.cells (Ru.L r3).toArray 51))
  replace D7 := D7.on ((Below.refl _ _).alloc (Nat.le_refl _) (.cells (Ru.L r3).toArray 51))
  replace D8 := D8.on ((Below.refl _ _).alloc (Nat.le_refl _) (.cells (Ru.L r3).toArray 51))
  replace hP3 := hP3.on ((Below.refl _ _).alloc (Nat.le_refl _) (.cells (Ru.L r3).toArray 51))
  replace bz := bz.alloc bz.size (.cells (Ru.L r3).toArray 51)
  clear hL pb pM
  have hvl : Vk V3 s C.toNat l.length 4096 := by rw [hll]; exact hP3.vk
  have hl1 : (V3.setL C.toNat l i j x).length = l.length := set_len V3 i j x
  obtain ⟨l1, hl1e⟩ : ∃ l1, V3.setL C.toNat l i j x = l1 := ⟨_, rfl⟩
  have pS := fun (W : World) (B : Nat) (h : St W B s g cap C.toNat l) => Set_any h hvl i j bj.2.2.1 bj.2.2.2
  have pSr := fun (W : World) (B : Nat) (h : Sr W B A5 n c5 l) (hr : Rk W A5 n c5 r3 V3 C.toNat) => rSet_any hr h hP3.vk i j bj.2.2.1 bj.2.2.2
  simp only [hl1e] at pS pSr hl1
  clear hl1e
  have hD8 := D8.lt
  obtain ⟨X9, hX9⟩ : ∃ X, x.toNat = X := ⟨_, rfl⟩
  rw [hX9]
  simp only [hX9] at pS pSr
  obtain ⟨E9, hE9⟩ : ∃ X, V3.setE i j = X := ⟨_, rfl⟩
  simp only [hE9] at pS pSr
  have hne : (E9 != E9) = false := by simp
  clear hE9
  go_wp2_with fail
  generalize ((w3.alloc (.cells (V3).L.toArray 30)).alloc (.cells (Ru.L r3).toArray 51)) = W1 at DM hF hT hP D7 D8 hP3 D14 D15 bz hD8 ⊢
  replace DM := DM.drew
  replace hF := hF.drew
  replace hT := hT.drew
  replace hP := hP.drew
  replace D7 := D7.drew
  replace D8 := D8.drew
  replace hP3 := hP3.drew
  replace D14 := D14.drew
  replace D15 := D15.drew
  replace bz := bz.drew
  have hl2 : l1.length = n := by rw [hl1]; exact hll
  refine wp_region_held_drew (S := fun w9 : World => Vbx w9 HD7 (Vu.all s R C) ∧ Rbx w9 (HD7 + 1) r ∧ Vbx w9 HD14 V3 ∧ Rbx w9 (HD14 + 1) r3) (by kernel_rfl) ⟨D7, D8, D14, D15⟩ (fun hS => ?_)
  refine wpAnyH_take (i := 0) (v := ?v0_1) rfl (by kernel_rfl) (by kernel_rfl) (by kernel_rfl) (fun _ _ _ h => h) (Or.inl ⟨by rfl, ?hy0_1⟩) (by assumption) ?rest0_1
  case hy0_1 => (intro w9 hSw; obtain ⟨sv, sr, sv2, sr2⟩ := hSw; obtain ⟨k0, k1, k2, k3, k4, k5, k6, k7, k8⟩ := Vbx.cells sv; obtain ⟨q0, q1, q2, q3, q4⟩ := Rbx.cells sr; obtain ⟨kk0, kk1, kk2, kk3, kk4, kk5, kk6, kk7, kk8⟩ := Vbx.cells sv2; obtain ⟨qq0, qq1, qq2, qq3, qq4⟩ := Rbx.cells sr2; go_simp; try with_reducible rfl)
  try simp only [Act.put, List.setIfInBounds_toArray, List.set_cons_zero, List.set_cons_succ, List.getElem_toArray, List.getElem_cons_zero, List.getElem_cons_succ]
  refine wpAnyH_take (i := 1) (v := ?v1_2) rfl (by kernel_rfl) (by kernel_rfl) (by kernel_rfl) (fun _ _ _ h => h) (Or.inl ⟨by rfl, ?hy1_2⟩) (by assumption) ?rest1_2
  case hy1_2 => (intro w9 hSw; clear hSw; go_simp; try with_reducible rfl)
  try simp only [Act.put, List.setIfInBounds_toArray, List.set_cons_zero, List.set_cons_succ, List.getElem_toArray, List.getElem_cons_zero, List.getElem_cons_succ]
  refine wpAnyH_take (i := 2) (v := ?v2_3) rfl (by kernel_rfl) (by kernel_rfl) (by kernel_rfl) (fun _ _ _ h => h) (Or.inl ⟨by rfl, ?hy2_3⟩) (by assumption) ?rest2_3
  case hy2_3 => (intro w9 hSw; clear hSw; go_simp; try with_reducible rfl)
  try simp only [Act.put, List.setIfInBounds_toArray, List.set_cons_zero, List.set_cons_succ, List.getElem_toArray, List.getElem_cons_zero, List.getElem_cons_succ]
  refine wpAnyH_take (i := 3) (v := ?v3_4) rfl (by kernel_rfl) (by kernel_rfl) (by kernel_rfl) (fun _ _ _ h => h) (Or.inl ⟨by rfl, ?hy3_4⟩) (by assumption) ?rest3_4
  case hy3_4 => (intro w9 hSw; clear hSw; go_simp; try with_reducible rfl)
  try simp only [Act.put, List.setIfInBounds_toArray, List.set_cons_zero, List.set_cons_succ, List.getElem_toArray, List.getElem_cons_zero, List.getElem_cons_succ]
  refine wpAnyH_take (i := 6) (v := ?v6_5) rfl (by kernel_rfl) (by kernel_rfl) (by kernel_rfl) (fun _ _ _ h => h) (Or.inl ⟨by rfl, ?hy6_5⟩) (by assumption) ?rest6_5
  case hy6_5 => (intro w9 hSw; obtain ⟨sv, sr, sv2, sr2⟩ := hSw; obtain ⟨k0, k1, k2, k3, k4, k5, k6, k7, k8⟩ := Vbx.cells sv; obtain ⟨q0, q1, q2, q3, q4⟩ := Rbx.cells sr; obtain ⟨kk0, kk1, kk2, kk3, kk4, kk5, kk6, kk7, kk8⟩ := Vbx.cells sv2; obtain ⟨qq0, qq1, qq2, qq3, qq4⟩ := Rbx.cells sr2; go_simp; try with_reducible rfl)
  try simp only [Act.put, List.setIfInBounds_toArray, List.set_cons_zero, List.set_cons_succ, List.getElem_toArray, List.getElem_cons_zero, List.getElem_cons_succ]
  refine wpAnyH_take (i := 7) (v := ?v7_6) rfl (by kernel_rfl) (by kernel_rfl) (by kernel_rfl) (fun _ _ _ h => h) (Or.inl ⟨by rfl, ?hy7_6⟩) (by assumption) ?rest7_6
  case hy7_6 => (intro w9 hSw; clear hSw; go_simp; try with_reducible rfl)
  try simp only [Act.put, List.setIfInBounds_toArray, List.set_cons_zero, List.set_cons_succ, List.getElem_toArray, List.getElem_cons_zero, List.getElem_cons_succ]
  refine wpAnyH_take (i := 8) (v := ?v8_7) rfl (by kernel_rfl) (by kernel_rfl) (by kernel_rfl) (fun _ _ _ h => h) (Or.inl ⟨by rfl, ?hy8_7⟩) (by assumption) ?rest8_7
  case hy8_7 => (intro w9 hSw; clear hSw; go_simp; try with_reducible rfl)
  try simp only [Act.put, List.setIfInBounds_toArray, List.set_cons_zero, List.set_cons_succ, List.getElem_toArray, List.getElem_cons_zero, List.getElem_cons_succ]
  refine wpAnyH_take (i := 9) (v := ?v9_8) rfl (by kernel_rfl) (by kernel_rfl) (by kernel_rfl) (fun _ _ _ h => h) (Or.inl ⟨by rfl, ?hy9_8⟩) (by assumption) ?rest9_8
  case hy9_8 => (intro w9 hSw; clear hSw; go_simp; try with_reducible rfl)
  try simp only [Act.put, List.setIfInBounds_toArray, List.set_cons_zero, List.set_cons_succ, List.getElem_toArray, List.getElem_cons_zero, List.getElem_cons_succ]
  refine wpAnyH_ready (rs := [4]) (by kernel_rfl) (by simp) ?_
  refine AllReadyH.cons rfl (fun K hK => ?_) AllReadyH.nil
  go_simp
  with_reducible refine (pS _ _ hT.st).mono ?_
  rintro e w4 ⟨rfl, hst2, hg⟩
  replace DM := DM.grown hg (by simp; omega)
  replace D7 := D7.grown hg (by simp; omega)
  replace D8 := D8.grown hg (by simp; omega)
  replace D14 := D14.grown hg (by simp; omega)
  replace D15 := D15.grown hg (by simp; omega)
  replace hP := hP.left hg
  replace hP3 := hP3.left hg
  replace hF := hF.grown hg (by omega)
  replace bz := bz.grown hg bz.size (fun k e => by cases e; omega)
  replace hT := hT.left hst2 hl1 hg
  clear hst2 hg pS
  refine hK.out _ _ ⟨D7, D8, D14, D15⟩ (fun hH => ?_)
  clear hK K hS
  have hS := hH
  clear hH
  try simp only [Act.put, List.setIfInBounds_toArray, List.set_cons_zero, List.set_cons_succ, List.getElem_toArray, List.getElem_cons_zero, List.getElem_cons_succ]
  refine wpAnyH_ready (rs := [5]) (by kernel_rfl) (by simp) ?_
  refine AllReadyH.cons rfl (fun K hK => ?_) AllReadyH.nil
  go_simp
  with_reducible refine (num_any _ _).mono ?_
  rintro e v5 ⟨rfl, rfl⟩
  refine hK.out _ _ ⟨D7, D8, D14, D15⟩ (fun hH => ?_)
  clear hK K hS
  have hS := hH
  clear hH
  try simp only [Act.put, List.setIfInBounds_toArray, List.set_cons_zero, List.set_cons_succ, List.getElem_toArray, List.getElem_cons_zero, List.getElem_cons_succ]
  refine wpAnyH_ready (rs := [10]) (by kernel_rfl) (by simp) ?_
  refine AllReadyH.cons rfl (fun K hK => ?_) AllReadyH.nil
  go_simp
  with_reducible refine (pSr _ _ hT.sr hP3.rk).mono ?_
  rintro e w6 ⟨rfl, hsr2, hg⟩
  have hgr : ∀ k, A5.map (·.block) = some k → w.heap.size < k ∧ k < HD7 := fun k e => by cases h9 : A5 with
    | none => rw [h9] at e; cases e
    | some a => rw [h9] at e; cases e; exact ⟨hge.2.2 a h9, hlt.2.2 a h9⟩
  replace DM := DM.grown hg (fun e => by have := hgr _ e.symm; omega)
  replace D7 := D7.grown hg (fun e => by have := hgr _ e.symm; omega)
  replace D8 := D8.grown hg (fun e => by have := hgr _ e.symm; omega)
  replace D14 := D14.grown hg (fun e => by have := hgr _ e.symm; omega)
  replace D15 := D15.grown hg (fun e => by have := hgr _ e.symm; omega)
  replace hP := hP.right hg
  replace hP3 := hP3.right hg
  replace hF := hF.grownR hg (fun k e => by have := hgr k e; omega)
  replace bz := bz.grown hg bz.size (fun k e => by have := hgr k e; omega)
  replace hT := hT.right hsr2 hg
  clear hsr2 hg pSr hgr
  refine hK.out _ _ ⟨D7, D8, D14, D15⟩ (fun hH => ?_)
  clear hK K hS
  have hS := hH
  clear hH
  try simp only [Act.put, List.setIfInBounds_toArray, List.set_cons_zero, List.set_cons_succ, List.getElem_toArray, List.getElem_cons_zero, List.getElem_cons_succ]
  refine wpAnyH_take (i := 11) (v := ?v11_9) rfl (by kernel_rfl) (by kernel_rfl) (by kernel_rfl) (fun _ _ _ h => h) (Or.inl ⟨by rfl, ?hy11_9⟩) (by assumption) ?rest11_9
  case hy11_9 => (intro w9 hSw; clear hSw; go_simp; try with_reducible rfl)
  try simp only [Act.put, List.setIfInBounds_toArray, List.set_cons_zero, List.set_cons_succ, List.getElem_toArray, List.getElem_cons_zero, List.getElem_cons_succ]
  refine wpAnyH_take (i := 12) (v := ?v12_10) rfl (by kernel_rfl) (by kernel_rfl) (by kernel_rfl) (fun _ _ _ h => h) (Or.inl ⟨by rfl, ?hy12_10⟩) (by assumption) ?rest12_10
  case hy12_10 => (intro w9 hSw; clear hSw; go_simp; try with_reducible rfl)
  try simp only [Act.put, List.setIfInBounds_toArray, List.set_cons_zero, List.set_cons_succ, List.getElem_toArray, List.getElem_cons_zero, List.getElem_cons_succ]
  refine wpAnyH_take (i := 13) (v := ?v13_11) rfl (by kernel_rfl) (by kernel_rfl) (by kernel_rfl) (fun _ _ _ h => h) (Or.inl ⟨by rfl, ?hy13_11⟩) (by assumption) ?rest13_11
  case hy13_11 => (intro w9 hSw; obtain ⟨sv, sr, sv2, sr2⟩ := hSw; obtain ⟨k0, k1, k2, k3, k4, k5, k6, k7, k8⟩ := Vbx.cells sv; obtain ⟨q0, q1, q2, q3, q4⟩ := Rbx.cells sr; obtain ⟨kk0, kk1, kk2, kk3, kk4, kk5, kk6, kk7, kk8⟩ := Vbx.cells sv2; obtain ⟨qq0, qq1, qq2, qq3, qq4⟩ := Rbx.cells sr2; go_simp; try with_reducible rfl)
  try simp only [Act.put, List.setIfInBounds_toArray, List.set_cons_zero, List.set_cons_succ, List.getElem_toArray, List.getElem_cons_zero, List.getElem_cons_succ]
  refine wpAnyH_take (i := 15) (v := ?v15_12) rfl (by kernel_rfl) (by kernel_rfl) (by kernel_rfl) (fun _ _ _ h => h) (Or.inl ⟨by rfl, ?hy15_12⟩) (by assumption) ?rest15_12
  case hy15_12 => (intro w9 hSw; obtain ⟨sv, sr, sv2, sr2⟩ := hSw; obtain ⟨k0, k1, k2, k3, k4, k5, k6, k7, k8⟩ := Vbx.cells sv; obtain ⟨q0, q1, q2, q3, q4⟩ := Rbx.cells sr; obtain ⟨kk0, kk1, kk2, kk3, kk4, kk5, kk6, kk7, kk8⟩ := Vbx.cells sv2; obtain ⟨qq0, qq1, qq2, qq3, qq4⟩ := Rbx.cells sr2; go_simp; try with_reducible rfl)
  try simp only [Act.put, List.setIfInBounds_toArray, List.set_cons_zero, List.set_cons_succ, List.getElem_toArray, List.getElem_cons_zero, List.getElem_cons_succ]
  refine wpAnyH_ready (rs := [14]) (by kernel_rfl) (by simp) ?_
  refine AllReadyH.cons rfl (fun K hK => ?_) AllReadyH.nil
  go_simp
  with_reducible refine (Matrix_fl hP.vk (fun _ => ⟨hT.st, hl2⟩)).mono ?_
  rintro e w7 ⟨A7, c7, rfl, hX, hb⟩
  replace DM := DM.on hb
  replace hF := hF.on hb
  replace hT := hT.on hb
  replace hP := hP.on hb
  replace D7 := D7.on hb
  replace D8 := D8.on hb
  replace hP3 := hP3.on hb
  replace D14 := D14.on hb
  replace D15 := D15.on hb
  replace bz := bz.trans (hb.mono bz.size)
  clear hb
  refine hK.out _ _ ⟨D7, D8, D14, D15⟩ (fun hH => ?_)
  clear hK K hS
  have hS := hH
  clear hH
  try simp only [Act.put, List.setIfInBounds_toArray, List.set_cons_zero, List.set_cons_succ, List.getElem_toArray, List.getElem_cons_zero, List.getElem_cons_succ]
  refine wpAnyH_ready (rs := [16]) (by kernel_rfl) (by simp) ?_
  refine AllReadyH.cons rfl (fun K hK => ?_) AllReadyH.nil
  go_simp
  with_reducible refine (rMat_fl hP.rk hT.sr hP.vk).mono ?_
  rintro e w8 ⟨A8, c8, rfl, hY, hb⟩
  replace DM := DM.on hb
  replace hF := hF.on hb
  replace hT := hT.on hb
  replace hP := hP.on hb
  replace D7 := D7.on hb
  replace D8 := D8.on hb
  replace hP3 := hP3.on hb
  replace D14 := D14.on hb
  replace D15 := D15.on hb
  replace hX := hX.on hb
  replace bz := bz.trans (hb.mono bz.size)
  clear hb
  refine hK.out _ _ ⟨D7, D8, D14, D15⟩ (fun hH => ?_)
  clear hK K hS
  have hS := hH
  clear hH
  try simp only [Act.put, List.setIfInBounds_toArray, List.set_cons_zero, List.set_cons_succ, List.getElem_toArray, List.getElem_cons_zero, List.getElem_cons_succ]
  refine wpAnyH_ready (rs := [17]) (by kernel_rfl) (by simp) ?_
  refine AllReadyH.cons rfl (fun K hK => ?_) AllReadyH.nil
  go_simp
  with_reducible refine (SameM_true hX hY).mono ?_
  rintro e w9 ⟨rfl, hb⟩
  replace DM := DM.on hb
  replace hF := hF.on hb
  replace hT := hT.on hb
  replace hP := hP.on hb
  replace D7 := D7.on hb
  replace D8 := D8.on hb
  replace hP3 := hP3.on hb
  replace D14 := D14.on hb
  replace D15 := D15.on hb
  replace hX := hX.on hb
  replace hY := hY.on hb
  replace bz := bz.trans (hb.mono bz.size)
  clear hb hX hY
  refine hK.out _ _ ⟨D7, D8, D14, D15⟩ (fun hH => ?_)
  clear hK K hS
  have hS := hH
  clear hH
  try simp only [Act.put, List.setIfInBounds_toArray, List.set_cons_zero, List.set_cons_succ, List.getElem_toArray, List.getElem_cons_zero, List.getElem_cons_succ]
  refine wpAnyH_take (i := 18) (v := ?v18_13) rfl (by kernel_rfl) (by kernel_rfl) (by kernel_rfl) (fun _ _ _ h => h) (Or.inl ⟨by rfl, ?hy18_13⟩) (by assumption) ?rest18_13
  case hy18_13 => (intro w9 hSw; clear hSw; go_simp; try with_reducible rfl)
  try simp only [Act.put, List.setIfInBounds_toArray, List.set_cons_zero, List.set_cons_succ, List.getElem_toArray, List.getElem_cons_zero, List.getElem_cons_succ]
  refine wpAnyH_take (i := 19) (v := ?v19_14) rfl (by kernel_rfl) (by kernel_rfl) (by kernel_rfl) (fun _ _ _ h => h) (Or.inl ⟨by rfl, ?hy19_14⟩) (by assumption) ?rest19_14
  case hy19_14 => (intro w9 hSw; clear hSw; go_simp; try with_reducible rfl)
  try simp only [Act.put, List.setIfInBounds_toArray, List.set_cons_zero, List.set_cons_succ, List.getElem_toArray, List.getElem_cons_zero, List.getElem_cons_succ]
  refine wpAnyH_done (by kernel_rfl) ?_ _
  have hvl1 : Vk V3 s C.toNat l1.length 4096 := by rw [hl2]; exact hP3.vk
  obtain ⟨R0, R1⟩ := hP3.vk.bd.R
  obtain ⟨C0, C1⟩ := hP3.vk.bd.C
  have hb3 := hP3.rk.b
  have hvec := hP3.rk.vec hP3.vk.none_
  have hRC := And.intro hP3.rk.R hP3.rk.C
  obtain ⟨rA, rn, rc, rR, rC, rA2, rn2, rc2, rb⟩ := r3
  simp only at hb3 hRC
  have HRC := Lib.hid hRC
  have HVEC := Lib.hid hvec
  clear hRC hvec
  clear hne hl1 hvl
  cases hp9 : (V3.p == none)
  · have hrb : rb = true := by rw [hb3, hp9]; rfl
    clear hb3
    subst hrb
    cases hv8 : V3.vec
    · obtain ⟨hE, hLL⟩ := put_shape hp9 hv8 C.toNat l1 j x
      have pP : ∀ (W : World) (B : Nat) (h : St W B s g cap C.toNat l1), Calls Try.prog 40 #[V3.V, .int .i64 j, .float .f64 X9] W (Wrote W B s g cap C.toNat 8 l1) := fun W B h => by have := Put_any h hvl1 j bj.2.2.1 bj.2.2.2; rw [hE, hLL, hX9] at this; exact this
      clear hE hLL
      obtain ⟨cD14_0, cD14_1, cD14_2, cD14_3, cD14_4, cD14_5, cD14_6, cD14_7, cD14_8⟩ := Vbx.cells D14
      go_wp2_with fail
      with_reducible refine (pP _ _ hT.st).mono ?_
      rintro e w10 ⟨rfl, hst2, hg⟩
      replace DM := DM.grown hg (by simp; omega)
      replace D7 := D7.grown hg (by simp; omega)
      replace D8 := D8.grown hg (by simp; omega)
      replace D14 := D14.grown hg (by simp; omega)
      replace D15 := D15.grown hg (by simp; omega)
      replace hP := hP.left hg
      replace hP3 := hP3.left hg
      replace hF := hF.grown hg (by omega)
      replace bz := bz.grown hg bz.size (fun k e => by cases e; omega)
      replace hT := hT.left hst2 (by first | rfl | simp) hg
      clear hst2 hg pP cD14_0 cD14_1 cD14_2 cD14_3 cD14_4 cD14_5 cD14_6 cD14_7 cD14_8
      go_wp2_with fail
      with_reducible refine (num_any _ _).mono ?_
      rintro e v99 ⟨rfl, rfl⟩
      obtain ⟨cD15_0, cD15_1, cD15_2, cD15_3, cD15_4⟩ := Rbx.cells D15
      go_wp2_with fail
      have pV := fun W => rVector_any (Ru.mk rA rn rc rR rC rA2 rn2 rc2 true) W
      have hv9 := HVEC.out
      rw [hv8] at hv9
      rw [hv9] at pV
      clear hv9
      with_reducible refine (pV _).mono ?_
      rintro e w11 ⟨rfl, hb⟩
      replace DM := DM.on hb
      replace hF := hF.on hb
      replace hT := hT.on hb
      replace hP := hP.on hb
      replace D7 := D7.on hb
      replace D8 := D8.on hb
      replace hP3 := hP3.on hb
      replace D14 := D14.on hb
      replace D15 := D15.on hb
      replace bz := bz.trans (hb.mono bz.size)
      clear hb cD15_0 cD15_1 cD15_2 cD15_3 cD15_4
      go_wp2_with fail
      with_reducible refine (known_any _).mono ?_
      rintro e w12 ⟨rfl, hb⟩
      replace DM := DM.on hb
      replace hF := hF.on hb
      replace hT := hT.on hb
      replace hP := hP.on hb
      replace D7 := D7.on hb
      replace D8 := D8.on hb
      replace hP3 := hP3.on hb
      replace D14 := D14.on hb
      replace D15 := D15.on hb
      replace bz := bz.trans (hb.mono bz.size)
      go_wp2_with fail
      go_ret
      exact ⟨rfl, bz⟩
    · obtain ⟨N9, hN9⟩ : ∃ N, V3.R * V3.C = N := ⟨_, rfl⟩
      have hNb := prod_bd R0 R1 C0 C1
      rw [hN9] at hNb
      rcases Int.lt_or_le j 0 with g3 | g3
      · obtain ⟨hE, hLL⟩ := put_out hp9 hv8 R0 C0 C.toNat l1 (j := j) x (by omega)
        have pP : ∀ (W : World) (B : Nat) (h : St W B s g cap C.toNat l1), Calls Try.prog 40 #[V3.V, .int .i64 j, .float .f64 X9] W (Wrote W B s g cap C.toNat 2 l1) := fun W B h => by have := Put_any h hvl1 j bj.2.2.1 bj.2.2.2; rw [hE, hLL, hX9] at this; exact this
        clear hE hLL
        obtain ⟨cD14_0, cD14_1, cD14_2, cD14_3, cD14_4, cD14_5, cD14_6, cD14_7, cD14_8⟩ := Vbx.cells D14
        go_wp2_with fail
        with_reducible refine (pP _ _ hT.st).mono ?_
        rintro e w10 ⟨rfl, hst2, hg⟩
        replace DM := DM.grown hg (by simp; omega)
        replace D7 := D7.grown hg (by simp; omega)
        replace D8 := D8.grown hg (by simp; omega)
        replace D14 := D14.grown hg (by simp; omega)
        replace D15 := D15.grown hg (by simp; omega)
        replace hP := hP.left hg
        replace hP3 := hP3.left hg
        replace hF := hF.grown hg (by omega)
        replace bz := bz.grown hg bz.size (fun k e => by cases e; omega)
        replace hT := hT.left hst2 (by first | rfl | simp) hg
        clear hst2 hg pP cD14_0 cD14_1 cD14_2 cD14_3 cD14_4 cD14_5 cD14_6 cD14_7 cD14_8
        go_wp2_with fail
        with_reducible refine (num_any _ _).mono ?_
        rintro e v99 ⟨rfl, rfl⟩
        obtain ⟨cD15_0, cD15_1, cD15_2, cD15_3, cD15_4⟩ := Rbx.cells D15
        go_wp2_with fail
        have pV := fun W => rVector_any (Ru.mk rA rn rc rR rC rA2 rn2 rc2 true) W
        have hv9 := HVEC.out
        rw [hv8] at hv9
        rw [hv9] at pV
        clear hv9
        with_reducible refine (pV _).mono ?_
        rintro e w11 ⟨rfl, hb⟩
        replace DM := DM.on hb
        replace hF := hF.on hb
        replace hT := hT.on hb
        replace hP := hP.on hb
        replace D7 := D7.on hb
        replace D8 := D8.on hb
        replace hP3 := hP3.on hb
        replace D14 := D14.on hb
        replace D15 := D15.on hb
        replace bz := bz.trans (hb.mono bz.size)
        clear hb pV cD15_0 cD15_1 cD15_2 cD15_3 cD15_4
        go_wp2_with fail
        replace DM := DM.drew
        replace hF := hF.drew
        replace hT := hT.drew
        replace hP := hP.drew
        replace D7 := D7.drew
        replace D8 := D8.drew
        replace hP3 := hP3.drew
        replace D14 := D14.drew
        replace D15 := D15.drew
        replace bz := bz.drew
        refine wp_region_held_drew (S := fun w9 : World => Vbx w9 HD7 (Vu.all s R C) ∧ Rbx w9 (HD7 + 1) r ∧ Vbx w9 HD14 V3 ∧ Rbx w9 (HD14 + 1) (Ru.mk rA rn rc rR rC rA2 rn2 rc2 true)) (by kernel_rfl) ⟨D7, D8, D14, D15⟩ (fun hS => ?_)
        refine wpAnyH_take (i := 0) (v := ?v0_15) rfl (by kernel_rfl) (by kernel_rfl) (by kernel_rfl) (fun _ _ _ h => h) (Or.inl ⟨by rfl, ?hy0_15⟩) (by assumption) ?rest0_15
        case hy0_15 => (intro w9 hSw; clear hSw; go_simp; try with_reducible rfl)
        try simp only [Act.put, List.setIfInBounds_toArray, List.set_cons_zero, List.set_cons_succ, List.getElem_toArray, List.getElem_cons_zero, List.getElem_cons_succ]
        refine wpAnyH_take (i := 1) (v := ?v1_16) rfl (by kernel_rfl) (by kernel_rfl) (by kernel_rfl) (fun _ _ _ h => h) (Or.inl ⟨by rfl, ?hy1_16⟩) (by assumption) ?rest1_16
        case hy1_16 => (intro w9 hSw; clear hSw; go_simp; try with_reducible rfl)
        try simp only [Act.put, List.setIfInBounds_toArray, List.set_cons_zero, List.set_cons_succ, List.getElem_toArray, List.getElem_cons_zero, List.getElem_cons_succ]
        refine wpAnyH_take (i := 2) (v := ?v2_17) rfl (by kernel_rfl) (by kernel_rfl) (by kernel_rfl) (fun _ _ _ h => h) (Or.inl ⟨by rfl, ?hy2_17⟩) (by assumption) ?rest2_17
        case hy2_17 => (intro w9 hSw; clear hSw; go_simp; try with_reducible rfl)
        try simp only [Act.put, List.setIfInBounds_toArray, List.set_cons_zero, List.set_cons_succ, List.getElem_toArray, List.getElem_cons_zero, List.getElem_cons_succ]
        refine wpAnyH_take (i := 3) (v := ?v3_18) rfl (by kernel_rfl) (by kernel_rfl) (by kernel_rfl) (fun _ _ _ h => h) (Or.inl ⟨by rfl, ?hy3_18⟩) (by assumption) ?rest3_18
        case hy3_18 => (intro w9 hSw; obtain ⟨sv, sr, sv2, sr2⟩ := hSw; obtain ⟨k0, k1, k2, k3, k4, k5, k6, k7, k8⟩ := Vbx.cells sv; obtain ⟨q0, q1, q2, q3, q4⟩ := Rbx.cells sr; obtain ⟨kk0, kk1, kk2, kk3, kk4, kk5, kk6, kk7, kk8⟩ := Vbx.cells sv2; obtain ⟨qq0, qq1, qq2, qq3, qq4⟩ := Rbx.cells sr2; go_simp; try with_reducible rfl)
        try simp only [Act.put, List.setIfInBounds_toArray, List.set_cons_zero, List.set_cons_succ, List.getElem_toArray, List.getElem_cons_zero, List.getElem_cons_succ]
        refine wpAnyH_take (i := 5) (v := ?v5_19) rfl (by kernel_rfl) (by kernel_rfl) (by kernel_rfl) (fun _ _ _ h => h) (Or.inl ⟨by rfl, ?hy5_19⟩) (by assumption) ?rest5_19
        case hy5_19 => (intro w9 hSw; obtain ⟨sv, sr, sv2, sr2⟩ := hSw; obtain ⟨k0, k1, k2, k3, k4, k5, k6, k7, k8⟩ := Vbx.cells sv; obtain ⟨q0, q1, q2, q3, q4⟩ := Rbx.cells sr; obtain ⟨kk0, kk1, kk2, kk3, kk4, kk5, kk6, kk7, kk8⟩ := Vbx.cells sv2; obtain ⟨qq0, qq1, qq2, qq3, qq4⟩ := Rbx.cells sr2; go_simp; try with_reducible rfl)
        try simp only [Act.put, List.setIfInBounds_toArray, List.set_cons_zero, List.set_cons_succ, List.getElem_toArray, List.getElem_cons_zero, List.getElem_cons_succ]
        refine wpAnyH_ready (rs := [4]) (by kernel_rfl) (by simp) ?_
        refine AllReadyH.cons rfl (fun K hK => ?_) AllReadyH.nil
        go_simp
        with_reducible refine (Matrix_fl hP.vk (fun _ => ⟨hT.st, by simpa using hl2⟩)).mono ?_
        rintro e w12 ⟨A7, c7, rfl, hX, hb⟩
        replace DM := DM.on hb
        replace hF := hF.on hb
        replace hT := hT.on hb
        replace hP := hP.on hb
        replace D7 := D7.on hb
        replace D8 := D8.on hb
        replace hP3 := hP3.on hb
        replace D14 := D14.on hb
        replace D15 := D15.on hb
        replace bz := bz.trans (hb.mono bz.size)
        clear hb
        refine hK.out _ _ ⟨D7, D8, D14, D15⟩ (fun hH => ?_)
        clear hK K hS
        have hS := hH
        clear hH
        try simp only [Act.put, List.setIfInBounds_toArray, List.set_cons_zero, List.set_cons_succ, List.getElem_toArray, List.getElem_cons_zero, List.getElem_cons_succ]
        refine wpAnyH_ready (rs := [6]) (by kernel_rfl) (by simp) ?_
        refine AllReadyH.cons rfl (fun K hK => ?_) AllReadyH.nil
        go_simp
        with_reducible refine (rMat_fl hP.rk hT.sr hP.vk).mono ?_
        rintro e w13 ⟨A8, c8, rfl, hY, hb⟩
        replace DM := DM.on hb
        replace hF := hF.on hb
        replace hT := hT.on hb
        replace hP := hP.on hb
        replace D7 := D7.on hb
        replace D8 := D8.on hb
        replace hP3 := hP3.on hb
        replace D14 := D14.on hb
        replace D15 := D15.on hb
        replace hX := hX.on hb
        replace bz := bz.trans (hb.mono bz.size)
        clear hb
        refine hK.out _ _ ⟨D7, D8, D14, D15⟩ (fun hH => ?_)
        clear hK K hS
        have hS := hH
        clear hH
        try simp only [Act.put, List.setIfInBounds_toArray, List.set_cons_zero, List.set_cons_succ, List.getElem_toArray, List.getElem_cons_zero, List.getElem_cons_succ]
        refine wpAnyH_ready (rs := [7]) (by kernel_rfl) (by simp) ?_
        refine AllReadyH.cons rfl (fun K hK => ?_) AllReadyH.nil
        go_simp
        with_reducible refine (SameM_true hX hY).mono ?_
        rintro e w14 ⟨rfl, hb⟩
        replace DM := DM.on hb
        replace hF := hF.on hb
        replace hT := hT.on hb
        replace hP := hP.on hb
        replace D7 := D7.on hb
        replace D8 := D8.on hb
        replace hP3 := hP3.on hb
        replace D14 := D14.on hb
        replace D15 := D15.on hb
        replace hX := hX.on hb
        replace hY := hY.on hb
        replace bz := bz.trans (hb.mono bz.size)
        clear hb hX hY
        refine hK.out _ _ ⟨D7, D8, D14, D15⟩ (fun hH => ?_)
        clear hK K hS
        have hS := hH
        clear hH
        try simp only [Act.put, List.setIfInBounds_toArray, List.set_cons_zero, List.set_cons_succ, List.getElem_toArray, List.getElem_cons_zero, List.getElem_cons_succ]
        refine wpAnyH_take (i := 8) (v := ?v8_20) rfl (by kernel_rfl) (by kernel_rfl) (by kernel_rfl) (fun _ _ _ h => h) (Or.inl ⟨by rfl, ?hy8_20⟩) (by assumption) ?rest8_20
        case hy8_20 => (intro w9 hSw; clear hSw; go_simp; try with_reducible rfl)
        try simp only [Act.put, List.setIfInBounds_toArray, List.set_cons_zero, List.set_cons_succ, List.getElem_toArray, List.getElem_cons_zero, List.getElem_cons_succ]
        refine wpAnyH_take (i := 9) (v := ?v9_21) rfl (by kernel_rfl) (by kernel_rfl) (by kernel_rfl) (fun _ _ _ h => h) (Or.inl ⟨by rfl, ?hy9_21⟩) (by assumption) ?rest9_21
        case hy9_21 => (intro w9 hSw; clear hSw; go_simp; try with_reducible rfl)
        try simp only [Act.put, List.setIfInBounds_toArray, List.set_cons_zero, List.set_cons_succ, List.getElem_toArray, List.getElem_cons_zero, List.getElem_cons_succ]
        refine wpAnyH_ready (rs := [10]) (by kernel_rfl) (by simp) ?_
        refine AllReadyH.cons rfl (fun K hK => ?_) AllReadyH.nil
        go_simp
        with_reducible refine (known_any _).mono ?_
        rintro e w15 ⟨rfl, hb⟩
        replace DM := DM.on hb
        replace hF := hF.on hb
        replace hT := hT.on hb
        replace hP := hP.on hb
        replace D7 := D7.on hb
        replace D8 := D8.on hb
        replace hP3 := hP3.on hb
        replace D14 := D14.on hb
        replace D15 := D15.on hb
        replace bz := bz.trans (hb.mono bz.size)
        clear hb
        refine hK.out _ _ ⟨D7, D8, D14, D15⟩ (fun hH => ?_)
        clear hK K hS
        have hS := hH
        clear hH
        try simp only [Act.put, List.setIfInBounds_toArray, List.set_cons_zero, List.set_cons_succ, List.getElem_toArray, List.getElem_cons_zero, List.getElem_cons_succ]
        refine wpAnyH_take (i := 11) (v := ?v11_22) rfl (by kernel_rfl) (by kernel_rfl) (by kernel_rfl) (fun _ _ _ h => h) (Or.inl ⟨by rfl, ?hy11_22⟩) (by assumption) ?rest11_22
        case hy11_22 => (intro w9 hSw; clear hSw; go_simp; try with_reducible rfl)
        try simp only [Act.put, List.setIfInBounds_toArray, List.set_cons_zero, List.set_cons_succ, List.getElem_toArray, List.getElem_cons_zero, List.getElem_cons_succ]
        refine wpAnyH_take (i := 12) (v := ?v12_23) rfl (by kernel_rfl) (by kernel_rfl) (by kernel_rfl) (fun _ _ _ h => h) (Or.inl ⟨by rfl, ?hy12_23⟩) (by assumption) ?rest12_23
        case hy12_23 => (intro w9 hSw; clear hSw; go_simp; try with_reducible rfl)
        try simp only [Act.put, List.setIfInBounds_toArray, List.set_cons_zero, List.set_cons_succ, List.getElem_toArray, List.getElem_cons_zero, List.getElem_cons_succ]
        refine wpAnyH_done (by kernel_rfl) ?_ _
        go_wp2_with fail
        go_ret
        exact ⟨rfl, bz⟩
      · have dj : decide (j < 0) = false := decide_eq_false (by omega)
        rcases Int.lt_or_le j N9 with g4 | g4
        · have dn : decide (N9 ≤ j) = false := decide_eq_false (by omega)
          obtain ⟨jn, rfl⟩ : ∃ jn : Nat, j = (jn : Int) := ⟨j.toNat, by omega⟩
          obtain ⟨hE, hin, hLL, hDD⟩ := put_in hp9 hv8 R0 C0 C.toNat l1 (j := jn) x (by rw [hN9]; exact g4)
          have pP : ∀ (W : World) (B : Nat) (h : St W B s g cap C.toNat l1), Calls Try.prog 40 #[V3.V, .int .i64 (jn : Int), .float .f64 X9] W (Wrote W B s g cap C.toNat 0 (l1.set (V3.ix C.toNat (V3.ai jn) (V3.aj jn)).toNat x)) := fun W B h => by have := Put_any h hvl1 (jn : Int) bj.2.2.1 bj.2.2.2; rw [hE, hLL, hX9] at this; exact this
          clear hE hLL
          obtain ⟨cD14_0, cD14_1, cD14_2, cD14_3, cD14_4, cD14_5, cD14_6, cD14_7, cD14_8⟩ := Vbx.cells D14
          go_wp2_with fail
          with_reducible refine (pP _ _ hT.st).mono ?_
          rintro e w10 ⟨rfl, hst2, hg⟩
          replace DM := DM.grown hg (by simp; omega)
          replace D7 := D7.grown hg (by simp; omega)
          replace D8 := D8.grown hg (by simp; omega)
          replace D14 := D14.grown hg (by simp; omega)
          replace D15 := D15.grown hg (by simp; omega)
          replace hP := hP.left hg
          replace hP3 := hP3.left hg
          replace hF := hF.grown hg (by omega)
          replace bz := bz.grown hg bz.size (fun k e => by cases e; omega)
          replace hT := hT.left hst2 (by first | rfl | simp) hg
          clear hst2 hg pP cD14_0 cD14_1 cD14_2 cD14_3 cD14_4 cD14_5 cD14_6 cD14_7 cD14_8
          go_wp2_with fail
          with_reducible refine (num_any _ _).mono ?_
          rintro e v99 ⟨rfl, rfl⟩
          obtain ⟨cD15_0, cD15_1, cD15_2, cD15_3, cD15_4⟩ := Rbx.cells D15
          go_wp2_with fail
          have pV := fun W => rVector_any (Ru.mk rA rn rc rR rC rA2 rn2 rc2 true) W
          have hv9 := HVEC.out
          rw [hv8] at hv9
          rw [hv9] at pV
          clear hv9
          with_reducible refine (pV _).mono ?_
          rintro e w11 ⟨rfl, hb⟩
          replace DM := DM.on hb
          replace hF := hF.on hb
          replace hT := hT.on hb
          replace hP := hP.on hb
          replace D7 := D7.on hb
          replace D8 := D8.on hb
          replace hP3 := hP3.on hb
          replace D14 := D14.on hb
          replace D15 := D15.on hb
          replace bz := bz.trans (hb.mono bz.size)
          clear hb pV cD15_0 cD15_1 cD15_2 cD15_3 cD15_4
          obtain ⟨cD15_0, cD15_1, cD15_2, cD15_3, cD15_4⟩ := Rbx.cells D15
          have pLn : ∀ W, Calls Try.prog 32 #[(Ru.mk rA rn rc rR rC rA2 rn2 rc2 true).V] W (Ans W (.int .i64 N9)) := fun W => by have := rLen_any (Ru.mk rA rn rc rR rC rA2 rn2 rc2 true) (by show 0 ≤ rR; rw [HRC.out.1]; exact R0) (by show rR ≤ 512; rw [HRC.out.1]; exact R1) (by show 0 ≤ rC; rw [HRC.out.2]; exact C0) (by show rC ≤ 512; rw [HRC.out.2]; exact C1) W; rwa [show (Ru.mk rA rn rc rR rC rA2 rn2 rc2 true).len = N9 by unfold Ru.len; rw [HVEC.out, hv8]; show (if true = true then rR * rC else 0) = N9; rw [HRC.out.1, HRC.out.2]; exact hN9] at this
          go_wp2_with fail
          with_reducible refine (pLn _).mono ?_
          rintro e w12 ⟨rfl, hb⟩
          replace DM := DM.on hb
          replace hF := hF.on hb
          replace hT := hT.on hb
          replace hP := hP.on hb
          replace D7 := D7.on hb
          replace D8 := D8.on hb
          replace hP3 := hP3.on hb
          replace D14 := D14.on hb
          replace D15 := D15.on hb
          replace bz := bz.trans (hb.mono bz.size)
          clear hb pLn cD15_0 cD15_1 cD15_2 cD15_3 cD15_4
          go_wp2_with fail
          obtain ⟨d1, d2, d3⟩ := hP3.rk.data rfl
          simp only at d1 d2 d3
          obtain ⟨p, hp, hpn, _⟩ := hP3.vk.ins _ _ hin
          have hpD := hDD
          rw [hp] at hpD
          have hpx : (V3.ix C.toNat (V3.ai (jn : Int)) (V3.aj (jn : Int))).toNat = p := by rw [hp]; rfl
          rw [hpx] at hT
          clear hpx
          obtain ⟨ad2, hA2, hab2, hc2⟩ := hP3.rk.num.at_ (k := jn) (by rw [ats_length]; omega)
          rw [hpD] at hc2
          have hn2 := hP3.rk.n2
          rw [ats_length] at hn2
          simp only at hn2 hA2
          obtain ⟨g5, hA5, hgB, hgs⟩ := hT.sr.own.form (by rw [hT.sr.len]; omega)
          have hfar : ad2.block ≠ g5 := hP3.rk.far _ ad2 hA5 hA2
          have hcap := hT.sr.fl.max
          obtain ⟨g6, e6, hc6, hf6⟩ := hT.sr.own.at_ (k := p) (by rw [hT.sr.len]; omega)
          rw [hA5] at e6
          cases e6
          have j0 : (0 : Int) ≤ jn := by omega
          have j1 : (jn : Int) < rn2 := by omega
          have p0 : (0 : Int) ≤ p := by omega
          have p1 : (p : Int) < rn := by rw [d2]; omega
          have hjb : (jn : Int) ≤ 9223372036854775807 := by omega
          rw [hA5] at d1
          have HN2 := Lib.hid hn2
          have HD2 := Lib.hid (And.intro d2 d3)
          clear hn2 d2 d3 hpD
          replace DM := DM.drew
          replace hF := hF.drew
          replace hT := hT.drew
          replace hP := hP.drew
          replace D7 := D7.drew
          replace D8 := D8.drew
          replace hP3 := hP3.drew
          replace D14 := D14.drew
          replace D15 := D15.drew
          replace bz := bz.drew
          have hc2d : w12.drew.cell? (ad2.add jn) = some (.int .i64 (p : Int)) := hc2
          have hf6d : w12.drew.frozen? ⟨g5, p, none⟩ = false := hf6
          have hc6d := show w12.drew.cell? ⟨g5, p, none⟩ = some (.float .f64 (D l1 p).toNat) from hc6
          clear hc2 hf6 hc6
          refine wp_region_held_drew (S := fun w9 : World => Rbx w9 (HD14 + 1) (Ru.mk rA rn rc rR rC rA2 rn2 rc2 true) ∧ w9.cell? (ad2.add jn) = some (.int .i64 (p : Int))) (by kernel_rfl) ⟨D15, hc2d⟩ (fun hS => ?_)
          generalize w12.drew = W16 at hS DM hF hT hP D7 D8 hP3 D14 D15 hc2d hf6d hc6d bz ⊢
          refine wpAnyH_take (i := 0) (v := ?v0_24) rfl (by kernel_rfl) (by kernel_rfl) (by kernel_rfl) (fun _ _ _ h => h) (Or.inl ⟨by rfl, ?hy0_24⟩) (by assumption) ?rest0_24
          case hy0_24 => (intro w9 hSw; clear hSw; go_simp; try with_reducible rfl)
          try simp only [Act.put, List.setIfInBounds_toArray, List.set_cons_zero, List.set_cons_succ, List.getElem_toArray, List.getElem_cons_zero, List.getElem_cons_succ]
          refine wpAnyH_take (i := 1) (v := ?v1_25) rfl (by kernel_rfl) (by kernel_rfl) (by kernel_rfl) (fun _ _ _ h => h) (Or.inl ⟨by rfl, ?hy1_25⟩) (by assumption) ?rest1_25
          case hy1_25 => (intro w9 hSw; obtain ⟨sr, sc⟩ := hSw; obtain ⟨q0, q1, q2, q3, q4⟩ := Rbx.cells sr; rw [d1] at q0; rw [hA2] at q3; go_simp; try with_reducible rfl)
          try simp only [Act.put, List.setIfInBounds_toArray, List.set_cons_zero, List.set_cons_succ, List.getElem_toArray, List.getElem_cons_zero, List.getElem_cons_succ]
          refine wpAnyH_take (i := 2) (v := ?v2_26) rfl (by kernel_rfl) (by kernel_rfl) (by kernel_rfl) (fun _ _ _ h => h) (Or.inl ⟨by rfl, ?hy2_26⟩) (by assumption) ?rest2_26
          case hy2_26 => (intro w9 hSw; clear hSw; go_simp; try with_reducible rfl)
          try simp only [Act.put, List.setIfInBounds_toArray, List.set_cons_zero, List.set_cons_succ, List.getElem_toArray, List.getElem_cons_zero, List.getElem_cons_succ]
          refine wpAnyH_take (i := 3) (v := ?v3_27) rfl (by kernel_rfl) (by kernel_rfl) (by kernel_rfl) (fun _ _ _ h => h) (Or.inl ⟨by rfl, ?hy3_27⟩) (by assumption) ?rest3_27
          case hy3_27 => (intro w9 hSw; obtain ⟨sr, sc⟩ := hSw; obtain ⟨q0, q1, q2, q3, q4⟩ := Rbx.cells sr; rw [d1] at q0; rw [hA2] at q3; go_simp; try with_reducible rfl)
          try simp only [Act.put, List.setIfInBounds_toArray, List.set_cons_zero, List.set_cons_succ, List.getElem_toArray, List.getElem_cons_zero, List.getElem_cons_succ]
          refine wpAnyH_take (i := 4) (v := ?v4_28) rfl (by kernel_rfl) (by kernel_rfl) (by kernel_rfl) (fun _ _ _ h => h) (Or.inl ⟨by rfl, ?hy4_28⟩) (by assumption) ?rest4_28
          case hy4_28 => (intro w9 hSw; clear hSw; go_simp; try with_reducible rfl)
          try simp only [Act.put, List.setIfInBounds_toArray, List.set_cons_zero, List.set_cons_succ, List.getElem_toArray, List.getElem_cons_zero, List.getElem_cons_succ]
          refine wpAnyH_take (i := 5) (v := ?v5_29) rfl (by kernel_rfl) (by kernel_rfl) (by kernel_rfl) (fun _ _ _ h => h) (Or.inl ⟨by rfl, ?hy5_29⟩) (by assumption) ?rest5_29
          case hy5_29 => (intro w9 hSw; clear hSw; go_simp; try with_reducible rfl)
          try simp only [Act.put, List.setIfInBounds_toArray, List.set_cons_zero, List.set_cons_succ, List.getElem_toArray, List.getElem_cons_zero, List.getElem_cons_succ]
          refine wpAnyH_take (i := 6) (v := ?v6_30) rfl (by kernel_rfl) (by kernel_rfl) (by kernel_rfl) (fun _ _ _ h => h) (Or.inl ⟨by rfl, ?hy6_30⟩) (by assumption) ?rest6_30
          case hy6_30 => (intro w9 hSw; obtain ⟨sr, sc⟩ := hSw; obtain ⟨q0, q1, q2, q3, q4⟩ := Rbx.cells sr; rw [d1] at q0; rw [hA2] at q3; go_simp; try with_reducible rfl)
          try simp only [Act.put, List.setIfInBounds_toArray, List.set_cons_zero, List.set_cons_succ, List.getElem_toArray, List.getElem_cons_zero, List.getElem_cons_succ]
          refine wpAnyH_take (i := 7) (v := ?v7_31) rfl (by kernel_rfl) (by kernel_rfl) (by kernel_rfl) (fun _ _ _ h => h) (Or.inl ⟨by rfl, ?hy7_31⟩) (by assumption) ?rest7_31
          case hy7_31 => (intro w9 hSw; clear hSw; go_simp; try with_reducible rfl)
          try simp only [Act.put, List.setIfInBounds_toArray, List.set_cons_zero, List.set_cons_succ, List.getElem_toArray, List.getElem_cons_zero, List.getElem_cons_succ]
          refine wpAnyH_take (i := 8) (v := ?v8_32) rfl (by kernel_rfl) (by kernel_rfl) (by kernel_rfl) (fun _ _ _ h => h) (Or.inl ⟨by rfl, ?hy8_32⟩) (by assumption) ?rest8_32
          case hy8_32 => (intro w9 hSw; clear hSw; go_simp; try with_reducible rfl)
          try simp only [Act.put, List.setIfInBounds_toArray, List.set_cons_zero, List.set_cons_succ, List.getElem_toArray, List.getElem_cons_zero, List.getElem_cons_succ]
          refine wpAnyH_ready (rs := [9]) (by kernel_rfl) (by simp) ?_
          refine AllReadyH.cons rfl (fun K hK => ?_) AllReadyH.nil
          go_simp
          have hg : World.grownBy W16 (W16.setCell ⟨g5, p, none⟩ (fV x)) (some g5) := setb_grown (World.grownBy.refl _ _) p _
          have hsr2 : Sr (W16.setCell ⟨g5, p, none⟩ (fV x)) _ A5 n c5 (l1.set p x) := ⟨by have h9 := hT.sr.own; rw [hA5] at h9 ⊢; exact h9.set_ p x, by rw [List.length_set]; exact hT.sr.len, wd_set hT.sr.wd bj.2.2.1 bj.2.2.2 p⟩
          have hg5 : w.heap.size < g5 ∧ g5 < HD7 := ⟨hge.2.2 _ hA5, hlt.2.2 _ hA5⟩
          have hg2 : World.grownBy W16 (W16.setCell ⟨g5, p, none⟩ (fV x)) (A5.map (·.block)) := by rw [hA5]; exact hg
          replace DM := DM.grown hg (by simp; omega)
          replace D7 := D7.grown hg (by simp; omega)
          replace D8 := D8.grown hg (by simp; omega)
          replace D14 := D14.grown hg (by simp; omega)
          replace D15 := D15.grown hg (by simp; omega)
          replace hP := hP.right hg2
          replace hP3 := hP3.right hg2
          replace hF := hF.grown hg (by omega)
          replace bz := bz.grown hg bz.size (fun k e => by cases e; omega)
          replace hT := hT.right hsr2 hg2
          have hX9f : fV x = .float .f64 X9 := by rw [← hX9]
          simp only [hX9f] at hT DM D7 D8 D14 D15 hP hP3 hF bz hg
          refine hK.out _ _ ⟨D15, (World.cell?_of_block (Below.heap_setCell _ ⟨g5, p, none⟩ _ _ (by simp only [add_block]; omega))).trans hc2d⟩ (fun hH => ?_)
          clear hK K hS
          have hS := hH
          clear hH
          try simp only [Act.put, List.setIfInBounds_toArray, List.set_cons_zero, List.set_cons_succ, List.getElem_toArray, List.getElem_cons_zero, List.getElem_cons_succ]
          refine wpAnyH_done (by kernel_rfl) ?_ _
          generalize (W16.setCell ⟨g5, p, none⟩ (.float .f64 X9)) = W8 at DM hF hT hP D7 D8 hP3 D14 D15 bz hS ⊢
          clear hS hc2d hf6d hc6d
          go_wp2_with fail
          replace DM := DM.drew
          replace hF := hF.drew
          replace hT := hT.drew
          replace hP := hP.drew
          replace D7 := D7.drew
          replace D8 := D8.drew
          replace hP3 := hP3.drew
          replace D14 := D14.drew
          replace D15 := D15.drew
          replace bz := bz.drew
          refine wp_region_held_drew (S := fun w9 : World => Vbx w9 HD7 (Vu.all s R C) ∧ Rbx w9 (HD7 + 1) r ∧ Vbx w9 HD14 V3 ∧ Rbx w9 (HD14 + 1) (Ru.mk rA rn rc rR rC rA2 rn2 rc2 true)) (by kernel_rfl) ⟨D7, D8, D14, D15⟩ (fun hS => ?_)
          refine wpAnyH_take (i := 0) (v := ?v0_33) rfl (by kernel_rfl) (by kernel_rfl) (by kernel_rfl) (fun _ _ _ h => h) (Or.inl ⟨by rfl, ?hy0_33⟩) (by assumption) ?rest0_33
          case hy0_33 => (intro w9 hSw; clear hSw; go_simp; try with_reducible rfl)
          try simp only [Act.put, List.setIfInBounds_toArray, List.set_cons_zero, List.set_cons_succ, List.getElem_toArray, List.getElem_cons_zero, List.getElem_cons_succ]
          refine wpAnyH_take (i := 1) (v := ?v1_34) rfl (by kernel_rfl) (by kernel_rfl) (by kernel_rfl) (fun _ _ _ h => h) (Or.inl ⟨by rfl, ?hy1_34⟩) (by assumption) ?rest1_34
          case hy1_34 => (intro w9 hSw; clear hSw; go_simp; try with_reducible rfl)
          try simp only [Act.put, List.setIfInBounds_toArray, List.set_cons_zero, List.set_cons_succ, List.getElem_toArray, List.getElem_cons_zero, List.getElem_cons_succ]
          refine wpAnyH_take (i := 2) (v := ?v2_35) rfl (by kernel_rfl) (by kernel_rfl) (by kernel_rfl) (fun _ _ _ h => h) (Or.inl ⟨by rfl, ?hy2_35⟩) (by assumption) ?rest2_35
          case hy2_35 => (intro w9 hSw; clear hSw; go_simp; try with_reducible rfl)
          try simp only [Act.put, List.setIfInBounds_toArray, List.set_cons_zero, List.set_cons_succ, List.getElem_toArray, List.getElem_cons_zero, List.getElem_cons_succ]
          refine wpAnyH_take (i := 3) (v := ?v3_36) rfl (by kernel_rfl) (by kernel_rfl) (by kernel_rfl) (fun _ _ _ h => h) (Or.inl ⟨by rfl, ?hy3_36⟩) (by assumption) ?rest3_36
          case hy3_36 => (intro w9 hSw; obtain ⟨sv, sr, sv2, sr2⟩ := hSw; obtain ⟨k0, k1, k2, k3, k4, k5, k6, k7, k8⟩ := Vbx.cells sv; obtain ⟨q0, q1, q2, q3, q4⟩ := Rbx.cells sr; obtain ⟨kk0, kk1, kk2, kk3, kk4, kk5, kk6, kk7, kk8⟩ := Vbx.cells sv2; obtain ⟨qq0, qq1, qq2, qq3, qq4⟩ := Rbx.cells sr2; go_simp; try with_reducible rfl)
          try simp only [Act.put, List.setIfInBounds_toArray, List.set_cons_zero, List.set_cons_succ, List.getElem_toArray, List.getElem_cons_zero, List.getElem_cons_succ]
          refine wpAnyH_take (i := 5) (v := ?v5_37) rfl (by kernel_rfl) (by kernel_rfl) (by kernel_rfl) (fun _ _ _ h => h) (Or.inl ⟨by rfl, ?hy5_37⟩) (by assumption) ?rest5_37
          case hy5_37 => (intro w9 hSw; obtain ⟨sv, sr, sv2, sr2⟩ := hSw; obtain ⟨k0, k1, k2, k3, k4, k5, k6, k7, k8⟩ := Vbx.cells sv; obtain ⟨q0, q1, q2, q3, q4⟩ := Rbx.cells sr; obtain ⟨kk0, kk1, kk2, kk3, kk4, kk5, kk6, kk7, kk8⟩ := Vbx.cells sv2; obtain ⟨qq0, qq1, qq2, qq3, qq4⟩ := Rbx.cells sr2; go_simp; try with_reducible rfl)
          try simp only [Act.put, List.setIfInBounds_toArray, List.set_cons_zero, List.set_cons_succ, List.getElem_toArray, List.getElem_cons_zero, List.getElem_cons_succ]
          refine wpAnyH_ready (rs := [4]) (by kernel_rfl) (by simp) ?_
          refine AllReadyH.cons rfl (fun K hK => ?_) AllReadyH.nil
          go_simp
          with_reducible refine (Matrix_fl hP.vk (fun _ => ⟨hT.st, by simpa using hl2⟩)).mono ?_
          rintro e w13 ⟨A7, c7, rfl, hX, hb⟩
          replace DM := DM.on hb
          replace hF := hF.on hb
          replace hT := hT.on hb
          replace hP := hP.on hb
          replace D7 := D7.on hb
          replace D8 := D8.on hb
          replace hP3 := hP3.on hb
          replace D14 := D14.on hb
          replace D15 := D15.on hb
          replace bz := bz.trans (hb.mono bz.size)
          clear hb
          refine hK.out _ _ ⟨D7, D8, D14, D15⟩ (fun hH => ?_)
          clear hK K hS
          have hS := hH
          clear hH
          try simp only [Act.put, List.setIfInBounds_toArray, List.set_cons_zero, List.set_cons_succ, List.getElem_toArray, List.getElem_cons_zero, List.getElem_cons_succ]
          refine wpAnyH_ready (rs := [6]) (by kernel_rfl) (by simp) ?_
          refine AllReadyH.cons rfl (fun K hK => ?_) AllReadyH.nil
          go_simp
          with_reducible refine (rMat_fl hP.rk hT.sr hP.vk).mono ?_
          rintro e w14 ⟨A8, c8, rfl, hY, hb⟩
          replace DM := DM.on hb
          replace hF := hF.on hb
          replace hT := hT.on hb
          replace hP := hP.on hb
          replace D7 := D7.on hb
          replace D8 := D8.on hb
          replace hP3 := hP3.on hb
          replace D14 := D14.on hb
          replace D15 := D15.on hb
          replace hX := hX.on hb
          replace bz := bz.trans (hb.mono bz.size)
          clear hb
          refine hK.out _ _ ⟨D7, D8, D14, D15⟩ (fun hH => ?_)
          clear hK K hS
          have hS := hH
          clear hH
          try simp only [Act.put, List.setIfInBounds_toArray, List.set_cons_zero, List.set_cons_succ, List.getElem_toArray, List.getElem_cons_zero, List.getElem_cons_succ]
          refine wpAnyH_ready (rs := [7]) (by kernel_rfl) (by simp) ?_
          refine AllReadyH.cons rfl (fun K hK => ?_) AllReadyH.nil
          go_simp
          with_reducible refine (SameM_true hX hY).mono ?_
          rintro e w15 ⟨rfl, hb⟩
          replace DM := DM.on hb
          replace hF := hF.on hb
          replace hT := hT.on hb
          replace hP := hP.on hb
          replace D7 := D7.on hb
          replace D8 := D8.on hb
          replace hP3 := hP3.on hb
          replace D14 := D14.on hb
          replace D15 := D15.on hb
          replace hX := hX.on hb
          replace hY := hY.on hb
          replace bz := bz.trans (hb.mono bz.size)
          clear hb hX hY
          refine hK.out _ _ ⟨D7, D8, D14, D15⟩ (fun hH => ?_)
          clear hK K hS
          have hS := hH
          clear hH
          try simp only [Act.put, List.setIfInBounds_toArray, List.set_cons_zero, List.set_cons_succ, List.getElem_toArray, List.getElem_cons_zero, List.getElem_cons_succ]
          refine wpAnyH_take (i := 8) (v := ?v8_38) rfl (by kernel_rfl) (by kernel_rfl) (by kernel_rfl) (fun _ _ _ h => h) (Or.inl ⟨by rfl, ?hy8_38⟩) (by assumption) ?rest8_38
          case hy8_38 => (intro w9 hSw; clear hSw; go_simp; try with_reducible rfl)
          try simp only [Act.put, List.setIfInBounds_toArray, List.set_cons_zero, List.set_cons_succ, List.getElem_toArray, List.getElem_cons_zero, List.getElem_cons_succ]
          refine wpAnyH_take (i := 9) (v := ?v9_39) rfl (by kernel_rfl) (by kernel_rfl) (by kernel_rfl) (fun _ _ _ h => h) (Or.inl ⟨by rfl, ?hy9_39⟩) (by assumption) ?rest9_39
          case hy9_39 => (intro w9 hSw; clear hSw; go_simp; try with_reducible rfl)
          try simp only [Act.put, List.setIfInBounds_toArray, List.set_cons_zero, List.set_cons_succ, List.getElem_toArray, List.getElem_cons_zero, List.getElem_cons_succ]
          refine wpAnyH_ready (rs := [10]) (by kernel_rfl) (by simp) ?_
          refine AllReadyH.cons rfl (fun K hK => ?_) AllReadyH.nil
          go_simp
          with_reducible refine (known_any _).mono ?_
          rintro e w16 ⟨rfl, hb⟩
          replace DM := DM.on hb
          replace hF := hF.on hb
          replace hT := hT.on hb
          replace hP := hP.on hb
          replace D7 := D7.on hb
          replace D8 := D8.on hb
          replace hP3 := hP3.on hb
          replace D14 := D14.on hb
          replace D15 := D15.on hb
          replace bz := bz.trans (hb.mono bz.size)
          clear hb
          refine hK.out _ _ ⟨D7, D8, D14, D15⟩ (fun hH => ?_)
          clear hK K hS
          have hS := hH
          clear hH
          try simp only [Act.put, List.setIfInBounds_toArray, List.set_cons_zero, List.set_cons_succ, List.getElem_toArray, List.getElem_cons_zero, List.getElem_cons_succ]
          refine wpAnyH_take (i := 11) (v := ?v11_40) rfl (by kernel_rfl) (by kernel_rfl) (by kernel_rfl) (fun _ _ _ h => h) (Or.inl ⟨by rfl, ?hy11_40⟩) (by assumption) ?rest11_40
          case hy11_40 => (intro w9 hSw; clear hSw; go_simp; try with_reducible rfl)
          try simp only [Act.put, List.setIfInBounds_toArray, List.set_cons_zero, List.set_cons_succ, List.getElem_toArray, List.getElem_cons_zero, List.getElem_cons_succ]
          refine wpAnyH_take (i := 12) (v := ?v12_41) rfl (by kernel_rfl) (by kernel_rfl) (by kernel_rfl) (fun _ _ _ h => h) (Or.inl ⟨by rfl, ?hy12_41⟩) (by assumption) ?rest12_41
          case hy12_41 => (intro w9 hSw; clear hSw; go_simp; try with_reducible rfl)
          try simp only [Act.put, List.setIfInBounds_toArray, List.set_cons_zero, List.set_cons_succ, List.getElem_toArray, List.getElem_cons_zero, List.getElem_cons_succ]
          refine wpAnyH_done (by kernel_rfl) ?_ _
          go_wp2_with fail
          go_ret
          exact ⟨rfl, bz⟩
        · obtain ⟨hE, hLL⟩ := put_out hp9 hv8 R0 C0 C.toNat l1 (j := j) x (by rw [hN9]; omega)
          have pP : ∀ (W : World) (B : Nat) (h : St W B s g cap C.toNat l1), Calls Try.prog 40 #[V3.V, .int .i64 j, .float .f64 X9] W (Wrote W B s g cap C.toNat 2 l1) := fun W B h => by have := Put_any h hvl1 j bj.2.2.1 bj.2.2.2; rw [hE, hLL, hX9] at this; exact this
          clear hE hLL
          obtain ⟨cD14_0, cD14_1, cD14_2, cD14_3, cD14_4, cD14_5, cD14_6, cD14_7, cD14_8⟩ := Vbx.cells D14
          go_wp2_with fail
          with_reducible refine (pP _ _ hT.st).mono ?_
          rintro e w10 ⟨rfl, hst2, hg⟩
          replace DM := DM.grown hg (by simp; omega)
          replace D7 := D7.grown hg (by simp; omega)
          replace D8 := D8.grown hg (by simp; omega)
          replace D14 := D14.grown hg (by simp; omega)
          replace D15 := D15.grown hg (by simp; omega)
          replace hP := hP.left hg
          replace hP3 := hP3.left hg
          replace hF := hF.grown hg (by omega)
          replace bz := bz.grown hg bz.size (fun k e => by cases e; omega)
          replace hT := hT.left hst2 (by first | rfl | simp) hg
          clear hst2 hg pP cD14_0 cD14_1 cD14_2 cD14_3 cD14_4 cD14_5 cD14_6 cD14_7 cD14_8
          go_wp2_with fail
          with_reducible refine (num_any _ _).mono ?_
          rintro e v99 ⟨rfl, rfl⟩
          obtain ⟨cD15_0, cD15_1, cD15_2, cD15_3, cD15_4⟩ := Rbx.cells D15
          go_wp2_with fail
          have pV := fun W => rVector_any (Ru.mk rA rn rc rR rC rA2 rn2 rc2 true) W
          have hv9 := HVEC.out
          rw [hv8] at hv9
          rw [hv9] at pV
          clear hv9
          with_reducible refine (pV _).mono ?_
          rintro e w11 ⟨rfl, hb⟩
          replace DM := DM.on hb
          replace hF := hF.on hb
          replace hT := hT.on hb
          replace hP := hP.on hb
          replace D7 := D7.on hb
          replace D8 := D8.on hb
          replace hP3 := hP3.on hb
          replace D14 := D14.on hb
          replace D15 := D15.on hb
          replace bz := bz.trans (hb.mono bz.size)
          clear hb pV cD15_0 cD15_1 cD15_2 cD15_3 cD15_4
          obtain ⟨cD15_0, cD15_1, cD15_2, cD15_3, cD15_4⟩ := Rbx.cells D15
          have pLn : ∀ W, Calls Try.prog 32 #[(Ru.mk rA rn rc rR rC rA2 rn2 rc2 true).V] W (Ans W (.int .i64 N9)) := fun W => by have := rLen_any (Ru.mk rA rn rc rR rC rA2 rn2 rc2 true) (by show 0 ≤ rR; rw [HRC.out.1]; exact R0) (by show rR ≤ 512; rw [HRC.out.1]; exact R1) (by show 0 ≤ rC; rw [HRC.out.2]; exact C0) (by show rC ≤ 512; rw [HRC.out.2]; exact C1) W; rwa [show (Ru.mk rA rn rc rR rC rA2 rn2 rc2 true).len = N9 by unfold Ru.len; rw [HVEC.out, hv8]; show (if true = true then rR * rC else 0) = N9; rw [HRC.out.1, HRC.out.2]; exact hN9] at this
          go_wp2_with fail
          with_reducible refine (pLn _).mono ?_
          rintro e w12 ⟨rfl, hb⟩
          replace DM := DM.on hb
          replace hF := hF.on hb
          replace hT := hT.on hb
          replace hP := hP.on hb
          replace D7 := D7.on hb
          replace D8 := D8.on hb
          replace hP3 := hP3.on hb
          replace D14 := D14.on hb
          replace D15 := D15.on hb
          replace bz := bz.trans (hb.mono bz.size)
          clear hb pLn cD15_0 cD15_1 cD15_2 cD15_3 cD15_4
          go_wp2_with fail
          replace DM := DM.drew
          replace hF := hF.drew
          replace hT := hT.drew
          replace hP := hP.drew
          replace D7 := D7.drew
          replace D8 := D8.drew
          replace hP3 := hP3.drew
          replace D14 := D14.drew
          replace D15 := D15.drew
          replace bz := bz.drew
          refine wp_region_held_drew (S := fun w9 : World => Vbx w9 HD7 (Vu.all s R C) ∧ Rbx w9 (HD7 + 1) r ∧ Vbx w9 HD14 V3 ∧ Rbx w9 (HD14 + 1) (Ru.mk rA rn rc rR rC rA2 rn2 rc2 true)) (by kernel_rfl) ⟨D7, D8, D14, D15⟩ (fun hS => ?_)
          refine wpAnyH_take (i := 0) (v := ?v0_42) rfl (by kernel_rfl) (by kernel_rfl) (by kernel_rfl) (fun _ _ _ h => h) (Or.inl ⟨by rfl, ?hy0_42⟩) (by assumption) ?rest0_42
          case hy0_42 => (intro w9 hSw; clear hSw; go_simp; try with_reducible rfl)
          try simp only [Act.put, List.setIfInBounds_toArray, List.set_cons_zero, List.set_cons_succ, List.getElem_toArray, List.getElem_cons_zero, List.getElem_cons_succ]
          refine wpAnyH_take (i := 1) (v := ?v1_43) rfl (by kernel_rfl) (by kernel_rfl) (by kernel_rfl) (fun _ _ _ h => h) (Or.inl ⟨by rfl, ?hy1_43⟩) (by assumption) ?rest1_43
          case hy1_43 => (intro w9 hSw; clear hSw; go_simp; try with_reducible rfl)
          try simp only [Act.put, List.setIfInBounds_toArray, List.set_cons_zero, List.set_cons_succ, List.getElem_toArray, List.getElem_cons_zero, List.getElem_cons_succ]
          refine wpAnyH_take (i := 2) (v := ?v2_44) rfl (by kernel_rfl) (by kernel_rfl) (by kernel_rfl) (fun _ _ _ h => h) (Or.inl ⟨by rfl, ?hy2_44⟩) (by assumption) ?rest2_44
          case hy2_44 => (intro w9 hSw; clear hSw; go_simp; try with_reducible rfl)
          try simp only [Act.put, List.setIfInBounds_toArray, List.set_cons_zero, List.set_cons_succ, List.getElem_toArray, List.getElem_cons_zero, List.getElem_cons_succ]
          refine wpAnyH_take (i := 3) (v := ?v3_45) rfl (by kernel_rfl) (by kernel_rfl) (by kernel_rfl) (fun _ _ _ h => h) (Or.inl ⟨by rfl, ?hy3_45⟩) (by assumption) ?rest3_45
          case hy3_45 => (intro w9 hSw; obtain ⟨sv, sr, sv2, sr2⟩ := hSw; obtain ⟨k0, k1, k2, k3, k4, k5, k6, k7, k8⟩ := Vbx.cells sv; obtain ⟨q0, q1, q2, q3, q4⟩ := Rbx.cells sr; obtain ⟨kk0, kk1, kk2, kk3, kk4, kk5, kk6, kk7, kk8⟩ := Vbx.cells sv2; obtain ⟨qq0, qq1, qq2, qq3, qq4⟩ := Rbx.cells sr2; go_simp; try with_reducible rfl)
          try simp only [Act.put, List.setIfInBounds_toArray, List.set_cons_zero, List.set_cons_succ, List.getElem_toArray, List.getElem_cons_zero, List.getElem_cons_succ]
          refine wpAnyH_take (i := 5) (v := ?v5_46) rfl (by kernel_rfl) (by kernel_rfl) (by kernel_rfl) (fun _ _ _ h => h) (Or.inl ⟨by rfl, ?hy5_46⟩) (by assumption) ?rest5_46
          case hy5_46 => (intro w9 hSw; obtain ⟨sv, sr, sv2, sr2⟩ := hSw; obtain ⟨k0, k1, k2, k3, k4, k5, k6, k7, k8⟩ := Vbx.cells sv; obtain ⟨q0, q1, q2, q3, q4⟩ := Rbx.cells sr; obtain ⟨kk0, kk1, kk2, kk3, kk4, kk5, kk6, kk7, kk8⟩ := Vbx.cells sv2; obtain ⟨qq0, qq1, qq2, qq3, qq4⟩ := Rbx.cells sr2; go_simp; try with_reducible rfl)
          try simp only [Act.put, List.setIfInBounds_toArray, List.set_cons_zero, List.set_cons_succ, List.getElem_toArray, List.getElem_cons_zero, List.getElem_cons_succ]
          refine wpAnyH_ready (rs := [4]) (by kernel_rfl) (by simp) ?_
          refine AllReadyH.cons rfl (fun K hK => ?_) AllReadyH.nil
          go_simp
          with_reducible refine (Matrix_fl hP.vk (fun _ => ⟨hT.st, by simpa using hl2⟩)).mono ?_
          rintro e w13 ⟨A7, c7, rfl, hX, hb⟩
          replace DM := DM.on hb
          replace hF := hF.on hb
          replace hT := hT.on hb
          replace hP := hP.on hb
          replace D7 := D7.on hb
          replace D8 := D8.on hb
          replace hP3 := hP3.on hb
          replace D14 := D14.on hb
          replace D15 := D15.on hb
          replace bz := bz.trans (hb.mono bz.size)
          clear hb
          refine hK.out _ _ ⟨D7, D8, D14, D15⟩ (fun hH => ?_)
          clear hK K hS
          have hS := hH
          clear hH
          try simp only [Act.put, List.setIfInBounds_toArray, List.set_cons_zero, List.set_cons_succ, List.getElem_toArray, List.getElem_cons_zero, List.getElem_cons_succ]
          refine wpAnyH_ready (rs := [6]) (by kernel_rfl) (by simp) ?_
          refine AllReadyH.cons rfl (fun K hK => ?_) AllReadyH.nil
          go_simp
          with_reducible refine (rMat_fl hP.rk hT.sr hP.vk).mono ?_
          rintro e w14 ⟨A8, c8, rfl, hY, hb⟩
          replace DM := DM.on hb
          replace hF := hF.on hb
          replace hT := hT.on hb
          replace hP := hP.on hb
          replace D7 := D7.on hb
          replace D8 := D8.on hb
          replace hP3 := hP3.on hb
          replace D14 := D14.on hb
          replace D15 := D15.on hb
          replace hX := hX.on hb
          replace bz := bz.trans (hb.mono bz.size)
          clear hb
          refine hK.out _ _ ⟨D7, D8, D14, D15⟩ (fun hH => ?_)
          clear hK K hS
          have hS := hH
          clear hH
          try simp only [Act.put, List.setIfInBounds_toArray, List.set_cons_zero, List.set_cons_succ, List.getElem_toArray, List.getElem_cons_zero, List.getElem_cons_succ]
          refine wpAnyH_ready (rs := [7]) (by kernel_rfl) (by simp) ?_
          refine AllReadyH.cons rfl (fun K hK => ?_) AllReadyH.nil
          go_simp
          with_reducible refine (SameM_true hX hY).mono ?_
          rintro e w15 ⟨rfl, hb⟩
          replace DM := DM.on hb
          replace hF := hF.on hb
          replace hT := hT.on hb
          replace hP := hP.on hb
          replace D7 := D7.on hb
          replace D8 := D8.on hb
          replace hP3 := hP3.on hb
          replace D14 := D14.on hb
          replace D15 := D15.on hb
          replace hX := hX.on hb
          replace hY := hY.on hb
          replace bz := bz.trans (hb.mono bz.size)
          clear hb hX hY
          refine hK.out _ _ ⟨D7, D8, D14, D15⟩ (fun hH => ?_)
          clear hK K hS
          have hS := hH
          clear hH
          try simp only [Act.put, List.setIfInBounds_toArray, List.set_cons_zero, List.set_cons_succ, List.getElem_toArray, List.getElem_cons_zero, List.getElem_cons_succ]
          refine wpAnyH_take (i := 8) (v := ?v8_47) rfl (by kernel_rfl) (by kernel_rfl) (by kernel_rfl) (fun _ _ _ h => h) (Or.inl ⟨by rfl, ?hy8_47⟩) (by assumption) ?rest8_47
          case hy8_47 => (intro w9 hSw; clear hSw; go_simp; try with_reducible rfl)
          try simp only [Act.put, List.setIfInBounds_toArray, List.set_cons_zero, List.set_cons_succ, List.getElem_toArray, List.getElem_cons_zero, List.getElem_cons_succ]
          refine wpAnyH_take (i := 9) (v := ?v9_48) rfl (by kernel_rfl) (by kernel_rfl) (by kernel_rfl) (fun _ _ _ h => h) (Or.inl ⟨by rfl, ?hy9_48⟩) (by assumption) ?rest9_48
          case hy9_48 => (intro w9 hSw; clear hSw; go_simp; try with_reducible rfl)
          try simp only [Act.put, List.setIfInBounds_toArray, List.set_cons_zero, List.set_cons_succ, List.getElem_toArray, List.getElem_cons_zero, List.getElem_cons_succ]
          refine wpAnyH_ready (rs := [10]) (by kernel_rfl) (by simp) ?_
          refine AllReadyH.cons rfl (fun K hK => ?_) AllReadyH.nil
          go_simp
          with_reducible refine (known_any _).mono ?_
          rintro e w16 ⟨rfl, hb⟩
          replace DM := DM.on hb
          replace hF := hF.on hb
          replace hT := hT.on hb
          replace hP := hP.on hb
          replace D7 := D7.on hb
          replace D8 := D8.on hb
          replace hP3 := hP3.on hb
          replace D14 := D14.on hb
          replace D15 := D15.on hb
          replace bz := bz.trans (hb.mono bz.size)
          clear hb
          refine hK.out _ _ ⟨D7, D8, D14, D15⟩ (fun hH => ?_)
          clear hK K hS
          have hS := hH
          clear hH
          try simp only [Act.put, List.setIfInBounds_toArray, List.set_cons_zero, List.set_cons_succ, List.getElem_toArray, List.getElem_cons_zero, List.getElem_cons_succ]
          refine wpAnyH_take (i := 11) (v := ?v11_49) rfl (by kernel_rfl) (by kernel_rfl) (by kernel_rfl) (fun _ _ _ h => h) (Or.inl ⟨by rfl, ?hy11_49⟩) (by assumption) ?rest11_49
          case hy11_49 => (intro w9 hSw; clear hSw; go_simp; try with_reducible rfl)
          try simp only [Act.put, List.setIfInBounds_toArray, List.set_cons_zero, List.set_cons_succ, List.getElem_toArray, List.getElem_cons_zero, List.getElem_cons_succ]
          refine wpAnyH_take (i := 12) (v := ?v12_50) rfl (by kernel_rfl) (by kernel_rfl) (by kernel_rfl) (fun _ _ _ h => h) (Or.inl ⟨by rfl, ?hy12_50⟩) (by assumption) ?rest12_50
          case hy12_50 => (intro w9 hSw; clear hSw; go_simp; try with_reducible rfl)
          try simp only [Act.put, List.setIfInBounds_toArray, List.set_cons_zero, List.set_cons_succ, List.getElem_toArray, List.getElem_cons_zero, List.getElem_cons_succ]
          refine wpAnyH_done (by kernel_rfl) ?_ _
          go_wp2_with fail
          go_ret
          exact ⟨rfl, bz⟩
  · have hrb : rb = false := by rw [hb3, hp9]; rfl
    clear hb3
    subst hrb
    have hV0 := hP3.vk.none_ (by simpa using hp9)
    obtain ⟨hE, hLL⟩ := put_zero C.toNat l1 j x
    rw [← hV0] at hE hLL
    clear hV0
    have pP : ∀ (W : World) (B : Nat) (h : St W B s g cap C.toNat l1), Calls Try.prog 40 #[V3.V, .int .i64 j, .float .f64 X9] W (Wrote W B s g cap C.toNat 1 l1) := fun W B h => by have := Put_any h hvl1 j bj.2.2.1 bj.2.2.2; rw [hE, hLL, hX9] at this; exact this
    clear hE hLL
    obtain ⟨cD14_0, cD14_1, cD14_2, cD14_3, cD14_4, cD14_5, cD14_6, cD14_7, cD14_8⟩ := Vbx.cells D14
    go_wp2_with fail
    with_reducible refine (pP _ _ hT.st).mono ?_
    rintro e w10 ⟨rfl, hst2, hg⟩
    replace DM := DM.grown hg (by simp; omega)
    replace D7 := D7.grown hg (by simp; omega)
    replace D8 := D8.grown hg (by simp; omega)
    replace D14 := D14.grown hg (by simp; omega)
    replace D15 := D15.grown hg (by simp; omega)
    replace hP := hP.left hg
    replace hP3 := hP3.left hg
    replace hF := hF.grown hg (by omega)
    replace bz := bz.grown hg bz.size (fun k e => by cases e; omega)
    replace hT := hT.left hst2 (by first | rfl | simp) hg
    clear hst2 hg pP cD14_0 cD14_1 cD14_2 cD14_3 cD14_4 cD14_5 cD14_6 cD14_7 cD14_8
    go_wp2_with fail
    with_reducible refine (num_any _ _).mono ?_
    rintro e v99 ⟨rfl, rfl⟩
    obtain ⟨cD15_0, cD15_1, cD15_2, cD15_3, cD15_4⟩ := Rbx.cells D15
    go_wp2_with fail
    with_reducible refine (known_any _).mono ?_
    rintro e w11 ⟨rfl, hb⟩
    replace DM := DM.on hb
    replace hF := hF.on hb
    replace hT := hT.on hb
    replace hP := hP.on hb
    replace D7 := D7.on hb
    replace D8 := D8.on hb
    replace hP3 := hP3.on hb
    replace D14 := D14.on hb
    replace D15 := D15.on hb
    replace bz := bz.trans (hb.mono bz.size)
    go_wp2_with fail
    go_ret
    exact ⟨rfl, bz⟩
theorem law_sets (h : FL w A n c l) (hL : SL w w.heap.size A9 m c9 ss) (bj : ((-9223372036854775808 ≤ i ∧ i ≤ 9223372036854775807) ∧ (-9223372036854775808 ≤ j ∧ j ≤ 9223372036854775807) ∧ 0 ≤ x ∧ x ≤ 18446744073709551615)) : Calls Try.prog 6 #[mV R C A n c, .slice A9 m c9, .int .i64 i, .int .i64 j, .float .f64 x.toNat] w (Ans w (.bool true)) := by
  cases hb1 : bigB n
  · cases hm : decide ((12 : Int) < m)
    · cases hm1 : mayB R C n
      · exact sets_3 h hL bj hb1 hm hm1
      · exact sets_4 h hL bj hb1 hm hm1
    · exact sets_2 h hL bj hb1 hm
  · exact sets_1 h hL bj hb1
end
end Go.Proofs.Ytceoefgjjekgaaa
