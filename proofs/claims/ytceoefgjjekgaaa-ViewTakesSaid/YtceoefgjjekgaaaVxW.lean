/-
  Layer 7: the law ViewTakes. (Written by wip/tools/gen_vxw.py.)
-/
import Derived.Test.YtceoefgjjekgaaaVxV
namespace Go.Proofs.Ytceoefgjjekgaaa
open Go.RowKit Go.Bw Go.Sort Go.Shelf
set_option linter.unusedVariables false
set_option linter.unusedSimpArgs false
attribute [local go_sem] run_store_float

section
variable {w : World} {R C : Int} {A : Option Addr} {n c : Nat} {l : List Int} {A9 A10 : Option Addr} {m c9 m2 c10 : Nat} {ss ss2 : List Sp} {x : Int}
set_option maxRecDepth 100000 in
set_option maxHeartbeats 16000000 in
theorem takes_1 (h : FL w A n c l) (hL : SL w w.heap.size A9 m c9 ss) (hL2 : SL w w.heap.size A10 m2 c10 ss2) (bj : 0 ≤ x ∧ x ≤ 18446744073709551615) (hb1 : bigB n = true) :
    Calls Try.prog 7 #[mV R C A n c, .slice A9 m c9, .slice A10 m2 c10, .float .f64 x.toNat] w (Ans w (.bool true)) := by
  have pb := fun W => big_any R C A n c h.max W
  have pM := fun W => May_any R C A n c W h.max
  have hll := h.1
  have hmm9 := hL.2.1
  have hmm10 := hL2.2.1
  rw [hb1] at pb
  clear hb1
  have DM := Blk.new w [.int .i64 R, .int .i64 C, .slice A n c] 24
  have bz := (Below.refl _ w).alloc (Nat.le_refl _) (.cells #[.int .i64 R, .int .i64 C, .slice A n c] 24)
  have hF := h.lo.on bz
  replace hL := hL.on bz
  replace hL2 := hL2.on bz
  clear h
  go_enter Try.func7, Try.ntmps7
  obtain ⟨c0, c1, c2, f0, f1, f2⟩ := Mbx.cells DM
  go_wp2_with fail
  with_reducible refine (pb _).mono ?_
  rintro e w1 ⟨rfl, hb⟩
  replace DM := DM.on hb
  replace hF := hF.on hb
  replace hL := hL.on hb
  replace hL2 := hL2.on hb
  replace bz := bz.trans (hb.mono bz.size)
  clear hb c0 c1 c2 f0 f1 f2
  go_wp2_with fail
  with_reducible refine (known_any _).mono ?_
  rintro e w2 ⟨rfl, hb⟩
  replace DM := DM.on hb
  replace hF := hF.on hb
  replace hL := hL.on hb
  replace hL2 := hL2.on hb
  replace bz := bz.trans (hb.mono bz.size)
  go_wp2_with fail
  go_ret
  exact ⟨rfl, bz⟩
set_option maxRecDepth 100000 in
set_option maxHeartbeats 16000000 in
theorem takes_2 (h : FL w A n c l) (hL : SL w w.heap.size A9 m c9 ss) (hL2 : SL w w.heap.size A10 m2 c10 ss2) (bj : 0 ≤ x ∧ x ≤ 18446744073709551615) (hb1 : bigB n = false) (hm : decide ((12 : Int) < m) = true) :
    Calls Try.prog 7 #[mV R C A n c, .slice A9 m c9, .slice A10 m2 c10, .float .f64 x.toNat] w (Ans w (.bool true)) := by
  have pb := fun W => big_any R C A n c h.max W
  have pM := fun W => May_any R C A n c W h.max
  have hll := h.1
  have hmm9 := hL.2.1
  have hmm10 := hL2.2.1
  rw [hb1] at pb
  clear hb1
  have DM := Blk.new w [.int .i64 R, .int .i64 C, .slice A n c] 24
  have bz := (Below.refl _ w).alloc (Nat.le_refl _) (.cells #[.int .i64 R, .int .i64 C, .slice A n c] 24)
  have hF := h.lo.on bz
  replace hL := hL.on bz
  replace hL2 := hL2.on bz
  clear h
  go_enter Try.func7, Try.ntmps7
  obtain ⟨c0, c1, c2, f0, f1, f2⟩ := Mbx.cells DM
  go_wp2_with fail
  with_reducible refine (pb _).mono ?_
  rintro e w1 ⟨rfl, hb⟩
  replace DM := DM.on hb
  replace hF := hF.on hb
  replace hL := hL.on hb
  replace hL2 := hL2.on hb
  replace bz := bz.trans (hb.mono bz.size)
  clear hb c0 c1 c2 f0 f1 f2
  go_wp2_with fail
  with_reducible refine (known_any _).mono ?_
  rintro e w2 ⟨rfl, hb⟩
  replace DM := DM.on hb
  replace hF := hF.on hb
  replace hL := hL.on hb
  replace hL2 := hL2.on hb
  replace bz := bz.trans (hb.mono bz.size)
  go_wp2_with fail
  go_ret
  exact ⟨rfl, bz⟩
set_option maxRecDepth 100000 in
set_option maxHeartbeats 16000000 in
theorem takes_3 (h : FL w A n c l) (hL : SL w w.heap.size A9 m c9 ss) (hL2 : SL w w.heap.size A10 m2 c10 ss2) (bj : 0 ≤ x ∧ x ≤ 18446744073709551615) (hb1 : bigB n = false) (hm : decide ((12 : Int) < m) = false) (hm2 : decide ((12 : Int) < m2) = true) :
    Calls Try.prog 7 #[mV R C A n c, .slice A9 m c9, .slice A10 m2 c10, .float .f64 x.toNat] w (Ans w (.bool true)) := by
  have pb := fun W => big_any R C A n c h.max W
  have pM := fun W => May_any R C A n c W h.max
  have hll := h.1
  have hmm9 := hL.2.1
  have hmm10 := hL2.2.1
  rw [hb1] at pb
  clear hb1
  have DM := Blk.new w [.int .i64 R, .int .i64 C, .slice A n c] 24
  have bz := (Below.refl _ w).alloc (Nat.le_refl _) (.cells #[.int .i64 R, .int .i64 C, .slice A n c] 24)
  have hF := h.lo.on bz
  replace hL := hL.on bz
  replace hL2 := hL2.on bz
  clear h
  go_enter Try.func7, Try.ntmps7
  obtain ⟨c0, c1, c2, f0, f1, f2⟩ := Mbx.cells DM
  go_wp2_with fail
  with_reducible refine (pb _).mono ?_
  rintro e w1 ⟨rfl, hb⟩
  replace DM := DM.on hb
  replace hF := hF.on hb
  replace hL := hL.on hb
  replace hL2 := hL2.on hb
  replace bz := bz.trans (hb.mono bz.size)
  clear hb c0 c1 c2 f0 f1 f2
  go_wp2_with fail
  with_reducible refine (known_any _).mono ?_
  rintro e w2 ⟨rfl, hb⟩
  replace DM := DM.on hb
  replace hF := hF.on hb
  replace hL := hL.on hb
  replace hL2 := hL2.on hb
  replace bz := bz.trans (hb.mono bz.size)
  go_wp2_with fail
  go_ret
  exact ⟨rfl, bz⟩
set_option maxRecDepth 100000 in
set_option maxHeartbeats 16000000 in
theorem takes_4 (h : FL w A n c l) (hL : SL w w.heap.size A9 m c9 ss) (hL2 : SL w w.heap.size A10 m2 c10 ss2) (bj : 0 ≤ x ∧ x ≤ 18446744073709551615) (hb1 : bigB n = false) (hm : decide ((12 : Int) < m) = false) (hm2 : decide ((12 : Int) < m2) = false) (hm1 : mayB R C n = false) :
    Calls Try.prog 7 #[mV R C A n c, .slice A9 m c9, .slice A10 m2 c10, .float .f64 x.toNat] w (Ans w (.bool true)) := by
  have pb := fun W => big_any R C A n c h.max W
  have pM := fun W => May_any R C A n c W h.max
  have hll := h.1
  have hmm9 := hL.2.1
  have hmm10 := hL2.2.1
  rw [hb1] at pb
  rw [hm1] at pM
  have pO := fun (W : World) (hF : FL W A n c l) => open_no hF hm1
  clear hb1 hm1
  have DM := Blk.new w [.int .i64 R, .int .i64 C, .slice A n c] 24
  have bz := (Below.refl _ w).alloc (Nat.le_refl _) (.cells #[.int .i64 R, .int .i64 C, .slice A n c] 24)
  have hF := h.lo.on bz
  replace hL := hL.on bz
  replace hL2 := hL2.on bz
  clear h
  go_enter Try.func7, Try.ntmps7
  obtain ⟨c0, c1, c2, f0, f1, f2⟩ := Mbx.cells DM
  go_wp2_with fail
  with_reducible refine (pb _).mono ?_
  rintro e w1 ⟨rfl, hb⟩
  replace DM := DM.on hb
  replace hF := hF.on hb
  replace hL := hL.on hb
  replace hL2 := hL2.on hb
  replace bz := bz.trans (hb.mono bz.size)
  clear hb c0 c1 c2 f0 f1 f2
  obtain ⟨c0, c1, c2, f0, f1, f2⟩ := Mbx.cells DM
  go_wp2_with fail
  with_reducible refine (pO _ hF.fl).mono ?_
  rintro e w2 ⟨rfl, hb⟩
  replace DM := DM.on hb
  replace hF := hF.on hb
  replace hL := hL.on hb
  replace hL2 := hL2.on hb
  replace bz := bz.trans (hb.mono bz.size)
  clear hb c0 c1 c2 f0 f1 f2
  obtain ⟨HD7, eHD7⟩ : ∃ H, w2.heap.size = H := ⟨_, rfl⟩
  have D7 := (Blk.new w2 (Vu.zero).L 30).alloc (.cells (Ru.L Ru.zero).toArray 51)
  have D8 := Blk.new (w2.alloc (.cells (Vu.zero).L.toArray 30)) (Ru.L Ru.zero) 51
  rw [World.size_alloc, eHD7] at D8
  rw [eHD7] at D7
  replace DM := DM.on ((Below.refl _ _).alloc (Nat.le_refl _) (.cells (Vu.zero).L.toArray 30))
  replace hF := hF.on ((Below.refl _ _).alloc (Nat.le_refl _) (.cells (Vu.zero).L.toArray 30))
  replace hL := hL.on ((Below.refl _ _).alloc (Nat.le_refl _) (.cells (Vu.zero).L.toArray 30))
  replace hL2 := hL2.on ((Below.refl _ _).alloc (Nat.le_refl _) (.cells (Vu.zero).L.toArray 30))
  replace bz := bz.alloc bz.size (.cells (Vu.zero).L.toArray 30)
  replace DM := DM.on ((Below.refl _ _).alloc (Nat.le_refl _) (.cells (Ru.L Ru.zero).toArray 51))
  replace hF := hF.on ((Below.refl _ _).alloc (Nat.le_refl _) (.cells (Ru.L Ru.zero).toArray 51))
  replace hL := hL.on ((Below.refl _ _).alloc (Nat.le_refl _) (.cells (Ru.L Ru.zero).toArray 51))
  replace hL2 := hL2.on ((Below.refl _ _).alloc (Nat.le_refl _) (.cells (Ru.L Ru.zero).toArray 51))
  replace bz := bz.alloc bz.size (.cells (Ru.L Ru.zero).toArray 51)
  obtain ⟨c0, c1, c2, f0, f1, f2⟩ := Mbx.cells DM
  go_wp2_with fail
  with_reducible refine (pM _).mono ?_
  rintro e w3 ⟨rfl, hb⟩
  replace DM := DM.on hb
  replace hF := hF.on hb
  replace hL := hL.on hb
  replace hL2 := hL2.on hb
  replace D7 := D7.on hb
  replace D8 := D8.on hb
  replace bz := bz.trans (hb.mono bz.size)
  clear hb c0 c1 c2 f0 f1 f2
  go_wp2_with fail
  with_reducible refine (known_any _).mono ?_
  rintro e w4 ⟨rfl, hb⟩
  replace DM := DM.on hb
  replace hF := hF.on hb
  replace hL := hL.on hb
  replace hL2 := hL2.on hb
  replace D7 := D7.on hb
  replace D8 := D8.on hb
  replace bz := bz.trans (hb.mono bz.size)
  go_wp2_with fail
  go_ret
  exact ⟨rfl, bz⟩
set_option maxRecDepth 100000 in
set_option maxHeartbeats 16000000 in
theorem takes_5 (h : FL w A n c l) (hL : SL w w.heap.size A9 m c9 ss) (hL2 : SL w w.heap.size A10 m2 c10 ss2) (bj : 0 ≤ x ∧ x ≤ 18446744073709551615) (hb1 : bigB n = false) (hm : decide ((12 : Int) < m) = false) (hm2 : decide ((12 : Int) < m2) = false) (hm1 : mayB R C n = true) :
    Calls Try.prog 7 #[mV R C A n c, .slice A9 m c9, .slice A10 m2 c10, .float .f64 x.toNat] w (Ans w (.bool true)) := by
  have pb := fun W => big_any R C A n c h.max W
  have pM := fun W => May_any R C A n c W h.max
  have hll := h.1
  have hmm9 := hL.2.1
  have hmm10 := hL2.2.1
  have hm22 : m2 ≤ 12 := by have := of_decide_eq_false hm2; omega
  rw [hb1] at pb
  have q1 := Bool.and_eq_true_iff.1 hm1
  have hs1 : szB R C = true := q1.1
  have hl1 : (n : Int) = R * C := of_decide_eq_true q1.2
  have hm12 : m ≤ 12 := by have := of_decide_eq_false hm; omega
  have pO1 := fun (W : World) (hF : FL W A n c l) => open_yes hF hs1 hl1
  clear hb1 hm1 q1 hs1 hl1
  have DM := Blk.new w [.int .i64 R, .int .i64 C, .slice A n c] 24
  have bz := (Below.refl _ w).alloc (Nat.le_refl _) (.cells #[.int .i64 R, .int .i64 C, .slice A n c] 24)
  have hF := h.lo.on bz
  replace hL := hL.on bz
  replace hL2 := hL2.on bz
  clear h
  go_enter Try.func7, Try.ntmps7
  obtain ⟨c0, c1, c2, f0, f1, f2⟩ := Mbx.cells DM
  go_wp2_with fail
  with_reducible refine (pb _).mono ?_
  rintro e w1 ⟨rfl, hb⟩
  replace DM := DM.on hb
  replace hF := hF.on hb
  replace hL := hL.on hb
  replace hL2 := hL2.on hb
  replace bz := bz.trans (hb.mono bz.size)
  clear hb c0 c1 c2 f0 f1 f2
  obtain ⟨c0, c1, c2, f0, f1, f2⟩ := Mbx.cells DM
  have hz0 := DM.lt
  go_wp2_with fail
  with_reducible refine (pO1 _ hF.fl).mono ?_
  rintro e w2 ⟨s, g, cap, A5, c5, r, rfl, hT, hP, hlow, hb⟩
  replace DM := DM.on hb
  replace hF := hF.on hb
  replace hL := hL.on hb
  replace hL2 := hL2.on hb
  replace bz := bz.trans (hb.mono bz.size)
  clear hb c0 c1 c2 f0 f1 f2
  have hlt : s < w2.heap.size ∧ g < w2.heap.size ∧ ∀ a, A5 = some a → a.block < w2.heap.size := ⟨hT.st.lt, hT.st.gt.2, fun a e => (hT.sr.own.gt e).2⟩
  have hge : w.heap.size < s ∧ w.heap.size < g ∧ ∀ a, A5 = some a → w.heap.size < a.block := ⟨by have := hT.st.lo; omega, by have := hT.st.gt.1; omega, fun a e => by have := (hT.sr.own.gt e).1; omega⟩
  obtain ⟨HD7, eHD7⟩ : ∃ H, w2.heap.size = H := ⟨_, rfl⟩
  have D7 := (Blk.new w2 (Vu.all s R C).L 30).alloc (.cells (Ru.L r).toArray 51)
  have D8 := Blk.new (w2.alloc (.cells (Vu.all s R C).L.toArray 30)) (Ru.L r) 51
  rw [World.size_alloc, eHD7] at D8
  rw [eHD7] at D7
  have hzD7 := DM.lt
  rw [eHD7] at hzD7
  replace DM := DM.on ((Below.refl _ _).alloc (Nat.le_refl _) (.cells (Vu.all s R C).L.toArray 30))
  replace hF := hF.on ((Below.refl _ _).alloc (Nat.le_refl _) (.cells (Vu.all s R C).L.toArray 30))
  replace hL := hL.on ((Below.refl _ _).alloc (Nat.le_refl _) (.cells (Vu.all s R C).L.toArray 30))
  replace hL2 := hL2.on ((Below.refl _ _).alloc (Nat.le_refl _) (.cells (Vu.all s R C).L.toArray 30))
  replace hT := hT.on ((Below.refl _ _).alloc (Nat.le_refl _) (.cells (Vu.all s R C).L.toArray 30))
  replace hP := hP.on ((Below.refl _ _).alloc (Nat.le_refl _) (.cells (Vu.all s R C).L.toArray 30))
  replace bz := bz.alloc bz.size (.cells (Vu.all s R C).L.toArray 30)
  replace DM := DM.on ((Below.refl _ _).alloc (Nat.le_refl _) (.cells (Ru.L r).toArray 51))
  replace hF := hF.on ((Below.refl _ _).alloc (Nat.le_refl _) (.cells (Ru.L r).toArray 51))
  replace hL := hL.on ((Below.refl _ _).alloc (Nat.le_refl _) (.cells (Ru.L r).toArray 51))
  replace hL2 := hL2.on ((Below.refl _ _).alloc (Nat.le_refl _) (.cells (Ru.L r).toArray 51))
  replace hT := hT.on ((Below.refl _ _).alloc (Nat.le_refl _) (.cells (Ru.L r).toArray 51))
  replace hP := hP.on ((Below.refl _ _).alloc (Nat.le_refl _) (.cells (Ru.L r).toArray 51))
  replace bz := bz.alloc bz.size (.cells (Ru.L r).toArray 51)
  rw [eHD7] at hlt
  simp only [eHD7] at hlow
  obtain ⟨cD7_0, cD7_1, cD7_2, cD7_3, cD7_4, cD7_5, cD7_6, cD7_7, cD7_8⟩ := Vbx.cells D7
  obtain ⟨cD8_0, cD8_1, cD8_2, cD8_3, cD8_4⟩ := Rbx.cells D8
  have hzc := D8.lt
  go_wp2_with fail
  with_reducible refine (cut_any hT hP hL.more hm12).mono ?_
  rintro e w3 ⟨r3, rfl, hT3, hP3, hlw3, hb⟩
  replace DM := DM.on hb
  replace hF := hF.on hb
  replace hL := hL.on hb
  replace hL2 := hL2.on hb
  replace hT := hT.on hb
  replace hP := hP.on hb
  replace D7 := D7.on hb
  replace D8 := D8.on hb
  replace bz := bz.trans (hb.mono bz.size)
  replace hT := hT3
  clear hT3
  clear hb hzc cD7_0 cD7_1 cD7_2 cD7_3 cD7_4 cD7_5 cD7_6 cD7_7 cD7_8 cD8_0 cD8_1 cD8_2 cD8_3 cD8_4
  obtain ⟨V3, hV3⟩ : ∃ V, cutV (Vu.all s R C) ss = V := ⟨_, rfl⟩
  simp only [hV3] at hP3 ⊢
  clear hV3
  obtain ⟨HD12, eHD12⟩ : ∃ H, w3.heap.size = H := ⟨_, rfl⟩
  have D12 := (Blk.new w3 (V3).L 30).alloc (.cells (Ru.L r3).toArray 51)
  have D13 := Blk.new (w3.alloc (.cells (V3).L.toArray 30)) (Ru.L r3) 51
  rw [World.size_alloc, eHD12] at D13
  rw [eHD12] at D12
  have hzD12 := D8.lt
  rw [eHD12] at hzD12
  replace DM := DM.on ((Below.refl _ _).alloc (Nat.le_refl _) (.cells (V3).L.toArray 30))
  replace hF := hF.on ((Below.refl _ _).alloc (Nat.le_refl _) (.cells (V3).L.toArray 30))
  replace hL := hL.on ((Below.refl _ _).alloc (Nat.le_refl _) (.cells (V3).L.toArray 30))
  replace hL2 := hL2.on ((Below.refl _ _).alloc (Nat.le_refl _) (.cells (V3).L.toArray 30))
  replace hT := hT.on ((Below.refl _ _).alloc (Nat.le_refl _) (.cells (V3).L.toArray 30))
  replace hP := hP.on ((Below.refl _ _).alloc (Nat.le_refl _) (.cells (V3).L.toArray 30))
  replace D7 := D7.on ((Below.refl _ _).alloc (Nat.le_refl _) (.cells (V3).L.toArray 30))
  replace D8 := D8.on ((Below.refl _ _).alloc (Nat.le_refl _) (.cells (V3).L.toArray 30))
  replace hP3 := hP3.on ((Below.refl _ _).alloc (Nat.le_refl _) (.cells (V3).L.toArray 30))
  replace bz := bz.alloc bz.size (.cells (V3).L.toArray 30)
  replace DM := DM.on ((Below.refl _ _).alloc (Nat.le_refl _) (.cells (Ru.L r3).toArray 51))
  replace hF := hF.on ((Below.refl _ _).alloc (Nat.le_refl _) (.cells (Ru.L r3).toArray 51))
  replace hL := hL.on ((Below.refl _ _).alloc (Nat.le_refl _) (.cells (Ru.L r3).toArray 51))
  replace hL2 := hL2.on ((Below.refl _ _).alloc (Nat.le_refl _) (.cells (Ru.L r3).toArray 51))
  replace hT := hT.on ((Below.refl _ _).alloc (Nat.le_refl _) (.cells (Ru.L r3).toArray 51))
  replace hP := hP.on ((Below.refl _ _).alloc (Nat.le_refl _) (.cells (Ru.L r3).toArray 51))
  replace D7 := D7.on ((Below.refl _ _).alloc (Nat.le_refl _) (.cells (Ru.L r3).toArray 51))
  replace D8 := D8.on ((Below.refl _ _).alloc (Nat.le_refl _) (.cells (Ru.L r3).toArray 51))
  replace hP3 := hP3.on ((Below.refl _ _).alloc (Nat.le_refl _) (.cells (Ru.L r3).toArray 51))
  replace bz := bz.alloc bz.size (.cells (Ru.L r3).toArray 51)
  obtain ⟨cD7_0, cD7_1, cD7_2, cD7_3, cD7_4, cD7_5, cD7_6, cD7_7, cD7_8⟩ := Vbx.cells D7
  obtain ⟨cD8_0, cD8_1, cD8_2, cD8_3, cD8_4⟩ := Rbx.cells D8
  have hzc := D8.lt
  go_wp2_with fail
  with_reducible refine (cut_any hT hP hL2.more hm22).mono ?_
  rintro e w4 ⟨r4, rfl, hT3, hP4, hlw4, hb⟩
  replace DM := DM.on hb
  replace hF := hF.on hb
  replace hL := hL.on hb
  replace hL2 := hL2.on hb
  replace hT := hT.on hb
  replace hP := hP.on hb
  replace D7 := D7.on hb
  replace D8 := D8.on hb
  replace hP3 := hP3.on hb
  replace D12 := D12.on hb
  replace D13 := D13.on hb
  replace bz := bz.trans (hb.mono bz.size)
  replace hT := hT3
  clear hT3
  clear hb hzc cD7_0 cD7_1 cD7_2 cD7_3 cD7_4 cD7_5 cD7_6 cD7_7 cD7_8 cD8_0 cD8_1 cD8_2 cD8_3 cD8_4
  obtain ⟨V4, hV4⟩ : ∃ V, cutV (Vu.all s R C) ss2 = V := ⟨_, rfl⟩
  simp only [hV4] at hP4 ⊢
  clear hV4
  obtain ⟨HD14, eHD14⟩ : ∃ H, w4.heap.size = H := ⟨_, rfl⟩
  have D14 := (Blk.new w4 (V4).L 30).alloc (.cells (Ru.L r4).toArray 51)
  have D15 := Blk.new (w4.alloc (.cells (V4).L.toArray 30)) (Ru.L r4) 51
  rw [World.size_alloc, eHD14] at D15
  rw [eHD14] at D14
  have hzD14 := D13.lt
  rw [eHD14] at hzD14
  replace DM := DM.on ((Below.refl _ _).alloc (Nat.le_refl _) (.cells (V4).L.toArray 30))
  replace hF := hF.on ((Below.refl _ _).alloc (Nat.le_refl _) (.cells (V4).L.toArray 30))
  replace hL := hL.on ((Below.refl _ _).alloc (Nat.le_refl _) (.cells (V4).L.toArray 30))
  replace hL2 := hL2.on ((Below.refl _ _).alloc (Nat.le_refl _) (.cells (V4).L.toArray 30))
  replace hT := hT.on ((Below.refl _ _).alloc (Nat.le_refl _) (.cells (V4).L.toArray 30))
  replace hP := hP.on ((Below.refl _ _).alloc (Nat.le_refl _) (.cells (V4).L.toArray 30))
  replace D7 := D7.on ((Below.refl _ _).alloc (Nat.le_refl _) (.cells (V4).L.toArray 30))
  replace D8 := D8.on ((Below.refl _ _).alloc (Nat.le_refl _) (.cells (V4).L.toArray 30))
  replace hP3 := hP3.on ((Below.refl _ _).alloc (Nat.le_refl _) (.cells (V4).L.toArray 30))
  replace D12 := D12.on ((Below.refl _ _).alloc (Nat.le_refl _) (.cells (V4).L.toArray 30))
  replace D13 := D13.on ((Below.refl _ _).alloc (Nat.le_refl _) (.cells (V4).L.toArray 30))
  replace hP4 := hP4.on ((Below.refl _ _).alloc (Nat.le_refl _) (.cells (V4).L.toArray 30))
  replace bz := bz.alloc bz.size (.cells (V4).L.toArray 30)
  replace DM := DM.on ((Below.refl _ _).alloc (Nat.le_refl _) (.cells (Ru.L r4).toArray 51))
  replace hF := hF.on ((Below.refl _ _).alloc (Nat.le_refl _) (.cells (Ru.L r4).toArray 51))
  replace hL := hL.on ((Below.refl _ _).alloc (Nat.le_refl _) (.cells (Ru.L r4).toArray 51))
  replace hL2 := hL2.on ((Below.refl _ _).alloc (Nat.le_refl _) (.cells (Ru.L r4).toArray 51))
  replace hT := hT.on ((Below.refl _ _).alloc (Nat.le_refl _) (.cells (Ru.L r4).toArray 51))
  replace hP := hP.on ((Below.refl _ _).alloc (Nat.le_refl _) (.cells (Ru.L r4).toArray 51))
  replace D7 := D7.on ((Below.refl _ _).alloc (Nat.le_refl _) (.cells (Ru.L r4).toArray 51))
  replace D8 := D8.on ((Below.refl _ _).alloc (Nat.le_refl _) (.cells (Ru.L r4).toArray 51))
  replace hP3 := hP3.on ((Below.refl _ _).alloc (Nat.le_refl _) (.cells (Ru.L r4).toArray 51))
  replace D12 := D12.on ((Below.refl _ _).alloc (Nat.le_refl _) (.cells (Ru.L r4).toArray 51))
  replace D13 := D13.on ((Below.refl _ _).alloc (Nat.le_refl _) (.cells (Ru.L r4).toArray 51))
  replace hP4 := hP4.on ((Below.refl _ _).alloc (Nat.le_refl _) (.cells (Ru.L r4).toArray 51))
  replace bz := bz.alloc bz.size (.cells (Ru.L r4).toArray 51)
  clear hL hL2 pb pM
  obtain ⟨cD14_0, cD14_1, cD14_2, cD14_3, cD14_4, cD14_5, cD14_6, cD14_7, cD14_8⟩ := Vbx.cells D14
  have hzB := D15.lt
  go_wp2_with fail
  with_reducible refine (Copy_all hP4.vk hT.st hll).mono ?_
  rintro e w5 ⟨U, s5, g5, cap5, c5x, rfl, hC, hb⟩
  replace DM := DM.on hb
  replace hF := hF.on hb
  replace hT := hT.on hb
  replace hP := hP.on hb
  replace D7 := D7.on hb
  replace D8 := D8.on hb
  replace hP3 := hP3.on hb
  replace D12 := D12.on hb
  replace D13 := D13.on hb
  replace hP4 := hP4.on hb
  replace D14 := D14.on hb
  replace D15 := D15.on hb
  replace bz := bz.trans (hb.mono bz.size)
  obtain ⟨BCP, hBCP, hC⟩ : ∃ B, B = (((w4.alloc (.cells (V4).L.toArray 30)).alloc (.cells (Ru.L r4).toArray 51))).heap.size ∧ Cp w5 B U s5 g5 cap5 c5x (V4.fl C.toNat l) V4.R V4.C := ⟨_, rfl, hC⟩
  rw [← hBCP] at hzB
  clear hBCP
  have hs5 : s < BCP := by omega
  have hz15 := D15.lt
  clear hb cD14_0 cD14_1 cD14_2 cD14_3 cD14_4 cD14_5 cD14_6 cD14_7 cD14_8
  obtain ⟨H16, eH16⟩ : ∃ H, w5.heap.size = H := ⟨_, rfl⟩
  have D16 := Blk.new w5 (Vu.L U) 30
  rw [eH16] at D16 hz15
  replace DM := DM.on ((Below.refl _ _).alloc (Nat.le_refl _) (.cells (Vu.L U).toArray 30))
  replace hF := hF.on ((Below.refl _ _).alloc (Nat.le_refl _) (.cells (Vu.L U).toArray 30))
  replace hT := hT.on ((Below.refl _ _).alloc (Nat.le_refl _) (.cells (Vu.L U).toArray 30))
  replace hP := hP.on ((Below.refl _ _).alloc (Nat.le_refl _) (.cells (Vu.L U).toArray 30))
  replace D7 := D7.on ((Below.refl _ _).alloc (Nat.le_refl _) (.cells (Vu.L U).toArray 30))
  replace D8 := D8.on ((Below.refl _ _).alloc (Nat.le_refl _) (.cells (Vu.L U).toArray 30))
  replace hP3 := hP3.on ((Below.refl _ _).alloc (Nat.le_refl _) (.cells (Vu.L U).toArray 30))
  replace D12 := D12.on ((Below.refl _ _).alloc (Nat.le_refl _) (.cells (Vu.L U).toArray 30))
  replace D13 := D13.on ((Below.refl _ _).alloc (Nat.le_refl _) (.cells (Vu.L U).toArray 30))
  replace hP4 := hP4.on ((Below.refl _ _).alloc (Nat.le_refl _) (.cells (Vu.L U).toArray 30))
  replace D14 := D14.on ((Below.refl _ _).alloc (Nat.le_refl _) (.cells (Vu.L U).toArray 30))
  replace D15 := D15.on ((Below.refl _ _).alloc (Nat.le_refl _) (.cells (Vu.L U).toArray 30))
  replace hC := hC.on ((Below.refl _ _).alloc (Nat.le_refl _) (.cells (Vu.L U).toArray 30))
  replace bz := bz.alloc bz.size (.cells (Vu.L U).toArray 30)
  obtain ⟨cD15_0, cD15_1, cD15_2, cD15_3, cD15_4⟩ := Rbx.cells D15
  have hzW := D15.lt
  go_wp2_with fail
  with_reducible refine (rMat_fg hP4.rk hT.sr hP4.vk).mono ?_
  rintro e w6 ⟨A17, c17, rfl, hW, hlw17, hb⟩
  replace DM := DM.on hb
  replace hF := hF.on hb
  replace hT := hT.on hb
  replace hP := hP.on hb
  replace D7 := D7.on hb
  replace D8 := D8.on hb
  replace hP3 := hP3.on hb
  replace D12 := D12.on hb
  replace D13 := D13.on hb
  replace hP4 := hP4.on hb
  replace D14 := D14.on hb
  replace D15 := D15.on hb
  replace hC := hC.on hb
  replace D16 := D16.on hb
  replace bz := bz.trans (hb.mono bz.size)
  have hz16 := D16.lt
  clear hb cD15_0 cD15_1 cD15_2 cD15_3 cD15_4
  obtain ⟨FF, hFF⟩ : ∃ X, V4.fl C.toNat l = X := ⟨_, rfl⟩
  simp only [hFF] at hC hW ⊢
  have HFF := Lib.hid hFF
  clear hFF
  obtain ⟨NF, hNF⟩ : ∃ X, FF.length = X := ⟨_, rfl⟩
  simp only [hNF] at hW ⊢
  obtain ⟨H17, eH17⟩ : ∃ H, w6.heap.size = H := ⟨_, rfl⟩
  have D17 := Blk.new w6 [.int .i64 V4.R, .int .i64 V4.C, .slice A17 NF c17] 24
  rw [eH17] at D17 hz16
  replace DM := DM.on ((Below.refl _ _).alloc (Nat.le_refl _) (.cells #[.int .i64 V4.R, .int .i64 V4.C, .slice A17 NF c17] 24))
  replace hF := hF.on ((Below.refl _ _).alloc (Nat.le_refl _) (.cells #[.int .i64 V4.R, .int .i64 V4.C, .slice A17 NF c17] 24))
  replace hT := hT.on ((Below.refl _ _).alloc (Nat.le_refl _) (.cells #[.int .i64 V4.R, .int .i64 V4.C, .slice A17 NF c17] 24))
  replace hP := hP.on ((Below.refl _ _).alloc (Nat.le_refl _) (.cells #[.int .i64 V4.R, .int .i64 V4.C, .slice A17 NF c17] 24))
  replace D7 := D7.on ((Below.refl _ _).alloc (Nat.le_refl _) (.cells #[.int .i64 V4.R, .int .i64 V4.C, .slice A17 NF c17] 24))
  replace D8 := D8.on ((Below.refl _ _).alloc (Nat.le_refl _) (.cells #[.int .i64 V4.R, .int .i64 V4.C, .slice A17 NF c17] 24))
  replace hP3 := hP3.on ((Below.refl _ _).alloc (Nat.le_refl _) (.cells #[.int .i64 V4.R, .int .i64 V4.C, .slice A17 NF c17] 24))
  replace D12 := D12.on ((Below.refl _ _).alloc (Nat.le_refl _) (.cells #[.int .i64 V4.R, .int .i64 V4.C, .slice A17 NF c17] 24))
  replace D13 := D13.on ((Below.refl _ _).alloc (Nat.le_refl _) (.cells #[.int .i64 V4.R, .int .i64 V4.C, .slice A17 NF c17] 24))
  replace hP4 := hP4.on ((Below.refl _ _).alloc (Nat.le_refl _) (.cells #[.int .i64 V4.R, .int .i64 V4.C, .slice A17 NF c17] 24))
  replace D14 := D14.on ((Below.refl _ _).alloc (Nat.le_refl _) (.cells #[.int .i64 V4.R, .int .i64 V4.C, .slice A17 NF c17] 24))
  replace D15 := D15.on ((Below.refl _ _).alloc (Nat.le_refl _) (.cells #[.int .i64 V4.R, .int .i64 V4.C, .slice A17 NF c17] 24))
  replace hC := hC.on ((Below.refl _ _).alloc (Nat.le_refl _) (.cells #[.int .i64 V4.R, .int .i64 V4.C, .slice A17 NF c17] 24))
  replace D16 := D16.on ((Below.refl _ _).alloc (Nat.le_refl _) (.cells #[.int .i64 V4.R, .int .i64 V4.C, .slice A17 NF c17] 24))
  replace hW := hW.on ((Below.refl _ _).alloc (Nat.le_refl _) (.cells #[.int .i64 V4.R, .int .i64 V4.C, .slice A17 NF c17] 24))
  replace bz := bz.alloc bz.size (.cells #[.int .i64 V4.R, .int .i64 V4.C, .slice A17 NF c17] 24)
  have HA17 := Lib.hid (show ∀ a, A17 = some a → HD14 + 1 < a.block from fun a e => Nat.lt_of_lt_of_le hzW (hlw17 a e))
  clear hlw17 hzW
  obtain ⟨X9, hX9⟩ : ∃ X, x.toNat = X := ⟨_, rfl⟩
  rw [hX9]
  have hvT := hP4.vk
  obtain ⟨TE, hTE⟩ : ∃ X, takE V3 V4 = X := ⟨_, rfl⟩
  obtain ⟨TL, hTL⟩ : ∃ X, takL V3 V4 C.toNat l = X := ⟨_, rfl⟩
  obtain ⟨SB, hSB⟩ : ∃ b, shR (V3.ats C.toNat) (V4.ats C.toNat) = b := ⟨_, rfl⟩
  have pS := fun (W : World) (B : Nat) (h : Two W B s g cap C.toNat n l l A5 c5) => Shares_both h hP3.vk hP4.vk
  have pSr := fun (W : World) (h : Rk W A5 n c5 r3 V3 C.toNat) (h2 : Rk W A5 n c5 r4 V4 C.toNat) => rShares_any h h2
  have pT := fun (W : World) (B : Nat) (h : St W B s g cap C.toNat l) => Take_all hP3.vk hP4.vk h hll
  have pTr := fun (W : World) (B : Nat) (h : Sr W B A5 n c5 l) (h1 : Rk W A5 n c5 r3 V3 C.toNat) (h2 : Rk W A5 n c5 r4 V4 C.toNat) => rTake_all h1 h2 h hP3.vk hP4.vk
  have hTl : TL.length = l.length := by rw [← hTL]; exact takL_len _ _ _ _
  simp only [hTE, hTL] at pT pTr
  simp only [hSB] at pS pSr
  clear hTE hTL hSB
  have hne1 : (SB != SB) = false := by simp
  have hne2 : (TE != TE) = false := by simp
  go_wp2_with fail
  generalize (w6.alloc (.cells #[.int .i64 V4.R, .int .i64 V4.C, .slice A17 NF c17] 24)) = W1 at DM hF hT hP D7 D8 hP3 D12 D13 hP4 D14 D15 hC D16 hW D17 bz ⊢
  replace DM := DM.drew
  replace hF := hF.drew
  replace hT := hT.drew
  replace hP := hP.drew
  replace D7 := D7.drew
  replace D8 := D8.drew
  replace hP3 := hP3.drew
  replace D12 := D12.drew
  replace D13 := D13.drew
  replace hP4 := hP4.drew
  replace D14 := D14.drew
  replace D15 := D15.drew
  replace hC := hC.drew
  replace D16 := D16.drew
  replace hW := hW.drew
  replace D17 := D17.drew
  replace bz := bz.drew
  have hl2 : TL.length = n := by rw [hTl]; exact hll
  refine wp_region_held_drew (S := fun w9 : World => Vbx w9 HD7 (Vu.all s R C) ∧ Rbx w9 (HD7 + 1) r ∧ Vbx w9 HD12 V3 ∧ Rbx w9 (HD12 + 1) r3 ∧ Vbx w9 HD14 V4 ∧ Rbx w9 (HD14 + 1) r4 ∧ Vbx w9 H16 U ∧ Mbx w9 H17 V4.R V4.C A17 NF c17) (by kernel_rfl) ⟨D7, D8, D12, D13, D14, D15, D16, D17⟩ (fun hS => ?_)
  refine wpAnyH_take (i := 0) (v := ?v0_1) rfl (by kernel_rfl) (by kernel_rfl) (by kernel_rfl) (fun _ _ _ h => h) (Or.inl ⟨by rfl, ?hy0_1⟩) (by assumption) ?rest0_1
  case hy0_1 => (intro w9 hSw; obtain ⟨s7, s8, s12, s13, s14, s15, s16, s17⟩ := hSw; obtain ⟨a0, a1, a2, a3, a4, a5, a6, a7, a8⟩ := Vbx.cells s7; obtain ⟨b0, b1, b2, b3, b4⟩ := Rbx.cells s8; obtain ⟨d0, d1, d2, d3, d4, d5, d6, d7, d8⟩ := Vbx.cells s12; obtain ⟨e0, e1, e2, e3, e4⟩ := Rbx.cells s13; obtain ⟨k0, k1, k2, k3, k4, k5, k6, k7, k8⟩ := Vbx.cells s14; obtain ⟨q0, q1, q2, q3, q4⟩ := Rbx.cells s15; obtain ⟨u0, u1, u2, u3, u4, u5, u6, u7, u8⟩ := Vbx.cells s16; obtain ⟨x0, x1, x2, xf0, xf1, xf2⟩ := Mbx.cells s17; go_simp; try with_reducible rfl)
  try simp only [Act.put, List.setIfInBounds_toArray, List.set_cons_zero, List.set_cons_succ, List.getElem_toArray, List.getElem_cons_zero, List.getElem_cons_succ]
  refine wpAnyH_take (i := 1) (v := ?v1_2) rfl (by kernel_rfl) (by kernel_rfl) (by kernel_rfl) (fun _ _ _ h => h) (Or.inl ⟨by rfl, ?hy1_2⟩) (by assumption) ?rest1_2
  case hy1_2 => (intro w9 hSw; obtain ⟨s7, s8, s12, s13, s14, s15, s16, s17⟩ := hSw; obtain ⟨a0, a1, a2, a3, a4, a5, a6, a7, a8⟩ := Vbx.cells s7; obtain ⟨b0, b1, b2, b3, b4⟩ := Rbx.cells s8; obtain ⟨d0, d1, d2, d3, d4, d5, d6, d7, d8⟩ := Vbx.cells s12; obtain ⟨e0, e1, e2, e3, e4⟩ := Rbx.cells s13; obtain ⟨k0, k1, k2, k3, k4, k5, k6, k7, k8⟩ := Vbx.cells s14; obtain ⟨q0, q1, q2, q3, q4⟩ := Rbx.cells s15; obtain ⟨u0, u1, u2, u3, u4, u5, u6, u7, u8⟩ := Vbx.cells s16; obtain ⟨x0, x1, x2, xf0, xf1, xf2⟩ := Mbx.cells s17; go_simp; try with_reducible rfl)
  try simp only [Act.put, List.setIfInBounds_toArray, List.set_cons_zero, List.set_cons_succ, List.getElem_toArray, List.getElem_cons_zero, List.getElem_cons_succ]
  refine wpAnyH_take (i := 3) (v := ?v3_3) rfl (by kernel_rfl) (by kernel_rfl) (by kernel_rfl) (fun _ _ _ h => h) (Or.inl ⟨by rfl, ?hy3_3⟩) (by assumption) ?rest3_3
  case hy3_3 => (intro w9 hSw; obtain ⟨s7, s8, s12, s13, s14, s15, s16, s17⟩ := hSw; obtain ⟨a0, a1, a2, a3, a4, a5, a6, a7, a8⟩ := Vbx.cells s7; obtain ⟨b0, b1, b2, b3, b4⟩ := Rbx.cells s8; obtain ⟨d0, d1, d2, d3, d4, d5, d6, d7, d8⟩ := Vbx.cells s12; obtain ⟨e0, e1, e2, e3, e4⟩ := Rbx.cells s13; obtain ⟨k0, k1, k2, k3, k4, k5, k6, k7, k8⟩ := Vbx.cells s14; obtain ⟨q0, q1, q2, q3, q4⟩ := Rbx.cells s15; obtain ⟨u0, u1, u2, u3, u4, u5, u6, u7, u8⟩ := Vbx.cells s16; obtain ⟨x0, x1, x2, xf0, xf1, xf2⟩ := Mbx.cells s17; go_simp; try with_reducible rfl)
  try simp only [Act.put, List.setIfInBounds_toArray, List.set_cons_zero, List.set_cons_succ, List.getElem_toArray, List.getElem_cons_zero, List.getElem_cons_succ]
  refine wpAnyH_take (i := 4) (v := ?v4_4) rfl (by kernel_rfl) (by kernel_rfl) (by kernel_rfl) (fun _ _ _ h => h) (Or.inl ⟨by rfl, ?hy4_4⟩) (by assumption) ?rest4_4
  case hy4_4 => (intro w9 hSw; obtain ⟨s7, s8, s12, s13, s14, s15, s16, s17⟩ := hSw; obtain ⟨a0, a1, a2, a3, a4, a5, a6, a7, a8⟩ := Vbx.cells s7; obtain ⟨b0, b1, b2, b3, b4⟩ := Rbx.cells s8; obtain ⟨d0, d1, d2, d3, d4, d5, d6, d7, d8⟩ := Vbx.cells s12; obtain ⟨e0, e1, e2, e3, e4⟩ := Rbx.cells s13; obtain ⟨k0, k1, k2, k3, k4, k5, k6, k7, k8⟩ := Vbx.cells s14; obtain ⟨q0, q1, q2, q3, q4⟩ := Rbx.cells s15; obtain ⟨u0, u1, u2, u3, u4, u5, u6, u7, u8⟩ := Vbx.cells s16; obtain ⟨x0, x1, x2, xf0, xf1, xf2⟩ := Mbx.cells s17; go_simp; try with_reducible rfl)
  try simp only [Act.put, List.setIfInBounds_toArray, List.set_cons_zero, List.set_cons_succ, List.getElem_toArray, List.getElem_cons_zero, List.getElem_cons_succ]
  refine wpAnyH_ready (rs := [2]) (by kernel_rfl) (by simp) ?_
  refine AllReadyH.cons rfl (fun K hK => ?_) AllReadyH.nil
  go_simp
  with_reducible refine (pS _ _ hT).mono ?_
  rintro e w7 ⟨rfl, hb⟩
  replace DM := DM.on hb
  replace hF := hF.on hb
  replace hT := hT.on hb
  replace hP := hP.on hb
  replace D7 := D7.on hb
  replace D8 := D8.on hb
  replace hP3 := hP3.on hb
  replace D12 := D12.on hb
  replace D13 := D13.on hb
  replace hP4 := hP4.on hb
  replace D14 := D14.on hb
  replace D15 := D15.on hb
  replace hC := hC.on hb
  replace D16 := D16.on hb
  replace hW := hW.on hb
  replace D17 := D17.on hb
  replace bz := bz.trans (hb.mono bz.size)
  clear hb
  refine hK.out _ _ ⟨D7, D8, D12, D13, D14, D15, D16, D17⟩ (fun hH => ?_)
  clear hK K hS
  have hS := hH
  clear hH
  try simp only [Act.put, List.setIfInBounds_toArray, List.set_cons_zero, List.set_cons_succ, List.getElem_toArray, List.getElem_cons_zero, List.getElem_cons_succ]
  refine wpAnyH_ready (rs := [5]) (by kernel_rfl) (by simp) ?_
  refine AllReadyH.cons rfl (fun K hK => ?_) AllReadyH.nil
  go_simp
  with_reducible refine (pSr _ hP3.rk hP4.rk).mono ?_
  rintro e w8 ⟨rfl, hb⟩
  replace DM := DM.on hb
  replace hF := hF.on hb
  replace hT := hT.on hb
  replace hP := hP.on hb
  replace D7 := D7.on hb
  replace D8 := D8.on hb
  replace hP3 := hP3.on hb
  replace D12 := D12.on hb
  replace D13 := D13.on hb
  replace hP4 := hP4.on hb
  replace D14 := D14.on hb
  replace D15 := D15.on hb
  replace hC := hC.on hb
  replace D16 := D16.on hb
  replace hW := hW.on hb
  replace D17 := D17.on hb
  replace bz := bz.trans (hb.mono bz.size)
  clear hb
  refine hK.out _ _ ⟨D7, D8, D12, D13, D14, D15, D16, D17⟩ (fun hH => ?_)
  clear hK K hS
  have hS := hH
  clear hH
  try simp only [Act.put, List.setIfInBounds_toArray, List.set_cons_zero, List.set_cons_succ, List.getElem_toArray, List.getElem_cons_zero, List.getElem_cons_succ]
  refine wpAnyH_take (i := 6) (v := ?v6_5) rfl (by kernel_rfl) (by kernel_rfl) (by kernel_rfl) (fun _ _ _ h => h) (Or.inl ⟨by rfl, ?hy6_5⟩) (by assumption) ?rest6_5
  case hy6_5 => (intro w9 hSw; clear hSw; go_simp; try with_reducible rfl)
  try simp only [Act.put, List.setIfInBounds_toArray, List.set_cons_zero, List.set_cons_succ, List.getElem_toArray, List.getElem_cons_zero, List.getElem_cons_succ]
  refine wpAnyH_take (i := 7) (v := ?v7_6) rfl (by kernel_rfl) (by kernel_rfl) (by kernel_rfl) (fun _ _ _ h => h) (Or.inl ⟨by rfl, ?hy7_6⟩) (by assumption) ?rest7_6
  case hy7_6 => (intro w9 hSw; clear hSw; go_simp; try with_reducible rfl)
  try simp only [Act.put, List.setIfInBounds_toArray, List.set_cons_zero, List.set_cons_succ, List.getElem_toArray, List.getElem_cons_zero, List.getElem_cons_succ]
  refine wpAnyH_take (i := 8) (v := ?v8_7) rfl (by kernel_rfl) (by kernel_rfl) (by kernel_rfl) (fun _ _ _ h => h) (Or.inl ⟨by rfl, ?hy8_7⟩) (by assumption) ?rest8_7
  case hy8_7 => (intro w9 hSw; obtain ⟨s7, s8, s12, s13, s14, s15, s16, s17⟩ := hSw; obtain ⟨a0, a1, a2, a3, a4, a5, a6, a7, a8⟩ := Vbx.cells s7; obtain ⟨b0, b1, b2, b3, b4⟩ := Rbx.cells s8; obtain ⟨d0, d1, d2, d3, d4, d5, d6, d7, d8⟩ := Vbx.cells s12; obtain ⟨e0, e1, e2, e3, e4⟩ := Rbx.cells s13; obtain ⟨k0, k1, k2, k3, k4, k5, k6, k7, k8⟩ := Vbx.cells s14; obtain ⟨q0, q1, q2, q3, q4⟩ := Rbx.cells s15; obtain ⟨u0, u1, u2, u3, u4, u5, u6, u7, u8⟩ := Vbx.cells s16; obtain ⟨x0, x1, x2, xf0, xf1, xf2⟩ := Mbx.cells s17; go_simp; try with_reducible rfl)
  try simp only [Act.put, List.setIfInBounds_toArray, List.set_cons_zero, List.set_cons_succ, List.getElem_toArray, List.getElem_cons_zero, List.getElem_cons_succ]
  refine wpAnyH_take (i := 9) (v := ?v9_8) rfl (by kernel_rfl) (by kernel_rfl) (by kernel_rfl) (fun _ _ _ h => h) (Or.inl ⟨by rfl, ?hy9_8⟩) (by assumption) ?rest9_8
  case hy9_8 => (intro w9 hSw; obtain ⟨s7, s8, s12, s13, s14, s15, s16, s17⟩ := hSw; obtain ⟨a0, a1, a2, a3, a4, a5, a6, a7, a8⟩ := Vbx.cells s7; obtain ⟨b0, b1, b2, b3, b4⟩ := Rbx.cells s8; obtain ⟨d0, d1, d2, d3, d4, d5, d6, d7, d8⟩ := Vbx.cells s12; obtain ⟨e0, e1, e2, e3, e4⟩ := Rbx.cells s13; obtain ⟨k0, k1, k2, k3, k4, k5, k6, k7, k8⟩ := Vbx.cells s14; obtain ⟨q0, q1, q2, q3, q4⟩ := Rbx.cells s15; obtain ⟨u0, u1, u2, u3, u4, u5, u6, u7, u8⟩ := Vbx.cells s16; obtain ⟨x0, x1, x2, xf0, xf1, xf2⟩ := Mbx.cells s17; go_simp; try with_reducible rfl)
  try simp only [Act.put, List.setIfInBounds_toArray, List.set_cons_zero, List.set_cons_succ, List.getElem_toArray, List.getElem_cons_zero, List.getElem_cons_succ]
  refine wpAnyH_take (i := 12) (v := ?v12_9) rfl (by kernel_rfl) (by kernel_rfl) (by kernel_rfl) (fun _ _ _ h => h) (Or.inl ⟨by rfl, ?hy12_9⟩) (by assumption) ?rest12_9
  case hy12_9 => (intro w9 hSw; obtain ⟨s7, s8, s12, s13, s14, s15, s16, s17⟩ := hSw; obtain ⟨a0, a1, a2, a3, a4, a5, a6, a7, a8⟩ := Vbx.cells s7; obtain ⟨b0, b1, b2, b3, b4⟩ := Rbx.cells s8; obtain ⟨d0, d1, d2, d3, d4, d5, d6, d7, d8⟩ := Vbx.cells s12; obtain ⟨e0, e1, e2, e3, e4⟩ := Rbx.cells s13; obtain ⟨k0, k1, k2, k3, k4, k5, k6, k7, k8⟩ := Vbx.cells s14; obtain ⟨q0, q1, q2, q3, q4⟩ := Rbx.cells s15; obtain ⟨u0, u1, u2, u3, u4, u5, u6, u7, u8⟩ := Vbx.cells s16; obtain ⟨x0, x1, x2, xf0, xf1, xf2⟩ := Mbx.cells s17; go_simp; try with_reducible rfl)
  try simp only [Act.put, List.setIfInBounds_toArray, List.set_cons_zero, List.set_cons_succ, List.getElem_toArray, List.getElem_cons_zero, List.getElem_cons_succ]
  refine wpAnyH_take (i := 13) (v := ?v13_10) rfl (by kernel_rfl) (by kernel_rfl) (by kernel_rfl) (fun _ _ _ h => h) (Or.inl ⟨by rfl, ?hy13_10⟩) (by assumption) ?rest13_10
  case hy13_10 => (intro w9 hSw; obtain ⟨s7, s8, s12, s13, s14, s15, s16, s17⟩ := hSw; obtain ⟨a0, a1, a2, a3, a4, a5, a6, a7, a8⟩ := Vbx.cells s7; obtain ⟨b0, b1, b2, b3, b4⟩ := Rbx.cells s8; obtain ⟨d0, d1, d2, d3, d4, d5, d6, d7, d8⟩ := Vbx.cells s12; obtain ⟨e0, e1, e2, e3, e4⟩ := Rbx.cells s13; obtain ⟨k0, k1, k2, k3, k4, k5, k6, k7, k8⟩ := Vbx.cells s14; obtain ⟨q0, q1, q2, q3, q4⟩ := Rbx.cells s15; obtain ⟨u0, u1, u2, u3, u4, u5, u6, u7, u8⟩ := Vbx.cells s16; obtain ⟨x0, x1, x2, xf0, xf1, xf2⟩ := Mbx.cells s17; go_simp; try with_reducible rfl)
  try simp only [Act.put, List.setIfInBounds_toArray, List.set_cons_zero, List.set_cons_succ, List.getElem_toArray, List.getElem_cons_zero, List.getElem_cons_succ]
  refine wpAnyH_ready (rs := [10]) (by kernel_rfl) (by simp) ?_
  refine AllReadyH.cons rfl (fun K hK => ?_) AllReadyH.nil
  go_simp
  with_reducible refine (pT _ _ hT.st).mono ?_
  rintro e w9 ⟨rfl, hst2, hg⟩
  replace DM := DM.grown hg (by simp; omega)
  replace D7 := D7.grown hg (by simp; omega)
  replace D8 := D8.grown hg (by simp; omega)
  replace D12 := D12.grown hg (by simp; omega)
  replace D13 := D13.grown hg (by simp; omega)
  replace D14 := D14.grown hg (by simp; omega)
  replace D15 := D15.grown hg (by simp; omega)
  replace D16 := D16.grown hg (by simp; omega)
  replace D17 := D17.grown hg (by simp; omega)
  replace hP := hP.left hg
  replace hP3 := hP3.left hg
  replace hP4 := hP4.left hg
  replace hF := hF.grown hg (by omega)
  replace hC := hC.low hg (by omega)
  replace hW := hW.farB hg (fun a e => by have := HA17.out a e; omega)
  replace bz := bz.grown hg bz.size (fun k e => by cases e; omega)
  replace hT := hT.left hst2 hTl hg
  clear hst2 hg pT
  refine hK.out _ _ ⟨D7, D8, D12, D13, D14, D15, D16, D17⟩ (fun hH => ?_)
  clear hK K hS
  have hS := hH
  clear hH
  try simp only [Act.put, List.setIfInBounds_toArray, List.set_cons_zero, List.set_cons_succ, List.getElem_toArray, List.getElem_cons_zero, List.getElem_cons_succ]
  refine wpAnyH_ready (rs := [11]) (by kernel_rfl) (by simp) ?_
  refine AllReadyH.cons rfl (fun K hK => ?_) AllReadyH.nil
  go_simp
  with_reducible refine (num_any _ _).mono ?_
  rintro e v10 ⟨rfl, rfl⟩
  refine hK.out _ _ ⟨D7, D8, D12, D13, D14, D15, D16, D17⟩ (fun hH => ?_)
  clear hK K hS
  have hS := hH
  clear hH
  try simp only [Act.put, List.setIfInBounds_toArray, List.set_cons_zero, List.set_cons_succ, List.getElem_toArray, List.getElem_cons_zero, List.getElem_cons_succ]
  refine wpAnyH_ready (rs := [14]) (by kernel_rfl) (by simp) ?_
  refine AllReadyH.cons rfl (fun K hK => ?_) AllReadyH.nil
  go_simp
  with_reducible refine (pTr _ _ hT.sr hP3.rk hP4.rk).mono ?_
  rintro e w11 ⟨rfl, hsr2, hg⟩
  have hgr : ∀ k, A5.map (·.block) = some k → w.heap.size < k ∧ k < HD7 := fun k e => by cases h9 : A5 with
    | none => rw [h9] at e; cases e
    | some a => rw [h9] at e; cases e; exact ⟨hge.2.2 a h9, hlt.2.2 a h9⟩
  replace DM := DM.grown hg (fun e => by have := hgr _ e.symm; omega)
  replace D7 := D7.grown hg (fun e => by have := hgr _ e.symm; omega)
  replace D8 := D8.grown hg (fun e => by have := hgr _ e.symm; omega)
  replace D12 := D12.grown hg (fun e => by have := hgr _ e.symm; omega)
  replace D13 := D13.grown hg (fun e => by have := hgr _ e.symm; omega)
  replace D14 := D14.grown hg (fun e => by have := hgr _ e.symm; omega)
  replace D15 := D15.grown hg (fun e => by have := hgr _ e.symm; omega)
  replace D16 := D16.grown hg (fun e => by have := hgr _ e.symm; omega)
  replace D17 := D17.grown hg (fun e => by have := hgr _ e.symm; omega)
  replace hP := hP.right hg
  replace hP3 := hP3.right hg
  replace hP4 := hP4.right hg
  replace hF := hF.grownR hg (fun k e => by have := hgr k e; omega)
  replace hC := hC.lowR hg (fun k e => by have := hgr k e; omega)
  replace hW := hW.farR hg (fun a e e2 => by have := HA17.out a e; have := hgr _ e2.symm; omega)
  replace bz := bz.grown hg bz.size (fun k e => by have := hgr k e; omega)
  replace hT := hT.right hsr2 hg
  clear hsr2 hg pTr hgr
  refine hK.out _ _ ⟨D7, D8, D12, D13, D14, D15, D16, D17⟩ (fun hH => ?_)
  clear hK K hS
  have hS := hH
  clear hH
  try simp only [Act.put, List.setIfInBounds_toArray, List.set_cons_zero, List.set_cons_succ, List.getElem_toArray, List.getElem_cons_zero, List.getElem_cons_succ]
  refine wpAnyH_take (i := 15) (v := ?v15_11) rfl (by kernel_rfl) (by kernel_rfl) (by kernel_rfl) (fun _ _ _ h => h) (Or.inl ⟨by rfl, ?hy15_11⟩) (by assumption) ?rest15_11
  case hy15_11 => (intro w9 hSw; clear hSw; go_simp; try with_reducible rfl)
  try simp only [Act.put, List.setIfInBounds_toArray, List.set_cons_zero, List.set_cons_succ, List.getElem_toArray, List.getElem_cons_zero, List.getElem_cons_succ]
  refine wpAnyH_take (i := 16) (v := ?v16_12) rfl (by kernel_rfl) (by kernel_rfl) (by kernel_rfl) (fun _ _ _ h => h) (Or.inl ⟨by rfl, ?hy16_12⟩) (by assumption) ?rest16_12
  case hy16_12 => (intro w9 hSw; clear hSw; go_simp; try with_reducible rfl)
  try simp only [Act.put, List.setIfInBounds_toArray, List.set_cons_zero, List.set_cons_succ, List.getElem_toArray, List.getElem_cons_zero, List.getElem_cons_succ]
  refine wpAnyH_take (i := 17) (v := ?v17_13) rfl (by kernel_rfl) (by kernel_rfl) (by kernel_rfl) (fun _ _ _ h => h) (Or.inl ⟨by rfl, ?hy17_13⟩) (by assumption) ?rest17_13
  case hy17_13 => (intro w9 hSw; clear hSw; go_simp; try with_reducible rfl)
  try simp only [Act.put, List.setIfInBounds_toArray, List.set_cons_zero, List.set_cons_succ, List.getElem_toArray, List.getElem_cons_zero, List.getElem_cons_succ]
  refine wpAnyH_take (i := 18) (v := ?v18_14) rfl (by kernel_rfl) (by kernel_rfl) (by kernel_rfl) (fun _ _ _ h => h) (Or.inl ⟨by rfl, ?hy18_14⟩) (by assumption) ?rest18_14
  case hy18_14 => (intro w9 hSw; obtain ⟨s7, s8, s12, s13, s14, s15, s16, s17⟩ := hSw; obtain ⟨a0, a1, a2, a3, a4, a5, a6, a7, a8⟩ := Vbx.cells s7; obtain ⟨b0, b1, b2, b3, b4⟩ := Rbx.cells s8; obtain ⟨d0, d1, d2, d3, d4, d5, d6, d7, d8⟩ := Vbx.cells s12; obtain ⟨e0, e1, e2, e3, e4⟩ := Rbx.cells s13; obtain ⟨k0, k1, k2, k3, k4, k5, k6, k7, k8⟩ := Vbx.cells s14; obtain ⟨q0, q1, q2, q3, q4⟩ := Rbx.cells s15; obtain ⟨u0, u1, u2, u3, u4, u5, u6, u7, u8⟩ := Vbx.cells s16; obtain ⟨x0, x1, x2, xf0, xf1, xf2⟩ := Mbx.cells s17; go_simp; try with_reducible rfl)
  try simp only [Act.put, List.setIfInBounds_toArray, List.set_cons_zero, List.set_cons_succ, List.getElem_toArray, List.getElem_cons_zero, List.getElem_cons_succ]
  refine wpAnyH_take (i := 20) (v := ?v20_15) rfl (by kernel_rfl) (by kernel_rfl) (by kernel_rfl) (fun _ _ _ h => h) (Or.inl ⟨by rfl, ?hy20_15⟩) (by assumption) ?rest20_15
  case hy20_15 => (intro w9 hSw; obtain ⟨s7, s8, s12, s13, s14, s15, s16, s17⟩ := hSw; obtain ⟨a0, a1, a2, a3, a4, a5, a6, a7, a8⟩ := Vbx.cells s7; obtain ⟨b0, b1, b2, b3, b4⟩ := Rbx.cells s8; obtain ⟨d0, d1, d2, d3, d4, d5, d6, d7, d8⟩ := Vbx.cells s12; obtain ⟨e0, e1, e2, e3, e4⟩ := Rbx.cells s13; obtain ⟨k0, k1, k2, k3, k4, k5, k6, k7, k8⟩ := Vbx.cells s14; obtain ⟨q0, q1, q2, q3, q4⟩ := Rbx.cells s15; obtain ⟨u0, u1, u2, u3, u4, u5, u6, u7, u8⟩ := Vbx.cells s16; obtain ⟨x0, x1, x2, xf0, xf1, xf2⟩ := Mbx.cells s17; go_simp; try with_reducible rfl)
  try simp only [Act.put, List.setIfInBounds_toArray, List.set_cons_zero, List.set_cons_succ, List.getElem_toArray, List.getElem_cons_zero, List.getElem_cons_succ]
  refine wpAnyH_ready (rs := [19]) (by kernel_rfl) (by simp) ?_
  refine AllReadyH.cons rfl (fun K hK => ?_) AllReadyH.nil
  go_simp
  with_reducible refine (Matrix_fl hP.vk (fun _ => ⟨hT.st, hl2⟩)).mono ?_
  rintro e w12 ⟨A7, c7, rfl, hX, hb⟩
  replace DM := DM.on hb
  replace hF := hF.on hb
  replace hT := hT.on hb
  replace hP := hP.on hb
  replace D7 := D7.on hb
  replace D8 := D8.on hb
  replace hP3 := hP3.on hb
  replace D12 := D12.on hb
  replace D13 := D13.on hb
  replace hP4 := hP4.on hb
  replace D14 := D14.on hb
  replace D15 := D15.on hb
  replace hC := hC.on hb
  replace D16 := D16.on hb
  replace hW := hW.on hb
  replace D17 := D17.on hb
  replace bz := bz.trans (hb.mono bz.size)
  clear hb
  refine hK.out _ _ ⟨D7, D8, D12, D13, D14, D15, D16, D17⟩ (fun hH => ?_)
  clear hK K hS
  have hS := hH
  clear hH
  try simp only [Act.put, List.setIfInBounds_toArray, List.set_cons_zero, List.set_cons_succ, List.getElem_toArray, List.getElem_cons_zero, List.getElem_cons_succ]
  refine wpAnyH_ready (rs := [21]) (by kernel_rfl) (by simp) ?_
  refine AllReadyH.cons rfl (fun K hK => ?_) AllReadyH.nil
  go_simp
  with_reducible refine (rMat_fl hP.rk hT.sr hP.vk).mono ?_
  rintro e w13 ⟨A8, c8, rfl, hY, hb⟩
  replace DM := DM.on hb
  replace hF := hF.on hb
  replace hT := hT.on hb
  replace hP := hP.on hb
  replace D7 := D7.on hb
  replace D8 := D8.on hb
  replace hP3 := hP3.on hb
  replace D12 := D12.on hb
  replace D13 := D13.on hb
  replace hP4 := hP4.on hb
  replace D14 := D14.on hb
  replace D15 := D15.on hb
  replace hC := hC.on hb
  replace D16 := D16.on hb
  replace hW := hW.on hb
  replace D17 := D17.on hb
  replace hX := hX.on hb
  replace bz := bz.trans (hb.mono bz.size)
  clear hb
  refine hK.out _ _ ⟨D7, D8, D12, D13, D14, D15, D16, D17⟩ (fun hH => ?_)
  clear hK K hS
  have hS := hH
  clear hH
  try simp only [Act.put, List.setIfInBounds_toArray, List.set_cons_zero, List.set_cons_succ, List.getElem_toArray, List.getElem_cons_zero, List.getElem_cons_succ]
  refine wpAnyH_ready (rs := [22]) (by kernel_rfl) (by simp) ?_
  refine AllReadyH.cons rfl (fun K hK => ?_) AllReadyH.nil
  go_simp
  with_reducible refine (SameM_true hX hY).mono ?_
  rintro e w14 ⟨rfl, hb⟩
  replace DM := DM.on hb
  replace hF := hF.on hb
  replace hT := hT.on hb
  replace hP := hP.on hb
  replace D7 := D7.on hb
  replace D8 := D8.on hb
  replace hP3 := hP3.on hb
  replace D12 := D12.on hb
  replace D13 := D13.on hb
  replace hP4 := hP4.on hb
  replace D14 := D14.on hb
  replace D15 := D15.on hb
  replace hC := hC.on hb
  replace D16 := D16.on hb
  replace hW := hW.on hb
  replace D17 := D17.on hb
  replace hX := hX.on hb
  replace hY := hY.on hb
  replace bz := bz.trans (hb.mono bz.size)
  clear hb hX hY
  refine hK.out _ _ ⟨D7, D8, D12, D13, D14, D15, D16, D17⟩ (fun hH => ?_)
  clear hK K hS
  have hS := hH
  clear hH
  try simp only [Act.put, List.setIfInBounds_toArray, List.set_cons_zero, List.set_cons_succ, List.getElem_toArray, List.getElem_cons_zero, List.getElem_cons_succ]
  refine wpAnyH_take (i := 23) (v := ?v23_16) rfl (by kernel_rfl) (by kernel_rfl) (by kernel_rfl) (fun _ _ _ h => h) (Or.inl ⟨by rfl, ?hy23_16⟩) (by assumption) ?rest23_16
  case hy23_16 => (intro w9 hSw; clear hSw; go_simp; try with_reducible rfl)
  try simp only [Act.put, List.setIfInBounds_toArray, List.set_cons_zero, List.set_cons_succ, List.getElem_toArray, List.getElem_cons_zero, List.getElem_cons_succ]
  refine wpAnyH_take (i := 24) (v := ?v24_17) rfl (by kernel_rfl) (by kernel_rfl) (by kernel_rfl) (fun _ _ _ h => h) (Or.inl ⟨by rfl, ?hy24_17⟩) (by assumption) ?rest24_17
  case hy24_17 => (intro w9 hSw; clear hSw; go_simp; try with_reducible rfl)
  try simp only [Act.put, List.setIfInBounds_toArray, List.set_cons_zero, List.set_cons_succ, List.getElem_toArray, List.getElem_cons_zero, List.getElem_cons_succ]
  refine wpAnyH_take (i := 25) (v := ?v25_18) rfl (by kernel_rfl) (by kernel_rfl) (by kernel_rfl) (fun _ _ _ h => h) (Or.inl ⟨by rfl, ?hy25_18⟩) (by assumption) ?rest25_18
  case hy25_18 => (intro w9 hSw; clear hSw; go_simp; try with_reducible rfl)
  try simp only [Act.put, List.setIfInBounds_toArray, List.set_cons_zero, List.set_cons_succ, List.getElem_toArray, List.getElem_cons_zero, List.getElem_cons_succ]
  refine wpAnyH_take (i := 26) (v := ?v26_19) rfl (by kernel_rfl) (by kernel_rfl) (by kernel_rfl) (fun _ _ _ h => h) (Or.inl ⟨by rfl, ?hy26_19⟩) (by assumption) ?rest26_19
  case hy26_19 => (intro w9 hSw; obtain ⟨s7, s8, s12, s13, s14, s15, s16, s17⟩ := hSw; obtain ⟨a0, a1, a2, a3, a4, a5, a6, a7, a8⟩ := Vbx.cells s7; obtain ⟨b0, b1, b2, b3, b4⟩ := Rbx.cells s8; obtain ⟨d0, d1, d2, d3, d4, d5, d6, d7, d8⟩ := Vbx.cells s12; obtain ⟨e0, e1, e2, e3, e4⟩ := Rbx.cells s13; obtain ⟨k0, k1, k2, k3, k4, k5, k6, k7, k8⟩ := Vbx.cells s14; obtain ⟨q0, q1, q2, q3, q4⟩ := Rbx.cells s15; obtain ⟨u0, u1, u2, u3, u4, u5, u6, u7, u8⟩ := Vbx.cells s16; obtain ⟨x0, x1, x2, xf0, xf1, xf2⟩ := Mbx.cells s17; go_simp; try with_reducible rfl)
  try simp only [Act.put, List.setIfInBounds_toArray, List.set_cons_zero, List.set_cons_succ, List.getElem_toArray, List.getElem_cons_zero, List.getElem_cons_succ]
  refine wpAnyH_take (i := 28) (v := ?v28_20) rfl (by kernel_rfl) (by kernel_rfl) (by kernel_rfl) (fun _ _ _ h => h) (Or.inl ⟨by rfl, ?hy28_20⟩) (by assumption) ?rest28_20
  case hy28_20 => (intro w9 hSw; obtain ⟨s7, s8, s12, s13, s14, s15, s16, s17⟩ := hSw; obtain ⟨a0, a1, a2, a3, a4, a5, a6, a7, a8⟩ := Vbx.cells s7; obtain ⟨b0, b1, b2, b3, b4⟩ := Rbx.cells s8; obtain ⟨d0, d1, d2, d3, d4, d5, d6, d7, d8⟩ := Vbx.cells s12; obtain ⟨e0, e1, e2, e3, e4⟩ := Rbx.cells s13; obtain ⟨k0, k1, k2, k3, k4, k5, k6, k7, k8⟩ := Vbx.cells s14; obtain ⟨q0, q1, q2, q3, q4⟩ := Rbx.cells s15; obtain ⟨u0, u1, u2, u3, u4, u5, u6, u7, u8⟩ := Vbx.cells s16; obtain ⟨x0, x1, x2, xf0, xf1, xf2⟩ := Mbx.cells s17; go_simp; try with_reducible rfl)
  try simp only [Act.put, List.setIfInBounds_toArray, List.set_cons_zero, List.set_cons_succ, List.getElem_toArray, List.getElem_cons_zero, List.getElem_cons_succ]
  refine wpAnyH_ready (rs := [27]) (by kernel_rfl) (by simp) ?_
  refine AllReadyH.cons rfl (fun K hK => ?_) AllReadyH.nil
  go_simp
  with_reducible refine (hC.mat).mono ?_
  rintro e w15 ⟨A7, c7, rfl, hX, hb⟩
  replace DM := DM.on hb
  replace hF := hF.on hb
  replace hT := hT.on hb
  replace hP := hP.on hb
  replace D7 := D7.on hb
  replace D8 := D8.on hb
  replace hP3 := hP3.on hb
  replace D12 := D12.on hb
  replace D13 := D13.on hb
  replace hP4 := hP4.on hb
  replace D14 := D14.on hb
  replace D15 := D15.on hb
  replace hC := hC.on hb
  replace D16 := D16.on hb
  replace hW := hW.on hb
  replace D17 := D17.on hb
  replace bz := bz.trans (hb.mono bz.size)
  clear hb
  simp only [hNF] at hX ⊢
  refine hK.out _ _ ⟨D7, D8, D12, D13, D14, D15, D16, D17⟩ (fun hH => ?_)
  clear hK K hS
  have hS := hH
  clear hH
  try simp only [Act.put, List.setIfInBounds_toArray, List.set_cons_zero, List.set_cons_succ, List.getElem_toArray, List.getElem_cons_zero, List.getElem_cons_succ]
  refine wpAnyH_ready (rs := [29]) (by kernel_rfl) (by simp) ?_
  refine AllReadyH.cons rfl (fun K hK => ?_) AllReadyH.nil
  go_simp
  with_reducible refine (SameM_true hX hW).mono ?_
  rintro e w16 ⟨rfl, hb⟩
  replace DM := DM.on hb
  replace hF := hF.on hb
  replace hT := hT.on hb
  replace hP := hP.on hb
  replace D7 := D7.on hb
  replace D8 := D8.on hb
  replace hP3 := hP3.on hb
  replace D12 := D12.on hb
  replace D13 := D13.on hb
  replace hP4 := hP4.on hb
  replace D14 := D14.on hb
  replace D15 := D15.on hb
  replace hC := hC.on hb
  replace D16 := D16.on hb
  replace hW := hW.on hb
  replace D17 := D17.on hb
  replace hX := hX.on hb
  replace bz := bz.trans (hb.mono bz.size)
  clear hb hX
  refine hK.out _ _ ⟨D7, D8, D12, D13, D14, D15, D16, D17⟩ (fun hH => ?_)
  clear hK K hS
  have hS := hH
  clear hH
  try simp only [Act.put, List.setIfInBounds_toArray, List.set_cons_zero, List.set_cons_succ, List.getElem_toArray, List.getElem_cons_zero, List.getElem_cons_succ]
  refine wpAnyH_take (i := 30) (v := ?v30_21) rfl (by kernel_rfl) (by kernel_rfl) (by kernel_rfl) (fun _ _ _ h => h) (Or.inl ⟨by rfl, ?hy30_21⟩) (by assumption) ?rest30_21
  case hy30_21 => (intro w9 hSw; clear hSw; go_simp; try with_reducible rfl)
  try simp only [Act.put, List.setIfInBounds_toArray, List.set_cons_zero, List.set_cons_succ, List.getElem_toArray, List.getElem_cons_zero, List.getElem_cons_succ]
  refine wpAnyH_take (i := 31) (v := ?v31_22) rfl (by kernel_rfl) (by kernel_rfl) (by kernel_rfl) (fun _ _ _ h => h) (Or.inl ⟨by rfl, ?hy31_22⟩) (by assumption) ?rest31_22
  case hy31_22 => (intro w9 hSw; clear hSw; go_simp; try with_reducible rfl)
  try simp only [Act.put, List.setIfInBounds_toArray, List.set_cons_zero, List.set_cons_succ, List.getElem_toArray, List.getElem_cons_zero, List.getElem_cons_succ]
  refine wpAnyH_done (by kernel_rfl) ?_ _
  clear pS pSr hne1 hne2 hTl
  obtain ⟨FL9, hFL9⟩ : ∃ X, V3.fillL C.toNat TL x = X := ⟨_, rfl⟩
  have hfl : FL9.length = n := by rw [← hFL9]; unfold Vu.fillL; rw [setTo_len]; exact hl2
  have hb3 := hP3.rk.b
  obtain ⟨rA, rn, rc, rR, rC, rA2, rn2, rc2, rb⟩ := r3
  simp only at hb3
  cases hp9 : (V3.p == none)
  · have hrb : rb = true := by rw [hb3, hp9]; rfl
    clear hb3
    subst hrb
    have pF : ∀ (W : World) (B : Nat) (h : St W B s g cap C.toNat TL), Calls Try.prog 17 #[V3.V, .float .f64 X9] W (Wrote W B s g cap C.toNat 0 FL9) := fun W B h => by have := Fill_all hP3.vk h hl2 bj.1 bj.2; rw [hFL9, hX9, show filE V3 = 0 by unfold filE; rw [hp9]; rfl] at this; exact this
    obtain ⟨cD12_0, cD12_1, cD12_2, cD12_3, cD12_4, cD12_5, cD12_6, cD12_7, cD12_8⟩ := Vbx.cells D12
    go_wp2_with fail
    with_reducible refine (pF _ _ hT.st).mono ?_
    rintro e w17 ⟨rfl, hst2, hg⟩
    replace DM := DM.grown hg (by simp; omega)
    replace D7 := D7.grown hg (by simp; omega)
    replace D8 := D8.grown hg (by simp; omega)
    replace D12 := D12.grown hg (by simp; omega)
    replace D13 := D13.grown hg (by simp; omega)
    replace D14 := D14.grown hg (by simp; omega)
    replace D15 := D15.grown hg (by simp; omega)
    replace D16 := D16.grown hg (by simp; omega)
    replace D17 := D17.grown hg (by simp; omega)
    replace hP := hP.left hg
    replace hP3 := hP3.left hg
    replace hP4 := hP4.left hg
    replace hF := hF.grown hg (by omega)
    replace hC := hC.low hg (by omega)
    replace hW := hW.farB hg (fun a e => by have := HA17.out a e; omega)
    replace bz := bz.grown hg bz.size (fun k e => by cases e; omega)
    replace hT := hT.left hst2 (by rw [hfl, hl2]) hg
    clear hst2 hg pF cD12_0 cD12_1 cD12_2 cD12_3 cD12_4 cD12_5 cD12_6 cD12_7 cD12_8
    go_wp2_with fail
    with_reducible refine (num_any _ _).mono ?_
    rintro e v99 ⟨rfl, rfl⟩
    obtain ⟨d1, d2, d3⟩ := hP3.rk.data rfl
    simp only at d1 d2 d3
    have hn2 := hP3.rk.n2
    rw [ats_length] at hn2
    simp only at hn2
    have hNb := prod_bd hP3.vk.bd.R.1 hP3.vk.bd.R.2 hP3.vk.bd.C.1 hP3.vk.bd.C.2
    have hnb : rn2 ≤ 262144 := by omega
    have HFo := Lib.hid (show setTo V3 C.toNat (fun _ => x) TL rn2 = FL9 by rw [← hFL9, hn2]; rfl)
    have HIX := Lib.hid (show ∀ k, k < rn2 → ∃ p : Nat, D (V3.ats C.toNat) k = p ∧ p < n ∧ V3.ix C.toNat (V3.ei k) (V3.ej k) = p from fun k hk => by
      obtain ⟨p, hp, hpn, _⟩ := hP3.vk.ins _ _ (ei_bd hP3.vk.bd (by rw [← hn2]; exact hk))
      exact ⟨p, by rw [ats_D V3 C.toNat (by rw [← hn2]; exact hk)]; exact hp, hpn, hp⟩)
    have HN2 := Lib.hid hn2
    have HD2 := Lib.hid (And.intro d1 (And.intro d2 d3))
    clear hn2 d1 d2 d3 hNb hFL9
    have hZS := Lib.hid (setTo_zero V3 C.toNat (fun _ => x) TL)
    go_wp2_with fail
    go_loopw [19] (fun i wr => ∃ k : Nat, k ≤ rn2 ∧ i = .int .i64 k ∧ Two wr w1.heap.size s g cap C.toNat n FL9 (setTo V3 C.toNat (fun _ => x) TL k) A5 c5 ∧ Pr wr s g C.toNat n A5 c5 r (Vu.all s R C) 1 ∧ Pr wr s g C.toNat n A5 c5 (Ru.mk rA rn rc rR rC rA2 rn2 rc2 true) V3 4096 ∧ Pr wr s g C.toNat n A5 c5 r4 V4 4096 ∧ FLo wr w.heap.size A n c l ∧ Cp wr BCP U s5 g5 cap5 c5x FF V4.R V4.C ∧ FL wr A17 NF c17 FF ∧ Mbx wr w.heap.size R C A n c ∧ Vbx wr HD7 (Vu.all s R C) ∧ Rbx wr (HD7 + 1) r ∧ Vbx wr HD12 V3 ∧ Rbx wr (HD12 + 1) (Ru.mk rA rn rc rR rC rA2 rn2 rc2 true) ∧ Vbx wr HD14 V4 ∧ Rbx wr (HD14 + 1) r4 ∧ Vbx wr H16 U ∧ Mbx wr H17 V4.R V4.C A17 NF c17 ∧ Below w.heap.size w wr) (fun i _ => rn2 - (intOf i).toNat)
    case atStart => exact ⟨0, Nat.zero_le _, rfl, by rw [hZS.out]; exact hT, hP, hP3, hP4, hF, hC, hW, DM, D7, D8, D12, D13, D14, D15, D16, D17, bz⟩
    case round =>
      clear hT hP hP3 hP4 hF hC hW DM D7 D8 D12 D13 D14 D15 D16 D17 bz hZS
      obtain ⟨k, hk, rfl, hT, hP, hP3, hP4, hF, hC, hW, DM, D7, D8, D12, D13, D14, D15, D16, D17, bz⟩ := hrel
      have hSl : (setTo V3 C.toNat (fun _ => x) TL k).length = n := by rw [setTo_len]; exact hl2
      have hST := Lib.hid (setTo_succ V3 C.toNat (fun _ => x) TL k)
      obtain ⟨e0, e1, e2, e3, e4⟩ := Rbx.cells D13
      by_cases hlt9 : k < rn2
      · obtain ⟨p, hpD, hpn, hix⟩ := HIX.out k hlt9
        rw [hix] at hST
        obtain ⟨LK, hLK⟩ : ∃ L, setTo V3 C.toNat (fun _ => x) TL k = L := ⟨_, rfl⟩
        rw [hLK] at hT hST hSl
        clear hLK hix
        obtain ⟨ad2, hA2, hab2, hc2⟩ := hP3.rk.num.at_ (k := k) (by rw [ats_length]; have := HN2.out; omega)
        rw [hpD] at hc2
        obtain ⟨gx, hA5, hgB, hgs⟩ := hT.sr.own.form (by rw [hT.sr.len]; omega)
        have hfar : ad2.block ≠ gx := hP3.rk.far _ ad2 hA5 hA2
        have hcap := hT.sr.fl.max
        obtain ⟨g6, e6, hc6, hf6⟩ := hT.sr.own.at_ (k := p) (by rw [hT.sr.len]; omega)
        rw [hA5] at e6
        cases e6
        obtain ⟨d1, d2, d3⟩ := HD2.out
        rw [hA5] at d1
        have i0 : (0 : Int) ≤ k := by omega
        have i1 : (k : Int) < rn2 := by omega
        have p0 : (0 : Int) ≤ p := by omega
        have p1 : (p : Int) < rn := by rw [d2]; omega
        simp only at hA2
        have HA2 := Lib.hid hA2
        have HD1 := Lib.hid d1
        clear d1 hA2 d2 d3 hpD
        go_wp2_with fail
        clear e0 e1 e2 e3 e4
        refine wp_only ?_
        replace DM := DM.drew
        replace hF := hF.drew
        replace hT := hT.drew
        replace hP := hP.drew
        replace D7 := D7.drew
        replace D8 := D8.drew
        replace hP3 := hP3.drew
        replace D12 := D12.drew
        replace D13 := D13.drew
        replace hP4 := hP4.drew
        replace D14 := D14.drew
        replace D15 := D15.drew
        replace hC := hC.drew
        replace D16 := D16.drew
        replace hW := hW.drew
        replace D17 := D17.drew
        replace bz := bz.drew
        have hc2d : wr.drew.cell? (ad2.add k) = some (.int .i64 (p : Int)) := hc2
        have hf6d : wr.drew.frozen? ⟨gx, p, none⟩ = false := hf6
        have hc6d := show wr.drew.cell? ⟨gx, p, none⟩ = some (.float .f64 (D LK p).toNat) from hc6
        clear hc2 hf6 hc6
        refine wp_region_held_drew (S := fun w9 : World => Rbx w9 (HD12 + 1) (Ru.mk rA rn rc rR rC rA2 rn2 rc2 true) ∧ w9.cell? (ad2.add k) = some (.int .i64 (p : Int))) (by kernel_rfl) ⟨D13, hc2d⟩ (fun hS => ?_)
        generalize wr.drew = W16 at hS DM hF hT hP D7 D8 hP3 D12 D13 hP4 D14 D15 hC D16 hW D17 hc2d hf6d hc6d bz ⊢
        refine wpAnyH_take (i := 0) (v := ?v0_23) rfl (by kernel_rfl) (by kernel_rfl) (by kernel_rfl) (fun _ _ _ h => h) (Or.inl ⟨by rfl, ?hy0_23⟩) (by assumption) ?rest0_23
        case hy0_23 => (intro w9 hSw; clear hSw; go_simp; try with_reducible rfl)
        try simp only [Act.put, List.setIfInBounds_toArray, List.set_cons_zero, List.set_cons_succ, List.getElem_toArray, List.getElem_cons_zero, List.getElem_cons_succ]
        refine wpAnyH_take (i := 1) (v := ?v1_24) rfl (by kernel_rfl) (by kernel_rfl) (by kernel_rfl) (fun _ _ _ h => h) (Or.inl ⟨by rfl, ?hy1_24⟩) (by assumption) ?rest1_24
        case hy1_24 => (intro w9 hSw; obtain ⟨sr, sc⟩ := hSw; obtain ⟨q0, q1, q2, q3, q4⟩ := Rbx.cells sr; rw [HD1.out] at q0; rw [HA2.out] at q3; go_simp; try with_reducible rfl)
        try simp only [Act.put, List.setIfInBounds_toArray, List.set_cons_zero, List.set_cons_succ, List.getElem_toArray, List.getElem_cons_zero, List.getElem_cons_succ]
        refine wpAnyH_take (i := 2) (v := ?v2_25) rfl (by kernel_rfl) (by kernel_rfl) (by kernel_rfl) (fun _ _ _ h => h) (Or.inl ⟨by rfl, ?hy2_25⟩) (by assumption) ?rest2_25
        case hy2_25 => (intro w9 hSw; clear hSw; go_simp; try with_reducible rfl)
        try simp only [Act.put, List.setIfInBounds_toArray, List.set_cons_zero, List.set_cons_succ, List.getElem_toArray, List.getElem_cons_zero, List.getElem_cons_succ]
        refine wpAnyH_take (i := 3) (v := ?v3_26) rfl (by kernel_rfl) (by kernel_rfl) (by kernel_rfl) (fun _ _ _ h => h) (Or.inl ⟨by rfl, ?hy3_26⟩) (by assumption) ?rest3_26
        case hy3_26 => (intro w9 hSw; obtain ⟨sr, sc⟩ := hSw; obtain ⟨q0, q1, q2, q3, q4⟩ := Rbx.cells sr; rw [HD1.out] at q0; rw [HA2.out] at q3; go_simp; try with_reducible rfl)
        try simp only [Act.put, List.setIfInBounds_toArray, List.set_cons_zero, List.set_cons_succ, List.getElem_toArray, List.getElem_cons_zero, List.getElem_cons_succ]
        refine wpAnyH_take (i := 4) (v := ?v4_27) rfl (by kernel_rfl) (by kernel_rfl) (by kernel_rfl) (fun _ _ _ h => h) (Or.inl ⟨by rfl, ?hy4_27⟩) (by assumption) ?rest4_27
        case hy4_27 => (intro w9 hSw; clear hSw; go_simp; try with_reducible rfl)
        try simp only [Act.put, List.setIfInBounds_toArray, List.set_cons_zero, List.set_cons_succ, List.getElem_toArray, List.getElem_cons_zero, List.getElem_cons_succ]
        refine wpAnyH_take (i := 5) (v := ?v5_28) rfl (by kernel_rfl) (by kernel_rfl) (by kernel_rfl) (fun _ _ _ h => h) (Or.inl ⟨by rfl, ?hy5_28⟩) (by assumption) ?rest5_28
        case hy5_28 => (intro w9 hSw; clear hSw; go_simp; try with_reducible rfl)
        try simp only [Act.put, List.setIfInBounds_toArray, List.set_cons_zero, List.set_cons_succ, List.getElem_toArray, List.getElem_cons_zero, List.getElem_cons_succ]
        refine wpAnyH_take (i := 6) (v := ?v6_29) rfl (by kernel_rfl) (by kernel_rfl) (by kernel_rfl) (fun _ _ _ h => h) (Or.inl ⟨by rfl, ?hy6_29⟩) (by assumption) ?rest6_29
        case hy6_29 => (intro w9 hSw; obtain ⟨sr, sc⟩ := hSw; obtain ⟨q0, q1, q2, q3, q4⟩ := Rbx.cells sr; rw [HD1.out] at q0; rw [HA2.out] at q3; go_simp; try with_reducible rfl)
        try simp only [Act.put, List.setIfInBounds_toArray, List.set_cons_zero, List.set_cons_succ, List.getElem_toArray, List.getElem_cons_zero, List.getElem_cons_succ]
        refine wpAnyH_take (i := 7) (v := ?v7_30) rfl (by kernel_rfl) (by kernel_rfl) (by kernel_rfl) (fun _ _ _ h => h) (Or.inl ⟨by rfl, ?hy7_30⟩) (by assumption) ?rest7_30
        case hy7_30 => (intro w9 hSw; clear hSw; go_simp; try with_reducible rfl)
        try simp only [Act.put, List.setIfInBounds_toArray, List.set_cons_zero, List.set_cons_succ, List.getElem_toArray, List.getElem_cons_zero, List.getElem_cons_succ]
        refine wpAnyH_take (i := 8) (v := ?v8_31) rfl (by kernel_rfl) (by kernel_rfl) (by kernel_rfl) (fun _ _ _ h => h) (Or.inl ⟨by rfl, ?hy8_31⟩) (by assumption) ?rest8_31
        case hy8_31 => (intro w9 hSw; clear hSw; go_simp; try with_reducible rfl)
        try simp only [Act.put, List.setIfInBounds_toArray, List.set_cons_zero, List.set_cons_succ, List.getElem_toArray, List.getElem_cons_zero, List.getElem_cons_succ]
        refine wpAnyH_ready (rs := [9]) (by kernel_rfl) (by simp) ?_
        refine AllReadyH.cons rfl (fun K hK => ?_) AllReadyH.nil
        go_simp
        have hg : World.grownBy W16 (W16.setCell ⟨gx, p, none⟩ (fV x)) (some gx) := setb_grown (World.grownBy.refl _ _) p _
        have hsr2 : Sr (W16.setCell ⟨gx, p, none⟩ (fV x)) _ A5 n c5 (LK.set p x) := ⟨by have h9 := hT.sr.own; rw [hA5] at h9 ⊢; exact h9.set_ p x, by rw [List.length_set]; exact hT.sr.len, wd_set hT.sr.wd bj.1 bj.2 p⟩
        have hg2 : World.grownBy W16 (W16.setCell ⟨gx, p, none⟩ (fV x)) (A5.map (·.block)) := by rw [hA5]; exact hg
        have hgr : ∀ k, A5.map (·.block) = some k → w.heap.size < k ∧ k < HD7 := fun k e => by cases h9 : A5 with
          | none => rw [h9] at e; cases e
          | some a => rw [h9] at e; cases e; exact ⟨hge.2.2 a h9, hlt.2.2 a h9⟩
        replace DM := DM.grown hg2 (fun e => by have := hgr _ e.symm; omega)
        replace D7 := D7.grown hg2 (fun e => by have := hgr _ e.symm; omega)
        replace D8 := D8.grown hg2 (fun e => by have := hgr _ e.symm; omega)
        replace D12 := D12.grown hg2 (fun e => by have := hgr _ e.symm; omega)
        replace D13 := D13.grown hg2 (fun e => by have := hgr _ e.symm; omega)
        replace D14 := D14.grown hg2 (fun e => by have := hgr _ e.symm; omega)
        replace D15 := D15.grown hg2 (fun e => by have := hgr _ e.symm; omega)
        replace D16 := D16.grown hg2 (fun e => by have := hgr _ e.symm; omega)
        replace D17 := D17.grown hg2 (fun e => by have := hgr _ e.symm; omega)
        replace hP := hP.right hg2
        replace hP3 := hP3.right hg2
        replace hP4 := hP4.right hg2
        replace hF := hF.grownR hg2 (fun k e => by have := hgr k e; omega)
        replace hC := hC.lowR hg2 (fun k e => by have := hgr k e; omega)
        replace hW := hW.farR hg2 (fun a e e2 => by have := HA17.out a e; have := hgr _ e2.symm; omega)
        replace bz := bz.grown hg2 bz.size (fun k e => by have := hgr k e; omega)
        replace hT := hT.right hsr2 hg2
        have hX9f : fV x = .float .f64 X9 := by rw [← hX9]
        simp only [hX9f] at hT hP hP3 hP4 hF hC hW DM D7 D8 D12 D13 D14 D15 D16 D17 bz
        refine hK.out _ _ ⟨D13, (World.cell?_of_block (Below.heap_setCell _ ⟨gx, p, none⟩ _ _ (by simp only [add_block]; omega))).trans hc2d⟩ (fun hH => ?_)
        clear hK K hS
        have hS := hH
        clear hH
        try simp only [Act.put, List.setIfInBounds_toArray, List.set_cons_zero, List.set_cons_succ, List.getElem_toArray, List.getElem_cons_zero, List.getElem_cons_succ]
        refine wpAnyH_done (by kernel_rfl) ?_ _
        generalize (W16.setCell ⟨gx, p, none⟩ (.float .f64 X9)) = W8 at DM hF hT hP D7 D8 hP3 D12 D13 hP4 D14 D15 hC D16 hW D17 bz hS ⊢
        clear hS hc2d hf6d hc6d
        simp only [onlyN]
        go_wp2_with fail
        go_roundw
        case rel => exact ⟨k + 1, by omega, by go_num, by rw [hST.out, Int.toNat_natCast]; exact hT, hP, hP3, hP4, hF, hC, hW, DM, D7, D8, D12, D13, D14, D15, D16, D17, bz⟩
        case measure => simp [intOf]; omega
      · obtain rfl : k = rn2 := by omega
        rw [HFo.out] at hT
        go_wp2_with fail
        clear e0 e1 e2 e3 e4
        replace DM := DM.drew
        replace hF := hF.drew
        replace hT := hT.drew
        replace hP := hP.drew
        replace D7 := D7.drew
        replace D8 := D8.drew
        replace hP3 := hP3.drew
        replace D12 := D12.drew
        replace D13 := D13.drew
        replace hP4 := hP4.drew
        replace D14 := D14.drew
        replace D15 := D15.drew
        replace hC := hC.drew
        replace D16 := D16.drew
        replace hW := hW.drew
        replace D17 := D17.drew
        replace bz := bz.drew
        refine wp_region_held_drew (S := fun w9 : World => Vbx w9 HD7 (Vu.all s R C) ∧ Rbx w9 (HD7 + 1) r ∧ Vbx w9 HD12 V3 ∧ Rbx w9 (HD12 + 1) (Ru.mk rA rn rc rR rC rA2 k rc2 true) ∧ Vbx w9 HD14 V4 ∧ Rbx w9 (HD14 + 1) r4 ∧ Vbx w9 H16 U ∧ Mbx w9 H17 V4.R V4.C A17 NF c17) (by kernel_rfl) ⟨D7, D8, D12, D13, D14, D15, D16, D17⟩ (fun hS => ?_)
        refine wpAnyH_take (i := 0) (v := ?v0_32) rfl (by kernel_rfl) (by kernel_rfl) (by kernel_rfl) (fun _ _ _ h => h) (Or.inl ⟨by rfl, ?hy0_32⟩) (by assumption) ?rest0_32
        case hy0_32 => (intro w9 hSw; clear hSw; go_simp; try with_reducible rfl)
        try simp only [Act.put, List.setIfInBounds_toArray, List.set_cons_zero, List.set_cons_succ, List.getElem_toArray, List.getElem_cons_zero, List.getElem_cons_succ]
        refine wpAnyH_take (i := 1) (v := ?v1_33) rfl (by kernel_rfl) (by kernel_rfl) (by kernel_rfl) (fun _ _ _ h => h) (Or.inl ⟨by rfl, ?hy1_33⟩) (by assumption) ?rest1_33
        case hy1_33 => (intro w9 hSw; clear hSw; go_simp; try with_reducible rfl)
        try simp only [Act.put, List.setIfInBounds_toArray, List.set_cons_zero, List.set_cons_succ, List.getElem_toArray, List.getElem_cons_zero, List.getElem_cons_succ]
        refine wpAnyH_take (i := 2) (v := ?v2_34) rfl (by kernel_rfl) (by kernel_rfl) (by kernel_rfl) (fun _ _ _ h => h) (Or.inl ⟨by rfl, ?hy2_34⟩) (by assumption) ?rest2_34
        case hy2_34 => (intro w9 hSw; clear hSw; go_simp; try with_reducible rfl)
        try simp only [Act.put, List.setIfInBounds_toArray, List.set_cons_zero, List.set_cons_succ, List.getElem_toArray, List.getElem_cons_zero, List.getElem_cons_succ]
        refine wpAnyH_take (i := 3) (v := ?v3_35) rfl (by kernel_rfl) (by kernel_rfl) (by kernel_rfl) (fun _ _ _ h => h) (Or.inl ⟨by rfl, ?hy3_35⟩) (by assumption) ?rest3_35
        case hy3_35 => (intro w9 hSw; obtain ⟨s7, s8, s12, s13, s14, s15, s16, s17⟩ := hSw; obtain ⟨a0, a1, a2, a3, a4, a5, a6, a7, a8⟩ := Vbx.cells s7; obtain ⟨b0, b1, b2, b3, b4⟩ := Rbx.cells s8; obtain ⟨d0, d1, d2, d3, d4, d5, d6, d7, d8⟩ := Vbx.cells s12; obtain ⟨e0, e1, e2, e3, e4⟩ := Rbx.cells s13; obtain ⟨k0, k1, k2, k3, k4, k5, k6, k7, k8⟩ := Vbx.cells s14; obtain ⟨q0, q1, q2, q3, q4⟩ := Rbx.cells s15; obtain ⟨u0, u1, u2, u3, u4, u5, u6, u7, u8⟩ := Vbx.cells s16; obtain ⟨x0, x1, x2, xf0, xf1, xf2⟩ := Mbx.cells s17; go_simp; try with_reducible rfl)
        try simp only [Act.put, List.setIfInBounds_toArray, List.set_cons_zero, List.set_cons_succ, List.getElem_toArray, List.getElem_cons_zero, List.getElem_cons_succ]
        refine wpAnyH_take (i := 4) (v := ?v4_36) rfl (by kernel_rfl) (by kernel_rfl) (by kernel_rfl) (fun _ _ _ h => h) (Or.inl ⟨by rfl, ?hy4_36⟩) (by assumption) ?rest4_36
        case hy4_36 => (intro w9 hSw; clear hSw; go_simp; try with_reducible rfl)
        try simp only [Act.put, List.setIfInBounds_toArray, List.set_cons_zero, List.set_cons_succ, List.getElem_toArray, List.getElem_cons_zero, List.getElem_cons_succ]
        refine wpAnyH_take (i := 5) (v := ?v5_37) rfl (by kernel_rfl) (by kernel_rfl) (by kernel_rfl) (fun _ _ _ h => h) (Or.inl ⟨by rfl, ?hy5_37⟩) (by assumption) ?rest5_37
        case hy5_37 => (intro w9 hSw; clear hSw; go_simp; try with_reducible rfl)
        try simp only [Act.put, List.setIfInBounds_toArray, List.set_cons_zero, List.set_cons_succ, List.getElem_toArray, List.getElem_cons_zero, List.getElem_cons_succ]
        refine wpAnyH_take (i := 6) (v := ?v6_38) rfl (by kernel_rfl) (by kernel_rfl) (by kernel_rfl) (fun _ _ _ h => h) (Or.inl ⟨by rfl, ?hy6_38⟩) (by assumption) ?rest6_38
        case hy6_38 => (intro w9 hSw; clear hSw; go_simp; try with_reducible rfl)
        try simp only [Act.put, List.setIfInBounds_toArray, List.set_cons_zero, List.set_cons_succ, List.getElem_toArray, List.getElem_cons_zero, List.getElem_cons_succ]
        refine wpAnyH_take (i := 7) (v := ?v7_39) rfl (by kernel_rfl) (by kernel_rfl) (by kernel_rfl) (fun _ _ _ h => h) (Or.inl ⟨by rfl, ?hy7_39⟩) (by assumption) ?rest7_39
        case hy7_39 => (intro w9 hSw; obtain ⟨s7, s8, s12, s13, s14, s15, s16, s17⟩ := hSw; obtain ⟨a0, a1, a2, a3, a4, a5, a6, a7, a8⟩ := Vbx.cells s7; obtain ⟨b0, b1, b2, b3, b4⟩ := Rbx.cells s8; obtain ⟨d0, d1, d2, d3, d4, d5, d6, d7, d8⟩ := Vbx.cells s12; obtain ⟨e0, e1, e2, e3, e4⟩ := Rbx.cells s13; obtain ⟨k0, k1, k2, k3, k4, k5, k6, k7, k8⟩ := Vbx.cells s14; obtain ⟨q0, q1, q2, q3, q4⟩ := Rbx.cells s15; obtain ⟨u0, u1, u2, u3, u4, u5, u6, u7, u8⟩ := Vbx.cells s16; obtain ⟨x0, x1, x2, xf0, xf1, xf2⟩ := Mbx.cells s17; go_simp; try with_reducible rfl)
        try simp only [Act.put, List.setIfInBounds_toArray, List.set_cons_zero, List.set_cons_succ, List.getElem_toArray, List.getElem_cons_zero, List.getElem_cons_succ]
        refine wpAnyH_take (i := 8) (v := ?v8_40) rfl (by kernel_rfl) (by kernel_rfl) (by kernel_rfl) (fun _ _ _ h => h) (Or.inl ⟨by rfl, ?hy8_40⟩) (by assumption) ?rest8_40
        case hy8_40 => (intro w9 hSw; clear hSw; go_simp; try with_reducible rfl)
        try simp only [Act.put, List.setIfInBounds_toArray, List.set_cons_zero, List.set_cons_succ, List.getElem_toArray, List.getElem_cons_zero, List.getElem_cons_succ]
        refine wpAnyH_take (i := 9) (v := undef) rfl (by kernel_rfl) (by kernel_rfl) (by kernel_rfl) (fun _ _ _ h => h) (Or.inr ⟨by rfl, rfl⟩) (by assumption) ?_
        try simp only [Act.put, List.setIfInBounds_toArray, List.set_cons_zero, List.set_cons_succ, List.getElem_toArray, List.getElem_cons_zero, List.getElem_cons_succ]
        refine wpAnyH_take (i := 10) (v := undef) rfl (by kernel_rfl) (by kernel_rfl) (by kernel_rfl) (fun _ _ _ h => h) (Or.inr ⟨by rfl, rfl⟩) (by assumption) ?_
        try simp only [Act.put, List.setIfInBounds_toArray, List.set_cons_zero, List.set_cons_succ, List.getElem_toArray, List.getElem_cons_zero, List.getElem_cons_succ]
        refine wpAnyH_take (i := 11) (v := ?v11_41) rfl (by kernel_rfl) (by kernel_rfl) (by kernel_rfl) (fun _ _ _ h => h) (Or.inl ⟨by rfl, ?hy11_41⟩) (by assumption) ?rest11_41
        case hy11_41 => (intro w9 hSw; clear hSw; go_simp; try with_reducible rfl)
        try simp only [Act.put, List.setIfInBounds_toArray, List.set_cons_zero, List.set_cons_succ, List.getElem_toArray, List.getElem_cons_zero, List.getElem_cons_succ]
        refine wpAnyH_take (i := 12) (v := ?v12_42) rfl (by kernel_rfl) (by kernel_rfl) (by kernel_rfl) (fun _ _ _ h => h) (Or.inl ⟨by rfl, ?hy12_42⟩) (by assumption) ?rest12_42
        case hy12_42 => (intro w9 hSw; clear hSw; go_simp; try with_reducible rfl)
        try simp only [Act.put, List.setIfInBounds_toArray, List.set_cons_zero, List.set_cons_succ, List.getElem_toArray, List.getElem_cons_zero, List.getElem_cons_succ]
        refine wpAnyH_take (i := 13) (v := ?v13_43) rfl (by kernel_rfl) (by kernel_rfl) (by kernel_rfl) (fun _ _ _ h => h) (Or.inl ⟨by rfl, ?hy13_43⟩) (by assumption) ?rest13_43
        case hy13_43 => (intro w9 hSw; clear hSw; go_simp; try with_reducible rfl)
        try simp only [Act.put, List.setIfInBounds_toArray, List.set_cons_zero, List.set_cons_succ, List.getElem_toArray, List.getElem_cons_zero, List.getElem_cons_succ]
        refine wpAnyH_take (i := 14) (v := ?v14_44) rfl (by kernel_rfl) (by kernel_rfl) (by kernel_rfl) (fun _ _ _ h => h) (Or.inl ⟨by rfl, ?hy14_44⟩) (by assumption) ?rest14_44
        case hy14_44 => (intro w9 hSw; obtain ⟨s7, s8, s12, s13, s14, s15, s16, s17⟩ := hSw; obtain ⟨a0, a1, a2, a3, a4, a5, a6, a7, a8⟩ := Vbx.cells s7; obtain ⟨b0, b1, b2, b3, b4⟩ := Rbx.cells s8; obtain ⟨d0, d1, d2, d3, d4, d5, d6, d7, d8⟩ := Vbx.cells s12; obtain ⟨e0, e1, e2, e3, e4⟩ := Rbx.cells s13; obtain ⟨k0, k1, k2, k3, k4, k5, k6, k7, k8⟩ := Vbx.cells s14; obtain ⟨q0, q1, q2, q3, q4⟩ := Rbx.cells s15; obtain ⟨u0, u1, u2, u3, u4, u5, u6, u7, u8⟩ := Vbx.cells s16; obtain ⟨x0, x1, x2, xf0, xf1, xf2⟩ := Mbx.cells s17; go_simp; try with_reducible rfl)
        try simp only [Act.put, List.setIfInBounds_toArray, List.set_cons_zero, List.set_cons_succ, List.getElem_toArray, List.getElem_cons_zero, List.getElem_cons_succ]
        refine wpAnyH_take (i := 16) (v := ?v16_45) rfl (by kernel_rfl) (by kernel_rfl) (by kernel_rfl) (fun _ _ _ h => h) (Or.inl ⟨by rfl, ?hy16_45⟩) (by assumption) ?rest16_45
        case hy16_45 => (intro w9 hSw; obtain ⟨s7, s8, s12, s13, s14, s15, s16, s17⟩ := hSw; obtain ⟨a0, a1, a2, a3, a4, a5, a6, a7, a8⟩ := Vbx.cells s7; obtain ⟨b0, b1, b2, b3, b4⟩ := Rbx.cells s8; obtain ⟨d0, d1, d2, d3, d4, d5, d6, d7, d8⟩ := Vbx.cells s12; obtain ⟨e0, e1, e2, e3, e4⟩ := Rbx.cells s13; obtain ⟨k0, k1, k2, k3, k4, k5, k6, k7, k8⟩ := Vbx.cells s14; obtain ⟨q0, q1, q2, q3, q4⟩ := Rbx.cells s15; obtain ⟨u0, u1, u2, u3, u4, u5, u6, u7, u8⟩ := Vbx.cells s16; obtain ⟨x0, x1, x2, xf0, xf1, xf2⟩ := Mbx.cells s17; go_simp; try with_reducible rfl)
        try simp only [Act.put, List.setIfInBounds_toArray, List.set_cons_zero, List.set_cons_succ, List.getElem_toArray, List.getElem_cons_zero, List.getElem_cons_succ]
        refine wpAnyH_ready (rs := [15]) (by kernel_rfl) (by simp) ?_
        refine AllReadyH.cons rfl (fun K hK => ?_) AllReadyH.nil
        go_simp
        with_reducible refine (Matrix_fl hP.vk (fun _ => ⟨hT.st, hfl⟩)).mono ?_
        rintro e w18 ⟨A7, c7, rfl, hX, hb⟩
        replace DM := DM.on hb
        replace hF := hF.on hb
        replace hT := hT.on hb
        replace hP := hP.on hb
        replace D7 := D7.on hb
        replace D8 := D8.on hb
        replace hP3 := hP3.on hb
        replace D12 := D12.on hb
        replace D13 := D13.on hb
        replace hP4 := hP4.on hb
        replace D14 := D14.on hb
        replace D15 := D15.on hb
        replace hC := hC.on hb
        replace D16 := D16.on hb
        replace hW := hW.on hb
        replace D17 := D17.on hb
        replace bz := bz.trans (hb.mono bz.size)
        clear hb
        refine hK.out _ _ ⟨D7, D8, D12, D13, D14, D15, D16, D17⟩ (fun hH => ?_)
        clear hK K hS
        have hS := hH
        clear hH
        try simp only [Act.put, List.setIfInBounds_toArray, List.set_cons_zero, List.set_cons_succ, List.getElem_toArray, List.getElem_cons_zero, List.getElem_cons_succ]
        refine wpAnyH_ready (rs := [17]) (by kernel_rfl) (by simp) ?_
        refine AllReadyH.cons rfl (fun K hK => ?_) AllReadyH.nil
        go_simp
        with_reducible refine (rMat_fl hP.rk hT.sr hP.vk).mono ?_
        rintro e w19 ⟨A8, c8, rfl, hY, hb⟩
        replace DM := DM.on hb
        replace hF := hF.on hb
        replace hT := hT.on hb
        replace hP := hP.on hb
        replace D7 := D7.on hb
        replace D8 := D8.on hb
        replace hP3 := hP3.on hb
        replace D12 := D12.on hb
        replace D13 := D13.on hb
        replace hP4 := hP4.on hb
        replace D14 := D14.on hb
        replace D15 := D15.on hb
        replace hC := hC.on hb
        replace D16 := D16.on hb
        replace hW := hW.on hb
        replace D17 := D17.on hb
        replace hX := hX.on hb
        replace bz := bz.trans (hb.mono bz.size)
        clear hb
        refine hK.out _ _ ⟨D7, D8, D12, D13, D14, D15, D16, D17⟩ (fun hH => ?_)
        clear hK K hS
        have hS := hH
        clear hH
        try simp only [Act.put, List.setIfInBounds_toArray, List.set_cons_zero, List.set_cons_succ, List.getElem_toArray, List.getElem_cons_zero, List.getElem_cons_succ]
        refine wpAnyH_ready (rs := [18]) (by kernel_rfl) (by simp) ?_
        refine AllReadyH.cons rfl (fun K hK => ?_) AllReadyH.nil
        go_simp
        with_reducible refine (SameM_true hX hY).mono ?_
        rintro e w20 ⟨rfl, hb⟩
        replace DM := DM.on hb
        replace hF := hF.on hb
        replace hT := hT.on hb
        replace hP := hP.on hb
        replace D7 := D7.on hb
        replace D8 := D8.on hb
        replace hP3 := hP3.on hb
        replace D12 := D12.on hb
        replace D13 := D13.on hb
        replace hP4 := hP4.on hb
        replace D14 := D14.on hb
        replace D15 := D15.on hb
        replace hC := hC.on hb
        replace D16 := D16.on hb
        replace hW := hW.on hb
        replace D17 := D17.on hb
        replace hX := hX.on hb
        replace hY := hY.on hb
        replace bz := bz.trans (hb.mono bz.size)
        clear hb hX hY
        refine hK.out _ _ ⟨D7, D8, D12, D13, D14, D15, D16, D17⟩ (fun hH => ?_)
        clear hK K hS
        have hS := hH
        clear hH
        try simp only [Act.put, List.setIfInBounds_toArray, List.set_cons_zero, List.set_cons_succ, List.getElem_toArray, List.getElem_cons_zero, List.getElem_cons_succ]
        refine wpAnyH_take (i := 19) (v := ?v19_46) rfl (by kernel_rfl) (by kernel_rfl) (by kernel_rfl) (fun _ _ _ h => h) (Or.inl ⟨by rfl, ?hy19_46⟩) (by assumption) ?rest19_46
        case hy19_46 => (intro w9 hSw; clear hSw; go_simp; try with_reducible rfl)
        try simp only [Act.put, List.setIfInBounds_toArray, List.set_cons_zero, List.set_cons_succ, List.getElem_toArray, List.getElem_cons_zero, List.getElem_cons_succ]
        refine wpAnyH_take (i := 20) (v := ?v20_47) rfl (by kernel_rfl) (by kernel_rfl) (by kernel_rfl) (fun _ _ _ h => h) (Or.inl ⟨by rfl, ?hy20_47⟩) (by assumption) ?rest20_47
        case hy20_47 => (intro w9 hSw; clear hSw; go_simp; try with_reducible rfl)
        try simp only [Act.put, List.setIfInBounds_toArray, List.set_cons_zero, List.set_cons_succ, List.getElem_toArray, List.getElem_cons_zero, List.getElem_cons_succ]
        refine wpAnyH_take (i := 21) (v := ?v21_48) rfl (by kernel_rfl) (by kernel_rfl) (by kernel_rfl) (fun _ _ _ h => h) (Or.inl ⟨by rfl, ?hy21_48⟩) (by assumption) ?rest21_48
        case hy21_48 => (intro w9 hSw; obtain ⟨s7, s8, s12, s13, s14, s15, s16, s17⟩ := hSw; obtain ⟨a0, a1, a2, a3, a4, a5, a6, a7, a8⟩ := Vbx.cells s7; obtain ⟨b0, b1, b2, b3, b4⟩ := Rbx.cells s8; obtain ⟨d0, d1, d2, d3, d4, d5, d6, d7, d8⟩ := Vbx.cells s12; obtain ⟨e0, e1, e2, e3, e4⟩ := Rbx.cells s13; obtain ⟨k0, k1, k2, k3, k4, k5, k6, k7, k8⟩ := Vbx.cells s14; obtain ⟨q0, q1, q2, q3, q4⟩ := Rbx.cells s15; obtain ⟨u0, u1, u2, u3, u4, u5, u6, u7, u8⟩ := Vbx.cells s16; obtain ⟨x0, x1, x2, xf0, xf1, xf2⟩ := Mbx.cells s17; go_simp; try with_reducible rfl)
        try simp only [Act.put, List.setIfInBounds_toArray, List.set_cons_zero, List.set_cons_succ, List.getElem_toArray, List.getElem_cons_zero, List.getElem_cons_succ]
        refine wpAnyH_take (i := 23) (v := ?v23_49) rfl (by kernel_rfl) (by kernel_rfl) (by kernel_rfl) (fun _ _ _ h => h) (Or.inl ⟨by rfl, ?hy23_49⟩) (by assumption) ?rest23_49
        case hy23_49 => (intro w9 hSw; obtain ⟨s7, s8, s12, s13, s14, s15, s16, s17⟩ := hSw; obtain ⟨a0, a1, a2, a3, a4, a5, a6, a7, a8⟩ := Vbx.cells s7; obtain ⟨b0, b1, b2, b3, b4⟩ := Rbx.cells s8; obtain ⟨d0, d1, d2, d3, d4, d5, d6, d7, d8⟩ := Vbx.cells s12; obtain ⟨e0, e1, e2, e3, e4⟩ := Rbx.cells s13; obtain ⟨k0, k1, k2, k3, k4, k5, k6, k7, k8⟩ := Vbx.cells s14; obtain ⟨q0, q1, q2, q3, q4⟩ := Rbx.cells s15; obtain ⟨u0, u1, u2, u3, u4, u5, u6, u7, u8⟩ := Vbx.cells s16; obtain ⟨x0, x1, x2, xf0, xf1, xf2⟩ := Mbx.cells s17; go_simp; try with_reducible rfl)
        try simp only [Act.put, List.setIfInBounds_toArray, List.set_cons_zero, List.set_cons_succ, List.getElem_toArray, List.getElem_cons_zero, List.getElem_cons_succ]
        refine wpAnyH_ready (rs := [22]) (by kernel_rfl) (by simp) ?_
        refine AllReadyH.cons rfl (fun K hK => ?_) AllReadyH.nil
        go_simp
        with_reducible refine (hC.mat).mono ?_
        rintro e w21 ⟨A7, c7, rfl, hX, hb⟩
        replace DM := DM.on hb
        replace hF := hF.on hb
        replace hT := hT.on hb
        replace hP := hP.on hb
        replace D7 := D7.on hb
        replace D8 := D8.on hb
        replace hP3 := hP3.on hb
        replace D12 := D12.on hb
        replace D13 := D13.on hb
        replace hP4 := hP4.on hb
        replace D14 := D14.on hb
        replace D15 := D15.on hb
        replace hC := hC.on hb
        replace D16 := D16.on hb
        replace hW := hW.on hb
        replace D17 := D17.on hb
        replace bz := bz.trans (hb.mono bz.size)
        clear hb
        simp only [hNF] at hX ⊢
        refine hK.out _ _ ⟨D7, D8, D12, D13, D14, D15, D16, D17⟩ (fun hH => ?_)
        clear hK K hS
        have hS := hH
        clear hH
        try simp only [Act.put, List.setIfInBounds_toArray, List.set_cons_zero, List.set_cons_succ, List.getElem_toArray, List.getElem_cons_zero, List.getElem_cons_succ]
        refine wpAnyH_ready (rs := [24]) (by kernel_rfl) (by simp) ?_
        refine AllReadyH.cons rfl (fun K hK => ?_) AllReadyH.nil
        go_simp
        with_reducible refine (SameM_true hX hW).mono ?_
        rintro e w22 ⟨rfl, hb⟩
        replace DM := DM.on hb
        replace hF := hF.on hb
        replace hT := hT.on hb
        replace hP := hP.on hb
        replace D7 := D7.on hb
        replace D8 := D8.on hb
        replace hP3 := hP3.on hb
        replace D12 := D12.on hb
        replace D13 := D13.on hb
        replace hP4 := hP4.on hb
        replace D14 := D14.on hb
        replace D15 := D15.on hb
        replace hC := hC.on hb
        replace D16 := D16.on hb
        replace hW := hW.on hb
        replace D17 := D17.on hb
        replace hX := hX.on hb
        replace bz := bz.trans (hb.mono bz.size)
        clear hb hX
        refine hK.out _ _ ⟨D7, D8, D12, D13, D14, D15, D16, D17⟩ (fun hH => ?_)
        clear hK K hS
        have hS := hH
        clear hH
        try simp only [Act.put, List.setIfInBounds_toArray, List.set_cons_zero, List.set_cons_succ, List.getElem_toArray, List.getElem_cons_zero, List.getElem_cons_succ]
        refine wpAnyH_take (i := 25) (v := ?v25_50) rfl (by kernel_rfl) (by kernel_rfl) (by kernel_rfl) (fun _ _ _ h => h) (Or.inl ⟨by rfl, ?hy25_50⟩) (by assumption) ?rest25_50
        case hy25_50 => (intro w9 hSw; clear hSw; go_simp; try with_reducible rfl)
        try simp only [Act.put, List.setIfInBounds_toArray, List.set_cons_zero, List.set_cons_succ, List.getElem_toArray, List.getElem_cons_zero, List.getElem_cons_succ]
        refine wpAnyH_take (i := 26) (v := ?v26_51) rfl (by kernel_rfl) (by kernel_rfl) (by kernel_rfl) (fun _ _ _ h => h) (Or.inl ⟨by rfl, ?hy26_51⟩) (by assumption) ?rest26_51
        case hy26_51 => (intro w9 hSw; clear hSw; go_simp; try with_reducible rfl)
        try simp only [Act.put, List.setIfInBounds_toArray, List.set_cons_zero, List.set_cons_succ, List.getElem_toArray, List.getElem_cons_zero, List.getElem_cons_succ]
        refine wpAnyH_take (i := 27) (v := ?v27_52) rfl (by kernel_rfl) (by kernel_rfl) (by kernel_rfl) (fun _ _ _ h => h) (Or.inl ⟨by rfl, ?hy27_52⟩) (by assumption) ?rest27_52
        case hy27_52 => (intro w9 hSw; obtain ⟨s7, s8, s12, s13, s14, s15, s16, s17⟩ := hSw; obtain ⟨a0, a1, a2, a3, a4, a5, a6, a7, a8⟩ := Vbx.cells s7; obtain ⟨b0, b1, b2, b3, b4⟩ := Rbx.cells s8; obtain ⟨d0, d1, d2, d3, d4, d5, d6, d7, d8⟩ := Vbx.cells s12; obtain ⟨e0, e1, e2, e3, e4⟩ := Rbx.cells s13; obtain ⟨k0, k1, k2, k3, k4, k5, k6, k7, k8⟩ := Vbx.cells s14; obtain ⟨q0, q1, q2, q3, q4⟩ := Rbx.cells s15; obtain ⟨u0, u1, u2, u3, u4, u5, u6, u7, u8⟩ := Vbx.cells s16; obtain ⟨x0, x1, x2, xf0, xf1, xf2⟩ := Mbx.cells s17; go_simp; try with_reducible rfl)
        try simp only [Act.put, List.setIfInBounds_toArray, List.set_cons_zero, List.set_cons_succ, List.getElem_toArray, List.getElem_cons_zero, List.getElem_cons_succ]
        refine wpAnyH_take (i := 28) (v := ?v28_53) rfl (by kernel_rfl) (by kernel_rfl) (by kernel_rfl) (fun _ _ _ h => h) (Or.inl ⟨by rfl, ?hy28_53⟩) (by assumption) ?rest28_53
        case hy28_53 => (intro w9 hSw; obtain ⟨s7, s8, s12, s13, s14, s15, s16, s17⟩ := hSw; obtain ⟨a0, a1, a2, a3, a4, a5, a6, a7, a8⟩ := Vbx.cells s7; obtain ⟨b0, b1, b2, b3, b4⟩ := Rbx.cells s8; obtain ⟨d0, d1, d2, d3, d4, d5, d6, d7, d8⟩ := Vbx.cells s12; obtain ⟨e0, e1, e2, e3, e4⟩ := Rbx.cells s13; obtain ⟨k0, k1, k2, k3, k4, k5, k6, k7, k8⟩ := Vbx.cells s14; obtain ⟨q0, q1, q2, q3, q4⟩ := Rbx.cells s15; obtain ⟨u0, u1, u2, u3, u4, u5, u6, u7, u8⟩ := Vbx.cells s16; obtain ⟨x0, x1, x2, xf0, xf1, xf2⟩ := Mbx.cells s17; go_simp; try with_reducible rfl)
        try simp only [Act.put, List.setIfInBounds_toArray, List.set_cons_zero, List.set_cons_succ, List.getElem_toArray, List.getElem_cons_zero, List.getElem_cons_succ]
        refine wpAnyH_ready (rs := [29]) (by kernel_rfl) (by simp) ?_
        refine AllReadyH.cons rfl (fun K hK => ?_) AllReadyH.nil
        go_simp
        with_reducible refine (hC.apart hT.st hP.vk hs5).mono ?_
        rintro e w23 ⟨rfl, hb⟩
        replace DM := DM.on hb
        replace hF := hF.on hb
        replace hT := hT.on hb
        replace hP := hP.on hb
        replace D7 := D7.on hb
        replace D8 := D8.on hb
        replace hP3 := hP3.on hb
        replace D12 := D12.on hb
        replace D13 := D13.on hb
        replace hP4 := hP4.on hb
        replace D14 := D14.on hb
        replace D15 := D15.on hb
        replace hC := hC.on hb
        replace D16 := D16.on hb
        replace hW := hW.on hb
        replace D17 := D17.on hb
        replace bz := bz.trans (hb.mono bz.size)
        clear hb
        refine hK.out _ _ ⟨D7, D8, D12, D13, D14, D15, D16, D17⟩ (fun hH => ?_)
        clear hK K hS
        have hS := hH
        clear hH
        try simp only [Act.put, List.setIfInBounds_toArray, List.set_cons_zero, List.set_cons_succ, List.getElem_toArray, List.getElem_cons_zero, List.getElem_cons_succ]
        refine wpAnyH_take (i := 30) (v := ?v30_54) rfl (by kernel_rfl) (by kernel_rfl) (by kernel_rfl) (fun _ _ _ h => h) (Or.inl ⟨by rfl, ?hy30_54⟩) (by assumption) ?rest30_54
        case hy30_54 => (intro w9 hSw; clear hSw; go_simp; try with_reducible rfl)
        try simp only [Act.put, List.setIfInBounds_toArray, List.set_cons_zero, List.set_cons_succ, List.getElem_toArray, List.getElem_cons_zero, List.getElem_cons_succ]
        refine wpAnyH_take (i := 31) (v := ?v31_55) rfl (by kernel_rfl) (by kernel_rfl) (by kernel_rfl) (fun _ _ _ h => h) (Or.inl ⟨by rfl, ?hy31_55⟩) (by assumption) ?rest31_55
        case hy31_55 => (intro w9 hSw; clear hSw; go_simp; try with_reducible rfl)
        try simp only [Act.put, List.setIfInBounds_toArray, List.set_cons_zero, List.set_cons_succ, List.getElem_toArray, List.getElem_cons_zero, List.getElem_cons_succ]
        refine wpAnyH_take (i := 32) (v := ?v32_56) rfl (by kernel_rfl) (by kernel_rfl) (by kernel_rfl) (fun _ _ _ h => h) (Or.inl ⟨by rfl, ?hy32_56⟩) (by assumption) ?rest32_56
        case hy32_56 => (intro w9 hSw; clear hSw; go_simp; try with_reducible rfl)
        try simp only [Act.put, List.setIfInBounds_toArray, List.set_cons_zero, List.set_cons_succ, List.getElem_toArray, List.getElem_cons_zero, List.getElem_cons_succ]
        refine wpAnyH_ready (rs := [33]) (by kernel_rfl) (by simp) ?_
        refine AllReadyH.cons rfl (fun K hK => ?_) AllReadyH.nil
        go_simp
        with_reducible refine (known_any _).mono ?_
        rintro e w24 ⟨rfl, hb⟩
        replace DM := DM.on hb
        replace hF := hF.on hb
        replace hT := hT.on hb
        replace hP := hP.on hb
        replace D7 := D7.on hb
        replace D8 := D8.on hb
        replace hP3 := hP3.on hb
        replace D12 := D12.on hb
        replace D13 := D13.on hb
        replace hP4 := hP4.on hb
        replace D14 := D14.on hb
        replace D15 := D15.on hb
        replace hC := hC.on hb
        replace D16 := D16.on hb
        replace hW := hW.on hb
        replace D17 := D17.on hb
        replace bz := bz.trans (hb.mono bz.size)
        clear hb
        refine hK.out _ _ ⟨D7, D8, D12, D13, D14, D15, D16, D17⟩ (fun hH => ?_)
        clear hK K hS
        have hS := hH
        clear hH
        try simp only [Act.put, List.setIfInBounds_toArray, List.set_cons_zero, List.set_cons_succ, List.getElem_toArray, List.getElem_cons_zero, List.getElem_cons_succ]
        refine wpAnyH_take (i := 34) (v := ?v34_57) rfl (by kernel_rfl) (by kernel_rfl) (by kernel_rfl) (fun _ _ _ h => h) (Or.inl ⟨by rfl, ?hy34_57⟩) (by assumption) ?rest34_57
        case hy34_57 => (intro w9 hSw; clear hSw; go_simp; try with_reducible rfl)
        try simp only [Act.put, List.setIfInBounds_toArray, List.set_cons_zero, List.set_cons_succ, List.getElem_toArray, List.getElem_cons_zero, List.getElem_cons_succ]
        refine wpAnyH_take (i := 35) (v := ?v35_58) rfl (by kernel_rfl) (by kernel_rfl) (by kernel_rfl) (fun _ _ _ h => h) (Or.inl ⟨by rfl, ?hy35_58⟩) (by assumption) ?rest35_58
        case hy35_58 => (intro w9 hSw; clear hSw; go_simp; try with_reducible rfl)
        try simp only [Act.put, List.setIfInBounds_toArray, List.set_cons_zero, List.set_cons_succ, List.getElem_toArray, List.getElem_cons_zero, List.getElem_cons_succ]
        refine wpAnyH_done (by kernel_rfl) ?_ _
        go_wp2_with fail
        go_ret
        exact ⟨rfl, bz⟩
  · have hrb : rb = false := by rw [hb3, hp9]; rfl
    clear hb3
    subst hrb
    have hz9 := hP3.rk.zero rfl
    have hV0 := hP3.vk.none_ (p_none hp9)
    have hFT : FL9 = TL := by rw [← hFL9, hV0]; unfold Vu.fillL setTo; simp
    clear hV0
    simp only [Ru.mk.injEq] at hz9
    obtain ⟨rfl, rfl, rfl, rfl, rfl, rfl, rfl, rfl, _⟩ := hz9
    have pF : ∀ (W : World) (B : Nat) (h : St W B s g cap C.toNat TL), Calls Try.prog 17 #[V3.V, .float .f64 X9] W (Wrote W B s g cap C.toNat 1 FL9) := fun W B h => by have := Fill_all hP3.vk h hl2 bj.1 bj.2; rw [hFL9, hX9, show filE V3 = 1 by unfold filE; rw [hp9]; rfl] at this; exact this
    obtain ⟨cD12_0, cD12_1, cD12_2, cD12_3, cD12_4, cD12_5, cD12_6, cD12_7, cD12_8⟩ := Vbx.cells D12
    go_wp2_with fail
    with_reducible refine (pF _ _ hT.st).mono ?_
    rintro e w17 ⟨rfl, hst2, hg⟩
    replace DM := DM.grown hg (by simp; omega)
    replace D7 := D7.grown hg (by simp; omega)
    replace D8 := D8.grown hg (by simp; omega)
    replace D12 := D12.grown hg (by simp; omega)
    replace D13 := D13.grown hg (by simp; omega)
    replace D14 := D14.grown hg (by simp; omega)
    replace D15 := D15.grown hg (by simp; omega)
    replace D16 := D16.grown hg (by simp; omega)
    replace D17 := D17.grown hg (by simp; omega)
    replace hP := hP.left hg
    replace hP3 := hP3.left hg
    replace hP4 := hP4.left hg
    replace hF := hF.grown hg (by omega)
    replace hC := hC.low hg (by omega)
    replace hW := hW.farB hg (fun a e => by have := HA17.out a e; omega)
    replace bz := bz.grown hg bz.size (fun k e => by cases e; omega)
    replace hT := hT.left hst2 (by rw [hfl, hl2]) hg
    clear hst2 hg pF cD12_0 cD12_1 cD12_2 cD12_3 cD12_4 cD12_5 cD12_6 cD12_7 cD12_8
    go_wp2_with fail
    with_reducible refine (num_any _ _).mono ?_
    rintro e v99 ⟨rfl, rfl⟩
    rw [hFT] at hT hfl
    clear hFT hFL9
    obtain ⟨cD13_0, cD13_1, cD13_2, cD13_3, cD13_4⟩ := Rbx.cells D13
    go_wp2_with fail
    go_loopw [19] (fun i wr => i = .int .i64 0 ∧ wr = w17) (fun _ _ => 0)
    case atStart => exact ⟨rfl, rfl⟩
    case round =>
      obtain ⟨rfl, rfl⟩ := hrel
      go_wp2_with fail
      clear cD13_0 cD13_1 cD13_2 cD13_3 cD13_4
      replace DM := DM.drew
      replace hF := hF.drew
      replace hT := hT.drew
      replace hP := hP.drew
      replace D7 := D7.drew
      replace D8 := D8.drew
      replace hP3 := hP3.drew
      replace D12 := D12.drew
      replace D13 := D13.drew
      replace hP4 := hP4.drew
      replace D14 := D14.drew
      replace D15 := D15.drew
      replace hC := hC.drew
      replace D16 := D16.drew
      replace hW := hW.drew
      replace D17 := D17.drew
      replace bz := bz.drew
      refine wp_region_held_drew (S := fun w9 : World => Vbx w9 HD7 (Vu.all s R C) ∧ Rbx w9 (HD7 + 1) r ∧ Vbx w9 HD12 V3 ∧ Rbx w9 (HD12 + 1) Ru.zero ∧ Vbx w9 HD14 V4 ∧ Rbx w9 (HD14 + 1) r4 ∧ Vbx w9 H16 U ∧ Mbx w9 H17 V4.R V4.C A17 NF c17) (by kernel_rfl) ⟨D7, D8, D12, D13, D14, D15, D16, D17⟩ (fun hS => ?_)
      refine wpAnyH_take (i := 0) (v := ?v0_59) rfl (by kernel_rfl) (by kernel_rfl) (by kernel_rfl) (fun _ _ _ h => h) (Or.inl ⟨by rfl, ?hy0_59⟩) (by assumption) ?rest0_59
      case hy0_59 => (intro w9 hSw; clear hSw; go_simp; try with_reducible rfl)
      try simp only [Act.put, List.setIfInBounds_toArray, List.set_cons_zero, List.set_cons_succ, List.getElem_toArray, List.getElem_cons_zero, List.getElem_cons_succ]
      refine wpAnyH_take (i := 1) (v := ?v1_60) rfl (by kernel_rfl) (by kernel_rfl) (by kernel_rfl) (fun _ _ _ h => h) (Or.inl ⟨by rfl, ?hy1_60⟩) (by assumption) ?rest1_60
      case hy1_60 => (intro w9 hSw; clear hSw; go_simp; try with_reducible rfl)
      try simp only [Act.put, List.setIfInBounds_toArray, List.set_cons_zero, List.set_cons_succ, List.getElem_toArray, List.getElem_cons_zero, List.getElem_cons_succ]
      refine wpAnyH_take (i := 2) (v := ?v2_61) rfl (by kernel_rfl) (by kernel_rfl) (by kernel_rfl) (fun _ _ _ h => h) (Or.inl ⟨by rfl, ?hy2_61⟩) (by assumption) ?rest2_61
      case hy2_61 => (intro w9 hSw; clear hSw; go_simp; try with_reducible rfl)
      try simp only [Act.put, List.setIfInBounds_toArray, List.set_cons_zero, List.set_cons_succ, List.getElem_toArray, List.getElem_cons_zero, List.getElem_cons_succ]
      refine wpAnyH_take (i := 3) (v := ?v3_62) rfl (by kernel_rfl) (by kernel_rfl) (by kernel_rfl) (fun _ _ _ h => h) (Or.inl ⟨by rfl, ?hy3_62⟩) (by assumption) ?rest3_62
      case hy3_62 => (intro w9 hSw; obtain ⟨s7, s8, s12, s13, s14, s15, s16, s17⟩ := hSw; obtain ⟨a0, a1, a2, a3, a4, a5, a6, a7, a8⟩ := Vbx.cells s7; obtain ⟨b0, b1, b2, b3, b4⟩ := Rbx.cells s8; obtain ⟨d0, d1, d2, d3, d4, d5, d6, d7, d8⟩ := Vbx.cells s12; obtain ⟨e0, e1, e2, e3, e4⟩ := Rbx.cells s13; obtain ⟨k0, k1, k2, k3, k4, k5, k6, k7, k8⟩ := Vbx.cells s14; obtain ⟨q0, q1, q2, q3, q4⟩ := Rbx.cells s15; obtain ⟨u0, u1, u2, u3, u4, u5, u6, u7, u8⟩ := Vbx.cells s16; obtain ⟨x0, x1, x2, xf0, xf1, xf2⟩ := Mbx.cells s17; go_simp; try with_reducible rfl)
      try simp only [Act.put, List.setIfInBounds_toArray, List.set_cons_zero, List.set_cons_succ, List.getElem_toArray, List.getElem_cons_zero, List.getElem_cons_succ]
      refine wpAnyH_take (i := 4) (v := ?v4_63) rfl (by kernel_rfl) (by kernel_rfl) (by kernel_rfl) (fun _ _ _ h => h) (Or.inl ⟨by rfl, ?hy4_63⟩) (by assumption) ?rest4_63
      case hy4_63 => (intro w9 hSw; clear hSw; go_simp; try with_reducible rfl)
      try simp only [Act.put, List.setIfInBounds_toArray, List.set_cons_zero, List.set_cons_succ, List.getElem_toArray, List.getElem_cons_zero, List.getElem_cons_succ]
      refine wpAnyH_take (i := 5) (v := ?v5_64) rfl (by kernel_rfl) (by kernel_rfl) (by kernel_rfl) (fun _ _ _ h => h) (Or.inl ⟨by rfl, ?hy5_64⟩) (by assumption) ?rest5_64
      case hy5_64 => (intro w9 hSw; clear hSw; go_simp; try with_reducible rfl)
      try simp only [Act.put, List.setIfInBounds_toArray, List.set_cons_zero, List.set_cons_succ, List.getElem_toArray, List.getElem_cons_zero, List.getElem_cons_succ]
      refine wpAnyH_take (i := 6) (v := ?v6_65) rfl (by kernel_rfl) (by kernel_rfl) (by kernel_rfl) (fun _ _ _ h => h) (Or.inl ⟨by rfl, ?hy6_65⟩) (by assumption) ?rest6_65
      case hy6_65 => (intro w9 hSw; clear hSw; go_simp; try with_reducible rfl)
      try simp only [Act.put, List.setIfInBounds_toArray, List.set_cons_zero, List.set_cons_succ, List.getElem_toArray, List.getElem_cons_zero, List.getElem_cons_succ]
      refine wpAnyH_take (i := 7) (v := ?v7_66) rfl (by kernel_rfl) (by kernel_rfl) (by kernel_rfl) (fun _ _ _ h => h) (Or.inl ⟨by rfl, ?hy7_66⟩) (by assumption) ?rest7_66
      case hy7_66 => (intro w9 hSw; obtain ⟨s7, s8, s12, s13, s14, s15, s16, s17⟩ := hSw; obtain ⟨a0, a1, a2, a3, a4, a5, a6, a7, a8⟩ := Vbx.cells s7; obtain ⟨b0, b1, b2, b3, b4⟩ := Rbx.cells s8; obtain ⟨d0, d1, d2, d3, d4, d5, d6, d7, d8⟩ := Vbx.cells s12; obtain ⟨e0, e1, e2, e3, e4⟩ := Rbx.cells s13; obtain ⟨k0, k1, k2, k3, k4, k5, k6, k7, k8⟩ := Vbx.cells s14; obtain ⟨q0, q1, q2, q3, q4⟩ := Rbx.cells s15; obtain ⟨u0, u1, u2, u3, u4, u5, u6, u7, u8⟩ := Vbx.cells s16; obtain ⟨x0, x1, x2, xf0, xf1, xf2⟩ := Mbx.cells s17; go_simp; try with_reducible rfl)
      try simp only [Act.put, List.setIfInBounds_toArray, List.set_cons_zero, List.set_cons_succ, List.getElem_toArray, List.getElem_cons_zero, List.getElem_cons_succ]
      refine wpAnyH_take (i := 8) (v := ?v8_67) rfl (by kernel_rfl) (by kernel_rfl) (by kernel_rfl) (fun _ _ _ h => h) (Or.inl ⟨by rfl, ?hy8_67⟩) (by assumption) ?rest8_67
      case hy8_67 => (intro w9 hSw; clear hSw; go_simp; try with_reducible rfl)
      try simp only [Act.put, List.setIfInBounds_toArray, List.set_cons_zero, List.set_cons_succ, List.getElem_toArray, List.getElem_cons_zero, List.getElem_cons_succ]
      refine wpAnyH_take (i := 9) (v := ?v9_68) rfl (by kernel_rfl) (by kernel_rfl) (by kernel_rfl) (fun _ _ _ h => h) (Or.inl ⟨by rfl, ?hy9_68⟩) (by assumption) ?rest9_68
      case hy9_68 => (intro w9 hSw; clear hSw; go_simp; try with_reducible rfl)
      try simp only [Act.put, List.setIfInBounds_toArray, List.set_cons_zero, List.set_cons_succ, List.getElem_toArray, List.getElem_cons_zero, List.getElem_cons_succ]
      refine wpAnyH_take (i := 10) (v := ?v10_69) rfl (by kernel_rfl) (by kernel_rfl) (by kernel_rfl) (fun _ _ _ h => h) (Or.inl ⟨by rfl, ?hy10_69⟩) (by assumption) ?rest10_69
      case hy10_69 => (intro w9 hSw; clear hSw; go_simp; try with_reducible rfl)
      try simp only [Act.put, List.setIfInBounds_toArray, List.set_cons_zero, List.set_cons_succ, List.getElem_toArray, List.getElem_cons_zero, List.getElem_cons_succ]
      refine wpAnyH_take (i := 11) (v := ?v11_70) rfl (by kernel_rfl) (by kernel_rfl) (by kernel_rfl) (fun _ _ _ h => h) (Or.inl ⟨by rfl, ?hy11_70⟩) (by assumption) ?rest11_70
      case hy11_70 => (intro w9 hSw; clear hSw; go_simp; try with_reducible rfl)
      try simp only [Act.put, List.setIfInBounds_toArray, List.set_cons_zero, List.set_cons_succ, List.getElem_toArray, List.getElem_cons_zero, List.getElem_cons_succ]
      refine wpAnyH_take (i := 12) (v := ?v12_71) rfl (by kernel_rfl) (by kernel_rfl) (by kernel_rfl) (fun _ _ _ h => h) (Or.inl ⟨by rfl, ?hy12_71⟩) (by assumption) ?rest12_71
      case hy12_71 => (intro w9 hSw; clear hSw; go_simp; try with_reducible rfl)
      try simp only [Act.put, List.setIfInBounds_toArray, List.set_cons_zero, List.set_cons_succ, List.getElem_toArray, List.getElem_cons_zero, List.getElem_cons_succ]
      refine wpAnyH_take (i := 13) (v := ?v13_72) rfl (by kernel_rfl) (by kernel_rfl) (by kernel_rfl) (fun _ _ _ h => h) (Or.inl ⟨by rfl, ?hy13_72⟩) (by assumption) ?rest13_72
      case hy13_72 => (intro w9 hSw; clear hSw; go_simp; try with_reducible rfl)
      try simp only [Act.put, List.setIfInBounds_toArray, List.set_cons_zero, List.set_cons_succ, List.getElem_toArray, List.getElem_cons_zero, List.getElem_cons_succ]
      refine wpAnyH_take (i := 14) (v := ?v14_73) rfl (by kernel_rfl) (by kernel_rfl) (by kernel_rfl) (fun _ _ _ h => h) (Or.inl ⟨by rfl, ?hy14_73⟩) (by assumption) ?rest14_73
      case hy14_73 => (intro w9 hSw; obtain ⟨s7, s8, s12, s13, s14, s15, s16, s17⟩ := hSw; obtain ⟨a0, a1, a2, a3, a4, a5, a6, a7, a8⟩ := Vbx.cells s7; obtain ⟨b0, b1, b2, b3, b4⟩ := Rbx.cells s8; obtain ⟨d0, d1, d2, d3, d4, d5, d6, d7, d8⟩ := Vbx.cells s12; obtain ⟨e0, e1, e2, e3, e4⟩ := Rbx.cells s13; obtain ⟨k0, k1, k2, k3, k4, k5, k6, k7, k8⟩ := Vbx.cells s14; obtain ⟨q0, q1, q2, q3, q4⟩ := Rbx.cells s15; obtain ⟨u0, u1, u2, u3, u4, u5, u6, u7, u8⟩ := Vbx.cells s16; obtain ⟨x0, x1, x2, xf0, xf1, xf2⟩ := Mbx.cells s17; go_simp; try with_reducible rfl)
      try simp only [Act.put, List.setIfInBounds_toArray, List.set_cons_zero, List.set_cons_succ, List.getElem_toArray, List.getElem_cons_zero, List.getElem_cons_succ]
      refine wpAnyH_take (i := 16) (v := ?v16_74) rfl (by kernel_rfl) (by kernel_rfl) (by kernel_rfl) (fun _ _ _ h => h) (Or.inl ⟨by rfl, ?hy16_74⟩) (by assumption) ?rest16_74
      case hy16_74 => (intro w9 hSw; obtain ⟨s7, s8, s12, s13, s14, s15, s16, s17⟩ := hSw; obtain ⟨a0, a1, a2, a3, a4, a5, a6, a7, a8⟩ := Vbx.cells s7; obtain ⟨b0, b1, b2, b3, b4⟩ := Rbx.cells s8; obtain ⟨d0, d1, d2, d3, d4, d5, d6, d7, d8⟩ := Vbx.cells s12; obtain ⟨e0, e1, e2, e3, e4⟩ := Rbx.cells s13; obtain ⟨k0, k1, k2, k3, k4, k5, k6, k7, k8⟩ := Vbx.cells s14; obtain ⟨q0, q1, q2, q3, q4⟩ := Rbx.cells s15; obtain ⟨u0, u1, u2, u3, u4, u5, u6, u7, u8⟩ := Vbx.cells s16; obtain ⟨x0, x1, x2, xf0, xf1, xf2⟩ := Mbx.cells s17; go_simp; try with_reducible rfl)
      try simp only [Act.put, List.setIfInBounds_toArray, List.set_cons_zero, List.set_cons_succ, List.getElem_toArray, List.getElem_cons_zero, List.getElem_cons_succ]
      refine wpAnyH_ready (rs := [15]) (by kernel_rfl) (by simp) ?_
      refine AllReadyH.cons rfl (fun K hK => ?_) AllReadyH.nil
      go_simp
      with_reducible refine (Matrix_fl hP.vk (fun _ => ⟨hT.st, hfl⟩)).mono ?_
      rintro e w18 ⟨A7, c7, rfl, hX, hb⟩
      replace DM := DM.on hb
      replace hF := hF.on hb
      replace hT := hT.on hb
      replace hP := hP.on hb
      replace D7 := D7.on hb
      replace D8 := D8.on hb
      replace hP3 := hP3.on hb
      replace D12 := D12.on hb
      replace D13 := D13.on hb
      replace hP4 := hP4.on hb
      replace D14 := D14.on hb
      replace D15 := D15.on hb
      replace hC := hC.on hb
      replace D16 := D16.on hb
      replace hW := hW.on hb
      replace D17 := D17.on hb
      replace bz := bz.trans (hb.mono bz.size)
      clear hb
      refine hK.out _ _ ⟨D7, D8, D12, D13, D14, D15, D16, D17⟩ (fun hH => ?_)
      clear hK K hS
      have hS := hH
      clear hH
      try simp only [Act.put, List.setIfInBounds_toArray, List.set_cons_zero, List.set_cons_succ, List.getElem_toArray, List.getElem_cons_zero, List.getElem_cons_succ]
      refine wpAnyH_ready (rs := [17]) (by kernel_rfl) (by simp) ?_
      refine AllReadyH.cons rfl (fun K hK => ?_) AllReadyH.nil
      go_simp
      with_reducible refine (rMat_fl hP.rk hT.sr hP.vk).mono ?_
      rintro e w19 ⟨A8, c8, rfl, hY, hb⟩
      replace DM := DM.on hb
      replace hF := hF.on hb
      replace hT := hT.on hb
      replace hP := hP.on hb
      replace D7 := D7.on hb
      replace D8 := D8.on hb
      replace hP3 := hP3.on hb
      replace D12 := D12.on hb
      replace D13 := D13.on hb
      replace hP4 := hP4.on hb
      replace D14 := D14.on hb
      replace D15 := D15.on hb
      replace hC := hC.on hb
      replace D16 := D16.on hb
      replace hW := hW.on hb
      replace D17 := D17.on hb
      replace hX := hX.on hb
      replace bz := bz.trans (hb.mono bz.size)
      clear hb
      refine hK.out _ _ ⟨D7, D8, D12, D13, D14, D15, D16, D17⟩ (fun hH => ?_)
      clear hK K hS
      have hS := hH
      clear hH
      try simp only [Act.put, List.setIfInBounds_toArray, List.set_cons_zero, List.set_cons_succ, List.getElem_toArray, List.getElem_cons_zero, List.getElem_cons_succ]
      refine wpAnyH_ready (rs := [18]) (by kernel_rfl) (by simp) ?_
      refine AllReadyH.cons rfl (fun K hK => ?_) AllReadyH.nil
      go_simp
      with_reducible refine (SameM_true hX hY).mono ?_
      rintro e w20 ⟨rfl, hb⟩
      replace DM := DM.on hb
      replace hF := hF.on hb
      replace hT := hT.on hb
      replace hP := hP.on hb
      replace D7 := D7.on hb
      replace D8 := D8.on hb
      replace hP3 := hP3.on hb
      replace D12 := D12.on hb
      replace D13 := D13.on hb
      replace hP4 := hP4.on hb
      replace D14 := D14.on hb
      replace D15 := D15.on hb
      replace hC := hC.on hb
      replace D16 := D16.on hb
      replace hW := hW.on hb
      replace D17 := D17.on hb
      replace hX := hX.on hb
      replace hY := hY.on hb
      replace bz := bz.trans (hb.mono bz.size)
      clear hb hX hY
      refine hK.out _ _ ⟨D7, D8, D12, D13, D14, D15, D16, D17⟩ (fun hH => ?_)
      clear hK K hS
      have hS := hH
      clear hH
      try simp only [Act.put, List.setIfInBounds_toArray, List.set_cons_zero, List.set_cons_succ, List.getElem_toArray, List.getElem_cons_zero, List.getElem_cons_succ]
      refine wpAnyH_take (i := 19) (v := ?v19_75) rfl (by kernel_rfl) (by kernel_rfl) (by kernel_rfl) (fun _ _ _ h => h) (Or.inl ⟨by rfl, ?hy19_75⟩) (by assumption) ?rest19_75
      case hy19_75 => (intro w9 hSw; clear hSw; go_simp; try with_reducible rfl)
      try simp only [Act.put, List.setIfInBounds_toArray, List.set_cons_zero, List.set_cons_succ, List.getElem_toArray, List.getElem_cons_zero, List.getElem_cons_succ]
      refine wpAnyH_take (i := 20) (v := ?v20_76) rfl (by kernel_rfl) (by kernel_rfl) (by kernel_rfl) (fun _ _ _ h => h) (Or.inl ⟨by rfl, ?hy20_76⟩) (by assumption) ?rest20_76
      case hy20_76 => (intro w9 hSw; clear hSw; go_simp; try with_reducible rfl)
      try simp only [Act.put, List.setIfInBounds_toArray, List.set_cons_zero, List.set_cons_succ, List.getElem_toArray, List.getElem_cons_zero, List.getElem_cons_succ]
      refine wpAnyH_take (i := 21) (v := ?v21_77) rfl (by kernel_rfl) (by kernel_rfl) (by kernel_rfl) (fun _ _ _ h => h) (Or.inl ⟨by rfl, ?hy21_77⟩) (by assumption) ?rest21_77
      case hy21_77 => (intro w9 hSw; obtain ⟨s7, s8, s12, s13, s14, s15, s16, s17⟩ := hSw; obtain ⟨a0, a1, a2, a3, a4, a5, a6, a7, a8⟩ := Vbx.cells s7; obtain ⟨b0, b1, b2, b3, b4⟩ := Rbx.cells s8; obtain ⟨d0, d1, d2, d3, d4, d5, d6, d7, d8⟩ := Vbx.cells s12; obtain ⟨e0, e1, e2, e3, e4⟩ := Rbx.cells s13; obtain ⟨k0, k1, k2, k3, k4, k5, k6, k7, k8⟩ := Vbx.cells s14; obtain ⟨q0, q1, q2, q3, q4⟩ := Rbx.cells s15; obtain ⟨u0, u1, u2, u3, u4, u5, u6, u7, u8⟩ := Vbx.cells s16; obtain ⟨x0, x1, x2, xf0, xf1, xf2⟩ := Mbx.cells s17; go_simp; try with_reducible rfl)
      try simp only [Act.put, List.setIfInBounds_toArray, List.set_cons_zero, List.set_cons_succ, List.getElem_toArray, List.getElem_cons_zero, List.getElem_cons_succ]
      refine wpAnyH_take (i := 23) (v := ?v23_78) rfl (by kernel_rfl) (by kernel_rfl) (by kernel_rfl) (fun _ _ _ h => h) (Or.inl ⟨by rfl, ?hy23_78⟩) (by assumption) ?rest23_78
      case hy23_78 => (intro w9 hSw; obtain ⟨s7, s8, s12, s13, s14, s15, s16, s17⟩ := hSw; obtain ⟨a0, a1, a2, a3, a4, a5, a6, a7, a8⟩ := Vbx.cells s7; obtain ⟨b0, b1, b2, b3, b4⟩ := Rbx.cells s8; obtain ⟨d0, d1, d2, d3, d4, d5, d6, d7, d8⟩ := Vbx.cells s12; obtain ⟨e0, e1, e2, e3, e4⟩ := Rbx.cells s13; obtain ⟨k0, k1, k2, k3, k4, k5, k6, k7, k8⟩ := Vbx.cells s14; obtain ⟨q0, q1, q2, q3, q4⟩ := Rbx.cells s15; obtain ⟨u0, u1, u2, u3, u4, u5, u6, u7, u8⟩ := Vbx.cells s16; obtain ⟨x0, x1, x2, xf0, xf1, xf2⟩ := Mbx.cells s17; go_simp; try with_reducible rfl)
      try simp only [Act.put, List.setIfInBounds_toArray, List.set_cons_zero, List.set_cons_succ, List.getElem_toArray, List.getElem_cons_zero, List.getElem_cons_succ]
      refine wpAnyH_ready (rs := [22]) (by kernel_rfl) (by simp) ?_
      refine AllReadyH.cons rfl (fun K hK => ?_) AllReadyH.nil
      go_simp
      with_reducible refine (hC.mat).mono ?_
      rintro e w21 ⟨A7, c7, rfl, hX, hb⟩
      replace DM := DM.on hb
      replace hF := hF.on hb
      replace hT := hT.on hb
      replace hP := hP.on hb
      replace D7 := D7.on hb
      replace D8 := D8.on hb
      replace hP3 := hP3.on hb
      replace D12 := D12.on hb
      replace D13 := D13.on hb
      replace hP4 := hP4.on hb
      replace D14 := D14.on hb
      replace D15 := D15.on hb
      replace hC := hC.on hb
      replace D16 := D16.on hb
      replace hW := hW.on hb
      replace D17 := D17.on hb
      replace bz := bz.trans (hb.mono bz.size)
      clear hb
      simp only [hNF] at hX ⊢
      refine hK.out _ _ ⟨D7, D8, D12, D13, D14, D15, D16, D17⟩ (fun hH => ?_)
      clear hK K hS
      have hS := hH
      clear hH
      try simp only [Act.put, List.setIfInBounds_toArray, List.set_cons_zero, List.set_cons_succ, List.getElem_toArray, List.getElem_cons_zero, List.getElem_cons_succ]
      refine wpAnyH_ready (rs := [24]) (by kernel_rfl) (by simp) ?_
      refine AllReadyH.cons rfl (fun K hK => ?_) AllReadyH.nil
      go_simp
      with_reducible refine (SameM_true hX hW).mono ?_
      rintro e w22 ⟨rfl, hb⟩
      replace DM := DM.on hb
      replace hF := hF.on hb
      replace hT := hT.on hb
      replace hP := hP.on hb
      replace D7 := D7.on hb
      replace D8 := D8.on hb
      replace hP3 := hP3.on hb
      replace D12 := D12.on hb
      replace D13 := D13.on hb
      replace hP4 := hP4.on hb
      replace D14 := D14.on hb
      replace D15 := D15.on hb
      replace hC := hC.on hb
      replace D16 := D16.on hb
      replace hW := hW.on hb
      replace D17 := D17.on hb
      replace hX := hX.on hb
      replace bz := bz.trans (hb.mono bz.size)
      clear hb hX
      refine hK.out _ _ ⟨D7, D8, D12, D13, D14, D15, D16, D17⟩ (fun hH => ?_)
      clear hK K hS
      have hS := hH
      clear hH
      try simp only [Act.put, List.setIfInBounds_toArray, List.set_cons_zero, List.set_cons_succ, List.getElem_toArray, List.getElem_cons_zero, List.getElem_cons_succ]
      refine wpAnyH_take (i := 25) (v := ?v25_79) rfl (by kernel_rfl) (by kernel_rfl) (by kernel_rfl) (fun _ _ _ h => h) (Or.inl ⟨by rfl, ?hy25_79⟩) (by assumption) ?rest25_79
      case hy25_79 => (intro w9 hSw; clear hSw; go_simp; try with_reducible rfl)
      try simp only [Act.put, List.setIfInBounds_toArray, List.set_cons_zero, List.set_cons_succ, List.getElem_toArray, List.getElem_cons_zero, List.getElem_cons_succ]
      refine wpAnyH_take (i := 26) (v := ?v26_80) rfl (by kernel_rfl) (by kernel_rfl) (by kernel_rfl) (fun _ _ _ h => h) (Or.inl ⟨by rfl, ?hy26_80⟩) (by assumption) ?rest26_80
      case hy26_80 => (intro w9 hSw; clear hSw; go_simp; try with_reducible rfl)
      try simp only [Act.put, List.setIfInBounds_toArray, List.set_cons_zero, List.set_cons_succ, List.getElem_toArray, List.getElem_cons_zero, List.getElem_cons_succ]
      refine wpAnyH_take (i := 27) (v := ?v27_81) rfl (by kernel_rfl) (by kernel_rfl) (by kernel_rfl) (fun _ _ _ h => h) (Or.inl ⟨by rfl, ?hy27_81⟩) (by assumption) ?rest27_81
      case hy27_81 => (intro w9 hSw; obtain ⟨s7, s8, s12, s13, s14, s15, s16, s17⟩ := hSw; obtain ⟨a0, a1, a2, a3, a4, a5, a6, a7, a8⟩ := Vbx.cells s7; obtain ⟨b0, b1, b2, b3, b4⟩ := Rbx.cells s8; obtain ⟨d0, d1, d2, d3, d4, d5, d6, d7, d8⟩ := Vbx.cells s12; obtain ⟨e0, e1, e2, e3, e4⟩ := Rbx.cells s13; obtain ⟨k0, k1, k2, k3, k4, k5, k6, k7, k8⟩ := Vbx.cells s14; obtain ⟨q0, q1, q2, q3, q4⟩ := Rbx.cells s15; obtain ⟨u0, u1, u2, u3, u4, u5, u6, u7, u8⟩ := Vbx.cells s16; obtain ⟨x0, x1, x2, xf0, xf1, xf2⟩ := Mbx.cells s17; go_simp; try with_reducible rfl)
      try simp only [Act.put, List.setIfInBounds_toArray, List.set_cons_zero, List.set_cons_succ, List.getElem_toArray, List.getElem_cons_zero, List.getElem_cons_succ]
      refine wpAnyH_take (i := 28) (v := ?v28_82) rfl (by kernel_rfl) (by kernel_rfl) (by kernel_rfl) (fun _ _ _ h => h) (Or.inl ⟨by rfl, ?hy28_82⟩) (by assumption) ?rest28_82
      case hy28_82 => (intro w9 hSw; obtain ⟨s7, s8, s12, s13, s14, s15, s16, s17⟩ := hSw; obtain ⟨a0, a1, a2, a3, a4, a5, a6, a7, a8⟩ := Vbx.cells s7; obtain ⟨b0, b1, b2, b3, b4⟩ := Rbx.cells s8; obtain ⟨d0, d1, d2, d3, d4, d5, d6, d7, d8⟩ := Vbx.cells s12; obtain ⟨e0, e1, e2, e3, e4⟩ := Rbx.cells s13; obtain ⟨k0, k1, k2, k3, k4, k5, k6, k7, k8⟩ := Vbx.cells s14; obtain ⟨q0, q1, q2, q3, q4⟩ := Rbx.cells s15; obtain ⟨u0, u1, u2, u3, u4, u5, u6, u7, u8⟩ := Vbx.cells s16; obtain ⟨x0, x1, x2, xf0, xf1, xf2⟩ := Mbx.cells s17; go_simp; try with_reducible rfl)
      try simp only [Act.put, List.setIfInBounds_toArray, List.set_cons_zero, List.set_cons_succ, List.getElem_toArray, List.getElem_cons_zero, List.getElem_cons_succ]
      refine wpAnyH_ready (rs := [29]) (by kernel_rfl) (by simp) ?_
      refine AllReadyH.cons rfl (fun K hK => ?_) AllReadyH.nil
      go_simp
      with_reducible refine (hC.apart hT.st hP.vk hs5).mono ?_
      rintro e w23 ⟨rfl, hb⟩
      replace DM := DM.on hb
      replace hF := hF.on hb
      replace hT := hT.on hb
      replace hP := hP.on hb
      replace D7 := D7.on hb
      replace D8 := D8.on hb
      replace hP3 := hP3.on hb
      replace D12 := D12.on hb
      replace D13 := D13.on hb
      replace hP4 := hP4.on hb
      replace D14 := D14.on hb
      replace D15 := D15.on hb
      replace hC := hC.on hb
      replace D16 := D16.on hb
      replace hW := hW.on hb
      replace D17 := D17.on hb
      replace bz := bz.trans (hb.mono bz.size)
      clear hb
      refine hK.out _ _ ⟨D7, D8, D12, D13, D14, D15, D16, D17⟩ (fun hH => ?_)
      clear hK K hS
      have hS := hH
      clear hH
      try simp only [Act.put, List.setIfInBounds_toArray, List.set_cons_zero, List.set_cons_succ, List.getElem_toArray, List.getElem_cons_zero, List.getElem_cons_succ]
      refine wpAnyH_take (i := 30) (v := ?v30_83) rfl (by kernel_rfl) (by kernel_rfl) (by kernel_rfl) (fun _ _ _ h => h) (Or.inl ⟨by rfl, ?hy30_83⟩) (by assumption) ?rest30_83
      case hy30_83 => (intro w9 hSw; clear hSw; go_simp; try with_reducible rfl)
      try simp only [Act.put, List.setIfInBounds_toArray, List.set_cons_zero, List.set_cons_succ, List.getElem_toArray, List.getElem_cons_zero, List.getElem_cons_succ]
      refine wpAnyH_take (i := 31) (v := ?v31_84) rfl (by kernel_rfl) (by kernel_rfl) (by kernel_rfl) (fun _ _ _ h => h) (Or.inl ⟨by rfl, ?hy31_84⟩) (by assumption) ?rest31_84
      case hy31_84 => (intro w9 hSw; clear hSw; go_simp; try with_reducible rfl)
      try simp only [Act.put, List.setIfInBounds_toArray, List.set_cons_zero, List.set_cons_succ, List.getElem_toArray, List.getElem_cons_zero, List.getElem_cons_succ]
      refine wpAnyH_take (i := 32) (v := ?v32_85) rfl (by kernel_rfl) (by kernel_rfl) (by kernel_rfl) (fun _ _ _ h => h) (Or.inl ⟨by rfl, ?hy32_85⟩) (by assumption) ?rest32_85
      case hy32_85 => (intro w9 hSw; clear hSw; go_simp; try with_reducible rfl)
      try simp only [Act.put, List.setIfInBounds_toArray, List.set_cons_zero, List.set_cons_succ, List.getElem_toArray, List.getElem_cons_zero, List.getElem_cons_succ]
      refine wpAnyH_ready (rs := [33]) (by kernel_rfl) (by simp) ?_
      refine AllReadyH.cons rfl (fun K hK => ?_) AllReadyH.nil
      go_simp
      with_reducible refine (known_any _).mono ?_
      rintro e w24 ⟨rfl, hb⟩
      replace DM := DM.on hb
      replace hF := hF.on hb
      replace hT := hT.on hb
      replace hP := hP.on hb
      replace D7 := D7.on hb
      replace D8 := D8.on hb
      replace hP3 := hP3.on hb
      replace D12 := D12.on hb
      replace D13 := D13.on hb
      replace hP4 := hP4.on hb
      replace D14 := D14.on hb
      replace D15 := D15.on hb
      replace hC := hC.on hb
      replace D16 := D16.on hb
      replace hW := hW.on hb
      replace D17 := D17.on hb
      replace bz := bz.trans (hb.mono bz.size)
      clear hb
      refine hK.out _ _ ⟨D7, D8, D12, D13, D14, D15, D16, D17⟩ (fun hH => ?_)
      clear hK K hS
      have hS := hH
      clear hH
      try simp only [Act.put, List.setIfInBounds_toArray, List.set_cons_zero, List.set_cons_succ, List.getElem_toArray, List.getElem_cons_zero, List.getElem_cons_succ]
      refine wpAnyH_take (i := 34) (v := ?v34_86) rfl (by kernel_rfl) (by kernel_rfl) (by kernel_rfl) (fun _ _ _ h => h) (Or.inl ⟨by rfl, ?hy34_86⟩) (by assumption) ?rest34_86
      case hy34_86 => (intro w9 hSw; clear hSw; go_simp; try with_reducible rfl)
      try simp only [Act.put, List.setIfInBounds_toArray, List.set_cons_zero, List.set_cons_succ, List.getElem_toArray, List.getElem_cons_zero, List.getElem_cons_succ]
      refine wpAnyH_take (i := 35) (v := ?v35_87) rfl (by kernel_rfl) (by kernel_rfl) (by kernel_rfl) (fun _ _ _ h => h) (Or.inl ⟨by rfl, ?hy35_87⟩) (by assumption) ?rest35_87
      case hy35_87 => (intro w9 hSw; clear hSw; go_simp; try with_reducible rfl)
      try simp only [Act.put, List.setIfInBounds_toArray, List.set_cons_zero, List.set_cons_succ, List.getElem_toArray, List.getElem_cons_zero, List.getElem_cons_succ]
      refine wpAnyH_done (by kernel_rfl) ?_ _
      go_wp2_with fail
      go_ret
      exact ⟨rfl, bz⟩
theorem law_takes (h : FL w A n c l) (hL : SL w w.heap.size A9 m c9 ss) (hL2 : SL w w.heap.size A10 m2 c10 ss2) (bj : 0 ≤ x ∧ x ≤ 18446744073709551615) : Calls Try.prog 7 #[mV R C A n c, .slice A9 m c9, .slice A10 m2 c10, .float .f64 x.toNat] w (Ans w (.bool true)) := by
  cases hb1 : bigB n
  · cases hm : decide ((12 : Int) < m)
    · cases hm2 : decide ((12 : Int) < m2)
      · cases hm1 : mayB R C n
        · exact takes_4 h hL hL2 bj hb1 hm hm2 hm1
        · exact takes_5 h hL hL2 bj hb1 hm hm2 hm1
      · exact takes_3 h hL hL2 bj hb1 hm hm2
    · exact takes_2 h hL hL2 bj hb1 hm
  · exact takes_1 h hL hL2 bj hb1
end
end Go.Proofs.Ytceoefgjjekgaaa
