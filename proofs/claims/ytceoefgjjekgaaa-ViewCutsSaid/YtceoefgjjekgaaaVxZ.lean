/-
  Layer 7: the law ViewCuts. (Written by wip/tools/gen_vxz.py.)
-/
import Derived.Test.YtceoefgjjekgaaaVxU
import Derived.Test.YtceoefgjjekgaaaVxY
namespace Go.Proofs.Ytceoefgjjekgaaa
open Go.RowKit Go.Bw Go.Sort Go.Shelf
set_option linter.unusedVariables false
set_option linter.unusedSimpArgs false

theorem zero_vec : Vu.zero.vec = false := rfl
theorem get_out {v : Vu} (hz : v.p = none → v = Vu.zero) (R0 : 0 ≤ v.R) (C0 : 0 ≤ v.C) (c : Nat) (l : List Int) {i : Int} (h : i < 0 ∨ v.len ≤ i) : v.get c l i = 0 := by
  unfold Vu.get
  cases hv : v.vec
  · rfl
  · cases hp : (v.p == none)
    · have hh := vec_has hp hv R0 C0 i
      unfold Vu.len at h
      rw [hv] at h
      simp only [if_true] at h
      rw [decide_eq_false (by omega)] at hh
      unfold Vu.at_
      rw [hh]
      simp
    · have := hz (by simpa using hp)
      rw [this, zero_vec] at hv
      cases hv
theorem get_in {v : Vu} (hz : v.p = none → v = Vu.zero) (R0 : 0 ≤ v.R) (C0 : 0 ≤ v.C) (c : Nat) (l : List Int) {k : Nat} (h : (k : Int) < v.len) : v.get c l k = D (v.fl c l) k ∧ k < (v.R * v.C).toNat := by
  have hv : v.vec = true := by
    cases hv : v.vec
    · unfold Vu.len at h; rw [hv] at h; simp at h; omega
    · rfl
  have hp : (v.p == none) = false := by
    cases hp : (v.p == none)
    · rfl
    · rw [hz (by simpa using hp), zero_vec] at hv; cases hv
  have hl : v.len = v.R * v.C := by unfold Vu.len; rw [hv]; rfl
  rw [hl] at h
  have hk : k < (v.R * v.C).toNat := by omega
  refine ⟨?_, hk⟩
  rw [fl_D v c l hk]
  unfold Vu.get
  rw [hv, if_pos rfl]
  obtain ⟨_, hin, _, _⟩ := put_in hp hv R0 C0 c l (j := k) 0 h
  have hh := of_decide_eq_true hin
  congr 1
  · unfold Vu.ei
    unfold Vu.ai Vu.aj at hh
    unfold Vu.ai
    by_cases h1 : v.C = 1
    · simp [h1]
    · simp only [h1, if_false] at hh ⊢
      have hlt : k < v.C.toNat := by omega
      rw [Nat.div_eq_of_lt hlt]; rfl
  · unfold Vu.ej
    unfold Vu.ai Vu.aj at hh
    unfold Vu.aj
    by_cases h1 : v.C = 1
    · simp [h1, Nat.mod_one]
    · simp only [h1, if_false] at hh ⊢
      have hlt : k < v.C.toNat := by omega
      rw [Nat.mod_eq_of_lt hlt]
theorem same_zero {v : Vu} (hz : v.p = none → v = Vu.zero) (c : Nat) (l : List Int) : sameV v c l Vu.zero 0 [] = (v.p == none) := by
  cases hp : (v.p == none)
  · unfold sameV
    rw [hp]
    rfl
  · rw [hz (by simpa using hp)]
    unfold sameV
    rw [show Vu.zero.fl c l = [] by unfold Vu.fl; simp, show Vu.zero.fl 0 [] = [] by unfold Vu.fl; simp]
    rfl

section
variable {w : World} {R C : Int} {A : Option Addr} {n c : Nat} {l : List Int} {A9 : Option Addr} {m c9 : Nat} {ss : List Sp} {i j q : Int}
set_option maxRecDepth 100000 in
set_option maxHeartbeats 16000000 in
theorem cuts_1 (h : FL w A n c l) (hL : SL w w.heap.size A9 m c9 ss) (bj : ((-9223372036854775808 ≤ i ∧ i ≤ 9223372036854775807) ∧ (-9223372036854775808 ≤ j ∧ j ≤ 9223372036854775807))) (hb1 : bigB n = true) :
    Calls Try.prog 5 #[mV R C A n c, .slice A9 m c9, .int .i64 i, .int .i64 j, .int .i64 q] w (Ans w (.bool true)) := by
  have pb := fun W => big_any R C A n c h.max W
  have pM := fun W => May_any R C A n c W h.max
  have hll := h.1
  have hmm9 := hL.2.1
  rw [hb1] at pb
  clear hb1
  have DM := Blk.new w [.int .i64 R, .int .i64 C, .slice A n c] 24
  have bz := (Below.refl _ w).alloc (Nat.le_refl _) (.cells #[.int .i64 R, .int .i64 C, .slice A n c] 24)
  have hF := h.lo.on bz
  replace hL := hL.on bz
  clear h
  go_enter Try.func5, Try.ntmps5
  obtain ⟨c0, c1, c2, f0, f1, f2⟩ := Mbx.cells DM
  go_wp2_with fail
  with_reducible refine (pb _).mono ?_
  rintro e w1 ⟨rfl, hb⟩
  replace DM := DM.on hb
  replace hF := hF.on hb
  replace hL := hL.on hb
  replace bz := bz.trans (hb.mono bz.size)
  clear hb c0 c1 c2 f0 f1 f2
  go_wp2_with fail
  with_reducible refine (known_any _).mono ?_
  rintro e w2 ⟨rfl, hb⟩
  replace DM := DM.on hb
  replace hF := hF.on hb
  replace hL := hL.on hb
  replace bz := bz.trans (hb.mono bz.size)
  go_wp2_with fail
  go_ret
  exact ⟨rfl, bz⟩
set_option maxRecDepth 100000 in
set_option maxHeartbeats 16000000 in
theorem cuts_2 (h : FL w A n c l) (hL : SL w w.heap.size A9 m c9 ss) (bj : ((-9223372036854775808 ≤ i ∧ i ≤ 9223372036854775807) ∧ (-9223372036854775808 ≤ j ∧ j ≤ 9223372036854775807))) (hb1 : bigB n = false) (hm : decide ((12 : Int) < m) = true) :
    Calls Try.prog 5 #[mV R C A n c, .slice A9 m c9, .int .i64 i, .int .i64 j, .int .i64 q] w (Ans w (.bool true)) := by
  have pb := fun W => big_any R C A n c h.max W
  have pM := fun W => May_any R C A n c W h.max
  have hll := h.1
  have hmm9 := hL.2.1
  rw [hb1] at pb
  clear hb1
  have DM := Blk.new w [.int .i64 R, .int .i64 C, .slice A n c] 24
  have bz := (Below.refl _ w).alloc (Nat.le_refl _) (.cells #[.int .i64 R, .int .i64 C, .slice A n c] 24)
  have hF := h.lo.on bz
  replace hL := hL.on bz
  clear h
  go_enter Try.func5, Try.ntmps5
  obtain ⟨c0, c1, c2, f0, f1, f2⟩ := Mbx.cells DM
  go_wp2_with fail
  with_reducible refine (pb _).mono ?_
  rintro e w1 ⟨rfl, hb⟩
  replace DM := DM.on hb
  replace hF := hF.on hb
  replace hL := hL.on hb
  replace bz := bz.trans (hb.mono bz.size)
  clear hb c0 c1 c2 f0 f1 f2
  go_wp2_with fail
  with_reducible refine (known_any _).mono ?_
  rintro e w2 ⟨rfl, hb⟩
  replace DM := DM.on hb
  replace hF := hF.on hb
  replace hL := hL.on hb
  replace bz := bz.trans (hb.mono bz.size)
  go_wp2_with fail
  go_ret
  exact ⟨rfl, bz⟩
set_option maxRecDepth 100000 in
set_option maxHeartbeats 16000000 in
theorem cuts_3 (h : FL w A n c l) (hL : SL w w.heap.size A9 m c9 ss) (bj : ((-9223372036854775808 ≤ i ∧ i ≤ 9223372036854775807) ∧ (-9223372036854775808 ≤ j ∧ j ≤ 9223372036854775807))) (hb1 : bigB n = false) (hm : decide ((12 : Int) < m) = false) (hm1 : mayB R C n = false) :
    Calls Try.prog 5 #[mV R C A n c, .slice A9 m c9, .int .i64 i, .int .i64 j, .int .i64 q] w (Ans w (.bool true)) := by
  have pb := fun W => big_any R C A n c h.max W
  have pM := fun W => May_any R C A n c W h.max
  have hll := h.1
  have hmm9 := hL.2.1
  rw [hb1] at pb
  rw [hm1] at pM
  have pO := fun (W : World) (hF : FL W A n c l) => open_no hF hm1
  clear hb1 hm1
  have DM := Blk.new w [.int .i64 R, .int .i64 C, .slice A n c] 24
  have bz := (Below.refl _ w).alloc (Nat.le_refl _) (.cells #[.int .i64 R, .int .i64 C, .slice A n c] 24)
  have hF := h.lo.on bz
  replace hL := hL.on bz
  clear h
  go_enter Try.func5, Try.ntmps5
  obtain ⟨c0, c1, c2, f0, f1, f2⟩ := Mbx.cells DM
  go_wp2_with fail
  with_reducible refine (pb _).mono ?_
  rintro e w1 ⟨rfl, hb⟩
  replace DM := DM.on hb
  replace hF := hF.on hb
  replace hL := hL.on hb
  replace bz := bz.trans (hb.mono bz.size)
  clear hb c0 c1 c2 f0 f1 f2
  obtain ⟨c0, c1, c2, f0, f1, f2⟩ := Mbx.cells DM
  go_wp2_with fail
  with_reducible refine (pO _ hF.fl).mono ?_
  rintro e w2 ⟨rfl, hb⟩
  replace DM := DM.on hb
  replace hF := hF.on hb
  replace hL := hL.on hb
  replace bz := bz.trans (hb.mono bz.size)
  clear hb c0 c1 c2 f0 f1 f2
  obtain ⟨HD7, eHD7⟩ : ∃ H, w2.heap.size = H := ⟨_, rfl⟩
  have D7 := (Blk.new w2 (Vu.zero).L 30).alloc (.cells (Ru.L Ru.zero).toArray 51)
  have D8 := Blk.new (w2.alloc (.cells (Vu.zero).L.toArray 30)) (Ru.L Ru.zero) 51
  rw [World.size_alloc, eHD7] at D8
  rw [eHD7] at D7
  replace DM := DM.on ((Below.refl _ _).alloc (Nat.le_refl _) (.cells (Vu.zero).L.toArray 30))
  replace hF := hF.on ((Below.refl _ _).alloc (Nat.le_refl _) (.cells (Vu.zero).L.toArray 30))
  replace hL := hL.on ((Below.refl _ _).alloc (Nat.le_refl _) (.cells (Vu.zero).L.toArray 30))
  replace bz := bz.alloc bz.size (.cells (Vu.zero).L.toArray 30)
  replace DM := DM.on ((Below.refl _ _).alloc (Nat.le_refl _) (.cells (Ru.L Ru.zero).toArray 51))
  replace hF := hF.on ((Below.refl _ _).alloc (Nat.le_refl _) (.cells (Ru.L Ru.zero).toArray 51))
  replace hL := hL.on ((Below.refl _ _).alloc (Nat.le_refl _) (.cells (Ru.L Ru.zero).toArray 51))
  replace bz := bz.alloc bz.size (.cells (Ru.L Ru.zero).toArray 51)
  obtain ⟨c0, c1, c2, f0, f1, f2⟩ := Mbx.cells DM
  go_wp2_with fail
  with_reducible refine (pM _).mono ?_
  rintro e w3 ⟨rfl, hb⟩
  replace DM := DM.on hb
  replace hF := hF.on hb
  replace hL := hL.on hb
  replace D7 := D7.on hb
  replace D8 := D8.on hb
  replace bz := bz.trans (hb.mono bz.size)
  clear hb c0 c1 c2 f0 f1 f2
  go_wp2_with fail
  with_reducible refine (known_any _).mono ?_
  rintro e w4 ⟨rfl, hb⟩
  replace DM := DM.on hb
  replace hF := hF.on hb
  replace hL := hL.on hb
  replace D7 := D7.on hb
  replace D8 := D8.on hb
  replace bz := bz.trans (hb.mono bz.size)
  go_wp2_with fail
  go_ret
  exact ⟨rfl, bz⟩
set_option maxRecDepth 100000 in
set_option maxHeartbeats 16000000 in
theorem cuts_4 (h : FL w A n c l) (hL : SL w w.heap.size A9 m c9 ss) (bj : ((-9223372036854775808 ≤ i ∧ i ≤ 9223372036854775807) ∧ (-9223372036854775808 ≤ j ∧ j ≤ 9223372036854775807))) (hb1 : bigB n = false) (hm : decide ((12 : Int) < m) = false) (hm1 : mayB R C n = true) :
    Calls Try.prog 5 #[mV R C A n c, .slice A9 m c9, .int .i64 i, .int .i64 j, .int .i64 q] w (Ans w (.bool true)) := by
  have pb := fun W => big_any R C A n c h.max W
  have pM := fun W => May_any R C A n c W h.max
  have hll := h.1
  have hmm9 := hL.2.1
  rw [hb1] at pb
  have q1 := Bool.and_eq_true_iff.1 hm1
  have hs1 : szB R C = true := q1.1
  have hl1 : (n : Int) = R * C := of_decide_eq_true q1.2
  have hm12 : m ≤ 12 := by have := of_decide_eq_false hm; omega
  have pO1 := fun (W : World) (hF : FL W A n c l) => open_yes hF hs1 hl1
  clear hb1 hm1 q1 hs1 hl1
  have DM := Blk.new w [.int .i64 R, .int .i64 C, .slice A n c] 24
  have bz := (Below.refl _ w).alloc (Nat.le_refl _) (.cells #[.int .i64 R, .int .i64 C, .slice A n c] 24)
  have hF := h.lo.on bz
  replace hL := hL.on bz
  clear h
  go_enter Try.func5, Try.ntmps5
  obtain ⟨c0, c1, c2, f0, f1, f2⟩ := Mbx.cells DM
  go_wp2_with fail
  with_reducible refine (pb _).mono ?_
  rintro e w1 ⟨rfl, hb⟩
  replace DM := DM.on hb
  replace hF := hF.on hb
  replace hL := hL.on hb
  replace bz := bz.trans (hb.mono bz.size)
  clear hb c0 c1 c2 f0 f1 f2
  obtain ⟨c0, c1, c2, f0, f1, f2⟩ := Mbx.cells DM
  have hz0 := DM.lt
  go_wp2_with fail
  with_reducible refine (pO1 _ hF.fl).mono ?_
  rintro e w2 ⟨s, g, cap, A5, c5, r, rfl, hT, hP, hlow, hb⟩
  replace DM := DM.on hb
  replace hF := hF.on hb
  replace hL := hL.on hb
  replace bz := bz.trans (hb.mono bz.size)
  clear hb c0 c1 c2 f0 f1 f2
  have hlt : s < w2.heap.size ∧ g < w2.heap.size ∧ ∀ a, A5 = some a → a.block < w2.heap.size := ⟨hT.st.lt, hT.st.gt.2, fun a e => (hT.sr.own.gt e).2⟩
  have hge : w.heap.size < s ∧ w.heap.size < g ∧ ∀ a, A5 = some a → w.heap.size < a.block := ⟨by have := hT.st.lo; omega, by have := hT.st.gt.1; omega, fun a e => by have := (hT.sr.own.gt e).1; omega⟩
  obtain ⟨HD7, eHD7⟩ : ∃ H, w2.heap.size = H := ⟨_, rfl⟩
  have D7 := (Blk.new w2 (Vu.all s R C).L 30).alloc (.cells (Ru.L r).toArray 51)
  have D8 := Blk.new (w2.alloc (.cells (Vu.all s R C).L.toArray 30)) (Ru.L r) 51
  rw [World.size_alloc, eHD7] at D8
  rw [eHD7] at D7
  have hzD7 := DM.lt
  rw [eHD7] at hzD7
  replace DM := DM.on ((Below.refl _ _).alloc (Nat.le_refl _) (.cells (Vu.all s R C).L.toArray 30))
  replace hF := hF.on ((Below.refl _ _).alloc (Nat.le_refl _) (.cells (Vu.all s R C).L.toArray 30))
  replace hL := hL.on ((Below.refl _ _).alloc (Nat.le_refl _) (.cells (Vu.all s R C).L.toArray 30))
  replace hT := hT.on ((Below.refl _ _).alloc (Nat.le_refl _) (.cells (Vu.all s R C).L.toArray 30))
  replace hP := hP.on ((Below.refl _ _).alloc (Nat.le_refl _) (.cells (Vu.all s R C).L.toArray 30))
  replace bz := bz.alloc bz.size (.cells (Vu.all s R C).L.toArray 30)
  replace DM := DM.on ((Below.refl _ _).alloc (Nat.le_refl _) (.cells (Ru.L r).toArray 51))
  replace hF := hF.on ((Below.refl _ _).alloc (Nat.le_refl _) (.cells (Ru.L r).toArray 51))
  replace hL := hL.on ((Below.refl _ _).alloc (Nat.le_refl _) (.cells (Ru.L r).toArray 51))
  replace hT := hT.on ((Below.refl _ _).alloc (Nat.le_refl _) (.cells (Ru.L r).toArray 51))
  replace hP := hP.on ((Below.refl _ _).alloc (Nat.le_refl _) (.cells (Ru.L r).toArray 51))
  replace bz := bz.alloc bz.size (.cells (Ru.L r).toArray 51)
  rw [eHD7] at hlt
  simp only [eHD7] at hlow
  obtain ⟨cD7_0, cD7_1, cD7_2, cD7_3, cD7_4, cD7_5, cD7_6, cD7_7, cD7_8⟩ := Vbx.cells D7
  obtain ⟨cD8_0, cD8_1, cD8_2, cD8_3, cD8_4⟩ := Rbx.cells D8
  have hzc := D8.lt
  go_wp2_with fail
  with_reducible refine (cut_any hT hP hL.more hm12).mono ?_
  rintro e w3 ⟨r3, rfl, hT3, hP3, hlw, hb⟩
  replace DM := DM.on hb
  replace hF := hF.on hb
  replace hL := hL.on hb
  replace hT := hT.on hb
  replace hP := hP.on hb
  replace D7 := D7.on hb
  replace D8 := D8.on hb
  replace bz := bz.trans (hb.mono bz.size)
  replace hT := hT3
  clear hT3
  have hA3 : ∀ a, r3.A2 = some a → a.block ≠ HD7 ∧ a.block ≠ HD7 + 1 := fun a e => by
    rcases hlw with h9 | h9
    · rw [h9] at e; have := hlow a e; omega
    · have := h9 a e; omega
  clear hb hlw cD7_0 cD7_1 cD7_2 cD7_3 cD7_4 cD7_5 cD7_6 cD7_7 cD7_8 cD8_0 cD8_1 cD8_2 cD8_3 cD8_4
  obtain ⟨V3, hV3⟩ : ∃ V, cutV (Vu.all s R C) ss = V := ⟨_, rfl⟩
  simp only [hV3] at hP3 ⊢
  clear hV3
  obtain ⟨fc0, fc1, fc2, fc3, fc4, fc5, fc6, fc7, fc8⟩ := Vbx.cells D7
  obtain ⟨fr0, fr1, fr2, fr3, fr4, fr5, fr6, fr7, fr8⟩ := Vbx.free D7
  obtain ⟨hc0, hc1, hc2, hc3, hc4⟩ := Rbx.cells D8
  obtain ⟨hr0, hr1, hr2, hr3, hr4⟩ := Rbx.free D8
  go_upto_region 7 with fail
  clear fc0 fr0 fc1 fr1 fc2 fr2 fc3 fr3 fc4 fr4 fc5 fr5 fc6 fr6 fc7 fr7 fc8 fr8
  have hgS := set9_grown w3 (HD7) (.pointer (V3).p) (.int .i64 (V3).f0) (.int .i64 (V3).f1) (.int .i64 (V3).d0) (.int .i64 (V3).d1) (.int .i64 (V3).r0) (.int .i64 (V3).r1) (.int .i64 (V3).R) (.int .i64 (V3).C)
  replace D7 := Vbx.put D7 (V3)
  replace DM := DM.grown hgS (by simp <;> omega)
  replace hF := hF.grown hgS (by omega)
  replace hL := hL.grown hgS (by omega)
  replace hT := hT.grown hgS (by omega) (by omega) (fun a e => by have := hlt.2.2 a e; omega)
  replace hP := hP.grown hgS (fun _ a e => by have := hlow a e; omega)
  replace D8 := D8.grown hgS (by simp <;> omega)
  replace hP3 := hP3.grown hgS (fun _ a e => by have := hA3 a e; omega)
  replace bz := bz.grown hgS bz.size (fun k e => by cases e; omega)
  clear hc0 hr0 hc1 hr1 hc2 hr2 hc3 hr3 hc4 hr4
  have hgS := set5_grown (((((((((w3.setCell ⟨HD7, 0, none⟩ (.pointer (V3).p)).setCell ⟨HD7, 1, none⟩ (.int .i64 (V3).f0)).setCell ⟨HD7, 2, none⟩ (.int .i64 (V3).f1)).setCell ⟨HD7, 3, none⟩ (.int .i64 (V3).d0)).setCell ⟨HD7, 4, none⟩ (.int .i64 (V3).d1)).setCell ⟨HD7, 5, none⟩ (.int .i64 (V3).r0)).setCell ⟨HD7, 6, none⟩ (.int .i64 (V3).r1)).setCell ⟨HD7, 7, none⟩ (.int .i64 (V3).R)).setCell ⟨HD7, 8, none⟩ (.int .i64 (V3).C)) (HD7 + 1) (.slice (r3).A (r3).n (r3).c) (.int .i64 (r3).R) (.int .i64 (r3).C) (.slice (r3).A2 (r3).n2 (r3).c2) (.bool (r3).b)
  replace D8 := Rbx.put D8 (r3)
  replace DM := DM.grown hgS (by simp <;> omega)
  replace hF := hF.grown hgS (by omega)
  replace hL := hL.grown hgS (by omega)
  replace hT := hT.grown hgS (by omega) (by omega) (fun a e => by have := hlt.2.2 a e; omega)
  replace hP := hP.grown hgS (fun _ a e => by have := hlow a e; omega)
  replace D7 := D7.grown hgS (by simp <;> omega)
  replace hP3 := hP3.grown hgS (fun _ a e => by have := hA3 a e; omega)
  replace bz := bz.grown hgS bz.size (fun k e => by cases e; omega)
  generalize ((((((((((((((w3.setCell ⟨HD7, 0, none⟩ (.pointer (V3).p)).setCell ⟨HD7, 1, none⟩ (.int .i64 (V3).f0)).setCell ⟨HD7, 2, none⟩ (.int .i64 (V3).f1)).setCell ⟨HD7, 3, none⟩ (.int .i64 (V3).d0)).setCell ⟨HD7, 4, none⟩ (.int .i64 (V3).d1)).setCell ⟨HD7, 5, none⟩ (.int .i64 (V3).r0)).setCell ⟨HD7, 6, none⟩ (.int .i64 (V3).r1)).setCell ⟨HD7, 7, none⟩ (.int .i64 (V3).R)).setCell ⟨HD7, 8, none⟩ (.int .i64 (V3).C)).setCell ⟨HD7 + 1, 0, none⟩ (.slice (r3).A (r3).n (r3).c)).setCell ⟨HD7 + 1, 1, none⟩ (.int .i64 (r3).R)).setCell ⟨HD7 + 1, 2, none⟩ (.int .i64 (r3).C)).setCell ⟨HD7 + 1, 3, none⟩ (.slice (r3).A2 (r3).n2 (r3).c2)).setCell ⟨HD7 + 1, 4, none⟩ (.bool (r3).b)) = W5 at DM hF hL hT hP D7 D8 hP3 bz ⊢
  clear hgS
  replace DM := DM.drew
  replace hF := hF.drew
  replace hL := hL.drew
  replace hT := hT.drew
  replace hP := hP.drew
  replace D7 := D7.drew
  replace D8 := D8.drew
  replace hP3 := hP3.drew
  replace bz := bz.drew
  have hvec := hP3.rk.vec hP3.vk.none_
  have hRC := And.intro hP3.rk.R hP3.rk.C
  have hb3 := hP3.rk.b
  obtain ⟨R0, R1⟩ := hP3.vk.bd.R
  obtain ⟨C0, C1⟩ := hP3.vk.bd.C
  obtain ⟨rA, rn, rc, rR, rC, rA2, rn2, rc2, rb⟩ := r3
  simp only at hRC hb3
  obtain ⟨rfl, rfl⟩ := hRC
  have HVEC := Lib.hid hvec
  have HB3 := Lib.hid hb3
  clear hvec hb3
  have hvl : Vk V3 s C.toNat l.length 4096 := by rw [hll]; exact hP3.vk
  obtain ⟨VC, hVC⟩ : ∃ b, V3.vec = b := ⟨_, rfl⟩
  obtain ⟨LN, hLN⟩ : ∃ b, V3.len = b := ⟨_, rfl⟩
  have pV := fun W => Vector_any V3 W
  have pVr : ∀ W, Calls Try.prog 30 #[(Ru.mk rA rn rc V3.R V3.C rA2 rn2 rc2 rb).V] W (Ans W (.bool VC)) := fun W => by have := rVector_any (Ru.mk rA rn rc V3.R V3.C rA2 rn2 rc2 rb) W; rwa [HVEC.out, hVC] at this
  have pL := fun W => Len_any hP3.vk.bd W
  have pLr : ∀ W, Calls Try.prog 32 #[(Ru.mk rA rn rc V3.R V3.C rA2 rn2 rc2 rb).V] W (Ans W (.int .i64 LN)) := fun W => by have := rLen_any (Ru.mk rA rn rc V3.R V3.C rA2 rn2 rc2 rb) R0 R1 C0 C1 W; rwa [show (Ru.mk rA rn rc V3.R V3.C rA2 rn2 rc2 rb).len = LN by unfold Ru.len; rw [HVEC.out, ← hLN]; rfl] at this
  simp only [hVC] at pV
  simp only [hLN] at pL
  obtain ⟨x0, x1⟩ := at_bd (v := V3) (c := C.toNat) (l := l) (fun _ => hT.st.wd) hP3.vk.none_ i j
  have pA := fun (W : World) (B : Nat) (h : St W B s g cap C.toNat l) => At_any h hvl i j
  have pG := fun (W : World) (B : Nat) (h : Sr W B A5 n c5 l) (hr : Rk W A5 n c5 (Ru.mk rA rn rc V3.R V3.C rA2 rn2 rc2 rb) V3 C.toNat) => rGet_any hr h hP3.vk i j
  obtain ⟨X, hX⟩ : ∃ X, V3.at_ C.toNat l i j = X := ⟨_, rfl⟩
  simp only [hX] at pA pG x0 x1
  have pB := fun W => rbits_any x0 x1 W
  obtain ⟨X1, hX1⟩ : ∃ Z, one X = Z := ⟨_, rfl⟩
  simp only [hX1] at pB
  have t1 : (V3.R != V3.R) = false := by simp
  have t2 : (V3.C != V3.C) = false := by simp
  have t3 : (VC != VC) = false := by simp
  have t4 : (LN != LN) = false := by simp
  have t5 : (X1 != X1) = false := by simp
  have HLN := Lib.hid hLN
  clear hX hX1 hVC hLN x0 x1
  refine wp_region_held_drew (S := fun w9 : World => Vbx w9 HD7 V3 ∧ Rbx w9 (HD7 + 1) (Ru.mk rA rn rc V3.R V3.C rA2 rn2 rc2 rb)) (by kernel_rfl) ⟨D7, D8⟩ (fun hS => ?_)
  refine wpAnyH_take (i := 0) (v := ?v0_1) rfl (by kernel_rfl) (by kernel_rfl) (by kernel_rfl) (fun _ _ _ h => h) (Or.inl ⟨by rfl, ?hy0_1⟩) (by assumption) ?rest0_1
  case hy0_1 => (intro w9 hSw; obtain ⟨sv, sr⟩ := hSw; obtain ⟨k0, k1, k2, k3, k4, k5, k6, k7, k8⟩ := Vbx.cells sv; obtain ⟨q0, q1, q2, q3, q4⟩ := Rbx.cells sr; go_simp; try with_reducible rfl)
  try simp only [Act.put, List.setIfInBounds_toArray, List.set_cons_zero, List.set_cons_succ, List.getElem_toArray, List.getElem_cons_zero, List.getElem_cons_succ]
  refine wpAnyH_take (i := 2) (v := ?v2_2) rfl (by kernel_rfl) (by kernel_rfl) (by kernel_rfl) (fun _ _ _ h => h) (Or.inl ⟨by rfl, ?hy2_2⟩) (by assumption) ?rest2_2
  case hy2_2 => (intro w9 hSw; clear hSw; go_simp; try with_reducible rfl)
  try simp only [Act.put, List.setIfInBounds_toArray, List.set_cons_zero, List.set_cons_succ, List.getElem_toArray, List.getElem_cons_zero, List.getElem_cons_succ]
  refine wpAnyH_take (i := 3) (v := ?v3_3) rfl (by kernel_rfl) (by kernel_rfl) (by kernel_rfl) (fun _ _ _ h => h) (Or.inl ⟨by rfl, ?hy3_3⟩) (by assumption) ?rest3_3
  case hy3_3 => (intro w9 hSw; obtain ⟨sv, sr⟩ := hSw; obtain ⟨k0, k1, k2, k3, k4, k5, k6, k7, k8⟩ := Vbx.cells sv; obtain ⟨q0, q1, q2, q3, q4⟩ := Rbx.cells sr; go_simp; try with_reducible rfl)
  try simp only [Act.put, List.setIfInBounds_toArray, List.set_cons_zero, List.set_cons_succ, List.getElem_toArray, List.getElem_cons_zero, List.getElem_cons_succ]
  refine wpAnyH_ready (rs := [1]) (by kernel_rfl) (by simp) ?_
  refine AllReadyH.cons rfl (fun K hK => ?_) AllReadyH.nil
  go_simp
  with_reducible refine (Rows_any V3 _).mono ?_
  rintro e w4 ⟨rfl, hb⟩
  replace DM := DM.on hb
  replace hF := hF.on hb
  replace hL := hL.on hb
  replace hT := hT.on hb
  replace hP := hP.on hb
  replace D7 := D7.on hb
  replace D8 := D8.on hb
  replace hP3 := hP3.on hb
  replace bz := bz.trans (hb.mono bz.size)
  clear hb
  refine hK.out _ _ ⟨D7, D8⟩ (fun hH => ?_)
  clear hK K hS
  have hS := hH
  clear hH
  try simp only [Act.put, List.setIfInBounds_toArray, List.set_cons_zero, List.set_cons_succ, List.getElem_toArray, List.getElem_cons_zero, List.getElem_cons_succ]
  refine wpAnyH_take (i := 4) (v := ?v4_4) rfl (by kernel_rfl) (by kernel_rfl) (by kernel_rfl) (fun _ _ _ h => h) (Or.inl ⟨by rfl, ?hy4_4⟩) (by assumption) ?rest4_4
  case hy4_4 => (intro w9 hSw; clear hSw; go_simp; try with_reducible rfl)
  try simp only [Act.put, List.setIfInBounds_toArray, List.set_cons_zero, List.set_cons_succ, List.getElem_toArray, List.getElem_cons_zero, List.getElem_cons_succ]
  refine wpAnyH_take (i := 5) (v := ?v5_5) rfl (by kernel_rfl) (by kernel_rfl) (by kernel_rfl) (fun _ _ _ h => h) (Or.inl ⟨by rfl, ?hy5_5⟩) (by assumption) ?rest5_5
  case hy5_5 => (intro w9 hSw; clear hSw; go_simp; try with_reducible rfl)
  try simp only [Act.put, List.setIfInBounds_toArray, List.set_cons_zero, List.set_cons_succ, List.getElem_toArray, List.getElem_cons_zero, List.getElem_cons_succ]
  refine wpAnyH_take (i := 6) (v := ?v6_6) rfl (by kernel_rfl) (by kernel_rfl) (by kernel_rfl) (fun _ _ _ h => h) (Or.inl ⟨by rfl, ?hy6_6⟩) (by assumption) ?rest6_6
  case hy6_6 => (intro w9 hSw; obtain ⟨sv, sr⟩ := hSw; obtain ⟨k0, k1, k2, k3, k4, k5, k6, k7, k8⟩ := Vbx.cells sv; obtain ⟨q0, q1, q2, q3, q4⟩ := Rbx.cells sr; go_simp; try with_reducible rfl)
  try simp only [Act.put, List.setIfInBounds_toArray, List.set_cons_zero, List.set_cons_succ, List.getElem_toArray, List.getElem_cons_zero, List.getElem_cons_succ]
  refine wpAnyH_take (i := 8) (v := ?v8_7) rfl (by kernel_rfl) (by kernel_rfl) (by kernel_rfl) (fun _ _ _ h => h) (Or.inl ⟨by rfl, ?hy8_7⟩) (by assumption) ?rest8_7
  case hy8_7 => (intro w9 hSw; clear hSw; go_simp; try with_reducible rfl)
  try simp only [Act.put, List.setIfInBounds_toArray, List.set_cons_zero, List.set_cons_succ, List.getElem_toArray, List.getElem_cons_zero, List.getElem_cons_succ]
  refine wpAnyH_take (i := 9) (v := ?v9_8) rfl (by kernel_rfl) (by kernel_rfl) (by kernel_rfl) (fun _ _ _ h => h) (Or.inl ⟨by rfl, ?hy9_8⟩) (by assumption) ?rest9_8
  case hy9_8 => (intro w9 hSw; obtain ⟨sv, sr⟩ := hSw; obtain ⟨k0, k1, k2, k3, k4, k5, k6, k7, k8⟩ := Vbx.cells sv; obtain ⟨q0, q1, q2, q3, q4⟩ := Rbx.cells sr; go_simp; try with_reducible rfl)
  try simp only [Act.put, List.setIfInBounds_toArray, List.set_cons_zero, List.set_cons_succ, List.getElem_toArray, List.getElem_cons_zero, List.getElem_cons_succ]
  refine wpAnyH_ready (rs := [7]) (by kernel_rfl) (by simp) ?_
  refine AllReadyH.cons rfl (fun K hK => ?_) AllReadyH.nil
  go_simp
  with_reducible refine (Cols_any V3 _).mono ?_
  rintro e w5 ⟨rfl, hb⟩
  replace DM := DM.on hb
  replace hF := hF.on hb
  replace hL := hL.on hb
  replace hT := hT.on hb
  replace hP := hP.on hb
  replace D7 := D7.on hb
  replace D8 := D8.on hb
  replace hP3 := hP3.on hb
  replace bz := bz.trans (hb.mono bz.size)
  clear hb
  refine hK.out _ _ ⟨D7, D8⟩ (fun hH => ?_)
  clear hK K hS
  have hS := hH
  clear hH
  try simp only [Act.put, List.setIfInBounds_toArray, List.set_cons_zero, List.set_cons_succ, List.getElem_toArray, List.getElem_cons_zero, List.getElem_cons_succ]
  refine wpAnyH_take (i := 10) (v := ?v10_9) rfl (by kernel_rfl) (by kernel_rfl) (by kernel_rfl) (fun _ _ _ h => h) (Or.inl ⟨by rfl, ?hy10_9⟩) (by assumption) ?rest10_9
  case hy10_9 => (intro w9 hSw; clear hSw; go_simp; try with_reducible rfl)
  try simp only [Act.put, List.setIfInBounds_toArray, List.set_cons_zero, List.set_cons_succ, List.getElem_toArray, List.getElem_cons_zero, List.getElem_cons_succ]
  refine wpAnyH_take (i := 11) (v := ?v11_10) rfl (by kernel_rfl) (by kernel_rfl) (by kernel_rfl) (fun _ _ _ h => h) (Or.inl ⟨by rfl, ?hy11_10⟩) (by assumption) ?rest11_10
  case hy11_10 => (intro w9 hSw; clear hSw; go_simp; try with_reducible rfl)
  try simp only [Act.put, List.setIfInBounds_toArray, List.set_cons_zero, List.set_cons_succ, List.getElem_toArray, List.getElem_cons_zero, List.getElem_cons_succ]
  refine wpAnyH_take (i := 12) (v := ?v12_11) rfl (by kernel_rfl) (by kernel_rfl) (by kernel_rfl) (fun _ _ _ h => h) (Or.inl ⟨by rfl, ?hy12_11⟩) (by assumption) ?rest12_11
  case hy12_11 => (intro w9 hSw; clear hSw; go_simp; try with_reducible rfl)
  try simp only [Act.put, List.setIfInBounds_toArray, List.set_cons_zero, List.set_cons_succ, List.getElem_toArray, List.getElem_cons_zero, List.getElem_cons_succ]
  refine wpAnyH_take (i := 13) (v := ?v13_12) rfl (by kernel_rfl) (by kernel_rfl) (by kernel_rfl) (fun _ _ _ h => h) (Or.inl ⟨by rfl, ?hy13_12⟩) (by assumption) ?rest13_12
  case hy13_12 => (intro w9 hSw; obtain ⟨sv, sr⟩ := hSw; obtain ⟨k0, k1, k2, k3, k4, k5, k6, k7, k8⟩ := Vbx.cells sv; obtain ⟨q0, q1, q2, q3, q4⟩ := Rbx.cells sr; go_simp; try with_reducible rfl)
  try simp only [Act.put, List.setIfInBounds_toArray, List.set_cons_zero, List.set_cons_succ, List.getElem_toArray, List.getElem_cons_zero, List.getElem_cons_succ]
  refine wpAnyH_take (i := 15) (v := ?v15_13) rfl (by kernel_rfl) (by kernel_rfl) (by kernel_rfl) (fun _ _ _ h => h) (Or.inl ⟨by rfl, ?hy15_13⟩) (by assumption) ?rest15_13
  case hy15_13 => (intro w9 hSw; obtain ⟨sv, sr⟩ := hSw; obtain ⟨k0, k1, k2, k3, k4, k5, k6, k7, k8⟩ := Vbx.cells sv; obtain ⟨q0, q1, q2, q3, q4⟩ := Rbx.cells sr; go_simp; try with_reducible rfl)
  try simp only [Act.put, List.setIfInBounds_toArray, List.set_cons_zero, List.set_cons_succ, List.getElem_toArray, List.getElem_cons_zero, List.getElem_cons_succ]
  refine wpAnyH_ready (rs := [14]) (by kernel_rfl) (by simp) ?_
  refine AllReadyH.cons rfl (fun K hK => ?_) AllReadyH.nil
  go_simp
  with_reducible refine (pV _).mono ?_
  rintro e w6 ⟨rfl, hb⟩
  replace DM := DM.on hb
  replace hF := hF.on hb
  replace hL := hL.on hb
  replace hT := hT.on hb
  replace hP := hP.on hb
  replace D7 := D7.on hb
  replace D8 := D8.on hb
  replace hP3 := hP3.on hb
  replace bz := bz.trans (hb.mono bz.size)
  clear hb
  refine hK.out _ _ ⟨D7, D8⟩ (fun hH => ?_)
  clear hK K hS
  have hS := hH
  clear hH
  try simp only [Act.put, List.setIfInBounds_toArray, List.set_cons_zero, List.set_cons_succ, List.getElem_toArray, List.getElem_cons_zero, List.getElem_cons_succ]
  refine wpAnyH_ready (rs := [16]) (by kernel_rfl) (by simp) ?_
  refine AllReadyH.cons rfl (fun K hK => ?_) AllReadyH.nil
  go_simp
  with_reducible refine (pVr _).mono ?_
  rintro e w7 ⟨rfl, hb⟩
  replace DM := DM.on hb
  replace hF := hF.on hb
  replace hL := hL.on hb
  replace hT := hT.on hb
  replace hP := hP.on hb
  replace D7 := D7.on hb
  replace D8 := D8.on hb
  replace hP3 := hP3.on hb
  replace bz := bz.trans (hb.mono bz.size)
  clear hb
  refine hK.out _ _ ⟨D7, D8⟩ (fun hH => ?_)
  clear hK K hS
  have hS := hH
  clear hH
  try simp only [Act.put, List.setIfInBounds_toArray, List.set_cons_zero, List.set_cons_succ, List.getElem_toArray, List.getElem_cons_zero, List.getElem_cons_succ]
  refine wpAnyH_take (i := 17) (v := ?v17_14) rfl (by kernel_rfl) (by kernel_rfl) (by kernel_rfl) (fun _ _ _ h => h) (Or.inl ⟨by rfl, ?hy17_14⟩) (by assumption) ?rest17_14
  case hy17_14 => (intro w9 hSw; clear hSw; go_simp; try with_reducible rfl)
  try simp only [Act.put, List.setIfInBounds_toArray, List.set_cons_zero, List.set_cons_succ, List.getElem_toArray, List.getElem_cons_zero, List.getElem_cons_succ]
  refine wpAnyH_take (i := 18) (v := ?v18_15) rfl (by kernel_rfl) (by kernel_rfl) (by kernel_rfl) (fun _ _ _ h => h) (Or.inl ⟨by rfl, ?hy18_15⟩) (by assumption) ?rest18_15
  case hy18_15 => (intro w9 hSw; clear hSw; go_simp; try with_reducible rfl)
  try simp only [Act.put, List.setIfInBounds_toArray, List.set_cons_zero, List.set_cons_succ, List.getElem_toArray, List.getElem_cons_zero, List.getElem_cons_succ]
  refine wpAnyH_take (i := 19) (v := ?v19_16) rfl (by kernel_rfl) (by kernel_rfl) (by kernel_rfl) (fun _ _ _ h => h) (Or.inl ⟨by rfl, ?hy19_16⟩) (by assumption) ?rest19_16
  case hy19_16 => (intro w9 hSw; clear hSw; go_simp; try with_reducible rfl)
  try simp only [Act.put, List.setIfInBounds_toArray, List.set_cons_zero, List.set_cons_succ, List.getElem_toArray, List.getElem_cons_zero, List.getElem_cons_succ]
  refine wpAnyH_take (i := 20) (v := ?v20_17) rfl (by kernel_rfl) (by kernel_rfl) (by kernel_rfl) (fun _ _ _ h => h) (Or.inl ⟨by rfl, ?hy20_17⟩) (by assumption) ?rest20_17
  case hy20_17 => (intro w9 hSw; obtain ⟨sv, sr⟩ := hSw; obtain ⟨k0, k1, k2, k3, k4, k5, k6, k7, k8⟩ := Vbx.cells sv; obtain ⟨q0, q1, q2, q3, q4⟩ := Rbx.cells sr; go_simp; try with_reducible rfl)
  try simp only [Act.put, List.setIfInBounds_toArray, List.set_cons_zero, List.set_cons_succ, List.getElem_toArray, List.getElem_cons_zero, List.getElem_cons_succ]
  refine wpAnyH_take (i := 22) (v := ?v22_18) rfl (by kernel_rfl) (by kernel_rfl) (by kernel_rfl) (fun _ _ _ h => h) (Or.inl ⟨by rfl, ?hy22_18⟩) (by assumption) ?rest22_18
  case hy22_18 => (intro w9 hSw; obtain ⟨sv, sr⟩ := hSw; obtain ⟨k0, k1, k2, k3, k4, k5, k6, k7, k8⟩ := Vbx.cells sv; obtain ⟨q0, q1, q2, q3, q4⟩ := Rbx.cells sr; go_simp; try with_reducible rfl)
  try simp only [Act.put, List.setIfInBounds_toArray, List.set_cons_zero, List.set_cons_succ, List.getElem_toArray, List.getElem_cons_zero, List.getElem_cons_succ]
  refine wpAnyH_ready (rs := [21]) (by kernel_rfl) (by simp) ?_
  refine AllReadyH.cons rfl (fun K hK => ?_) AllReadyH.nil
  go_simp
  with_reducible refine (pL _).mono ?_
  rintro e w8 ⟨rfl, hb⟩
  replace DM := DM.on hb
  replace hF := hF.on hb
  replace hL := hL.on hb
  replace hT := hT.on hb
  replace hP := hP.on hb
  replace D7 := D7.on hb
  replace D8 := D8.on hb
  replace hP3 := hP3.on hb
  replace bz := bz.trans (hb.mono bz.size)
  clear hb
  refine hK.out _ _ ⟨D7, D8⟩ (fun hH => ?_)
  clear hK K hS
  have hS := hH
  clear hH
  try simp only [Act.put, List.setIfInBounds_toArray, List.set_cons_zero, List.set_cons_succ, List.getElem_toArray, List.getElem_cons_zero, List.getElem_cons_succ]
  refine wpAnyH_ready (rs := [23]) (by kernel_rfl) (by simp) ?_
  refine AllReadyH.cons rfl (fun K hK => ?_) AllReadyH.nil
  go_simp
  with_reducible refine (pLr _).mono ?_
  rintro e w9 ⟨rfl, hb⟩
  replace DM := DM.on hb
  replace hF := hF.on hb
  replace hL := hL.on hb
  replace hT := hT.on hb
  replace hP := hP.on hb
  replace D7 := D7.on hb
  replace D8 := D8.on hb
  replace hP3 := hP3.on hb
  replace bz := bz.trans (hb.mono bz.size)
  clear hb
  refine hK.out _ _ ⟨D7, D8⟩ (fun hH => ?_)
  clear hK K hS
  have hS := hH
  clear hH
  try simp only [Act.put, List.setIfInBounds_toArray, List.set_cons_zero, List.set_cons_succ, List.getElem_toArray, List.getElem_cons_zero, List.getElem_cons_succ]
  refine wpAnyH_take (i := 24) (v := ?v24_19) rfl (by kernel_rfl) (by kernel_rfl) (by kernel_rfl) (fun _ _ _ h => h) (Or.inl ⟨by rfl, ?hy24_19⟩) (by assumption) ?rest24_19
  case hy24_19 => (intro w9 hSw; clear hSw; go_simp; try with_reducible rfl)
  try simp only [Act.put, List.setIfInBounds_toArray, List.set_cons_zero, List.set_cons_succ, List.getElem_toArray, List.getElem_cons_zero, List.getElem_cons_succ]
  refine wpAnyH_take (i := 25) (v := ?v25_20) rfl (by kernel_rfl) (by kernel_rfl) (by kernel_rfl) (fun _ _ _ h => h) (Or.inl ⟨by rfl, ?hy25_20⟩) (by assumption) ?rest25_20
  case hy25_20 => (intro w9 hSw; clear hSw; go_simp; try with_reducible rfl)
  try simp only [Act.put, List.setIfInBounds_toArray, List.set_cons_zero, List.set_cons_succ, List.getElem_toArray, List.getElem_cons_zero, List.getElem_cons_succ]
  refine wpAnyH_take (i := 26) (v := ?v26_21) rfl (by kernel_rfl) (by kernel_rfl) (by kernel_rfl) (fun _ _ _ h => h) (Or.inl ⟨by rfl, ?hy26_21⟩) (by assumption) ?rest26_21
  case hy26_21 => (intro w9 hSw; clear hSw; go_simp; try with_reducible rfl)
  try simp only [Act.put, List.setIfInBounds_toArray, List.set_cons_zero, List.set_cons_succ, List.getElem_toArray, List.getElem_cons_zero, List.getElem_cons_succ]
  refine wpAnyH_take (i := 27) (v := ?v27_22) rfl (by kernel_rfl) (by kernel_rfl) (by kernel_rfl) (fun _ _ _ h => h) (Or.inl ⟨by rfl, ?hy27_22⟩) (by assumption) ?rest27_22
  case hy27_22 => (intro w9 hSw; obtain ⟨sv, sr⟩ := hSw; obtain ⟨k0, k1, k2, k3, k4, k5, k6, k7, k8⟩ := Vbx.cells sv; obtain ⟨q0, q1, q2, q3, q4⟩ := Rbx.cells sr; go_simp; try with_reducible rfl)
  try simp only [Act.put, List.setIfInBounds_toArray, List.set_cons_zero, List.set_cons_succ, List.getElem_toArray, List.getElem_cons_zero, List.getElem_cons_succ]
  refine wpAnyH_take (i := 28) (v := ?v28_23) rfl (by kernel_rfl) (by kernel_rfl) (by kernel_rfl) (fun _ _ _ h => h) (Or.inl ⟨by rfl, ?hy28_23⟩) (by assumption) ?rest28_23
  case hy28_23 => (intro w9 hSw; clear hSw; go_simp; try with_reducible rfl)
  try simp only [Act.put, List.setIfInBounds_toArray, List.set_cons_zero, List.set_cons_succ, List.getElem_toArray, List.getElem_cons_zero, List.getElem_cons_succ]
  refine wpAnyH_take (i := 29) (v := ?v29_24) rfl (by kernel_rfl) (by kernel_rfl) (by kernel_rfl) (fun _ _ _ h => h) (Or.inl ⟨by rfl, ?hy29_24⟩) (by assumption) ?rest29_24
  case hy29_24 => (intro w9 hSw; clear hSw; go_simp; try with_reducible rfl)
  try simp only [Act.put, List.setIfInBounds_toArray, List.set_cons_zero, List.set_cons_succ, List.getElem_toArray, List.getElem_cons_zero, List.getElem_cons_succ]
  refine wpAnyH_take (i := 32) (v := ?v32_25) rfl (by kernel_rfl) (by kernel_rfl) (by kernel_rfl) (fun _ _ _ h => h) (Or.inl ⟨by rfl, ?hy32_25⟩) (by assumption) ?rest32_25
  case hy32_25 => (intro w9 hSw; obtain ⟨sv, sr⟩ := hSw; obtain ⟨k0, k1, k2, k3, k4, k5, k6, k7, k8⟩ := Vbx.cells sv; obtain ⟨q0, q1, q2, q3, q4⟩ := Rbx.cells sr; go_simp; try with_reducible rfl)
  try simp only [Act.put, List.setIfInBounds_toArray, List.set_cons_zero, List.set_cons_succ, List.getElem_toArray, List.getElem_cons_zero, List.getElem_cons_succ]
  refine wpAnyH_take (i := 33) (v := ?v33_26) rfl (by kernel_rfl) (by kernel_rfl) (by kernel_rfl) (fun _ _ _ h => h) (Or.inl ⟨by rfl, ?hy33_26⟩) (by assumption) ?rest33_26
  case hy33_26 => (intro w9 hSw; clear hSw; go_simp; try with_reducible rfl)
  try simp only [Act.put, List.setIfInBounds_toArray, List.set_cons_zero, List.set_cons_succ, List.getElem_toArray, List.getElem_cons_zero, List.getElem_cons_succ]
  refine wpAnyH_take (i := 34) (v := ?v34_27) rfl (by kernel_rfl) (by kernel_rfl) (by kernel_rfl) (fun _ _ _ h => h) (Or.inl ⟨by rfl, ?hy34_27⟩) (by assumption) ?rest34_27
  case hy34_27 => (intro w9 hSw; clear hSw; go_simp; try with_reducible rfl)
  try simp only [Act.put, List.setIfInBounds_toArray, List.set_cons_zero, List.set_cons_succ, List.getElem_toArray, List.getElem_cons_zero, List.getElem_cons_succ]
  refine wpAnyH_ready (rs := [30]) (by kernel_rfl) (by simp) ?_
  refine AllReadyH.cons rfl (fun K hK => ?_) AllReadyH.nil
  go_simp
  with_reducible refine (pA _ _ hT.st).mono ?_
  rintro e w10 ⟨rfl, hb⟩
  replace DM := DM.on hb
  replace hF := hF.on hb
  replace hL := hL.on hb
  replace hT := hT.on hb
  replace hP := hP.on hb
  replace D7 := D7.on hb
  replace D8 := D8.on hb
  replace hP3 := hP3.on hb
  replace bz := bz.trans (hb.mono bz.size)
  clear hb
  refine hK.out _ _ ⟨D7, D8⟩ (fun hH => ?_)
  clear hK K hS
  have hS := hH
  clear hH
  try simp only [Act.put, List.setIfInBounds_toArray, List.set_cons_zero, List.set_cons_succ, List.getElem_toArray, List.getElem_cons_zero, List.getElem_cons_succ]
  refine wpAnyH_ready (rs := [31]) (by kernel_rfl) (by simp) ?_
  refine AllReadyH.cons rfl (fun K hK => ?_) AllReadyH.nil
  go_simp
  with_reducible refine (pB _).mono ?_
  rintro e v11 ⟨rfl, rfl⟩
  refine hK.out _ _ ⟨D7, D8⟩ (fun hH => ?_)
  clear hK K hS
  have hS := hH
  clear hH
  try simp only [Act.put, List.setIfInBounds_toArray, List.set_cons_zero, List.set_cons_succ, List.getElem_toArray, List.getElem_cons_zero, List.getElem_cons_succ]
  refine wpAnyH_ready (rs := [35]) (by kernel_rfl) (by simp) ?_
  refine AllReadyH.cons rfl (fun K hK => ?_) AllReadyH.nil
  go_simp
  with_reducible refine (pG _ _ hT.sr hP3.rk).mono ?_
  rintro e w12 ⟨rfl, hb⟩
  replace DM := DM.on hb
  replace hF := hF.on hb
  replace hL := hL.on hb
  replace hT := hT.on hb
  replace hP := hP.on hb
  replace D7 := D7.on hb
  replace D8 := D8.on hb
  replace hP3 := hP3.on hb
  replace bz := bz.trans (hb.mono bz.size)
  clear hb
  refine hK.out _ _ ⟨D7, D8⟩ (fun hH => ?_)
  clear hK K hS
  have hS := hH
  clear hH
  try simp only [Act.put, List.setIfInBounds_toArray, List.set_cons_zero, List.set_cons_succ, List.getElem_toArray, List.getElem_cons_zero, List.getElem_cons_succ]
  refine wpAnyH_ready (rs := [36]) (by kernel_rfl) (by simp) ?_
  refine AllReadyH.cons rfl (fun K hK => ?_) AllReadyH.nil
  go_simp
  with_reducible refine (pB _).mono ?_
  rintro e v13 ⟨rfl, rfl⟩
  refine hK.out _ _ ⟨D7, D8⟩ (fun hH => ?_)
  clear hK K hS
  have hS := hH
  clear hH
  try simp only [Act.put, List.setIfInBounds_toArray, List.set_cons_zero, List.set_cons_succ, List.getElem_toArray, List.getElem_cons_zero, List.getElem_cons_succ]
  refine wpAnyH_take (i := 37) (v := ?v37_28) rfl (by kernel_rfl) (by kernel_rfl) (by kernel_rfl) (fun _ _ _ h => h) (Or.inl ⟨by rfl, ?hy37_28⟩) (by assumption) ?rest37_28
  case hy37_28 => (intro w9 hSw; clear hSw; go_simp; try with_reducible rfl)
  try simp only [Act.put, List.setIfInBounds_toArray, List.set_cons_zero, List.set_cons_succ, List.getElem_toArray, List.getElem_cons_zero, List.getElem_cons_succ]
  refine wpAnyH_take (i := 38) (v := ?v38_29) rfl (by kernel_rfl) (by kernel_rfl) (by kernel_rfl) (fun _ _ _ h => h) (Or.inl ⟨by rfl, ?hy38_29⟩) (by assumption) ?rest38_29
  case hy38_29 => (intro w9 hSw; clear hSw; go_simp; try with_reducible rfl)
  try simp only [Act.put, List.setIfInBounds_toArray, List.set_cons_zero, List.set_cons_succ, List.getElem_toArray, List.getElem_cons_zero, List.getElem_cons_succ]
  refine wpAnyH_done (by kernel_rfl) ?_ _
  clear pV pVr pL pA pG pB t1 t2 t3 t4 t5
  obtain ⟨ZB, hZB⟩ : ∃ b, (V3.p == none) = b := ⟨_, rfl⟩
  have hrb := HB3.out
  rw [hZB] at hrb
  have hzz : (ZB == !rb) = true := by rw [hrb]; cases ZB <;> rfl
  clear hrb
  have pSz : ∀ (W : World) (B : Nat) (h : St W B s g cap C.toNat l), Calls Try.prog 15 #[V3.V, Vu.zero.V] W (Ans W (.bool ZB)) := fun W B h => by have := Same_any (w := W) (B2 := 0) (s2 := 0) (g2 := 0) (cap2 := 0) (c2 := 0) (l2 := []) (n2 := 0) hP3.vk (fun _ => ⟨h, hll⟩) (zero_vk 0 0 0 (K := 1) (by omega)) (fun h => absurd rfl h); rwa [same_zero hP3.vk.none_, hZB] at this
  clear hZB
  rcases Int.lt_or_le i 0 with g3 | g3
  · have d1 : decide (0 ≤ i) = false := decide_eq_false (by omega)
    have y0 : (0 : Int) ≤ 0 := by omega
    have y1 : (0 : Int) ≤ 18446744073709551615 := by omega
    have hgg := get_out hP3.vk.none_ R0 C0 C.toNat l (i := i) (.inl g3)
    have pGt : ∀ (W : World) (B : Nat) (h : St W B s g cap C.toNat l), Calls Try.prog 35 #[V3.V, .int .i64 i] W (Ans W (.float .f64 0)) := fun W B h => by have := Get_any h hvl i; rw [hgg] at this; exact this
    have pB : ∀ W, Calls Try.prog 26 #[.float .f64 0] W fun e w' => e = .returned (.int .u64 (one 0)) ∧ W = w' := fun W => rbits_any (x := 0) (by omega) (by omega) W
    obtain ⟨Y1, hY1⟩ : ∃ Z, one 0 = Z := ⟨_, rfl⟩
    simp only [hY1] at pB
    have t6 : (Y1 == Y1) = true := by simp
    clear hY1 hgg y0 y1
    have pO := fun (W : World) (B B2 : Nat) (h : St W B s g cap C.toNat l) (h2 : Sr W B2 A5 n c5 l) (hr : Rk W A5 n c5 (Ru.mk rA rn rc V3.R V3.C rA2 rn2 rc2 rb) V3 C.toNat) (q : Int) => once_true hP3.vk (fun _ => ⟨h, hll⟩) hr h2 q
    go_wp2_with fail
    replace DM := DM.drew
    replace hF := hF.drew
    replace hL := hL.drew
    replace hT := hT.drew
    replace hP := hP.drew
    replace D7 := D7.drew
    replace D8 := D8.drew
    replace hP3 := hP3.drew
    replace bz := bz.drew
    refine wp_region_held_drew (S := fun w9 : World => Vbx w9 HD7 V3 ∧ Rbx w9 (HD7 + 1) (Ru.mk rA rn rc V3.R V3.C rA2 rn2 rc2 rb)) (by kernel_rfl) ⟨D7, D8⟩ (fun hS => ?_)
    refine wpAnyH_take (i := 0) (v := ?v0_30) rfl (by kernel_rfl) (by kernel_rfl) (by kernel_rfl) (fun _ _ _ h => h) (Or.inl ⟨by rfl, ?hy0_30⟩) (by assumption) ?rest0_30
    case hy0_30 => (intro w9 hSw; obtain ⟨sv, sr⟩ := hSw; obtain ⟨k0, k1, k2, k3, k4, k5, k6, k7, k8⟩ := Vbx.cells sv; obtain ⟨q0, q1, q2, q3, q4⟩ := Rbx.cells sr; go_simp; try with_reducible rfl)
    try simp only [Act.put, List.setIfInBounds_toArray, List.set_cons_zero, List.set_cons_succ, List.getElem_toArray, List.getElem_cons_zero, List.getElem_cons_succ]
    refine wpAnyH_take (i := 1) (v := ?v1_31) rfl (by kernel_rfl) (by kernel_rfl) (by kernel_rfl) (fun _ _ _ h => h) (Or.inl ⟨by rfl, ?hy1_31⟩) (by assumption) ?rest1_31
    case hy1_31 => (intro w9 hSw; clear hSw; go_simp; try with_reducible rfl)
    try simp only [Act.put, List.setIfInBounds_toArray, List.set_cons_zero, List.set_cons_succ, List.getElem_toArray, List.getElem_cons_zero, List.getElem_cons_succ]
    refine wpAnyH_take (i := 4) (v := ?v4_32) rfl (by kernel_rfl) (by kernel_rfl) (by kernel_rfl) (fun _ _ _ h => h) (Or.inl ⟨by rfl, ?hy4_32⟩) (by assumption) ?rest4_32
    case hy4_32 => (intro w9 hSw; clear hSw; go_simp; try with_reducible rfl)
    try simp only [Act.put, List.setIfInBounds_toArray, List.set_cons_zero, List.set_cons_succ, List.getElem_toArray, List.getElem_cons_zero, List.getElem_cons_succ]
    refine wpAnyH_ready (rs := [2]) (by kernel_rfl) (by simp) ?_
    refine AllReadyH.cons rfl (fun K hK => ?_) AllReadyH.nil
    go_simp
    with_reducible refine (pGt _ _ hT.st).mono ?_
    rintro e w14 ⟨rfl, hb⟩
    replace DM := DM.on hb
    replace hF := hF.on hb
    replace hL := hL.on hb
    replace hT := hT.on hb
    replace hP := hP.on hb
    replace D7 := D7.on hb
    replace D8 := D8.on hb
    replace hP3 := hP3.on hb
    replace bz := bz.trans (hb.mono bz.size)
    clear hb
    refine hK.out _ _ ⟨D7, D8⟩ (fun hH => ?_)
    clear hK K hS
    have hS := hH
    clear hH
    try simp only [Act.put, List.setIfInBounds_toArray, List.set_cons_zero, List.set_cons_succ, List.getElem_toArray, List.getElem_cons_zero, List.getElem_cons_succ]
    refine wpAnyH_ready (rs := [3]) (by kernel_rfl) (by simp) ?_
    refine AllReadyH.cons rfl (fun K hK => ?_) AllReadyH.nil
    go_simp
    with_reducible refine (pB _).mono ?_
    rintro e v15 ⟨rfl, rfl⟩
    refine hK.out _ _ ⟨D7, D8⟩ (fun hH => ?_)
    clear hK K hS
    have hS := hH
    clear hH
    try simp only [Act.put, List.setIfInBounds_toArray, List.set_cons_zero, List.set_cons_succ, List.getElem_toArray, List.getElem_cons_zero, List.getElem_cons_succ]
    refine wpAnyH_ready (rs := [5]) (by kernel_rfl) (by simp) ?_
    refine AllReadyH.cons rfl (fun K hK => ?_) AllReadyH.nil
    go_simp
    with_reducible refine (pB _).mono ?_
    rintro e v16 ⟨rfl, rfl⟩
    refine hK.out _ _ ⟨D7, D8⟩ (fun hH => ?_)
    clear hK K hS
    have hS := hH
    clear hH
    try simp only [Act.put, List.setIfInBounds_toArray, List.set_cons_zero, List.set_cons_succ, List.getElem_toArray, List.getElem_cons_zero, List.getElem_cons_succ]
    refine wpAnyH_take (i := 6) (v := ?v6_33) rfl (by kernel_rfl) (by kernel_rfl) (by kernel_rfl) (fun _ _ _ h => h) (Or.inl ⟨by rfl, ?hy6_33⟩) (by assumption) ?rest6_33
    case hy6_33 => (intro w9 hSw; clear hSw; go_simp; try with_reducible rfl)
    try simp only [Act.put, List.setIfInBounds_toArray, List.set_cons_zero, List.set_cons_succ, List.getElem_toArray, List.getElem_cons_zero, List.getElem_cons_succ]
    refine wpAnyH_take (i := 7) (v := ?v7_34) rfl (by kernel_rfl) (by kernel_rfl) (by kernel_rfl) (fun _ _ _ h => h) (Or.inl ⟨by rfl, ?hy7_34⟩) (by assumption) ?rest7_34
    case hy7_34 => (intro w9 hSw; clear hSw; go_simp; try with_reducible rfl)
    try simp only [Act.put, List.setIfInBounds_toArray, List.set_cons_zero, List.set_cons_succ, List.getElem_toArray, List.getElem_cons_zero, List.getElem_cons_succ]
    refine wpAnyH_take (i := 8) (v := ?v8_35) rfl (by kernel_rfl) (by kernel_rfl) (by kernel_rfl) (fun _ _ _ h => h) (Or.inl ⟨by rfl, ?hy8_35⟩) (by assumption) ?rest8_35
    case hy8_35 => (intro w9 hSw; obtain ⟨sv, sr⟩ := hSw; obtain ⟨k0, k1, k2, k3, k4, k5, k6, k7, k8⟩ := Vbx.cells sv; obtain ⟨q0, q1, q2, q3, q4⟩ := Rbx.cells sr; go_simp; try with_reducible rfl)
    try simp only [Act.put, List.setIfInBounds_toArray, List.set_cons_zero, List.set_cons_succ, List.getElem_toArray, List.getElem_cons_zero, List.getElem_cons_succ]
    refine wpAnyH_take (i := 10) (v := ?v10_36) rfl (by kernel_rfl) (by kernel_rfl) (by kernel_rfl) (fun _ _ _ h => h) (Or.inl ⟨by rfl, ?hy10_36⟩) (by assumption) ?rest10_36
    case hy10_36 => (intro w9 hSw; obtain ⟨sv, sr⟩ := hSw; obtain ⟨k0, k1, k2, k3, k4, k5, k6, k7, k8⟩ := Vbx.cells sv; obtain ⟨q0, q1, q2, q3, q4⟩ := Rbx.cells sr; go_simp; try with_reducible rfl)
    try simp only [Act.put, List.setIfInBounds_toArray, List.set_cons_zero, List.set_cons_succ, List.getElem_toArray, List.getElem_cons_zero, List.getElem_cons_succ]
    refine wpAnyH_ready (rs := [9]) (by kernel_rfl) (by simp) ?_
    refine AllReadyH.cons rfl (fun K hK => ?_) AllReadyH.nil
    go_simp
    with_reducible refine (Matrix_fl hP3.vk (fun _ => ⟨hT.st, hll⟩)).mono ?_
    rintro e w17 ⟨A7, c7, rfl, hX, hb⟩
    replace DM := DM.on hb
    replace hF := hF.on hb
    replace hL := hL.on hb
    replace hT := hT.on hb
    replace hP := hP.on hb
    replace D7 := D7.on hb
    replace D8 := D8.on hb
    replace hP3 := hP3.on hb
    replace bz := bz.trans (hb.mono bz.size)
    clear hb
    refine hK.out _ _ ⟨D7, D8⟩ (fun hH => ?_)
    clear hK K hS
    have hS := hH
    clear hH
    try simp only [Act.put, List.setIfInBounds_toArray, List.set_cons_zero, List.set_cons_succ, List.getElem_toArray, List.getElem_cons_zero, List.getElem_cons_succ]
    refine wpAnyH_ready (rs := [11]) (by kernel_rfl) (by simp) ?_
    refine AllReadyH.cons rfl (fun K hK => ?_) AllReadyH.nil
    go_simp
    with_reducible refine (rMat_fl hP3.rk hT.sr hP3.vk).mono ?_
    rintro e w18 ⟨A8, c8, rfl, hY, hb⟩
    replace DM := DM.on hb
    replace hF := hF.on hb
    replace hL := hL.on hb
    replace hT := hT.on hb
    replace hP := hP.on hb
    replace D7 := D7.on hb
    replace D8 := D8.on hb
    replace hP3 := hP3.on hb
    replace hX := hX.on hb
    replace bz := bz.trans (hb.mono bz.size)
    clear hb
    refine hK.out _ _ ⟨D7, D8⟩ (fun hH => ?_)
    clear hK K hS
    have hS := hH
    clear hH
    try simp only [Act.put, List.setIfInBounds_toArray, List.set_cons_zero, List.set_cons_succ, List.getElem_toArray, List.getElem_cons_zero, List.getElem_cons_succ]
    refine wpAnyH_ready (rs := [12]) (by kernel_rfl) (by simp) ?_
    refine AllReadyH.cons rfl (fun K hK => ?_) AllReadyH.nil
    go_simp
    with_reducible refine (SameM_true hX hY).mono ?_
    rintro e w19 ⟨rfl, hb⟩
    replace DM := DM.on hb
    replace hF := hF.on hb
    replace hL := hL.on hb
    replace hT := hT.on hb
    replace hP := hP.on hb
    replace D7 := D7.on hb
    replace D8 := D8.on hb
    replace hP3 := hP3.on hb
    replace hX := hX.on hb
    replace hY := hY.on hb
    replace bz := bz.trans (hb.mono bz.size)
    clear hb hX hY
    refine hK.out _ _ ⟨D7, D8⟩ (fun hH => ?_)
    clear hK K hS
    have hS := hH
    clear hH
    try simp only [Act.put, List.setIfInBounds_toArray, List.set_cons_zero, List.set_cons_succ, List.getElem_toArray, List.getElem_cons_zero, List.getElem_cons_succ]
    refine wpAnyH_take (i := 13) (v := ?v13_37) rfl (by kernel_rfl) (by kernel_rfl) (by kernel_rfl) (fun _ _ _ h => h) (Or.inl ⟨by rfl, ?hy13_37⟩) (by assumption) ?rest13_37
    case hy13_37 => (intro w9 hSw; clear hSw; go_simp; try with_reducible rfl)
    try simp only [Act.put, List.setIfInBounds_toArray, List.set_cons_zero, List.set_cons_succ, List.getElem_toArray, List.getElem_cons_zero, List.getElem_cons_succ]
    refine wpAnyH_take (i := 14) (v := ?v14_38) rfl (by kernel_rfl) (by kernel_rfl) (by kernel_rfl) (fun _ _ _ h => h) (Or.inl ⟨by rfl, ?hy14_38⟩) (by assumption) ?rest14_38
    case hy14_38 => (intro w9 hSw; clear hSw; go_simp; try with_reducible rfl)
    try simp only [Act.put, List.setIfInBounds_toArray, List.set_cons_zero, List.set_cons_succ, List.getElem_toArray, List.getElem_cons_zero, List.getElem_cons_succ]
    refine wpAnyH_take (i := 15) (v := ?v15_39) rfl (by kernel_rfl) (by kernel_rfl) (by kernel_rfl) (fun _ _ _ h => h) (Or.inl ⟨by rfl, ?hy15_39⟩) (by assumption) ?rest15_39
    case hy15_39 => (intro w9 hSw; obtain ⟨sv, sr⟩ := hSw; obtain ⟨k0, k1, k2, k3, k4, k5, k6, k7, k8⟩ := Vbx.cells sv; obtain ⟨q0, q1, q2, q3, q4⟩ := Rbx.cells sr; go_simp; try with_reducible rfl)
    try simp only [Act.put, List.setIfInBounds_toArray, List.set_cons_zero, List.set_cons_succ, List.getElem_toArray, List.getElem_cons_zero, List.getElem_cons_succ]
    refine wpAnyH_take (i := 16) (v := ?v16_40) rfl (by kernel_rfl) (by kernel_rfl) (by kernel_rfl) (fun _ _ _ h => h) (Or.inl ⟨by rfl, ?hy16_40⟩) (by assumption) ?rest16_40
    case hy16_40 => (intro w9 hSw; obtain ⟨sv, sr⟩ := hSw; obtain ⟨k0, k1, k2, k3, k4, k5, k6, k7, k8⟩ := Vbx.cells sv; obtain ⟨q0, q1, q2, q3, q4⟩ := Rbx.cells sr; go_simp; try with_reducible rfl)
    try simp only [Act.put, List.setIfInBounds_toArray, List.set_cons_zero, List.set_cons_succ, List.getElem_toArray, List.getElem_cons_zero, List.getElem_cons_succ]
    refine wpAnyH_take (i := 17) (v := ?v17_41) rfl (by kernel_rfl) (by kernel_rfl) (by kernel_rfl) (fun _ _ _ h => h) (Or.inl ⟨by rfl, ?hy17_41⟩) (by assumption) ?rest17_41
    case hy17_41 => (intro w9 hSw; clear hSw; go_simp; try with_reducible rfl)
    try simp only [Act.put, List.setIfInBounds_toArray, List.set_cons_zero, List.set_cons_succ, List.getElem_toArray, List.getElem_cons_zero, List.getElem_cons_succ]
    refine wpAnyH_ready (rs := [18]) (by kernel_rfl) (by simp) ?_
    refine AllReadyH.cons rfl (fun K hK => ?_) AllReadyH.nil
    go_simp
    with_reducible refine (pO _ _ _ hT.st hT.sr hP3.rk q).mono ?_
    rintro e w20 ⟨rfl, hb⟩
    replace DM := DM.on hb
    replace hF := hF.on hb
    replace hL := hL.on hb
    replace hT := hT.on hb
    replace hP := hP.on hb
    replace D7 := D7.on hb
    replace D8 := D8.on hb
    replace hP3 := hP3.on hb
    replace bz := bz.trans (hb.mono bz.size)
    clear hb
    refine hK.out _ _ ⟨D7, D8⟩ (fun hH => ?_)
    clear hK K hS
    have hS := hH
    clear hH
    try simp only [Act.put, List.setIfInBounds_toArray, List.set_cons_zero, List.set_cons_succ, List.getElem_toArray, List.getElem_cons_zero, List.getElem_cons_succ]
    refine wpAnyH_take (i := 19) (v := ?v19_42) rfl (by kernel_rfl) (by kernel_rfl) (by kernel_rfl) (fun _ _ _ h => h) (Or.inl ⟨by rfl, ?hy19_42⟩) (by assumption) ?rest19_42
    case hy19_42 => (intro w9 hSw; clear hSw; go_simp; try with_reducible rfl)
    try simp only [Act.put, List.setIfInBounds_toArray, List.set_cons_zero, List.set_cons_succ, List.getElem_toArray, List.getElem_cons_zero, List.getElem_cons_succ]
    refine wpAnyH_take (i := 20) (v := ?v20_43) rfl (by kernel_rfl) (by kernel_rfl) (by kernel_rfl) (fun _ _ _ h => h) (Or.inl ⟨by rfl, ?hy20_43⟩) (by assumption) ?rest20_43
    case hy20_43 => (intro w9 hSw; clear hSw; go_simp; try with_reducible rfl)
    try simp only [Act.put, List.setIfInBounds_toArray, List.set_cons_zero, List.set_cons_succ, List.getElem_toArray, List.getElem_cons_zero, List.getElem_cons_succ]
    refine wpAnyH_take (i := 21) (v := ?v21_44) rfl (by kernel_rfl) (by kernel_rfl) (by kernel_rfl) (fun _ _ _ h => h) (Or.inl ⟨by rfl, ?hy21_44⟩) (by assumption) ?rest21_44
    case hy21_44 => (intro w9 hSw; obtain ⟨sv, sr⟩ := hSw; obtain ⟨k0, k1, k2, k3, k4, k5, k6, k7, k8⟩ := Vbx.cells sv; obtain ⟨q0, q1, q2, q3, q4⟩ := Rbx.cells sr; go_simp; try with_reducible rfl)
    try simp only [Act.put, List.setIfInBounds_toArray, List.set_cons_zero, List.set_cons_succ, List.getElem_toArray, List.getElem_cons_zero, List.getElem_cons_succ]
    refine wpAnyH_take (i := 22) (v := ?v22_45) rfl (by kernel_rfl) (by kernel_rfl) (by kernel_rfl) (fun _ _ _ h => h) (Or.inl ⟨by rfl, ?hy22_45⟩) (by assumption) ?rest22_45
    case hy22_45 => (intro w9 hSw; obtain ⟨sv, sr⟩ := hSw; obtain ⟨k0, k1, k2, k3, k4, k5, k6, k7, k8⟩ := Vbx.cells sv; obtain ⟨q0, q1, q2, q3, q4⟩ := Rbx.cells sr; go_simp; try with_reducible rfl)
    try simp only [Act.put, List.setIfInBounds_toArray, List.set_cons_zero, List.set_cons_succ, List.getElem_toArray, List.getElem_cons_zero, List.getElem_cons_succ]
    refine wpAnyH_ready (rs := [23]) (by kernel_rfl) (by simp) ?_
    refine AllReadyH.cons rfl (fun K hK => ?_) AllReadyH.nil
    go_simp
    with_reducible refine (pO _ _ _ hT.st hT.sr hP3.rk 0).mono ?_
    rintro e w21 ⟨rfl, hb⟩
    replace DM := DM.on hb
    replace hF := hF.on hb
    replace hL := hL.on hb
    replace hT := hT.on hb
    replace hP := hP.on hb
    replace D7 := D7.on hb
    replace D8 := D8.on hb
    replace hP3 := hP3.on hb
    replace bz := bz.trans (hb.mono bz.size)
    clear hb
    refine hK.out _ _ ⟨D7, D8⟩ (fun hH => ?_)
    clear hK K hS
    have hS := hH
    clear hH
    try simp only [Act.put, List.setIfInBounds_toArray, List.set_cons_zero, List.set_cons_succ, List.getElem_toArray, List.getElem_cons_zero, List.getElem_cons_succ]
    refine wpAnyH_take (i := 24) (v := ?v24_46) rfl (by kernel_rfl) (by kernel_rfl) (by kernel_rfl) (fun _ _ _ h => h) (Or.inl ⟨by rfl, ?hy24_46⟩) (by assumption) ?rest24_46
    case hy24_46 => (intro w9 hSw; clear hSw; go_simp; try with_reducible rfl)
    try simp only [Act.put, List.setIfInBounds_toArray, List.set_cons_zero, List.set_cons_succ, List.getElem_toArray, List.getElem_cons_zero, List.getElem_cons_succ]
    refine wpAnyH_take (i := 25) (v := ?v25_47) rfl (by kernel_rfl) (by kernel_rfl) (by kernel_rfl) (fun _ _ _ h => h) (Or.inl ⟨by rfl, ?hy25_47⟩) (by assumption) ?rest25_47
    case hy25_47 => (intro w9 hSw; clear hSw; go_simp; try with_reducible rfl)
    try simp only [Act.put, List.setIfInBounds_toArray, List.set_cons_zero, List.set_cons_succ, List.getElem_toArray, List.getElem_cons_zero, List.getElem_cons_succ]
    refine wpAnyH_take (i := 26) (v := ?v26_48) rfl (by kernel_rfl) (by kernel_rfl) (by kernel_rfl) (fun _ _ _ h => h) (Or.inl ⟨by rfl, ?hy26_48⟩) (by assumption) ?rest26_48
    case hy26_48 => (intro w9 hSw; obtain ⟨sv, sr⟩ := hSw; obtain ⟨k0, k1, k2, k3, k4, k5, k6, k7, k8⟩ := Vbx.cells sv; obtain ⟨q0, q1, q2, q3, q4⟩ := Rbx.cells sr; go_simp; try with_reducible rfl)
    try simp only [Act.put, List.setIfInBounds_toArray, List.set_cons_zero, List.set_cons_succ, List.getElem_toArray, List.getElem_cons_zero, List.getElem_cons_succ]
    refine wpAnyH_take (i := 27) (v := ?v27_49) rfl (by kernel_rfl) (by kernel_rfl) (by kernel_rfl) (fun _ _ _ h => h) (Or.inl ⟨by rfl, ?hy27_49⟩) (by assumption) ?rest27_49
    case hy27_49 => (intro w9 hSw; clear hSw; go_simp; try with_reducible rfl)
    try simp only [Act.put, List.setIfInBounds_toArray, List.set_cons_zero, List.set_cons_succ, List.getElem_toArray, List.getElem_cons_zero, List.getElem_cons_succ]
    refine wpAnyH_take (i := 29) (v := ?v29_50) rfl (by kernel_rfl) (by kernel_rfl) (by kernel_rfl) (fun _ _ _ h => h) (Or.inl ⟨by rfl, ?hy29_50⟩) (by assumption) ?rest29_50
    case hy29_50 => (intro w9 hSw; clear hSw; go_simp; try with_reducible rfl)
    try simp only [Act.put, List.setIfInBounds_toArray, List.set_cons_zero, List.set_cons_succ, List.getElem_toArray, List.getElem_cons_zero, List.getElem_cons_succ]
    refine wpAnyH_take (i := 30) (v := ?v30_51) rfl (by kernel_rfl) (by kernel_rfl) (by kernel_rfl) (fun _ _ _ h => h) (Or.inl ⟨by rfl, ?hy30_51⟩) (by assumption) ?rest30_51
    case hy30_51 => (intro w9 hSw; obtain ⟨sv, sr⟩ := hSw; obtain ⟨k0, k1, k2, k3, k4, k5, k6, k7, k8⟩ := Vbx.cells sv; obtain ⟨q0, q1, q2, q3, q4⟩ := Rbx.cells sr; go_simp; try with_reducible rfl)
    try simp only [Act.put, List.setIfInBounds_toArray, List.set_cons_zero, List.set_cons_succ, List.getElem_toArray, List.getElem_cons_zero, List.getElem_cons_succ]
    refine wpAnyH_take (i := 31) (v := ?v31_52) rfl (by kernel_rfl) (by kernel_rfl) (by kernel_rfl) (fun _ _ _ h => h) (Or.inl ⟨by rfl, ?hy31_52⟩) (by assumption) ?rest31_52
    case hy31_52 => (intro w9 hSw; clear hSw; go_simp; try with_reducible rfl)
    try simp only [Act.put, List.setIfInBounds_toArray, List.set_cons_zero, List.set_cons_succ, List.getElem_toArray, List.getElem_cons_zero, List.getElem_cons_succ]
    refine wpAnyH_ready (rs := [28]) (by kernel_rfl) (by simp) ?_
    refine AllReadyH.cons rfl (fun K hK => ?_) AllReadyH.nil
    go_simp
    with_reducible refine (pSz _ _ hT.st).mono ?_
    rintro e w22 ⟨rfl, hb⟩
    replace DM := DM.on hb
    replace hF := hF.on hb
    replace hL := hL.on hb
    replace hT := hT.on hb
    replace hP := hP.on hb
    replace D7 := D7.on hb
    replace D8 := D8.on hb
    replace hP3 := hP3.on hb
    replace bz := bz.trans (hb.mono bz.size)
    clear hb
    refine hK.out _ _ ⟨D7, D8⟩ (fun hH => ?_)
    clear hK K hS
    have hS := hH
    clear hH
    try simp only [Act.put, List.setIfInBounds_toArray, List.set_cons_zero, List.set_cons_succ, List.getElem_toArray, List.getElem_cons_zero, List.getElem_cons_succ]
    refine wpAnyH_take (i := 32) (v := ?v32_53) rfl (by kernel_rfl) (by kernel_rfl) (by kernel_rfl) (fun _ _ _ h => h) (Or.inl ⟨by rfl, ?hy32_53⟩) (by assumption) ?rest32_53
    case hy32_53 => (intro w9 hSw; clear hSw; go_simp; try with_reducible rfl)
    try simp only [Act.put, List.setIfInBounds_toArray, List.set_cons_zero, List.set_cons_succ, List.getElem_toArray, List.getElem_cons_zero, List.getElem_cons_succ]
    refine wpAnyH_take (i := 33) (v := ?v33_54) rfl (by kernel_rfl) (by kernel_rfl) (by kernel_rfl) (fun _ _ _ h => h) (Or.inl ⟨by rfl, ?hy33_54⟩) (by assumption) ?rest33_54
    case hy33_54 => (intro w9 hSw; clear hSw; go_simp; try with_reducible rfl)
    try simp only [Act.put, List.setIfInBounds_toArray, List.set_cons_zero, List.set_cons_succ, List.getElem_toArray, List.getElem_cons_zero, List.getElem_cons_succ]
    refine wpAnyH_take (i := 34) (v := ?v34_55) rfl (by kernel_rfl) (by kernel_rfl) (by kernel_rfl) (fun _ _ _ h => h) (Or.inl ⟨by rfl, ?hy34_55⟩) (by assumption) ?rest34_55
    case hy34_55 => (intro w9 hSw; clear hSw; go_simp; try with_reducible rfl)
    try simp only [Act.put, List.setIfInBounds_toArray, List.set_cons_zero, List.set_cons_succ, List.getElem_toArray, List.getElem_cons_zero, List.getElem_cons_succ]
    refine wpAnyH_ready (rs := [35]) (by kernel_rfl) (by simp) ?_
    refine AllReadyH.cons rfl (fun K hK => ?_) AllReadyH.nil
    go_simp
    with_reducible refine (known_any _).mono ?_
    rintro e w23 ⟨rfl, hb⟩
    replace DM := DM.on hb
    replace hF := hF.on hb
    replace hL := hL.on hb
    replace hT := hT.on hb
    replace hP := hP.on hb
    replace D7 := D7.on hb
    replace D8 := D8.on hb
    replace hP3 := hP3.on hb
    replace bz := bz.trans (hb.mono bz.size)
    clear hb
    refine hK.out _ _ ⟨D7, D8⟩ (fun hH => ?_)
    clear hK K hS
    have hS := hH
    clear hH
    try simp only [Act.put, List.setIfInBounds_toArray, List.set_cons_zero, List.set_cons_succ, List.getElem_toArray, List.getElem_cons_zero, List.getElem_cons_succ]
    refine wpAnyH_take (i := 36) (v := ?v36_56) rfl (by kernel_rfl) (by kernel_rfl) (by kernel_rfl) (fun _ _ _ h => h) (Or.inl ⟨by rfl, ?hy36_56⟩) (by assumption) ?rest36_56
    case hy36_56 => (intro w9 hSw; clear hSw; go_simp; try with_reducible rfl)
    try simp only [Act.put, List.setIfInBounds_toArray, List.set_cons_zero, List.set_cons_succ, List.getElem_toArray, List.getElem_cons_zero, List.getElem_cons_succ]
    refine wpAnyH_take (i := 37) (v := ?v37_57) rfl (by kernel_rfl) (by kernel_rfl) (by kernel_rfl) (fun _ _ _ h => h) (Or.inl ⟨by rfl, ?hy37_57⟩) (by assumption) ?rest37_57
    case hy37_57 => (intro w9 hSw; clear hSw; go_simp; try with_reducible rfl)
    try simp only [Act.put, List.setIfInBounds_toArray, List.set_cons_zero, List.set_cons_succ, List.getElem_toArray, List.getElem_cons_zero, List.getElem_cons_succ]
    refine wpAnyH_done (by kernel_rfl) ?_ _
    go_wp2_with fail
    go_ret
    exact ⟨rfl, bz⟩
  · rcases Int.lt_or_le i LN with g4 | g4
    · obtain ⟨k, rfl⟩ : ∃ k : Nat, i = (k : Int) := ⟨i.toNat, by omega⟩
      obtain ⟨hgg, hkN⟩ := get_in hP3.vk.none_ R0 C0 C.toNat l (k := k) (by rw [HLN.out]; exact g4)
      obtain ⟨cD8_0, cD8_1, cD8_2, cD8_3, cD8_4⟩ := Rbx.cells D8
      go_wp2_with fail
      with_reducible refine (pLr _).mono ?_
      rintro e w14 ⟨rfl, hb⟩
      replace DM := DM.on hb
      replace hF := hF.on hb
      replace hL := hL.on hb
      replace hT := hT.on hb
      replace hP := hP.on hb
      replace D7 := D7.on hb
      replace D8 := D8.on hb
      replace hP3 := hP3.on hb
      replace bz := bz.trans (hb.mono bz.size)
      clear hb cD8_0 cD8_1 cD8_2 cD8_3 cD8_4
      have hfl := fl_length V3 C.toNat l
      obtain ⟨y0, y1⟩ := at_bd (v := V3) (c := C.toNat) (l := l) (fun _ => hT.st.wd) hP3.vk.none_ (V3.ei k) (V3.ej k)
      rw [← fl_D V3 C.toNat l hkN] at y0 y1
      obtain ⟨FV, hFV⟩ : ∃ x, V3.fl C.toNat l = x := ⟨_, rfl⟩
      rw [hFV] at hgg hfl y0 y1
      have pLs := fun (W : World) (B : Nat) (h : Sr W B A5 n c5 l) (hr : Rk W A5 n c5 (Ru.mk rA rn rc V3.R V3.C rA2 rn2 rc2 rb) V3 C.toNat) => rList_any hr h hP3.vk
      simp only [hFV] at pLs
      have HFV := Lib.hid hFV
      clear hFV
      obtain ⟨WN, hWN⟩ : ∃ x, D FV k = x := ⟨_, rfl⟩
      have hkF : (k : Int) < FV.length := by omega
      have hkF2 : k < FV.length := by omega
      have hk0 : (0 : Int) ≤ k := by omega
      have hFb : FV.length ≤ 9223372036854775807 := by have := (prod_bd R0 R1 C0 C1).2; omega
      have HfL := Lib.hid hfl
      clear hfl
      obtain ⟨cD8_0, cD8_1, cD8_2, cD8_3, cD8_4⟩ := Rbx.cells D8
      go_wp2_with fail
      with_reducible refine (pLs _ _ hT.sr hP3.rk).mono ?_
      rintro e w15 ⟨A6, c6, rfl, hown, hb⟩
      replace DM := DM.on hb
      replace hF := hF.on hb
      replace hL := hL.on hb
      replace hT := hT.on hb
      replace hP := hP.on hb
      replace D7 := D7.on hb
      replace D8 := D8.on hb
      replace hP3 := hP3.on hb
      replace bz := bz.trans (hb.mono bz.size)
      clear hb pLs cD8_0 cD8_1 cD8_2 cD8_3 cD8_4
      obtain ⟨ad6, rfl, hb6, hc6⟩ := hown.nums.at_ hkF2
      rw [hWN] at hc6 hgg y0 y1
      clear hown hb6 hWN
      have pGt : ∀ (W : World) (B : Nat) (h : St W B s g cap C.toNat l), Calls Try.prog 35 #[V3.V, .int .i64 (k : Int)] W (Ans W (.float .f64 WN.toNat)) := fun W B h => by have := Get_any h hvl (k : Int); rw [hgg] at this; exact this
      have pB := fun W => rbits_any y0 y1 W
      obtain ⟨Y1, hY1⟩ : ∃ Z, one WN = Z := ⟨_, rfl⟩
      simp only [hY1] at pB
      have t6 : (Y1 == Y1) = true := by simp
      clear hY1 hgg y0 y1
      have pO := fun (W : World) (B B2 : Nat) (h : St W B s g cap C.toNat l) (h2 : Sr W B2 A5 n c5 l) (hr : Rk W A5 n c5 (Ru.mk rA rn rc V3.R V3.C rA2 rn2 rc2 rb) V3 C.toNat) (q : Int) => once_true hP3.vk (fun _ => ⟨h, hll⟩) hr h2 q
      go_wp2_with fail
      clear hc6
      replace DM := DM.drew
      replace hF := hF.drew
      replace hL := hL.drew
      replace hT := hT.drew
      replace hP := hP.drew
      replace D7 := D7.drew
      replace D8 := D8.drew
      replace hP3 := hP3.drew
      replace bz := bz.drew
      refine wp_region_held_drew (S := fun w9 : World => Vbx w9 HD7 V3 ∧ Rbx w9 (HD7 + 1) (Ru.mk rA rn rc V3.R V3.C rA2 rn2 rc2 rb)) (by kernel_rfl) ⟨D7, D8⟩ (fun hS => ?_)
      refine wpAnyH_take (i := 0) (v := ?v0_58) rfl (by kernel_rfl) (by kernel_rfl) (by kernel_rfl) (fun _ _ _ h => h) (Or.inl ⟨by rfl, ?hy0_58⟩) (by assumption) ?rest0_58
      case hy0_58 => (intro w9 hSw; obtain ⟨sv, sr⟩ := hSw; obtain ⟨k0, k1, k2, k3, k4, k5, k6, k7, k8⟩ := Vbx.cells sv; obtain ⟨q0, q1, q2, q3, q4⟩ := Rbx.cells sr; go_simp; try with_reducible rfl)
      try simp only [Act.put, List.setIfInBounds_toArray, List.set_cons_zero, List.set_cons_succ, List.getElem_toArray, List.getElem_cons_zero, List.getElem_cons_succ]
      refine wpAnyH_take (i := 1) (v := ?v1_59) rfl (by kernel_rfl) (by kernel_rfl) (by kernel_rfl) (fun _ _ _ h => h) (Or.inl ⟨by rfl, ?hy1_59⟩) (by assumption) ?rest1_59
      case hy1_59 => (intro w9 hSw; clear hSw; go_simp; try with_reducible rfl)
      try simp only [Act.put, List.setIfInBounds_toArray, List.set_cons_zero, List.set_cons_succ, List.getElem_toArray, List.getElem_cons_zero, List.getElem_cons_succ]
      refine wpAnyH_take (i := 4) (v := ?v4_60) rfl (by kernel_rfl) (by kernel_rfl) (by kernel_rfl) (fun _ _ _ h => h) (Or.inl ⟨by rfl, ?hy4_60⟩) (by assumption) ?rest4_60
      case hy4_60 => (intro w9 hSw; clear hSw; go_simp; try with_reducible rfl)
      try simp only [Act.put, List.setIfInBounds_toArray, List.set_cons_zero, List.set_cons_succ, List.getElem_toArray, List.getElem_cons_zero, List.getElem_cons_succ]
      refine wpAnyH_ready (rs := [2]) (by kernel_rfl) (by simp) ?_
      refine AllReadyH.cons rfl (fun K hK => ?_) AllReadyH.nil
      go_simp
      with_reducible refine (pGt _ _ hT.st).mono ?_
      rintro e w16 ⟨rfl, hb⟩
      replace DM := DM.on hb
      replace hF := hF.on hb
      replace hL := hL.on hb
      replace hT := hT.on hb
      replace hP := hP.on hb
      replace D7 := D7.on hb
      replace D8 := D8.on hb
      replace hP3 := hP3.on hb
      replace bz := bz.trans (hb.mono bz.size)
      clear hb
      refine hK.out _ _ ⟨D7, D8⟩ (fun hH => ?_)
      clear hK K hS
      have hS := hH
      clear hH
      try simp only [Act.put, List.setIfInBounds_toArray, List.set_cons_zero, List.set_cons_succ, List.getElem_toArray, List.getElem_cons_zero, List.getElem_cons_succ]
      refine wpAnyH_ready (rs := [3]) (by kernel_rfl) (by simp) ?_
      refine AllReadyH.cons rfl (fun K hK => ?_) AllReadyH.nil
      go_simp
      with_reducible refine (pB _).mono ?_
      rintro e v17 ⟨rfl, rfl⟩
      refine hK.out _ _ ⟨D7, D8⟩ (fun hH => ?_)
      clear hK K hS
      have hS := hH
      clear hH
      try simp only [Act.put, List.setIfInBounds_toArray, List.set_cons_zero, List.set_cons_succ, List.getElem_toArray, List.getElem_cons_zero, List.getElem_cons_succ]
      refine wpAnyH_ready (rs := [5]) (by kernel_rfl) (by simp) ?_
      refine AllReadyH.cons rfl (fun K hK => ?_) AllReadyH.nil
      go_simp
      with_reducible refine (pB _).mono ?_
      rintro e v18 ⟨rfl, rfl⟩
      refine hK.out _ _ ⟨D7, D8⟩ (fun hH => ?_)
      clear hK K hS
      have hS := hH
      clear hH
      try simp only [Act.put, List.setIfInBounds_toArray, List.set_cons_zero, List.set_cons_succ, List.getElem_toArray, List.getElem_cons_zero, List.getElem_cons_succ]
      refine wpAnyH_take (i := 6) (v := ?v6_61) rfl (by kernel_rfl) (by kernel_rfl) (by kernel_rfl) (fun _ _ _ h => h) (Or.inl ⟨by rfl, ?hy6_61⟩) (by assumption) ?rest6_61
      case hy6_61 => (intro w9 hSw; clear hSw; go_simp; try with_reducible rfl)
      try simp only [Act.put, List.setIfInBounds_toArray, List.set_cons_zero, List.set_cons_succ, List.getElem_toArray, List.getElem_cons_zero, List.getElem_cons_succ]
      refine wpAnyH_take (i := 7) (v := ?v7_62) rfl (by kernel_rfl) (by kernel_rfl) (by kernel_rfl) (fun _ _ _ h => h) (Or.inl ⟨by rfl, ?hy7_62⟩) (by assumption) ?rest7_62
      case hy7_62 => (intro w9 hSw; clear hSw; go_simp; try with_reducible rfl)
      try simp only [Act.put, List.setIfInBounds_toArray, List.set_cons_zero, List.set_cons_succ, List.getElem_toArray, List.getElem_cons_zero, List.getElem_cons_succ]
      refine wpAnyH_take (i := 8) (v := ?v8_63) rfl (by kernel_rfl) (by kernel_rfl) (by kernel_rfl) (fun _ _ _ h => h) (Or.inl ⟨by rfl, ?hy8_63⟩) (by assumption) ?rest8_63
      case hy8_63 => (intro w9 hSw; obtain ⟨sv, sr⟩ := hSw; obtain ⟨k0, k1, k2, k3, k4, k5, k6, k7, k8⟩ := Vbx.cells sv; obtain ⟨q0, q1, q2, q3, q4⟩ := Rbx.cells sr; go_simp; try with_reducible rfl)
      try simp only [Act.put, List.setIfInBounds_toArray, List.set_cons_zero, List.set_cons_succ, List.getElem_toArray, List.getElem_cons_zero, List.getElem_cons_succ]
      refine wpAnyH_take (i := 10) (v := ?v10_64) rfl (by kernel_rfl) (by kernel_rfl) (by kernel_rfl) (fun _ _ _ h => h) (Or.inl ⟨by rfl, ?hy10_64⟩) (by assumption) ?rest10_64
      case hy10_64 => (intro w9 hSw; obtain ⟨sv, sr⟩ := hSw; obtain ⟨k0, k1, k2, k3, k4, k5, k6, k7, k8⟩ := Vbx.cells sv; obtain ⟨q0, q1, q2, q3, q4⟩ := Rbx.cells sr; go_simp; try with_reducible rfl)
      try simp only [Act.put, List.setIfInBounds_toArray, List.set_cons_zero, List.set_cons_succ, List.getElem_toArray, List.getElem_cons_zero, List.getElem_cons_succ]
      refine wpAnyH_ready (rs := [9]) (by kernel_rfl) (by simp) ?_
      refine AllReadyH.cons rfl (fun K hK => ?_) AllReadyH.nil
      go_simp
      with_reducible refine (Matrix_fl hP3.vk (fun _ => ⟨hT.st, hll⟩)).mono ?_
      rintro e w19 ⟨A7, c7, rfl, hX, hb⟩
      replace DM := DM.on hb
      replace hF := hF.on hb
      replace hL := hL.on hb
      replace hT := hT.on hb
      replace hP := hP.on hb
      replace D7 := D7.on hb
      replace D8 := D8.on hb
      replace hP3 := hP3.on hb
      replace bz := bz.trans (hb.mono bz.size)
      clear hb
      refine hK.out _ _ ⟨D7, D8⟩ (fun hH => ?_)
      clear hK K hS
      have hS := hH
      clear hH
      try simp only [Act.put, List.setIfInBounds_toArray, List.set_cons_zero, List.set_cons_succ, List.getElem_toArray, List.getElem_cons_zero, List.getElem_cons_succ]
      refine wpAnyH_ready (rs := [11]) (by kernel_rfl) (by simp) ?_
      refine AllReadyH.cons rfl (fun K hK => ?_) AllReadyH.nil
      go_simp
      with_reducible refine (rMat_fl hP3.rk hT.sr hP3.vk).mono ?_
      rintro e w20 ⟨A8, c8, rfl, hY, hb⟩
      replace DM := DM.on hb
      replace hF := hF.on hb
      replace hL := hL.on hb
      replace hT := hT.on hb
      replace hP := hP.on hb
      replace D7 := D7.on hb
      replace D8 := D8.on hb
      replace hP3 := hP3.on hb
      replace hX := hX.on hb
      replace bz := bz.trans (hb.mono bz.size)
      clear hb
      refine hK.out _ _ ⟨D7, D8⟩ (fun hH => ?_)
      clear hK K hS
      have hS := hH
      clear hH
      try simp only [Act.put, List.setIfInBounds_toArray, List.set_cons_zero, List.set_cons_succ, List.getElem_toArray, List.getElem_cons_zero, List.getElem_cons_succ]
      refine wpAnyH_ready (rs := [12]) (by kernel_rfl) (by simp) ?_
      refine AllReadyH.cons rfl (fun K hK => ?_) AllReadyH.nil
      go_simp
      with_reducible refine (SameM_true hX hY).mono ?_
      rintro e w21 ⟨rfl, hb⟩
      replace DM := DM.on hb
      replace hF := hF.on hb
      replace hL := hL.on hb
      replace hT := hT.on hb
      replace hP := hP.on hb
      replace D7 := D7.on hb
      replace D8 := D8.on hb
      replace hP3 := hP3.on hb
      replace hX := hX.on hb
      replace hY := hY.on hb
      replace bz := bz.trans (hb.mono bz.size)
      clear hb hX hY
      refine hK.out _ _ ⟨D7, D8⟩ (fun hH => ?_)
      clear hK K hS
      have hS := hH
      clear hH
      try simp only [Act.put, List.setIfInBounds_toArray, List.set_cons_zero, List.set_cons_succ, List.getElem_toArray, List.getElem_cons_zero, List.getElem_cons_succ]
      refine wpAnyH_take (i := 13) (v := ?v13_65) rfl (by kernel_rfl) (by kernel_rfl) (by kernel_rfl) (fun _ _ _ h => h) (Or.inl ⟨by rfl, ?hy13_65⟩) (by assumption) ?rest13_65
      case hy13_65 => (intro w9 hSw; clear hSw; go_simp; try with_reducible rfl)
      try simp only [Act.put, List.setIfInBounds_toArray, List.set_cons_zero, List.set_cons_succ, List.getElem_toArray, List.getElem_cons_zero, List.getElem_cons_succ]
      refine wpAnyH_take (i := 14) (v := ?v14_66) rfl (by kernel_rfl) (by kernel_rfl) (by kernel_rfl) (fun _ _ _ h => h) (Or.inl ⟨by rfl, ?hy14_66⟩) (by assumption) ?rest14_66
      case hy14_66 => (intro w9 hSw; clear hSw; go_simp; try with_reducible rfl)
      try simp only [Act.put, List.setIfInBounds_toArray, List.set_cons_zero, List.set_cons_succ, List.getElem_toArray, List.getElem_cons_zero, List.getElem_cons_succ]
      refine wpAnyH_take (i := 15) (v := ?v15_67) rfl (by kernel_rfl) (by kernel_rfl) (by kernel_rfl) (fun _ _ _ h => h) (Or.inl ⟨by rfl, ?hy15_67⟩) (by assumption) ?rest15_67
      case hy15_67 => (intro w9 hSw; obtain ⟨sv, sr⟩ := hSw; obtain ⟨k0, k1, k2, k3, k4, k5, k6, k7, k8⟩ := Vbx.cells sv; obtain ⟨q0, q1, q2, q3, q4⟩ := Rbx.cells sr; go_simp; try with_reducible rfl)
      try simp only [Act.put, List.setIfInBounds_toArray, List.set_cons_zero, List.set_cons_succ, List.getElem_toArray, List.getElem_cons_zero, List.getElem_cons_succ]
      refine wpAnyH_take (i := 16) (v := ?v16_68) rfl (by kernel_rfl) (by kernel_rfl) (by kernel_rfl) (fun _ _ _ h => h) (Or.inl ⟨by rfl, ?hy16_68⟩) (by assumption) ?rest16_68
      case hy16_68 => (intro w9 hSw; obtain ⟨sv, sr⟩ := hSw; obtain ⟨k0, k1, k2, k3, k4, k5, k6, k7, k8⟩ := Vbx.cells sv; obtain ⟨q0, q1, q2, q3, q4⟩ := Rbx.cells sr; go_simp; try with_reducible rfl)
      try simp only [Act.put, List.setIfInBounds_toArray, List.set_cons_zero, List.set_cons_succ, List.getElem_toArray, List.getElem_cons_zero, List.getElem_cons_succ]
      refine wpAnyH_take (i := 17) (v := ?v17_69) rfl (by kernel_rfl) (by kernel_rfl) (by kernel_rfl) (fun _ _ _ h => h) (Or.inl ⟨by rfl, ?hy17_69⟩) (by assumption) ?rest17_69
      case hy17_69 => (intro w9 hSw; clear hSw; go_simp; try with_reducible rfl)
      try simp only [Act.put, List.setIfInBounds_toArray, List.set_cons_zero, List.set_cons_succ, List.getElem_toArray, List.getElem_cons_zero, List.getElem_cons_succ]
      refine wpAnyH_ready (rs := [18]) (by kernel_rfl) (by simp) ?_
      refine AllReadyH.cons rfl (fun K hK => ?_) AllReadyH.nil
      go_simp
      with_reducible refine (pO _ _ _ hT.st hT.sr hP3.rk q).mono ?_
      rintro e w22 ⟨rfl, hb⟩
      replace DM := DM.on hb
      replace hF := hF.on hb
      replace hL := hL.on hb
      replace hT := hT.on hb
      replace hP := hP.on hb
      replace D7 := D7.on hb
      replace D8 := D8.on hb
      replace hP3 := hP3.on hb
      replace bz := bz.trans (hb.mono bz.size)
      clear hb
      refine hK.out _ _ ⟨D7, D8⟩ (fun hH => ?_)
      clear hK K hS
      have hS := hH
      clear hH
      try simp only [Act.put, List.setIfInBounds_toArray, List.set_cons_zero, List.set_cons_succ, List.getElem_toArray, List.getElem_cons_zero, List.getElem_cons_succ]
      refine wpAnyH_take (i := 19) (v := ?v19_70) rfl (by kernel_rfl) (by kernel_rfl) (by kernel_rfl) (fun _ _ _ h => h) (Or.inl ⟨by rfl, ?hy19_70⟩) (by assumption) ?rest19_70
      case hy19_70 => (intro w9 hSw; clear hSw; go_simp; try with_reducible rfl)
      try simp only [Act.put, List.setIfInBounds_toArray, List.set_cons_zero, List.set_cons_succ, List.getElem_toArray, List.getElem_cons_zero, List.getElem_cons_succ]
      refine wpAnyH_take (i := 20) (v := ?v20_71) rfl (by kernel_rfl) (by kernel_rfl) (by kernel_rfl) (fun _ _ _ h => h) (Or.inl ⟨by rfl, ?hy20_71⟩) (by assumption) ?rest20_71
      case hy20_71 => (intro w9 hSw; clear hSw; go_simp; try with_reducible rfl)
      try simp only [Act.put, List.setIfInBounds_toArray, List.set_cons_zero, List.set_cons_succ, List.getElem_toArray, List.getElem_cons_zero, List.getElem_cons_succ]
      refine wpAnyH_take (i := 21) (v := ?v21_72) rfl (by kernel_rfl) (by kernel_rfl) (by kernel_rfl) (fun _ _ _ h => h) (Or.inl ⟨by rfl, ?hy21_72⟩) (by assumption) ?rest21_72
      case hy21_72 => (intro w9 hSw; obtain ⟨sv, sr⟩ := hSw; obtain ⟨k0, k1, k2, k3, k4, k5, k6, k7, k8⟩ := Vbx.cells sv; obtain ⟨q0, q1, q2, q3, q4⟩ := Rbx.cells sr; go_simp; try with_reducible rfl)
      try simp only [Act.put, List.setIfInBounds_toArray, List.set_cons_zero, List.set_cons_succ, List.getElem_toArray, List.getElem_cons_zero, List.getElem_cons_succ]
      refine wpAnyH_take (i := 22) (v := ?v22_73) rfl (by kernel_rfl) (by kernel_rfl) (by kernel_rfl) (fun _ _ _ h => h) (Or.inl ⟨by rfl, ?hy22_73⟩) (by assumption) ?rest22_73
      case hy22_73 => (intro w9 hSw; obtain ⟨sv, sr⟩ := hSw; obtain ⟨k0, k1, k2, k3, k4, k5, k6, k7, k8⟩ := Vbx.cells sv; obtain ⟨q0, q1, q2, q3, q4⟩ := Rbx.cells sr; go_simp; try with_reducible rfl)
      try simp only [Act.put, List.setIfInBounds_toArray, List.set_cons_zero, List.set_cons_succ, List.getElem_toArray, List.getElem_cons_zero, List.getElem_cons_succ]
      refine wpAnyH_ready (rs := [23]) (by kernel_rfl) (by simp) ?_
      refine AllReadyH.cons rfl (fun K hK => ?_) AllReadyH.nil
      go_simp
      with_reducible refine (pO _ _ _ hT.st hT.sr hP3.rk 0).mono ?_
      rintro e w23 ⟨rfl, hb⟩
      replace DM := DM.on hb
      replace hF := hF.on hb
      replace hL := hL.on hb
      replace hT := hT.on hb
      replace hP := hP.on hb
      replace D7 := D7.on hb
      replace D8 := D8.on hb
      replace hP3 := hP3.on hb
      replace bz := bz.trans (hb.mono bz.size)
      clear hb
      refine hK.out _ _ ⟨D7, D8⟩ (fun hH => ?_)
      clear hK K hS
      have hS := hH
      clear hH
      try simp only [Act.put, List.setIfInBounds_toArray, List.set_cons_zero, List.set_cons_succ, List.getElem_toArray, List.getElem_cons_zero, List.getElem_cons_succ]
      refine wpAnyH_take (i := 24) (v := ?v24_74) rfl (by kernel_rfl) (by kernel_rfl) (by kernel_rfl) (fun _ _ _ h => h) (Or.inl ⟨by rfl, ?hy24_74⟩) (by assumption) ?rest24_74
      case hy24_74 => (intro w9 hSw; clear hSw; go_simp; try with_reducible rfl)
      try simp only [Act.put, List.setIfInBounds_toArray, List.set_cons_zero, List.set_cons_succ, List.getElem_toArray, List.getElem_cons_zero, List.getElem_cons_succ]
      refine wpAnyH_take (i := 25) (v := ?v25_75) rfl (by kernel_rfl) (by kernel_rfl) (by kernel_rfl) (fun _ _ _ h => h) (Or.inl ⟨by rfl, ?hy25_75⟩) (by assumption) ?rest25_75
      case hy25_75 => (intro w9 hSw; clear hSw; go_simp; try with_reducible rfl)
      try simp only [Act.put, List.setIfInBounds_toArray, List.set_cons_zero, List.set_cons_succ, List.getElem_toArray, List.getElem_cons_zero, List.getElem_cons_succ]
      refine wpAnyH_take (i := 26) (v := ?v26_76) rfl (by kernel_rfl) (by kernel_rfl) (by kernel_rfl) (fun _ _ _ h => h) (Or.inl ⟨by rfl, ?hy26_76⟩) (by assumption) ?rest26_76
      case hy26_76 => (intro w9 hSw; obtain ⟨sv, sr⟩ := hSw; obtain ⟨k0, k1, k2, k3, k4, k5, k6, k7, k8⟩ := Vbx.cells sv; obtain ⟨q0, q1, q2, q3, q4⟩ := Rbx.cells sr; go_simp; try with_reducible rfl)
      try simp only [Act.put, List.setIfInBounds_toArray, List.set_cons_zero, List.set_cons_succ, List.getElem_toArray, List.getElem_cons_zero, List.getElem_cons_succ]
      refine wpAnyH_take (i := 27) (v := ?v27_77) rfl (by kernel_rfl) (by kernel_rfl) (by kernel_rfl) (fun _ _ _ h => h) (Or.inl ⟨by rfl, ?hy27_77⟩) (by assumption) ?rest27_77
      case hy27_77 => (intro w9 hSw; clear hSw; go_simp; try with_reducible rfl)
      try simp only [Act.put, List.setIfInBounds_toArray, List.set_cons_zero, List.set_cons_succ, List.getElem_toArray, List.getElem_cons_zero, List.getElem_cons_succ]
      refine wpAnyH_take (i := 29) (v := ?v29_78) rfl (by kernel_rfl) (by kernel_rfl) (by kernel_rfl) (fun _ _ _ h => h) (Or.inl ⟨by rfl, ?hy29_78⟩) (by assumption) ?rest29_78
      case hy29_78 => (intro w9 hSw; clear hSw; go_simp; try with_reducible rfl)
      try simp only [Act.put, List.setIfInBounds_toArray, List.set_cons_zero, List.set_cons_succ, List.getElem_toArray, List.getElem_cons_zero, List.getElem_cons_succ]
      refine wpAnyH_take (i := 30) (v := ?v30_79) rfl (by kernel_rfl) (by kernel_rfl) (by kernel_rfl) (fun _ _ _ h => h) (Or.inl ⟨by rfl, ?hy30_79⟩) (by assumption) ?rest30_79
      case hy30_79 => (intro w9 hSw; obtain ⟨sv, sr⟩ := hSw; obtain ⟨k0, k1, k2, k3, k4, k5, k6, k7, k8⟩ := Vbx.cells sv; obtain ⟨q0, q1, q2, q3, q4⟩ := Rbx.cells sr; go_simp; try with_reducible rfl)
      try simp only [Act.put, List.setIfInBounds_toArray, List.set_cons_zero, List.set_cons_succ, List.getElem_toArray, List.getElem_cons_zero, List.getElem_cons_succ]
      refine wpAnyH_take (i := 31) (v := ?v31_80) rfl (by kernel_rfl) (by kernel_rfl) (by kernel_rfl) (fun _ _ _ h => h) (Or.inl ⟨by rfl, ?hy31_80⟩) (by assumption) ?rest31_80
      case hy31_80 => (intro w9 hSw; clear hSw; go_simp; try with_reducible rfl)
      try simp only [Act.put, List.setIfInBounds_toArray, List.set_cons_zero, List.set_cons_succ, List.getElem_toArray, List.getElem_cons_zero, List.getElem_cons_succ]
      refine wpAnyH_ready (rs := [28]) (by kernel_rfl) (by simp) ?_
      refine AllReadyH.cons rfl (fun K hK => ?_) AllReadyH.nil
      go_simp
      with_reducible refine (pSz _ _ hT.st).mono ?_
      rintro e w24 ⟨rfl, hb⟩
      replace DM := DM.on hb
      replace hF := hF.on hb
      replace hL := hL.on hb
      replace hT := hT.on hb
      replace hP := hP.on hb
      replace D7 := D7.on hb
      replace D8 := D8.on hb
      replace hP3 := hP3.on hb
      replace bz := bz.trans (hb.mono bz.size)
      clear hb
      refine hK.out _ _ ⟨D7, D8⟩ (fun hH => ?_)
      clear hK K hS
      have hS := hH
      clear hH
      try simp only [Act.put, List.setIfInBounds_toArray, List.set_cons_zero, List.set_cons_succ, List.getElem_toArray, List.getElem_cons_zero, List.getElem_cons_succ]
      refine wpAnyH_take (i := 32) (v := ?v32_81) rfl (by kernel_rfl) (by kernel_rfl) (by kernel_rfl) (fun _ _ _ h => h) (Or.inl ⟨by rfl, ?hy32_81⟩) (by assumption) ?rest32_81
      case hy32_81 => (intro w9 hSw; clear hSw; go_simp; try with_reducible rfl)
      try simp only [Act.put, List.setIfInBounds_toArray, List.set_cons_zero, List.set_cons_succ, List.getElem_toArray, List.getElem_cons_zero, List.getElem_cons_succ]
      refine wpAnyH_take (i := 33) (v := ?v33_82) rfl (by kernel_rfl) (by kernel_rfl) (by kernel_rfl) (fun _ _ _ h => h) (Or.inl ⟨by rfl, ?hy33_82⟩) (by assumption) ?rest33_82
      case hy33_82 => (intro w9 hSw; clear hSw; go_simp; try with_reducible rfl)
      try simp only [Act.put, List.setIfInBounds_toArray, List.set_cons_zero, List.set_cons_succ, List.getElem_toArray, List.getElem_cons_zero, List.getElem_cons_succ]
      refine wpAnyH_take (i := 34) (v := ?v34_83) rfl (by kernel_rfl) (by kernel_rfl) (by kernel_rfl) (fun _ _ _ h => h) (Or.inl ⟨by rfl, ?hy34_83⟩) (by assumption) ?rest34_83
      case hy34_83 => (intro w9 hSw; clear hSw; go_simp; try with_reducible rfl)
      try simp only [Act.put, List.setIfInBounds_toArray, List.set_cons_zero, List.set_cons_succ, List.getElem_toArray, List.getElem_cons_zero, List.getElem_cons_succ]
      refine wpAnyH_ready (rs := [35]) (by kernel_rfl) (by simp) ?_
      refine AllReadyH.cons rfl (fun K hK => ?_) AllReadyH.nil
      go_simp
      with_reducible refine (known_any _).mono ?_
      rintro e w25 ⟨rfl, hb⟩
      replace DM := DM.on hb
      replace hF := hF.on hb
      replace hL := hL.on hb
      replace hT := hT.on hb
      replace hP := hP.on hb
      replace D7 := D7.on hb
      replace D8 := D8.on hb
      replace hP3 := hP3.on hb
      replace bz := bz.trans (hb.mono bz.size)
      clear hb
      refine hK.out _ _ ⟨D7, D8⟩ (fun hH => ?_)
      clear hK K hS
      have hS := hH
      clear hH
      try simp only [Act.put, List.setIfInBounds_toArray, List.set_cons_zero, List.set_cons_succ, List.getElem_toArray, List.getElem_cons_zero, List.getElem_cons_succ]
      refine wpAnyH_take (i := 36) (v := ?v36_84) rfl (by kernel_rfl) (by kernel_rfl) (by kernel_rfl) (fun _ _ _ h => h) (Or.inl ⟨by rfl, ?hy36_84⟩) (by assumption) ?rest36_84
      case hy36_84 => (intro w9 hSw; clear hSw; go_simp; try with_reducible rfl)
      try simp only [Act.put, List.setIfInBounds_toArray, List.set_cons_zero, List.set_cons_succ, List.getElem_toArray, List.getElem_cons_zero, List.getElem_cons_succ]
      refine wpAnyH_take (i := 37) (v := ?v37_85) rfl (by kernel_rfl) (by kernel_rfl) (by kernel_rfl) (fun _ _ _ h => h) (Or.inl ⟨by rfl, ?hy37_85⟩) (by assumption) ?rest37_85
      case hy37_85 => (intro w9 hSw; clear hSw; go_simp; try with_reducible rfl)
      try simp only [Act.put, List.setIfInBounds_toArray, List.set_cons_zero, List.set_cons_succ, List.getElem_toArray, List.getElem_cons_zero, List.getElem_cons_succ]
      refine wpAnyH_done (by kernel_rfl) ?_ _
      go_wp2_with fail
      go_ret
      exact ⟨rfl, bz⟩
    · have d1 : decide (i < LN) = false := decide_eq_false (by omega)
      obtain ⟨cD8_0, cD8_1, cD8_2, cD8_3, cD8_4⟩ := Rbx.cells D8
      go_wp2_with fail
      with_reducible refine (pLr _).mono ?_
      rintro e w14 ⟨rfl, hb⟩
      replace DM := DM.on hb
      replace hF := hF.on hb
      replace hL := hL.on hb
      replace hT := hT.on hb
      replace hP := hP.on hb
      replace D7 := D7.on hb
      replace D8 := D8.on hb
      replace hP3 := hP3.on hb
      replace bz := bz.trans (hb.mono bz.size)
      clear hb cD8_0 cD8_1 cD8_2 cD8_3 cD8_4
      have y0 : (0 : Int) ≤ 0 := by omega
      have y1 : (0 : Int) ≤ 18446744073709551615 := by omega
      have hgg := get_out hP3.vk.none_ R0 C0 C.toNat l (i := i) (.inr (by rw [HLN.out]; exact g4))
      have pGt : ∀ (W : World) (B : Nat) (h : St W B s g cap C.toNat l), Calls Try.prog 35 #[V3.V, .int .i64 i] W (Ans W (.float .f64 0)) := fun W B h => by have := Get_any h hvl i; rw [hgg] at this; exact this
      have pB : ∀ W, Calls Try.prog 26 #[.float .f64 0] W fun e w' => e = .returned (.int .u64 (one 0)) ∧ W = w' := fun W => rbits_any (x := 0) (by omega) (by omega) W
      obtain ⟨Y1, hY1⟩ : ∃ Z, one 0 = Z := ⟨_, rfl⟩
      simp only [hY1] at pB
      have t6 : (Y1 == Y1) = true := by simp
      clear hY1 hgg y0 y1
      have pO := fun (W : World) (B B2 : Nat) (h : St W B s g cap C.toNat l) (h2 : Sr W B2 A5 n c5 l) (hr : Rk W A5 n c5 (Ru.mk rA rn rc V3.R V3.C rA2 rn2 rc2 rb) V3 C.toNat) (q : Int) => once_true hP3.vk (fun _ => ⟨h, hll⟩) hr h2 q
      go_wp2_with fail
      replace DM := DM.drew
      replace hF := hF.drew
      replace hL := hL.drew
      replace hT := hT.drew
      replace hP := hP.drew
      replace D7 := D7.drew
      replace D8 := D8.drew
      replace hP3 := hP3.drew
      replace bz := bz.drew
      refine wp_region_held_drew (S := fun w9 : World => Vbx w9 HD7 V3 ∧ Rbx w9 (HD7 + 1) (Ru.mk rA rn rc V3.R V3.C rA2 rn2 rc2 rb)) (by kernel_rfl) ⟨D7, D8⟩ (fun hS => ?_)
      refine wpAnyH_take (i := 0) (v := ?v0_86) rfl (by kernel_rfl) (by kernel_rfl) (by kernel_rfl) (fun _ _ _ h => h) (Or.inl ⟨by rfl, ?hy0_86⟩) (by assumption) ?rest0_86
      case hy0_86 => (intro w9 hSw; obtain ⟨sv, sr⟩ := hSw; obtain ⟨k0, k1, k2, k3, k4, k5, k6, k7, k8⟩ := Vbx.cells sv; obtain ⟨q0, q1, q2, q3, q4⟩ := Rbx.cells sr; go_simp; try with_reducible rfl)
      try simp only [Act.put, List.setIfInBounds_toArray, List.set_cons_zero, List.set_cons_succ, List.getElem_toArray, List.getElem_cons_zero, List.getElem_cons_succ]
      refine wpAnyH_take (i := 1) (v := ?v1_87) rfl (by kernel_rfl) (by kernel_rfl) (by kernel_rfl) (fun _ _ _ h => h) (Or.inl ⟨by rfl, ?hy1_87⟩) (by assumption) ?rest1_87
      case hy1_87 => (intro w9 hSw; clear hSw; go_simp; try with_reducible rfl)
      try simp only [Act.put, List.setIfInBounds_toArray, List.set_cons_zero, List.set_cons_succ, List.getElem_toArray, List.getElem_cons_zero, List.getElem_cons_succ]
      refine wpAnyH_take (i := 4) (v := ?v4_88) rfl (by kernel_rfl) (by kernel_rfl) (by kernel_rfl) (fun _ _ _ h => h) (Or.inl ⟨by rfl, ?hy4_88⟩) (by assumption) ?rest4_88
      case hy4_88 => (intro w9 hSw; clear hSw; go_simp; try with_reducible rfl)
      try simp only [Act.put, List.setIfInBounds_toArray, List.set_cons_zero, List.set_cons_succ, List.getElem_toArray, List.getElem_cons_zero, List.getElem_cons_succ]
      refine wpAnyH_ready (rs := [2]) (by kernel_rfl) (by simp) ?_
      refine AllReadyH.cons rfl (fun K hK => ?_) AllReadyH.nil
      go_simp
      with_reducible refine (pGt _ _ hT.st).mono ?_
      rintro e w15 ⟨rfl, hb⟩
      replace DM := DM.on hb
      replace hF := hF.on hb
      replace hL := hL.on hb
      replace hT := hT.on hb
      replace hP := hP.on hb
      replace D7 := D7.on hb
      replace D8 := D8.on hb
      replace hP3 := hP3.on hb
      replace bz := bz.trans (hb.mono bz.size)
      clear hb
      refine hK.out _ _ ⟨D7, D8⟩ (fun hH => ?_)
      clear hK K hS
      have hS := hH
      clear hH
      try simp only [Act.put, List.setIfInBounds_toArray, List.set_cons_zero, List.set_cons_succ, List.getElem_toArray, List.getElem_cons_zero, List.getElem_cons_succ]
      refine wpAnyH_ready (rs := [3]) (by kernel_rfl) (by simp) ?_
      refine AllReadyH.cons rfl (fun K hK => ?_) AllReadyH.nil
      go_simp
      with_reducible refine (pB _).mono ?_
      rintro e v16 ⟨rfl, rfl⟩
      refine hK.out _ _ ⟨D7, D8⟩ (fun hH => ?_)
      clear hK K hS
      have hS := hH
      clear hH
      try simp only [Act.put, List.setIfInBounds_toArray, List.set_cons_zero, List.set_cons_succ, List.getElem_toArray, List.getElem_cons_zero, List.getElem_cons_succ]
      refine wpAnyH_ready (rs := [5]) (by kernel_rfl) (by simp) ?_
      refine AllReadyH.cons rfl (fun K hK => ?_) AllReadyH.nil
      go_simp
      with_reducible refine (pB _).mono ?_
      rintro e v17 ⟨rfl, rfl⟩
      refine hK.out _ _ ⟨D7, D8⟩ (fun hH => ?_)
      clear hK K hS
      have hS := hH
      clear hH
      try simp only [Act.put, List.setIfInBounds_toArray, List.set_cons_zero, List.set_cons_succ, List.getElem_toArray, List.getElem_cons_zero, List.getElem_cons_succ]
      refine wpAnyH_take (i := 6) (v := ?v6_89) rfl (by kernel_rfl) (by kernel_rfl) (by kernel_rfl) (fun _ _ _ h => h) (Or.inl ⟨by rfl, ?hy6_89⟩) (by assumption) ?rest6_89
      case hy6_89 => (intro w9 hSw; clear hSw; go_simp; try with_reducible rfl)
      try simp only [Act.put, List.setIfInBounds_toArray, List.set_cons_zero, List.set_cons_succ, List.getElem_toArray, List.getElem_cons_zero, List.getElem_cons_succ]
      refine wpAnyH_take (i := 7) (v := ?v7_90) rfl (by kernel_rfl) (by kernel_rfl) (by kernel_rfl) (fun _ _ _ h => h) (Or.inl ⟨by rfl, ?hy7_90⟩) (by assumption) ?rest7_90
      case hy7_90 => (intro w9 hSw; clear hSw; go_simp; try with_reducible rfl)
      try simp only [Act.put, List.setIfInBounds_toArray, List.set_cons_zero, List.set_cons_succ, List.getElem_toArray, List.getElem_cons_zero, List.getElem_cons_succ]
      refine wpAnyH_take (i := 8) (v := ?v8_91) rfl (by kernel_rfl) (by kernel_rfl) (by kernel_rfl) (fun _ _ _ h => h) (Or.inl ⟨by rfl, ?hy8_91⟩) (by assumption) ?rest8_91
      case hy8_91 => (intro w9 hSw; obtain ⟨sv, sr⟩ := hSw; obtain ⟨k0, k1, k2, k3, k4, k5, k6, k7, k8⟩ := Vbx.cells sv; obtain ⟨q0, q1, q2, q3, q4⟩ := Rbx.cells sr; go_simp; try with_reducible rfl)
      try simp only [Act.put, List.setIfInBounds_toArray, List.set_cons_zero, List.set_cons_succ, List.getElem_toArray, List.getElem_cons_zero, List.getElem_cons_succ]
      refine wpAnyH_take (i := 10) (v := ?v10_92) rfl (by kernel_rfl) (by kernel_rfl) (by kernel_rfl) (fun _ _ _ h => h) (Or.inl ⟨by rfl, ?hy10_92⟩) (by assumption) ?rest10_92
      case hy10_92 => (intro w9 hSw; obtain ⟨sv, sr⟩ := hSw; obtain ⟨k0, k1, k2, k3, k4, k5, k6, k7, k8⟩ := Vbx.cells sv; obtain ⟨q0, q1, q2, q3, q4⟩ := Rbx.cells sr; go_simp; try with_reducible rfl)
      try simp only [Act.put, List.setIfInBounds_toArray, List.set_cons_zero, List.set_cons_succ, List.getElem_toArray, List.getElem_cons_zero, List.getElem_cons_succ]
      refine wpAnyH_ready (rs := [9]) (by kernel_rfl) (by simp) ?_
      refine AllReadyH.cons rfl (fun K hK => ?_) AllReadyH.nil
      go_simp
      with_reducible refine (Matrix_fl hP3.vk (fun _ => ⟨hT.st, hll⟩)).mono ?_
      rintro e w18 ⟨A7, c7, rfl, hX, hb⟩
      replace DM := DM.on hb
      replace hF := hF.on hb
      replace hL := hL.on hb
      replace hT := hT.on hb
      replace hP := hP.on hb
      replace D7 := D7.on hb
      replace D8 := D8.on hb
      replace hP3 := hP3.on hb
      replace bz := bz.trans (hb.mono bz.size)
      clear hb
      refine hK.out _ _ ⟨D7, D8⟩ (fun hH => ?_)
      clear hK K hS
      have hS := hH
      clear hH
      try simp only [Act.put, List.setIfInBounds_toArray, List.set_cons_zero, List.set_cons_succ, List.getElem_toArray, List.getElem_cons_zero, List.getElem_cons_succ]
      refine wpAnyH_ready (rs := [11]) (by kernel_rfl) (by simp) ?_
      refine AllReadyH.cons rfl (fun K hK => ?_) AllReadyH.nil
      go_simp
      with_reducible refine (rMat_fl hP3.rk hT.sr hP3.vk).mono ?_
      rintro e w19 ⟨A8, c8, rfl, hY, hb⟩
      replace DM := DM.on hb
      replace hF := hF.on hb
      replace hL := hL.on hb
      replace hT := hT.on hb
      replace hP := hP.on hb
      replace D7 := D7.on hb
      replace D8 := D8.on hb
      replace hP3 := hP3.on hb
      replace hX := hX.on hb
      replace bz := bz.trans (hb.mono bz.size)
      clear hb
      refine hK.out _ _ ⟨D7, D8⟩ (fun hH => ?_)
      clear hK K hS
      have hS := hH
      clear hH
      try simp only [Act.put, List.setIfInBounds_toArray, List.set_cons_zero, List.set_cons_succ, List.getElem_toArray, List.getElem_cons_zero, List.getElem_cons_succ]
      refine wpAnyH_ready (rs := [12]) (by kernel_rfl) (by simp) ?_
      refine AllReadyH.cons rfl (fun K hK => ?_) AllReadyH.nil
      go_simp
      with_reducible refine (SameM_true hX hY).mono ?_
      rintro e w20 ⟨rfl, hb⟩
      replace DM := DM.on hb
      replace hF := hF.on hb
      replace hL := hL.on hb
      replace hT := hT.on hb
      replace hP := hP.on hb
      replace D7 := D7.on hb
      replace D8 := D8.on hb
      replace hP3 := hP3.on hb
      replace hX := hX.on hb
      replace hY := hY.on hb
      replace bz := bz.trans (hb.mono bz.size)
      clear hb hX hY
      refine hK.out _ _ ⟨D7, D8⟩ (fun hH => ?_)
      clear hK K hS
      have hS := hH
      clear hH
      try simp only [Act.put, List.setIfInBounds_toArray, List.set_cons_zero, List.set_cons_succ, List.getElem_toArray, List.getElem_cons_zero, List.getElem_cons_succ]
      refine wpAnyH_take (i := 13) (v := ?v13_93) rfl (by kernel_rfl) (by kernel_rfl) (by kernel_rfl) (fun _ _ _ h => h) (Or.inl ⟨by rfl, ?hy13_93⟩) (by assumption) ?rest13_93
      case hy13_93 => (intro w9 hSw; clear hSw; go_simp; try with_reducible rfl)
      try simp only [Act.put, List.setIfInBounds_toArray, List.set_cons_zero, List.set_cons_succ, List.getElem_toArray, List.getElem_cons_zero, List.getElem_cons_succ]
      refine wpAnyH_take (i := 14) (v := ?v14_94) rfl (by kernel_rfl) (by kernel_rfl) (by kernel_rfl) (fun _ _ _ h => h) (Or.inl ⟨by rfl, ?hy14_94⟩) (by assumption) ?rest14_94
      case hy14_94 => (intro w9 hSw; clear hSw; go_simp; try with_reducible rfl)
      try simp only [Act.put, List.setIfInBounds_toArray, List.set_cons_zero, List.set_cons_succ, List.getElem_toArray, List.getElem_cons_zero, List.getElem_cons_succ]
      refine wpAnyH_take (i := 15) (v := ?v15_95) rfl (by kernel_rfl) (by kernel_rfl) (by kernel_rfl) (fun _ _ _ h => h) (Or.inl ⟨by rfl, ?hy15_95⟩) (by assumption) ?rest15_95
      case hy15_95 => (intro w9 hSw; obtain ⟨sv, sr⟩ := hSw; obtain ⟨k0, k1, k2, k3, k4, k5, k6, k7, k8⟩ := Vbx.cells sv; obtain ⟨q0, q1, q2, q3, q4⟩ := Rbx.cells sr; go_simp; try with_reducible rfl)
      try simp only [Act.put, List.setIfInBounds_toArray, List.set_cons_zero, List.set_cons_succ, List.getElem_toArray, List.getElem_cons_zero, List.getElem_cons_succ]
      refine wpAnyH_take (i := 16) (v := ?v16_96) rfl (by kernel_rfl) (by kernel_rfl) (by kernel_rfl) (fun _ _ _ h => h) (Or.inl ⟨by rfl, ?hy16_96⟩) (by assumption) ?rest16_96
      case hy16_96 => (intro w9 hSw; obtain ⟨sv, sr⟩ := hSw; obtain ⟨k0, k1, k2, k3, k4, k5, k6, k7, k8⟩ := Vbx.cells sv; obtain ⟨q0, q1, q2, q3, q4⟩ := Rbx.cells sr; go_simp; try with_reducible rfl)
      try simp only [Act.put, List.setIfInBounds_toArray, List.set_cons_zero, List.set_cons_succ, List.getElem_toArray, List.getElem_cons_zero, List.getElem_cons_succ]
      refine wpAnyH_take (i := 17) (v := ?v17_97) rfl (by kernel_rfl) (by kernel_rfl) (by kernel_rfl) (fun _ _ _ h => h) (Or.inl ⟨by rfl, ?hy17_97⟩) (by assumption) ?rest17_97
      case hy17_97 => (intro w9 hSw; clear hSw; go_simp; try with_reducible rfl)
      try simp only [Act.put, List.setIfInBounds_toArray, List.set_cons_zero, List.set_cons_succ, List.getElem_toArray, List.getElem_cons_zero, List.getElem_cons_succ]
      refine wpAnyH_ready (rs := [18]) (by kernel_rfl) (by simp) ?_
      refine AllReadyH.cons rfl (fun K hK => ?_) AllReadyH.nil
      go_simp
      with_reducible refine (pO _ _ _ hT.st hT.sr hP3.rk q).mono ?_
      rintro e w21 ⟨rfl, hb⟩
      replace DM := DM.on hb
      replace hF := hF.on hb
      replace hL := hL.on hb
      replace hT := hT.on hb
      replace hP := hP.on hb
      replace D7 := D7.on hb
      replace D8 := D8.on hb
      replace hP3 := hP3.on hb
      replace bz := bz.trans (hb.mono bz.size)
      clear hb
      refine hK.out _ _ ⟨D7, D8⟩ (fun hH => ?_)
      clear hK K hS
      have hS := hH
      clear hH
      try simp only [Act.put, List.setIfInBounds_toArray, List.set_cons_zero, List.set_cons_succ, List.getElem_toArray, List.getElem_cons_zero, List.getElem_cons_succ]
      refine wpAnyH_take (i := 19) (v := ?v19_98) rfl (by kernel_rfl) (by kernel_rfl) (by kernel_rfl) (fun _ _ _ h => h) (Or.inl ⟨by rfl, ?hy19_98⟩) (by assumption) ?rest19_98
      case hy19_98 => (intro w9 hSw; clear hSw; go_simp; try with_reducible rfl)
      try simp only [Act.put, List.setIfInBounds_toArray, List.set_cons_zero, List.set_cons_succ, List.getElem_toArray, List.getElem_cons_zero, List.getElem_cons_succ]
      refine wpAnyH_take (i := 20) (v := ?v20_99) rfl (by kernel_rfl) (by kernel_rfl) (by kernel_rfl) (fun _ _ _ h => h) (Or.inl ⟨by rfl, ?hy20_99⟩) (by assumption) ?rest20_99
      case hy20_99 => (intro w9 hSw; clear hSw; go_simp; try with_reducible rfl)
      try simp only [Act.put, List.setIfInBounds_toArray, List.set_cons_zero, List.set_cons_succ, List.getElem_toArray, List.getElem_cons_zero, List.getElem_cons_succ]
      refine wpAnyH_take (i := 21) (v := ?v21_100) rfl (by kernel_rfl) (by kernel_rfl) (by kernel_rfl) (fun _ _ _ h => h) (Or.inl ⟨by rfl, ?hy21_100⟩) (by assumption) ?rest21_100
      case hy21_100 => (intro w9 hSw; obtain ⟨sv, sr⟩ := hSw; obtain ⟨k0, k1, k2, k3, k4, k5, k6, k7, k8⟩ := Vbx.cells sv; obtain ⟨q0, q1, q2, q3, q4⟩ := Rbx.cells sr; go_simp; try with_reducible rfl)
      try simp only [Act.put, List.setIfInBounds_toArray, List.set_cons_zero, List.set_cons_succ, List.getElem_toArray, List.getElem_cons_zero, List.getElem_cons_succ]
      refine wpAnyH_take (i := 22) (v := ?v22_101) rfl (by kernel_rfl) (by kernel_rfl) (by kernel_rfl) (fun _ _ _ h => h) (Or.inl ⟨by rfl, ?hy22_101⟩) (by assumption) ?rest22_101
      case hy22_101 => (intro w9 hSw; obtain ⟨sv, sr⟩ := hSw; obtain ⟨k0, k1, k2, k3, k4, k5, k6, k7, k8⟩ := Vbx.cells sv; obtain ⟨q0, q1, q2, q3, q4⟩ := Rbx.cells sr; go_simp; try with_reducible rfl)
      try simp only [Act.put, List.setIfInBounds_toArray, List.set_cons_zero, List.set_cons_succ, List.getElem_toArray, List.getElem_cons_zero, List.getElem_cons_succ]
      refine wpAnyH_ready (rs := [23]) (by kernel_rfl) (by simp) ?_
      refine AllReadyH.cons rfl (fun K hK => ?_) AllReadyH.nil
      go_simp
      with_reducible refine (pO _ _ _ hT.st hT.sr hP3.rk 0).mono ?_
      rintro e w22 ⟨rfl, hb⟩
      replace DM := DM.on hb
      replace hF := hF.on hb
      replace hL := hL.on hb
      replace hT := hT.on hb
      replace hP := hP.on hb
      replace D7 := D7.on hb
      replace D8 := D8.on hb
      replace hP3 := hP3.on hb
      replace bz := bz.trans (hb.mono bz.size)
      clear hb
      refine hK.out _ _ ⟨D7, D8⟩ (fun hH => ?_)
      clear hK K hS
      have hS := hH
      clear hH
      try simp only [Act.put, List.setIfInBounds_toArray, List.set_cons_zero, List.set_cons_succ, List.getElem_toArray, List.getElem_cons_zero, List.getElem_cons_succ]
      refine wpAnyH_take (i := 24) (v := ?v24_102) rfl (by kernel_rfl) (by kernel_rfl) (by kernel_rfl) (fun _ _ _ h => h) (Or.inl ⟨by rfl, ?hy24_102⟩) (by assumption) ?rest24_102
      case hy24_102 => (intro w9 hSw; clear hSw; go_simp; try with_reducible rfl)
      try simp only [Act.put, List.setIfInBounds_toArray, List.set_cons_zero, List.set_cons_succ, List.getElem_toArray, List.getElem_cons_zero, List.getElem_cons_succ]
      refine wpAnyH_take (i := 25) (v := ?v25_103) rfl (by kernel_rfl) (by kernel_rfl) (by kernel_rfl) (fun _ _ _ h => h) (Or.inl ⟨by rfl, ?hy25_103⟩) (by assumption) ?rest25_103
      case hy25_103 => (intro w9 hSw; clear hSw; go_simp; try with_reducible rfl)
      try simp only [Act.put, List.setIfInBounds_toArray, List.set_cons_zero, List.set_cons_succ, List.getElem_toArray, List.getElem_cons_zero, List.getElem_cons_succ]
      refine wpAnyH_take (i := 26) (v := ?v26_104) rfl (by kernel_rfl) (by kernel_rfl) (by kernel_rfl) (fun _ _ _ h => h) (Or.inl ⟨by rfl, ?hy26_104⟩) (by assumption) ?rest26_104
      case hy26_104 => (intro w9 hSw; obtain ⟨sv, sr⟩ := hSw; obtain ⟨k0, k1, k2, k3, k4, k5, k6, k7, k8⟩ := Vbx.cells sv; obtain ⟨q0, q1, q2, q3, q4⟩ := Rbx.cells sr; go_simp; try with_reducible rfl)
      try simp only [Act.put, List.setIfInBounds_toArray, List.set_cons_zero, List.set_cons_succ, List.getElem_toArray, List.getElem_cons_zero, List.getElem_cons_succ]
      refine wpAnyH_take (i := 27) (v := ?v27_105) rfl (by kernel_rfl) (by kernel_rfl) (by kernel_rfl) (fun _ _ _ h => h) (Or.inl ⟨by rfl, ?hy27_105⟩) (by assumption) ?rest27_105
      case hy27_105 => (intro w9 hSw; clear hSw; go_simp; try with_reducible rfl)
      try simp only [Act.put, List.setIfInBounds_toArray, List.set_cons_zero, List.set_cons_succ, List.getElem_toArray, List.getElem_cons_zero, List.getElem_cons_succ]
      refine wpAnyH_take (i := 29) (v := ?v29_106) rfl (by kernel_rfl) (by kernel_rfl) (by kernel_rfl) (fun _ _ _ h => h) (Or.inl ⟨by rfl, ?hy29_106⟩) (by assumption) ?rest29_106
      case hy29_106 => (intro w9 hSw; clear hSw; go_simp; try with_reducible rfl)
      try simp only [Act.put, List.setIfInBounds_toArray, List.set_cons_zero, List.set_cons_succ, List.getElem_toArray, List.getElem_cons_zero, List.getElem_cons_succ]
      refine wpAnyH_take (i := 30) (v := ?v30_107) rfl (by kernel_rfl) (by kernel_rfl) (by kernel_rfl) (fun _ _ _ h => h) (Or.inl ⟨by rfl, ?hy30_107⟩) (by assumption) ?rest30_107
      case hy30_107 => (intro w9 hSw; obtain ⟨sv, sr⟩ := hSw; obtain ⟨k0, k1, k2, k3, k4, k5, k6, k7, k8⟩ := Vbx.cells sv; obtain ⟨q0, q1, q2, q3, q4⟩ := Rbx.cells sr; go_simp; try with_reducible rfl)
      try simp only [Act.put, List.setIfInBounds_toArray, List.set_cons_zero, List.set_cons_succ, List.getElem_toArray, List.getElem_cons_zero, List.getElem_cons_succ]
      refine wpAnyH_take (i := 31) (v := ?v31_108) rfl (by kernel_rfl) (by kernel_rfl) (by kernel_rfl) (fun _ _ _ h => h) (Or.inl ⟨by rfl, ?hy31_108⟩) (by assumption) ?rest31_108
      case hy31_108 => (intro w9 hSw; clear hSw; go_simp; try with_reducible rfl)
      try simp only [Act.put, List.setIfInBounds_toArray, List.set_cons_zero, List.set_cons_succ, List.getElem_toArray, List.getElem_cons_zero, List.getElem_cons_succ]
      refine wpAnyH_ready (rs := [28]) (by kernel_rfl) (by simp) ?_
      refine AllReadyH.cons rfl (fun K hK => ?_) AllReadyH.nil
      go_simp
      with_reducible refine (pSz _ _ hT.st).mono ?_
      rintro e w23 ⟨rfl, hb⟩
      replace DM := DM.on hb
      replace hF := hF.on hb
      replace hL := hL.on hb
      replace hT := hT.on hb
      replace hP := hP.on hb
      replace D7 := D7.on hb
      replace D8 := D8.on hb
      replace hP3 := hP3.on hb
      replace bz := bz.trans (hb.mono bz.size)
      clear hb
      refine hK.out _ _ ⟨D7, D8⟩ (fun hH => ?_)
      clear hK K hS
      have hS := hH
      clear hH
      try simp only [Act.put, List.setIfInBounds_toArray, List.set_cons_zero, List.set_cons_succ, List.getElem_toArray, List.getElem_cons_zero, List.getElem_cons_succ]
      refine wpAnyH_take (i := 32) (v := ?v32_109) rfl (by kernel_rfl) (by kernel_rfl) (by kernel_rfl) (fun _ _ _ h => h) (Or.inl ⟨by rfl, ?hy32_109⟩) (by assumption) ?rest32_109
      case hy32_109 => (intro w9 hSw; clear hSw; go_simp; try with_reducible rfl)
      try simp only [Act.put, List.setIfInBounds_toArray, List.set_cons_zero, List.set_cons_succ, List.getElem_toArray, List.getElem_cons_zero, List.getElem_cons_succ]
      refine wpAnyH_take (i := 33) (v := ?v33_110) rfl (by kernel_rfl) (by kernel_rfl) (by kernel_rfl) (fun _ _ _ h => h) (Or.inl ⟨by rfl, ?hy33_110⟩) (by assumption) ?rest33_110
      case hy33_110 => (intro w9 hSw; clear hSw; go_simp; try with_reducible rfl)
      try simp only [Act.put, List.setIfInBounds_toArray, List.set_cons_zero, List.set_cons_succ, List.getElem_toArray, List.getElem_cons_zero, List.getElem_cons_succ]
      refine wpAnyH_take (i := 34) (v := ?v34_111) rfl (by kernel_rfl) (by kernel_rfl) (by kernel_rfl) (fun _ _ _ h => h) (Or.inl ⟨by rfl, ?hy34_111⟩) (by assumption) ?rest34_111
      case hy34_111 => (intro w9 hSw; clear hSw; go_simp; try with_reducible rfl)
      try simp only [Act.put, List.setIfInBounds_toArray, List.set_cons_zero, List.set_cons_succ, List.getElem_toArray, List.getElem_cons_zero, List.getElem_cons_succ]
      refine wpAnyH_ready (rs := [35]) (by kernel_rfl) (by simp) ?_
      refine AllReadyH.cons rfl (fun K hK => ?_) AllReadyH.nil
      go_simp
      with_reducible refine (known_any _).mono ?_
      rintro e w24 ⟨rfl, hb⟩
      replace DM := DM.on hb
      replace hF := hF.on hb
      replace hL := hL.on hb
      replace hT := hT.on hb
      replace hP := hP.on hb
      replace D7 := D7.on hb
      replace D8 := D8.on hb
      replace hP3 := hP3.on hb
      replace bz := bz.trans (hb.mono bz.size)
      clear hb
      refine hK.out _ _ ⟨D7, D8⟩ (fun hH => ?_)
      clear hK K hS
      have hS := hH
      clear hH
      try simp only [Act.put, List.setIfInBounds_toArray, List.set_cons_zero, List.set_cons_succ, List.getElem_toArray, List.getElem_cons_zero, List.getElem_cons_succ]
      refine wpAnyH_take (i := 36) (v := ?v36_112) rfl (by kernel_rfl) (by kernel_rfl) (by kernel_rfl) (fun _ _ _ h => h) (Or.inl ⟨by rfl, ?hy36_112⟩) (by assumption) ?rest36_112
      case hy36_112 => (intro w9 hSw; clear hSw; go_simp; try with_reducible rfl)
      try simp only [Act.put, List.setIfInBounds_toArray, List.set_cons_zero, List.set_cons_succ, List.getElem_toArray, List.getElem_cons_zero, List.getElem_cons_succ]
      refine wpAnyH_take (i := 37) (v := ?v37_113) rfl (by kernel_rfl) (by kernel_rfl) (by kernel_rfl) (fun _ _ _ h => h) (Or.inl ⟨by rfl, ?hy37_113⟩) (by assumption) ?rest37_113
      case hy37_113 => (intro w9 hSw; clear hSw; go_simp; try with_reducible rfl)
      try simp only [Act.put, List.setIfInBounds_toArray, List.set_cons_zero, List.set_cons_succ, List.getElem_toArray, List.getElem_cons_zero, List.getElem_cons_succ]
      refine wpAnyH_done (by kernel_rfl) ?_ _
      go_wp2_with fail
      go_ret
      exact ⟨rfl, bz⟩
theorem law_cuts (h : FL w A n c l) (hL : SL w w.heap.size A9 m c9 ss) (bj : ((-9223372036854775808 ≤ i ∧ i ≤ 9223372036854775807) ∧ (-9223372036854775808 ≤ j ∧ j ≤ 9223372036854775807))) : Calls Try.prog 5 #[mV R C A n c, .slice A9 m c9, .int .i64 i, .int .i64 j, .int .i64 q] w (Ans w (.bool true)) := by
  cases hb1 : bigB n
  · cases hm : decide ((12 : Int) < m)
    · cases hm1 : mayB R C n
      · exact cuts_3 h hL bj hb1 hm hm1
      · exact cuts_4 h hL bj hb1 hm hm1
    · exact cuts_2 h hL bj hb1 hm
  · exact cuts_1 h hL bj hb1
end
end Go.Proofs.Ytceoefgjjekgaaa
