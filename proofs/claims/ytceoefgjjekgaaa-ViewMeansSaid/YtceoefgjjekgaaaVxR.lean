/-
  Layer 7: the law ViewMeans. (Written by wip/tools/gen_vxr.py.)
-/
import Derived.Test.YtceoefgjjekgaaaVxQ
namespace Go.Proofs.Ytceoefgjjekgaaa
open Go.RowKit Go.Bw Go.Sort Go.Shelf
set_option linter.unusedVariables false
set_option linter.unusedSimpArgs false

theorem row_col {v : Vu} (hp : (v.p == none) = false) (i : Int) : (v.turnO.partO 0 i v.turnO.R 1).turnO = v.partO i 0 1 v.C := by
  have e1 : v.turnO = v.T := by unfold Vu.turnO; rw [hp]; rfl
  have e2 : (v.T.p == none) = false := hp
  rw [e1]
  unfold Vu.partO
  rw [hp, e2]
  have e3 : (withinB 0 v.T.R v.T.R && withinB i 1 v.T.C) = (withinB i 1 v.R && withinB 0 v.C v.C) := by rw [Bool.and_comm]; rfl
  rw [e3]
  cases (withinB i 1 v.R && withinB 0 v.C v.C)
  · rfl
  · have e4 : ((v.T.part 0 i v.T.R 1).p == none) = false := hp
    simp only [Bool.false_eq_true, if_false, if_true]
    unfold Vu.turnO
    rw [e4]
    simp only [Bool.false_eq_true, if_false]
    have h0 := T_p0 (v := v) 0 i
    have h1 := T_p1 (v := v) 0 i
    unfold Vu.part
    rw [h0, h1]
    rfl
theorem sameV_refl (v : Vu) (c : Nat) (l : List Int) : sameV v c l v c l = true := by unfold sameV; rw [sameL_refl]; simp
theorem Same_self {w : World} {v : Vu} {s c n B g cap : Nat} {l : List Int} {K : Int} (hv : Vk v s c n K) (hs : St w B s g cap c l) (hl : l.length = n) : Calls Try.prog 15 #[v.V, v.V] w (Ans w (.bool true)) := by
  have := Same_any (w := w) hv (fun _ => ⟨hs, hl⟩) hv (fun _ => ⟨hs, hl⟩)
  rwa [sameV_refl] at this
theorem part_at {v : Vu} {c : Nat} {l : List Int} {i j r m a b : Int} (h1 : withinB i r v.R = true) (h2 : withinB j m v.C = true) (a0 : 0 ≤ a) (a1 : a < r) (b0 : 0 ≤ b) (b1 : b < m) :
    (v.part i j r m).at_ c l a b = v.at_ c l (i + a) (j + b) := by
  have hh : (v.part i j r m).has a b = true := decide_eq_true (by simp only [Vu.part]; omega)
  unfold Vu.at_
  rw [hh, P_has h1 h2 hh, P_ix]
theorem turn_at {v : Vu} {c : Nat} {l : List Int} (a b : Int) : v.T.at_ c l a b = v.at_ c l b a := by
  unfold Vu.at_
  rw [T_has, T_ix]

section
variable {w : World} {R C : Int} {A : Option Addr} {n c : Nat} {l : List Int} {K0 A0 B0 C0 D0 i j : Int}
set_option maxRecDepth 100000 in
set_option maxHeartbeats 8000000 in
theorem means_no_big (h : FL w A n c l) (bx : ((-9223372036854775808 ≤ A0 ∧ A0 ≤ 9223372036854775807) ∧ -9223372036854775808 ≤ B0 ∧ B0 ≤ 9223372036854775807) ∧ ((-9223372036854775808 ≤ C0 ∧ C0 ≤ 9223372036854775807) ∧ -9223372036854775808 ≤ D0 ∧ D0 ≤ 9223372036854775807) ∧ (-9223372036854775808 ≤ i ∧ i ≤ 9223372036854775807) ∧ -9223372036854775808 ≤ j ∧ j ≤ 9223372036854775807) (hbg : bigB n = true) (hs : mayB R C n = false) :
    Calls Try.prog 9 #[mV R C A n c, .agg #[.int .i64 K0, .int .i64 A0, .int .i64 B0, .int .i64 C0, .int .i64 D0], .int .i64 i, .int .i64 j] w (Ans w (.bool true)) := by
  have pb := fun W => big_any R C A n c h.max W
  have hll := h.1
  rw [hbg] at pb
  have hs2 : szB R C = false ∨ (szB R C = true ∧ (n : Int) ≠ R * C) := by
    unfold mayB at hs
    cases h1 : szB R C
    · exact .inl rfl
    · rw [h1] at hs; exact .inr ⟨rfl, by simpa using hs⟩
  clear hs hbg bx
  have DM := (Blk.new w [.int .i64 R, .int .i64 C, .slice A n c] 24).alloc (.cells #[.int .i64 K0, .int .i64 A0, .int .i64 B0, .int .i64 C0, .int .i64 D0] 72)
  have DS := Blk.new (w.alloc (.cells #[.int .i64 R, .int .i64 C, .slice A n c] 24)) [.int .i64 K0, .int .i64 A0, .int .i64 B0, .int .i64 C0, .int .i64 D0] 72
  rw [World.size_alloc] at DS
  have bz := ((Below.refl _ w).alloc (Nat.le_refl _) (.cells #[.int .i64 R, .int .i64 C, .slice A n c] 24)).alloc (by simp) (.cells #[.int .i64 K0, .int .i64 A0, .int .i64 B0, .int .i64 C0, .int .i64 D0] 72)
  have hF := h.lo.on bz
  clear h
  go_enter Try.func9, Try.ntmps9
  go_wp2_with fail
  with_reducible refine (known_any _).mono ?_
  rintro e w1 ⟨rfl, hb⟩
  replace DM := DM.on hb
  replace DS := DS.on hb
  replace hF := hF.on hb
  replace bz := bz.trans (hb.mono bz.size)
  clear hb
  obtain ⟨c0, c1, c2, f0, f1, f2⟩ := Mbx.cells DM
  have pO := fun (W : World) (hF : FL W A n c l) => Of_no hF hs2
  go_wp2_with fail
  with_reducible refine (pO _ hF.fl).mono ?_
  rintro e w2 ⟨rfl, hb⟩
  replace DM := DM.on hb
  replace DS := DS.on hb
  replace hF := hF.on hb
  replace bz := bz.trans (hb.mono bz.size)
  clear hb c0 c1 c2 f0 f1 f2
  have D9 := Blk.new w2 (Vu.zero).L 30
  obtain ⟨HD9, eHD9⟩ : ∃ H, w2.heap.size = H := ⟨_, rfl⟩
  rw [eHD9] at D9
  replace DM := DM.on ((Below.refl _ _).alloc (Nat.le_refl _) (.cells (Vu.zero).L.toArray 30))
  replace DS := DS.on ((Below.refl _ _).alloc (Nat.le_refl _) (.cells (Vu.zero).L.toArray 30))
  replace hF := hF.on ((Below.refl _ _).alloc (Nat.le_refl _) (.cells (Vu.zero).L.toArray 30))
  replace bz := bz.alloc bz.size (.cells (Vu.zero).L.toArray 30)
  have HHD9 := Lib.hid eHD9
  obtain ⟨c0, c1, c2, f0, f1, f2⟩ := Mbx.cells DM
  go_wp2_with fail
  with_reducible refine (pb _).mono ?_
  rintro e w3 ⟨rfl, hb⟩
  replace DM := DM.on hb
  replace DS := DS.on hb
  replace hF := hF.on hb
  replace D9 := D9.on hb
  replace bz := bz.trans (hb.mono bz.size)
  clear hb c0 c1 c2 f0 f1 f2
  obtain ⟨c0, c1, c2, f0, f1, f2⟩ := Mbx.cells DM
  go_wp2_with fail
  with_reducible refine (pb _).mono ?_
  rintro e w4 ⟨rfl, hb⟩
  replace DM := DM.on hb
  replace DS := DS.on hb
  replace hF := hF.on hb
  replace D9 := D9.on hb
  replace bz := bz.trans (hb.mono bz.size)
  clear hb c0 c1 c2 f0 f1 f2
  go_wp2_with fail
  go_ret
  exact ⟨rfl, bz⟩
set_option maxRecDepth 100000 in
set_option maxHeartbeats 8000000 in
theorem means_no_small (h : FL w A n c l) (bx : ((-9223372036854775808 ≤ A0 ∧ A0 ≤ 9223372036854775807) ∧ -9223372036854775808 ≤ B0 ∧ B0 ≤ 9223372036854775807) ∧ ((-9223372036854775808 ≤ C0 ∧ C0 ≤ 9223372036854775807) ∧ -9223372036854775808 ≤ D0 ∧ D0 ≤ 9223372036854775807) ∧ (-9223372036854775808 ≤ i ∧ i ≤ 9223372036854775807) ∧ -9223372036854775808 ≤ j ∧ j ≤ 9223372036854775807) (hbg : bigB n = false) (hs : mayB R C n = false) :
    Calls Try.prog 9 #[mV R C A n c, .agg #[.int .i64 K0, .int .i64 A0, .int .i64 B0, .int .i64 C0, .int .i64 D0], .int .i64 i, .int .i64 j] w (Ans w (.bool true)) := by
  have pb := fun W => big_any R C A n c h.max W
  have hll := h.1
  rw [hbg] at pb
  have hs2 : szB R C = false ∨ (szB R C = true ∧ (n : Int) ≠ R * C) := by
    unfold mayB at hs
    cases h1 : szB R C
    · exact .inl rfl
    · rw [h1] at hs; exact .inr ⟨rfl, by simpa using hs⟩
  clear hs hbg bx
  have DM := (Blk.new w [.int .i64 R, .int .i64 C, .slice A n c] 24).alloc (.cells #[.int .i64 K0, .int .i64 A0, .int .i64 B0, .int .i64 C0, .int .i64 D0] 72)
  have DS := Blk.new (w.alloc (.cells #[.int .i64 R, .int .i64 C, .slice A n c] 24)) [.int .i64 K0, .int .i64 A0, .int .i64 B0, .int .i64 C0, .int .i64 D0] 72
  rw [World.size_alloc] at DS
  have bz := ((Below.refl _ w).alloc (Nat.le_refl _) (.cells #[.int .i64 R, .int .i64 C, .slice A n c] 24)).alloc (by simp) (.cells #[.int .i64 K0, .int .i64 A0, .int .i64 B0, .int .i64 C0, .int .i64 D0] 72)
  have hF := h.lo.on bz
  clear h
  go_enter Try.func9, Try.ntmps9
  go_wp2_with fail
  with_reducible refine (known_any _).mono ?_
  rintro e w1 ⟨rfl, hb⟩
  replace DM := DM.on hb
  replace DS := DS.on hb
  replace hF := hF.on hb
  replace bz := bz.trans (hb.mono bz.size)
  clear hb
  obtain ⟨c0, c1, c2, f0, f1, f2⟩ := Mbx.cells DM
  have pO := fun (W : World) (hF : FL W A n c l) => Of_no hF hs2
  go_wp2_with fail
  with_reducible refine (pO _ hF.fl).mono ?_
  rintro e w2 ⟨rfl, hb⟩
  replace DM := DM.on hb
  replace DS := DS.on hb
  replace hF := hF.on hb
  replace bz := bz.trans (hb.mono bz.size)
  clear hb c0 c1 c2 f0 f1 f2
  have D9 := Blk.new w2 (Vu.zero).L 30
  obtain ⟨HD9, eHD9⟩ : ∃ H, w2.heap.size = H := ⟨_, rfl⟩
  rw [eHD9] at D9
  replace DM := DM.on ((Below.refl _ _).alloc (Nat.le_refl _) (.cells (Vu.zero).L.toArray 30))
  replace DS := DS.on ((Below.refl _ _).alloc (Nat.le_refl _) (.cells (Vu.zero).L.toArray 30))
  replace hF := hF.on ((Below.refl _ _).alloc (Nat.le_refl _) (.cells (Vu.zero).L.toArray 30))
  replace bz := bz.alloc bz.size (.cells (Vu.zero).L.toArray 30)
  have HHD9 := Lib.hid eHD9
  obtain ⟨c0, c1, c2, f0, f1, f2⟩ := Mbx.cells DM
  go_wp2_with fail
  with_reducible refine (pb _).mono ?_
  rintro e w3 ⟨rfl, hb⟩
  replace DM := DM.on hb
  replace DS := DS.on hb
  replace hF := hF.on hb
  replace D9 := D9.on hb
  replace bz := bz.trans (hb.mono bz.size)
  clear hb c0 c1 c2 f0 f1 f2
  go_wp2_with fail
  with_reducible refine (num_any _ _).mono ?_
  rintro e v1 ⟨rfl, rfl⟩
  obtain ⟨c0, c1, c2, f0, f1, f2⟩ := Mbx.cells DM
  go_wp2_with fail
  with_reducible refine (pb _).mono ?_
  rintro e w4 ⟨rfl, hb⟩
  replace DM := DM.on hb
  replace DS := DS.on hb
  replace hF := hF.on hb
  replace D9 := D9.on hb
  replace bz := bz.trans (hb.mono bz.size)
  clear hb c0 c1 c2 f0 f1 f2
  go_wp2_with fail
  with_reducible refine (num_any _ _).mono ?_
  rintro e v1 ⟨rfl, rfl⟩
  go_wp2_with fail
  go_ret
  exact ⟨rfl, bz⟩
set_option maxRecDepth 100000 in
set_option maxHeartbeats 8000000 in
theorem means_yes_big (h : FL w A n c l) (bx : ((-9223372036854775808 ≤ A0 ∧ A0 ≤ 9223372036854775807) ∧ -9223372036854775808 ≤ B0 ∧ B0 ≤ 9223372036854775807) ∧ ((-9223372036854775808 ≤ C0 ∧ C0 ≤ 9223372036854775807) ∧ -9223372036854775808 ≤ D0 ∧ D0 ≤ 9223372036854775807) ∧ (-9223372036854775808 ≤ i ∧ i ≤ 9223372036854775807) ∧ -9223372036854775808 ≤ j ∧ j ≤ 9223372036854775807) (hbg : bigB n = true) (hm : mayB R C n = true) :
    Calls Try.prog 9 #[mV R C A n c, .agg #[.int .i64 K0, .int .i64 A0, .int .i64 B0, .int .i64 C0, .int .i64 D0], .int .i64 i, .int .i64 j] w (Ans w (.bool true)) := by
  have pb := fun W => big_any R C A n c h.max W
  have hll := h.1
  rw [hbg] at pb
  clear hbg
  have hmm := Bool.and_eq_true_iff.1 hm
  have hs : szB R C = true := hmm.1
  have hl : (n : Int) = R * C := of_decide_eq_true hmm.2
  obtain ⟨⟨R0, R1, C0, C1⟩, p0, p1⟩ := szB_bd hs
  have HV := Lib.hid (show ∀ s, Vk (Vu.all s R C) s C.toNat n 1 from fun s => all_vk s R0 R1 C0 C1 hl)
  have HB := Lib.hid (And.intro (And.intro R0 R1) (And.intro C0 C1))
  have pO := fun (W : World) (hF : FL W A n c l) => Of_yes hF hs hl
  clear hm hmm p0 p1 hs hl R0 R1 C0 C1
  have DM := (Blk.new w [.int .i64 R, .int .i64 C, .slice A n c] 24).alloc (.cells #[.int .i64 K0, .int .i64 A0, .int .i64 B0, .int .i64 C0, .int .i64 D0] 72)
  have DS := Blk.new (w.alloc (.cells #[.int .i64 R, .int .i64 C, .slice A n c] 24)) [.int .i64 K0, .int .i64 A0, .int .i64 B0, .int .i64 C0, .int .i64 D0] 72
  rw [World.size_alloc] at DS
  have bz := ((Below.refl _ w).alloc (Nat.le_refl _) (.cells #[.int .i64 R, .int .i64 C, .slice A n c] 24)).alloc (by simp) (.cells #[.int .i64 K0, .int .i64 A0, .int .i64 B0, .int .i64 C0, .int .i64 D0] 72)
  have hF := h.lo.on bz
  clear h
  go_enter Try.func9, Try.ntmps9
  go_wp2_with fail
  with_reducible refine (known_any _).mono ?_
  rintro e w1 ⟨rfl, hb⟩
  replace DM := DM.on hb
  replace DS := DS.on hb
  replace hF := hF.on hb
  replace bz := bz.trans (hb.mono bz.size)
  clear hb
  obtain ⟨c0, c1, c2, f0, f1, f2⟩ := Mbx.cells DM
  go_wp2_with fail
  with_reducible refine (pO _ hF.fl).mono ?_
  rintro e w2 ⟨s, g, cap, rfl, hst, hb⟩
  replace DM := DM.on hb
  replace DS := DS.on hb
  replace hF := hF.on hb
  replace bz := bz.trans (hb.mono bz.size)
  clear hb c0 c1 c2 f0 f1 f2
  have D9 := Blk.new w2 (Vu.all s R C).L 30
  obtain ⟨HD9, eHD9⟩ : ∃ H, w2.heap.size = H := ⟨_, rfl⟩
  rw [eHD9] at D9
  replace DM := DM.on ((Below.refl _ _).alloc (Nat.le_refl _) (.cells (Vu.all s R C).L.toArray 30))
  replace DS := DS.on ((Below.refl _ _).alloc (Nat.le_refl _) (.cells (Vu.all s R C).L.toArray 30))
  replace hF := hF.on ((Below.refl _ _).alloc (Nat.le_refl _) (.cells (Vu.all s R C).L.toArray 30))
  replace hst := hst.on ((Below.refl _ _).alloc (Nat.le_refl _) (.cells (Vu.all s R C).L.toArray 30))
  replace bz := bz.alloc bz.size (.cells (Vu.all s R C).L.toArray 30)
  have HHD9 := Lib.hid eHD9
  obtain ⟨c0, c1, c2, f0, f1, f2⟩ := Mbx.cells DM
  go_wp2_with fail
  with_reducible refine (pb _).mono ?_
  rintro e w3 ⟨rfl, hb⟩
  replace DM := DM.on hb
  replace DS := DS.on hb
  replace hF := hF.on hb
  replace hst := hst.on hb
  replace D9 := D9.on hb
  replace bz := bz.trans (hb.mono bz.size)
  clear hb c0 c1 c2 f0 f1 f2
  obtain ⟨c0, c1, c2, f0, f1, f2⟩ := Mbx.cells DM
  go_wp2_with fail
  with_reducible refine (pb _).mono ?_
  rintro e w4 ⟨rfl, hb⟩
  replace DM := DM.on hb
  replace DS := DS.on hb
  replace hF := hF.on hb
  replace hst := hst.on hb
  replace D9 := D9.on hb
  replace bz := bz.trans (hb.mono bz.size)
  clear hb c0 c1 c2 f0 f1 f2
  go_wp2_with fail
  go_ret
  exact ⟨rfl, bz⟩
set_option maxRecDepth 100000 in
set_option maxHeartbeats 8000000 in
theorem means_yes_small (h : FL w A n c l) (bx : ((-9223372036854775808 ≤ A0 ∧ A0 ≤ 9223372036854775807) ∧ -9223372036854775808 ≤ B0 ∧ B0 ≤ 9223372036854775807) ∧ ((-9223372036854775808 ≤ C0 ∧ C0 ≤ 9223372036854775807) ∧ -9223372036854775808 ≤ D0 ∧ D0 ≤ 9223372036854775807) ∧ (-9223372036854775808 ≤ i ∧ i ≤ 9223372036854775807) ∧ -9223372036854775808 ≤ j ∧ j ≤ 9223372036854775807) (hbg : bigB n = false) (hm : mayB R C n = true) :
    Calls Try.prog 9 #[mV R C A n c, .agg #[.int .i64 K0, .int .i64 A0, .int .i64 B0, .int .i64 C0, .int .i64 D0], .int .i64 i, .int .i64 j] w (Ans w (.bool true)) := by
  have pb := fun W => big_any R C A n c h.max W
  have hll := h.1
  rw [hbg] at pb
  clear hbg
  have hmm := Bool.and_eq_true_iff.1 hm
  have hs : szB R C = true := hmm.1
  have hl : (n : Int) = R * C := of_decide_eq_true hmm.2
  obtain ⟨⟨R0, R1, C0, C1⟩, p0, p1⟩ := szB_bd hs
  have HV := Lib.hid (show ∀ s, Vk (Vu.all s R C) s C.toNat n 1 from fun s => all_vk s R0 R1 C0 C1 hl)
  have HB := Lib.hid (And.intro (And.intro R0 R1) (And.intro C0 C1))
  have pO := fun (W : World) (hF : FL W A n c l) => Of_yes hF hs hl
  clear hm hmm p0 p1 hs hl R0 R1 C0 C1
  have DM := (Blk.new w [.int .i64 R, .int .i64 C, .slice A n c] 24).alloc (.cells #[.int .i64 K0, .int .i64 A0, .int .i64 B0, .int .i64 C0, .int .i64 D0] 72)
  have DS := Blk.new (w.alloc (.cells #[.int .i64 R, .int .i64 C, .slice A n c] 24)) [.int .i64 K0, .int .i64 A0, .int .i64 B0, .int .i64 C0, .int .i64 D0] 72
  rw [World.size_alloc] at DS
  have bz := ((Below.refl _ w).alloc (Nat.le_refl _) (.cells #[.int .i64 R, .int .i64 C, .slice A n c] 24)).alloc (by simp) (.cells #[.int .i64 K0, .int .i64 A0, .int .i64 B0, .int .i64 C0, .int .i64 D0] 72)
  have hF := h.lo.on bz
  clear h
  go_enter Try.func9, Try.ntmps9
  go_wp2_with fail
  with_reducible refine (known_any _).mono ?_
  rintro e w1 ⟨rfl, hb⟩
  replace DM := DM.on hb
  replace DS := DS.on hb
  replace hF := hF.on hb
  replace bz := bz.trans (hb.mono bz.size)
  clear hb
  obtain ⟨c0, c1, c2, f0, f1, f2⟩ := Mbx.cells DM
  go_wp2_with fail
  with_reducible refine (pO _ hF.fl).mono ?_
  rintro e w2 ⟨s, g, cap, rfl, hst, hb⟩
  replace DM := DM.on hb
  replace DS := DS.on hb
  replace hF := hF.on hb
  replace bz := bz.trans (hb.mono bz.size)
  clear hb c0 c1 c2 f0 f1 f2
  have D9 := Blk.new w2 (Vu.all s R C).L 30
  obtain ⟨HD9, eHD9⟩ : ∃ H, w2.heap.size = H := ⟨_, rfl⟩
  rw [eHD9] at D9
  replace DM := DM.on ((Below.refl _ _).alloc (Nat.le_refl _) (.cells (Vu.all s R C).L.toArray 30))
  replace DS := DS.on ((Below.refl _ _).alloc (Nat.le_refl _) (.cells (Vu.all s R C).L.toArray 30))
  replace hF := hF.on ((Below.refl _ _).alloc (Nat.le_refl _) (.cells (Vu.all s R C).L.toArray 30))
  replace hst := hst.on ((Below.refl _ _).alloc (Nat.le_refl _) (.cells (Vu.all s R C).L.toArray 30))
  replace bz := bz.alloc bz.size (.cells (Vu.all s R C).L.toArray 30)
  have HHD9 := Lib.hid eHD9
  obtain ⟨c0, c1, c2, f0, f1, f2⟩ := Mbx.cells DM
  go_wp2_with fail
  with_reducible refine (pb _).mono ?_
  rintro e w3 ⟨rfl, hb⟩
  replace DM := DM.on hb
  replace DS := DS.on hb
  replace hF := hF.on hb
  replace hst := hst.on hb
  replace D9 := D9.on hb
  replace bz := bz.trans (hb.mono bz.size)
  clear hb c0 c1 c2 f0 f1 f2
  go_wp2_with fail
  with_reducible refine (num_any _ _).mono ?_
  rintro e v1 ⟨rfl, rfl⟩
  have hV := HV.out s
  have HVK := Lib.hid hV
  have vT : Vk (Vu.all s R C).turnO s C.toNat n 1 := turn_vk hV
  have vR : Vk ((Vu.all s R C).partO i 0 1 (Vu.all s R C).C) s C.toNat n 2 := part_vk hV (by omega) i 0 1 (Vu.all s R C).C
  have pT := fun W => T_any (Vu.all s R C) W
  have pT2 : ∀ W, Calls Try.prog 46 #[((Vu.all s R C).turnO).V] W (Ans W (Vu.all s R C).V) := fun W => T_any (Vu.all s R C).turnO W
  have pRow := fun W => Row_any (i := i) hV.bd bx.2.2.1.2 W
  have pCol := fun W => Col_any (i := i) vT.bd bx.2.2.1.2 W
  have pTC : ∀ W, Calls Try.prog 46 #[((Vu.all s R C).turnO.partO 0 i (Vu.all s R C).turnO.R 1).V] W (Ans W ((Vu.all s R C).partO i 0 1 (Vu.all s R C).C).V) := fun W => by have := T_any ((Vu.all s R C).turnO.partO 0 i (Vu.all s R C).turnO.R 1) W; rwa [row_col rfl i] at this
  go_wp2_with fail
  generalize w3 = W1 at DM DS hF hst D9 bz ⊢
  replace DM := DM.drew
  replace DS := DS.drew
  replace hF := hF.drew
  replace hst := hst.drew
  replace D9 := D9.drew
  replace bz := bz.drew
  refine wp_region_held_drew (S := fun w9 : World => Vbx w9 HD9 (Vu.all s R C) ∧ Blk w9 (w.heap.size + 1) [.int .i64 K0, .int .i64 A0, .int .i64 B0, .int .i64 C0, .int .i64 D0]) (by kernel_rfl) ⟨D9, DS⟩ (fun hS => ?_)
  refine wpAnyH_take (i := 0) (v := ?v0_1) rfl (by kernel_rfl) (by kernel_rfl) (by kernel_rfl) (fun _ _ _ h => h) (Or.inl ⟨by rfl, ?hy0_1⟩) (by assumption) ?rest0_1
  case hy0_1 => (intro w9 hSw; obtain ⟨sv, ss1⟩ := hSw; obtain ⟨k0, k1, k2, k3, k4, k5, k6, k7, k8⟩ := Vbx.cells sv; obtain ⟨t0, t1, t2, t3, t4⟩ : _ ∧ _ ∧ _ ∧ _ ∧ _ := ⟨Blk.cell ss1 0 rfl, Blk.cell ss1 1 rfl, Blk.cell ss1 2 rfl, Blk.cell ss1 3 rfl, Blk.cell ss1 4 rfl⟩; go_simp; try with_reducible rfl)
  try simp only [Act.put, List.setIfInBounds_toArray, List.set_cons_zero, List.set_cons_succ, List.getElem_toArray, List.getElem_cons_zero, List.getElem_cons_succ]
  refine wpAnyH_take (i := 3) (v := ?v3_2) rfl (by kernel_rfl) (by kernel_rfl) (by kernel_rfl) (fun _ _ _ h => h) (Or.inl ⟨by rfl, ?hy3_2⟩) (by assumption) ?rest3_2
  case hy3_2 => (intro w9 hSw; obtain ⟨sv, ss1⟩ := hSw; obtain ⟨k0, k1, k2, k3, k4, k5, k6, k7, k8⟩ := Vbx.cells sv; obtain ⟨t0, t1, t2, t3, t4⟩ : _ ∧ _ ∧ _ ∧ _ ∧ _ := ⟨Blk.cell ss1 0 rfl, Blk.cell ss1 1 rfl, Blk.cell ss1 2 rfl, Blk.cell ss1 3 rfl, Blk.cell ss1 4 rfl⟩; go_simp; try with_reducible rfl)
  try simp only [Act.put, List.setIfInBounds_toArray, List.set_cons_zero, List.set_cons_succ, List.getElem_toArray, List.getElem_cons_zero, List.getElem_cons_succ]
  refine wpAnyH_ready (rs := [1]) (by kernel_rfl) (by simp) ?_
  refine AllReadyH.cons rfl (fun K hK => ?_) AllReadyH.nil
  go_simp
  with_reducible refine (pT _).mono ?_
  rintro e w4 ⟨rfl, hb⟩
  replace DM := DM.on hb
  replace DS := DS.on hb
  replace hF := hF.on hb
  replace hst := hst.on hb
  replace D9 := D9.on hb
  replace bz := bz.trans (hb.mono bz.size)
  clear hb
  refine hK.out _ _ ⟨D9, DS⟩ (fun hH => ?_)
  clear hK K hS
  have hS := hH
  clear hH
  try simp only [Act.put, List.setIfInBounds_toArray, List.set_cons_zero, List.set_cons_succ, List.getElem_toArray, List.getElem_cons_zero, List.getElem_cons_succ]
  refine wpAnyH_ready (rs := [2]) (by kernel_rfl) (by simp) ?_
  refine AllReadyH.cons rfl (fun K hK => ?_) AllReadyH.nil
  go_simp
  with_reducible refine (pT2 _).mono ?_
  rintro e w5 ⟨rfl, hb⟩
  replace DM := DM.on hb
  replace DS := DS.on hb
  replace hF := hF.on hb
  replace hst := hst.on hb
  replace D9 := D9.on hb
  replace bz := bz.trans (hb.mono bz.size)
  clear hb
  refine hK.out _ _ ⟨D9, DS⟩ (fun hH => ?_)
  clear hK K hS
  have hS := hH
  clear hH
  try simp only [Act.put, List.setIfInBounds_toArray, List.set_cons_zero, List.set_cons_succ, List.getElem_toArray, List.getElem_cons_zero, List.getElem_cons_succ]
  refine wpAnyH_ready (rs := [4]) (by kernel_rfl) (by simp) ?_
  refine AllReadyH.cons rfl (fun K hK => ?_) AllReadyH.nil
  go_simp
  with_reducible refine (Same_self hV hst hll).mono ?_
  rintro e w6 ⟨rfl, hb⟩
  replace DM := DM.on hb
  replace DS := DS.on hb
  replace hF := hF.on hb
  replace hst := hst.on hb
  replace D9 := D9.on hb
  replace bz := bz.trans (hb.mono bz.size)
  clear hb
  refine hK.out _ _ ⟨D9, DS⟩ (fun hH => ?_)
  clear hK K hS
  have hS := hH
  clear hH
  try simp only [Act.put, List.setIfInBounds_toArray, List.set_cons_zero, List.set_cons_succ, List.getElem_toArray, List.getElem_cons_zero, List.getElem_cons_succ]
  refine wpAnyH_take (i := 5) (v := ?v5_3) rfl (by kernel_rfl) (by kernel_rfl) (by kernel_rfl) (fun _ _ _ h => h) (Or.inl ⟨by rfl, ?hy5_3⟩) (by assumption) ?rest5_3
  case hy5_3 => (intro w9 hSw; clear hSw; go_simp; try with_reducible rfl)
  try simp only [Act.put, List.setIfInBounds_toArray, List.set_cons_zero, List.set_cons_succ, List.getElem_toArray, List.getElem_cons_zero, List.getElem_cons_succ]
  refine wpAnyH_take (i := 6) (v := ?v6_4) rfl (by kernel_rfl) (by kernel_rfl) (by kernel_rfl) (fun _ _ _ h => h) (Or.inl ⟨by rfl, ?hy6_4⟩) (by assumption) ?rest6_4
  case hy6_4 => (intro w9 hSw; clear hSw; go_simp; try with_reducible rfl)
  try simp only [Act.put, List.setIfInBounds_toArray, List.set_cons_zero, List.set_cons_succ, List.getElem_toArray, List.getElem_cons_zero, List.getElem_cons_succ]
  refine wpAnyH_take (i := 7) (v := ?v7_5) rfl (by kernel_rfl) (by kernel_rfl) (by kernel_rfl) (fun _ _ _ h => h) (Or.inl ⟨by rfl, ?hy7_5⟩) (by assumption) ?rest7_5
  case hy7_5 => (intro w9 hSw; obtain ⟨sv, ss1⟩ := hSw; obtain ⟨k0, k1, k2, k3, k4, k5, k6, k7, k8⟩ := Vbx.cells sv; obtain ⟨t0, t1, t2, t3, t4⟩ : _ ∧ _ ∧ _ ∧ _ ∧ _ := ⟨Blk.cell ss1 0 rfl, Blk.cell ss1 1 rfl, Blk.cell ss1 2 rfl, Blk.cell ss1 3 rfl, Blk.cell ss1 4 rfl⟩; go_simp; try with_reducible rfl)
  try simp only [Act.put, List.setIfInBounds_toArray, List.set_cons_zero, List.set_cons_succ, List.getElem_toArray, List.getElem_cons_zero, List.getElem_cons_succ]
  refine wpAnyH_take (i := 8) (v := ?v8_6) rfl (by kernel_rfl) (by kernel_rfl) (by kernel_rfl) (fun _ _ _ h => h) (Or.inl ⟨by rfl, ?hy8_6⟩) (by assumption) ?rest8_6
  case hy8_6 => (intro w9 hSw; clear hSw; go_simp; try with_reducible rfl)
  try simp only [Act.put, List.setIfInBounds_toArray, List.set_cons_zero, List.set_cons_succ, List.getElem_toArray, List.getElem_cons_zero, List.getElem_cons_succ]
  refine wpAnyH_take (i := 10) (v := ?v10_7) rfl (by kernel_rfl) (by kernel_rfl) (by kernel_rfl) (fun _ _ _ h => h) (Or.inl ⟨by rfl, ?hy10_7⟩) (by assumption) ?rest10_7
  case hy10_7 => (intro w9 hSw; obtain ⟨sv, ss1⟩ := hSw; obtain ⟨k0, k1, k2, k3, k4, k5, k6, k7, k8⟩ := Vbx.cells sv; obtain ⟨t0, t1, t2, t3, t4⟩ : _ ∧ _ ∧ _ ∧ _ ∧ _ := ⟨Blk.cell ss1 0 rfl, Blk.cell ss1 1 rfl, Blk.cell ss1 2 rfl, Blk.cell ss1 3 rfl, Blk.cell ss1 4 rfl⟩; go_simp; try with_reducible rfl)
  try simp only [Act.put, List.setIfInBounds_toArray, List.set_cons_zero, List.set_cons_succ, List.getElem_toArray, List.getElem_cons_zero, List.getElem_cons_succ]
  refine wpAnyH_take (i := 12) (v := ?v12_8) rfl (by kernel_rfl) (by kernel_rfl) (by kernel_rfl) (fun _ _ _ h => h) (Or.inl ⟨by rfl, ?hy12_8⟩) (by assumption) ?rest12_8
  case hy12_8 => (intro w9 hSw; clear hSw; go_simp; try with_reducible rfl)
  try simp only [Act.put, List.setIfInBounds_toArray, List.set_cons_zero, List.set_cons_succ, List.getElem_toArray, List.getElem_cons_zero, List.getElem_cons_succ]
  refine wpAnyH_ready (rs := [9]) (by kernel_rfl) (by simp) ?_
  refine AllReadyH.cons rfl (fun K hK => ?_) AllReadyH.nil
  go_simp
  with_reducible refine (pRow _).mono ?_
  rintro e w7 ⟨rfl, hb⟩
  replace DM := DM.on hb
  replace DS := DS.on hb
  replace hF := hF.on hb
  replace hst := hst.on hb
  replace D9 := D9.on hb
  replace bz := bz.trans (hb.mono bz.size)
  clear hb
  refine hK.out _ _ ⟨D9, DS⟩ (fun hH => ?_)
  clear hK K hS
  have hS := hH
  clear hH
  try simp only [Act.put, List.setIfInBounds_toArray, List.set_cons_zero, List.set_cons_succ, List.getElem_toArray, List.getElem_cons_zero, List.getElem_cons_succ]
  refine wpAnyH_ready (rs := [11]) (by kernel_rfl) (by simp) ?_
  refine AllReadyH.cons rfl (fun K hK => ?_) AllReadyH.nil
  go_simp
  with_reducible refine (pT _).mono ?_
  rintro e w8 ⟨rfl, hb⟩
  replace DM := DM.on hb
  replace DS := DS.on hb
  replace hF := hF.on hb
  replace hst := hst.on hb
  replace D9 := D9.on hb
  replace bz := bz.trans (hb.mono bz.size)
  clear hb
  refine hK.out _ _ ⟨D9, DS⟩ (fun hH => ?_)
  clear hK K hS
  have hS := hH
  clear hH
  try simp only [Act.put, List.setIfInBounds_toArray, List.set_cons_zero, List.set_cons_succ, List.getElem_toArray, List.getElem_cons_zero, List.getElem_cons_succ]
  refine wpAnyH_ready (rs := [13]) (by kernel_rfl) (by simp) ?_
  refine AllReadyH.cons rfl (fun K hK => ?_) AllReadyH.nil
  go_simp
  with_reducible refine (pCol _).mono ?_
  rintro e w9 ⟨rfl, hb⟩
  replace DM := DM.on hb
  replace DS := DS.on hb
  replace hF := hF.on hb
  replace hst := hst.on hb
  replace D9 := D9.on hb
  replace bz := bz.trans (hb.mono bz.size)
  clear hb
  refine hK.out _ _ ⟨D9, DS⟩ (fun hH => ?_)
  clear hK K hS
  have hS := hH
  clear hH
  try simp only [Act.put, List.setIfInBounds_toArray, List.set_cons_zero, List.set_cons_succ, List.getElem_toArray, List.getElem_cons_zero, List.getElem_cons_succ]
  refine wpAnyH_ready (rs := [14]) (by kernel_rfl) (by simp) ?_
  refine AllReadyH.cons rfl (fun K hK => ?_) AllReadyH.nil
  go_simp
  with_reducible refine (pTC _).mono ?_
  rintro e w10 ⟨rfl, hb⟩
  replace DM := DM.on hb
  replace DS := DS.on hb
  replace hF := hF.on hb
  replace hst := hst.on hb
  replace D9 := D9.on hb
  replace bz := bz.trans (hb.mono bz.size)
  clear hb
  refine hK.out _ _ ⟨D9, DS⟩ (fun hH => ?_)
  clear hK K hS
  have hS := hH
  clear hH
  try simp only [Act.put, List.setIfInBounds_toArray, List.set_cons_zero, List.set_cons_succ, List.getElem_toArray, List.getElem_cons_zero, List.getElem_cons_succ]
  refine wpAnyH_ready (rs := [15]) (by kernel_rfl) (by simp) ?_
  refine AllReadyH.cons rfl (fun K hK => ?_) AllReadyH.nil
  go_simp
  with_reducible refine (Same_self vR hst hll).mono ?_
  rintro e w11 ⟨rfl, hb⟩
  replace DM := DM.on hb
  replace DS := DS.on hb
  replace hF := hF.on hb
  replace hst := hst.on hb
  replace D9 := D9.on hb
  replace bz := bz.trans (hb.mono bz.size)
  clear hb
  refine hK.out _ _ ⟨D9, DS⟩ (fun hH => ?_)
  clear hK K hS
  have hS := hH
  clear hH
  try simp only [Act.put, List.setIfInBounds_toArray, List.set_cons_zero, List.set_cons_succ, List.getElem_toArray, List.getElem_cons_zero, List.getElem_cons_succ]
  refine wpAnyH_take (i := 16) (v := ?v16_9) rfl (by kernel_rfl) (by kernel_rfl) (by kernel_rfl) (fun _ _ _ h => h) (Or.inl ⟨by rfl, ?hy16_9⟩) (by assumption) ?rest16_9
  case hy16_9 => (intro w9 hSw; clear hSw; go_simp; try with_reducible rfl)
  try simp only [Act.put, List.setIfInBounds_toArray, List.set_cons_zero, List.set_cons_succ, List.getElem_toArray, List.getElem_cons_zero, List.getElem_cons_succ]
  refine wpAnyH_take (i := 17) (v := ?v17_10) rfl (by kernel_rfl) (by kernel_rfl) (by kernel_rfl) (fun _ _ _ h => h) (Or.inl ⟨by rfl, ?hy17_10⟩) (by assumption) ?rest17_10
  case hy17_10 => (intro w9 hSw; clear hSw; go_simp; try with_reducible rfl)
  try simp only [Act.put, List.setIfInBounds_toArray, List.set_cons_zero, List.set_cons_succ, List.getElem_toArray, List.getElem_cons_zero, List.getElem_cons_succ]
  refine wpAnyH_done (by kernel_rfl) ?_ _
  clear pT pT2 pRow pCol pTC vT vR
  obtain ⟨cD9_0, cD9_1, cD9_2, cD9_3, cD9_4, cD9_5, cD9_6, cD9_7, cD9_8⟩ := Vbx.cells D9
  obtain ⟨t0, t1, t2, t3, t4⟩ : _ ∧ _ ∧ _ ∧ _ ∧ _ := ⟨Blk.cell DS 0 rfl, Blk.cell DS 1 rfl, Blk.cell DS 2 rfl, Blk.cell DS 3 rfl, Blk.cell DS 4 rfl⟩
  have pP := fun W => Part_any (i := A0) (j := B0) (r := C0) (n := D0) hV.bd bx.1.1.2 bx.1.2.2 W
  go_wp2_with fail
  with_reducible refine (pP _).mono ?_
  rintro e w12 ⟨rfl, hb⟩
  replace DM := DM.on hb
  replace DS := DS.on hb
  replace hF := hF.on hb
  replace hst := hst.on hb
  replace D9 := D9.on hb
  replace bz := bz.trans (hb.mono bz.size)
  clear hb pP t0 t1 t2 t3 t4 cD9_0 cD9_1 cD9_2 cD9_3 cD9_4 cD9_5 cD9_6 cD9_7 cD9_8
  obtain ⟨P, hP⟩ : ∃ P, (Vu.all s R C).partO A0 B0 C0 D0 = P := ⟨_, rfl⟩
  simp only [hP]
  have D11 := Blk.new w12 (P).L 30
  obtain ⟨HD11, eHD11⟩ : ∃ H, w12.heap.size = H := ⟨_, rfl⟩
  rw [eHD11] at D11
  replace DM := DM.on ((Below.refl _ _).alloc (Nat.le_refl _) (.cells (P).L.toArray 30))
  replace DS := DS.on ((Below.refl _ _).alloc (Nat.le_refl _) (.cells (P).L.toArray 30))
  replace hF := hF.on ((Below.refl _ _).alloc (Nat.le_refl _) (.cells (P).L.toArray 30))
  replace hst := hst.on ((Below.refl _ _).alloc (Nat.le_refl _) (.cells (P).L.toArray 30))
  replace D9 := D9.on ((Below.refl _ _).alloc (Nat.le_refl _) (.cells (P).L.toArray 30))
  replace bz := bz.alloc bz.size (.cells (P).L.toArray 30)
  have HHD11 := Lib.hid eHD11
  have vP : Vk P s C.toNat n 2 := by rw [← hP]; exact part_vk hV (by omega) A0 B0 C0 D0
  have HPe := Lib.hid hP
  clear hP
  go_wp2_with fail
  generalize (w12.alloc (.cells (P).L.toArray 30)) = W2 at DM DS hF hst D9 D11 bz ⊢
  replace DM := DM.drew
  replace DS := DS.drew
  replace hF := hF.drew
  replace hst := hst.drew
  replace D9 := D9.drew
  replace D11 := D11.drew
  replace bz := bz.drew
  cases g1 : (P.R != C0)
  · cases g2 : (P.C != D0)
    · rcases Int.lt_or_le i 0 with g3 | g3
      · refine wp_region_held_drew (S := fun w9 : World => Vbx w9 HD11 P ∧ Vbx w9 HD9 (Vu.all s R C) ∧ Blk w9 (w.heap.size + 1) [.int .i64 K0, .int .i64 A0, .int .i64 B0, .int .i64 C0, .int .i64 D0]) (by kernel_rfl) ⟨D11, D9, DS⟩ (fun hS => ?_)
        refine wpAnyH_take (i := 0) (v := ?v0_11) rfl (by kernel_rfl) (by kernel_rfl) (by kernel_rfl) (fun _ _ _ h => h) (Or.inl ⟨by rfl, ?hy0_11⟩) (by assumption) ?rest0_11
        case hy0_11 => (intro w9 hSw; obtain ⟨sp, sv, ss1⟩ := hSw; obtain ⟨k0, k1, k2, k3, k4, k5, k6, k7, k8⟩ := Vbx.cells sv; obtain ⟨q0, q1, q2, q3, q4, q5, q6, q7, q8⟩ := Vbx.cells sp; obtain ⟨t0, t1, t2, t3, t4⟩ : _ ∧ _ ∧ _ ∧ _ ∧ _ := ⟨Blk.cell ss1 0 rfl, Blk.cell ss1 1 rfl, Blk.cell ss1 2 rfl, Blk.cell ss1 3 rfl, Blk.cell ss1 4 rfl⟩; go_simp; try with_reducible rfl)
        try simp only [Act.put, List.setIfInBounds_toArray, List.set_cons_zero, List.set_cons_succ, List.getElem_toArray, List.getElem_cons_zero, List.getElem_cons_succ]
        refine wpAnyH_take (i := 2) (v := ?v2_12) rfl (by kernel_rfl) (by kernel_rfl) (by kernel_rfl) (fun _ _ _ h => h) (Or.inl ⟨by rfl, ?hy2_12⟩) (by assumption) ?rest2_12
        case hy2_12 => (intro w9 hSw; clear hSw; go_simp; try with_reducible rfl)
        try simp only [Act.put, List.setIfInBounds_toArray, List.set_cons_zero, List.set_cons_succ, List.getElem_toArray, List.getElem_cons_zero, List.getElem_cons_succ]
        refine wpAnyH_take (i := 3) (v := ?v3_13) rfl (by kernel_rfl) (by kernel_rfl) (by kernel_rfl) (fun _ _ _ h => h) (Or.inl ⟨by rfl, ?hy3_13⟩) (by assumption) ?rest3_13
        case hy3_13 => (intro w9 hSw; obtain ⟨sp, sv, ss1⟩ := hSw; obtain ⟨k0, k1, k2, k3, k4, k5, k6, k7, k8⟩ := Vbx.cells sv; obtain ⟨q0, q1, q2, q3, q4, q5, q6, q7, q8⟩ := Vbx.cells sp; obtain ⟨t0, t1, t2, t3, t4⟩ : _ ∧ _ ∧ _ ∧ _ ∧ _ := ⟨Blk.cell ss1 0 rfl, Blk.cell ss1 1 rfl, Blk.cell ss1 2 rfl, Blk.cell ss1 3 rfl, Blk.cell ss1 4 rfl⟩; go_simp; try with_reducible rfl)
        try simp only [Act.put, List.setIfInBounds_toArray, List.set_cons_zero, List.set_cons_succ, List.getElem_toArray, List.getElem_cons_zero, List.getElem_cons_succ]
        refine wpAnyH_ready (rs := [1]) (by kernel_rfl) (by simp) ?_
        refine AllReadyH.cons rfl (fun K hK => ?_) AllReadyH.nil
        go_simp
        with_reducible refine (Rows_any P _).mono ?_
        rintro e w13 ⟨rfl, hb⟩
        replace DM := DM.on hb
        replace DS := DS.on hb
        replace hF := hF.on hb
        replace hst := hst.on hb
        replace D9 := D9.on hb
        replace D11 := D11.on hb
        replace bz := bz.trans (hb.mono bz.size)
        clear hb
        refine hK.out _ _ ⟨D11, D9, DS⟩ (fun hH => ?_)
        clear hK K hS
        have hS := hH
        clear hH
        try simp only [Act.put, List.setIfInBounds_toArray, List.set_cons_zero, List.set_cons_succ, List.getElem_toArray, List.getElem_cons_zero, List.getElem_cons_succ]
        refine wpAnyH_take (i := 4) (v := ?v4_14) rfl (by kernel_rfl) (by kernel_rfl) (by kernel_rfl) (fun _ _ _ h => h) (Or.inl ⟨by rfl, ?hy4_14⟩) (by assumption) ?rest4_14
        case hy4_14 => (intro w9 hSw; clear hSw; go_simp; try with_reducible rfl)
        try simp only [Act.put, List.setIfInBounds_toArray, List.set_cons_zero, List.set_cons_succ, List.getElem_toArray, List.getElem_cons_zero, List.getElem_cons_succ]
        refine wpAnyH_take (i := 5) (v := ?v5_15) rfl (by kernel_rfl) (by kernel_rfl) (by kernel_rfl) (fun _ _ _ h => h) (Or.inl ⟨by rfl, ?hy5_15⟩) (by assumption) ?rest5_15
        case hy5_15 => (intro w9 hSw; clear hSw; go_simp; try with_reducible rfl)
        try simp only [Act.put, List.setIfInBounds_toArray, List.set_cons_zero, List.set_cons_succ, List.getElem_toArray, List.getElem_cons_zero, List.getElem_cons_succ]
        refine wpAnyH_take (i := 6) (v := ?v6_16) rfl (by kernel_rfl) (by kernel_rfl) (by kernel_rfl) (fun _ _ _ h => h) (Or.inl ⟨by rfl, ?hy6_16⟩) (by assumption) ?rest6_16
        case hy6_16 => (intro w9 hSw; obtain ⟨sp, sv, ss1⟩ := hSw; obtain ⟨k0, k1, k2, k3, k4, k5, k6, k7, k8⟩ := Vbx.cells sv; obtain ⟨q0, q1, q2, q3, q4, q5, q6, q7, q8⟩ := Vbx.cells sp; obtain ⟨t0, t1, t2, t3, t4⟩ : _ ∧ _ ∧ _ ∧ _ ∧ _ := ⟨Blk.cell ss1 0 rfl, Blk.cell ss1 1 rfl, Blk.cell ss1 2 rfl, Blk.cell ss1 3 rfl, Blk.cell ss1 4 rfl⟩; go_simp; try with_reducible rfl)
        try simp only [Act.put, List.setIfInBounds_toArray, List.set_cons_zero, List.set_cons_succ, List.getElem_toArray, List.getElem_cons_zero, List.getElem_cons_succ]
        refine wpAnyH_take (i := 8) (v := ?v8_17) rfl (by kernel_rfl) (by kernel_rfl) (by kernel_rfl) (fun _ _ _ h => h) (Or.inl ⟨by rfl, ?hy8_17⟩) (by assumption) ?rest8_17
        case hy8_17 => (intro w9 hSw; clear hSw; go_simp; try with_reducible rfl)
        try simp only [Act.put, List.setIfInBounds_toArray, List.set_cons_zero, List.set_cons_succ, List.getElem_toArray, List.getElem_cons_zero, List.getElem_cons_succ]
        refine wpAnyH_take (i := 9) (v := ?v9_18) rfl (by kernel_rfl) (by kernel_rfl) (by kernel_rfl) (fun _ _ _ h => h) (Or.inl ⟨by rfl, ?hy9_18⟩) (by assumption) ?rest9_18
        case hy9_18 => (intro w9 hSw; obtain ⟨sp, sv, ss1⟩ := hSw; obtain ⟨k0, k1, k2, k3, k4, k5, k6, k7, k8⟩ := Vbx.cells sv; obtain ⟨q0, q1, q2, q3, q4, q5, q6, q7, q8⟩ := Vbx.cells sp; obtain ⟨t0, t1, t2, t3, t4⟩ : _ ∧ _ ∧ _ ∧ _ ∧ _ := ⟨Blk.cell ss1 0 rfl, Blk.cell ss1 1 rfl, Blk.cell ss1 2 rfl, Blk.cell ss1 3 rfl, Blk.cell ss1 4 rfl⟩; go_simp; try with_reducible rfl)
        try simp only [Act.put, List.setIfInBounds_toArray, List.set_cons_zero, List.set_cons_succ, List.getElem_toArray, List.getElem_cons_zero, List.getElem_cons_succ]
        refine wpAnyH_ready (rs := [7]) (by kernel_rfl) (by simp) ?_
        refine AllReadyH.cons rfl (fun K hK => ?_) AllReadyH.nil
        go_simp
        with_reducible refine (Cols_any P _).mono ?_
        rintro e w14 ⟨rfl, hb⟩
        replace DM := DM.on hb
        replace DS := DS.on hb
        replace hF := hF.on hb
        replace hst := hst.on hb
        replace D9 := D9.on hb
        replace D11 := D11.on hb
        replace bz := bz.trans (hb.mono bz.size)
        clear hb
        refine hK.out _ _ ⟨D11, D9, DS⟩ (fun hH => ?_)
        clear hK K hS
        have hS := hH
        clear hH
        try simp only [Act.put, List.setIfInBounds_toArray, List.set_cons_zero, List.set_cons_succ, List.getElem_toArray, List.getElem_cons_zero, List.getElem_cons_succ]
        refine wpAnyH_take (i := 10) (v := ?v10_19) rfl (by kernel_rfl) (by kernel_rfl) (by kernel_rfl) (fun _ _ _ h => h) (Or.inl ⟨by rfl, ?hy10_19⟩) (by assumption) ?rest10_19
        case hy10_19 => (intro w9 hSw; clear hSw; go_simp; try with_reducible rfl)
        try simp only [Act.put, List.setIfInBounds_toArray, List.set_cons_zero, List.set_cons_succ, List.getElem_toArray, List.getElem_cons_zero, List.getElem_cons_succ]
        refine wpAnyH_take (i := 11) (v := ?v11_20) rfl (by kernel_rfl) (by kernel_rfl) (by kernel_rfl) (fun _ _ _ h => h) (Or.inl ⟨by rfl, ?hy11_20⟩) (by assumption) ?rest11_20
        case hy11_20 => (intro w9 hSw; clear hSw; go_simp; try with_reducible rfl)
        try simp only [Act.put, List.setIfInBounds_toArray, List.set_cons_zero, List.set_cons_succ, List.getElem_toArray, List.getElem_cons_zero, List.getElem_cons_succ]
        refine wpAnyH_take (i := 12) (v := ?v12_21) rfl (by kernel_rfl) (by kernel_rfl) (by kernel_rfl) (fun _ _ _ h => h) (Or.inl ⟨by rfl, ?hy12_21⟩) (by assumption) ?rest12_21
        case hy12_21 => (intro w9 hSw; clear hSw; go_simp; try with_reducible rfl)
        try simp only [Act.put, List.setIfInBounds_toArray, List.set_cons_zero, List.set_cons_succ, List.getElem_toArray, List.getElem_cons_zero, List.getElem_cons_succ]
        refine wpAnyH_take (i := 13) (v := ?v13_22) rfl (by kernel_rfl) (by kernel_rfl) (by kernel_rfl) (fun _ _ _ h => h) (Or.inl ⟨by rfl, ?hy13_22⟩) (by assumption) ?rest13_22
        case hy13_22 => (intro w9 hSw; clear hSw; go_simp; try with_reducible rfl)
        try simp only [Act.put, List.setIfInBounds_toArray, List.set_cons_zero, List.set_cons_succ, List.getElem_toArray, List.getElem_cons_zero, List.getElem_cons_succ]
        refine wpAnyH_take (i := 14) (v := ?v14_23) rfl (by kernel_rfl) (by kernel_rfl) (by kernel_rfl) (fun _ _ _ h => h) (Or.inl ⟨by rfl, ?hy14_23⟩) (by assumption) ?rest14_23
        case hy14_23 => (intro w9 hSw; clear hSw; go_simp; try with_reducible rfl)
        try simp only [Act.put, List.setIfInBounds_toArray, List.set_cons_zero, List.set_cons_succ, List.getElem_toArray, List.getElem_cons_zero, List.getElem_cons_succ]
        refine wpAnyH_take (i := 15) (v := ?v15_24) rfl (by kernel_rfl) (by kernel_rfl) (by kernel_rfl) (fun _ _ _ h => h) (Or.inl ⟨by rfl, ?hy15_24⟩) (by assumption) ?rest15_24
        case hy15_24 => (intro w9 hSw; clear hSw; go_simp; try with_reducible rfl)
        try simp only [Act.put, List.setIfInBounds_toArray, List.set_cons_zero, List.set_cons_succ, List.getElem_toArray, List.getElem_cons_zero, List.getElem_cons_succ]
        refine wpAnyH_take (i := 16) (v := ?v16_25) rfl (by kernel_rfl) (by kernel_rfl) (by kernel_rfl) (fun _ _ _ h => h) (Or.inl ⟨by rfl, ?hy16_25⟩) (by assumption) ?rest16_25
        case hy16_25 => (intro w9 hSw; clear hSw; go_simp; try with_reducible rfl)
        try simp only [Act.put, List.setIfInBounds_toArray, List.set_cons_zero, List.set_cons_succ, List.getElem_toArray, List.getElem_cons_zero, List.getElem_cons_succ]
        refine wpAnyH_take (i := 17) (v := undef) rfl (by kernel_rfl) (by kernel_rfl) (by kernel_rfl) (fun _ _ _ h => h) (Or.inr ⟨by rfl, rfl⟩) (by assumption) ?_
        try simp only [Act.put, List.setIfInBounds_toArray, List.set_cons_zero, List.set_cons_succ, List.getElem_toArray, List.getElem_cons_zero, List.getElem_cons_succ]
        refine wpAnyH_take (i := 18) (v := undef) rfl (by kernel_rfl) (by kernel_rfl) (by kernel_rfl) (fun _ _ _ h => h) (Or.inr ⟨by rfl, rfl⟩) (by assumption) ?_
        try simp only [Act.put, List.setIfInBounds_toArray, List.set_cons_zero, List.set_cons_succ, List.getElem_toArray, List.getElem_cons_zero, List.getElem_cons_succ]
        refine wpAnyH_take (i := 19) (v := ?v19_26) rfl (by kernel_rfl) (by kernel_rfl) (by kernel_rfl) (fun _ _ _ h => h) (Or.inl ⟨by rfl, ?hy19_26⟩) (by assumption) ?rest19_26
        case hy19_26 => (intro w9 hSw; clear hSw; go_simp; try with_reducible rfl)
        try simp only [Act.put, List.setIfInBounds_toArray, List.set_cons_zero, List.set_cons_succ, List.getElem_toArray, List.getElem_cons_zero, List.getElem_cons_succ]
        refine wpAnyH_take (i := 20) (v := ?v20_27) rfl (by kernel_rfl) (by kernel_rfl) (by kernel_rfl) (fun _ _ _ h => h) (Or.inl ⟨by rfl, ?hy20_27⟩) (by assumption) ?rest20_27
        case hy20_27 => (intro w9 hSw; clear hSw; go_simp; try with_reducible rfl)
        try simp only [Act.put, List.setIfInBounds_toArray, List.set_cons_zero, List.set_cons_succ, List.getElem_toArray, List.getElem_cons_zero, List.getElem_cons_succ]
        refine wpAnyH_take (i := 21) (v := undef) rfl (by kernel_rfl) (by kernel_rfl) (by kernel_rfl) (fun _ _ _ h => h) (Or.inr ⟨by rfl, rfl⟩) (by assumption) ?_
        try simp only [Act.put, List.setIfInBounds_toArray, List.set_cons_zero, List.set_cons_succ, List.getElem_toArray, List.getElem_cons_zero, List.getElem_cons_succ]
        refine wpAnyH_take (i := 22) (v := undef) rfl (by kernel_rfl) (by kernel_rfl) (by kernel_rfl) (fun _ _ _ h => h) (Or.inr ⟨by rfl, rfl⟩) (by assumption) ?_
        try simp only [Act.put, List.setIfInBounds_toArray, List.set_cons_zero, List.set_cons_succ, List.getElem_toArray, List.getElem_cons_zero, List.getElem_cons_succ]
        refine wpAnyH_take (i := 23) (v := undef) rfl (by kernel_rfl) (by kernel_rfl) (by kernel_rfl) (fun _ _ _ h => h) (Or.inr ⟨by rfl, rfl⟩) (by assumption) ?_
        try simp only [Act.put, List.setIfInBounds_toArray, List.set_cons_zero, List.set_cons_succ, List.getElem_toArray, List.getElem_cons_zero, List.getElem_cons_succ]
        refine wpAnyH_take (i := 24) (v := undef) rfl (by kernel_rfl) (by kernel_rfl) (by kernel_rfl) (fun _ _ _ h => h) (Or.inr ⟨by rfl, rfl⟩) (by assumption) ?_
        try simp only [Act.put, List.setIfInBounds_toArray, List.set_cons_zero, List.set_cons_succ, List.getElem_toArray, List.getElem_cons_zero, List.getElem_cons_succ]
        refine wpAnyH_take (i := 25) (v := ?v25_28) rfl (by kernel_rfl) (by kernel_rfl) (by kernel_rfl) (fun _ _ _ h => h) (Or.inl ⟨by rfl, ?hy25_28⟩) (by assumption) ?rest25_28
        case hy25_28 => (intro w9 hSw; clear hSw; go_simp; try with_reducible rfl)
        try simp only [Act.put, List.setIfInBounds_toArray, List.set_cons_zero, List.set_cons_succ, List.getElem_toArray, List.getElem_cons_zero, List.getElem_cons_succ]
        refine wpAnyH_take (i := 26) (v := ?v26_29) rfl (by kernel_rfl) (by kernel_rfl) (by kernel_rfl) (fun _ _ _ h => h) (Or.inl ⟨by rfl, ?hy26_29⟩) (by assumption) ?rest26_29
        case hy26_29 => (intro w9 hSw; clear hSw; go_simp; try with_reducible rfl)
        try simp only [Act.put, List.setIfInBounds_toArray, List.set_cons_zero, List.set_cons_succ, List.getElem_toArray, List.getElem_cons_zero, List.getElem_cons_succ]
        refine wpAnyH_take (i := 27) (v := undef) rfl (by kernel_rfl) (by kernel_rfl) (by kernel_rfl) (fun _ _ _ h => h) (Or.inr ⟨by rfl, rfl⟩) (by assumption) ?_
        try simp only [Act.put, List.setIfInBounds_toArray, List.set_cons_zero, List.set_cons_succ, List.getElem_toArray, List.getElem_cons_zero, List.getElem_cons_succ]
        refine wpAnyH_take (i := 28) (v := undef) rfl (by kernel_rfl) (by kernel_rfl) (by kernel_rfl) (fun _ _ _ h => h) (Or.inr ⟨by rfl, rfl⟩) (by assumption) ?_
        try simp only [Act.put, List.setIfInBounds_toArray, List.set_cons_zero, List.set_cons_succ, List.getElem_toArray, List.getElem_cons_zero, List.getElem_cons_succ]
        refine wpAnyH_take (i := 29) (v := undef) rfl (by kernel_rfl) (by kernel_rfl) (by kernel_rfl) (fun _ _ _ h => h) (Or.inr ⟨by rfl, rfl⟩) (by assumption) ?_
        try simp only [Act.put, List.setIfInBounds_toArray, List.set_cons_zero, List.set_cons_succ, List.getElem_toArray, List.getElem_cons_zero, List.getElem_cons_succ]
        refine wpAnyH_take (i := 30) (v := undef) rfl (by kernel_rfl) (by kernel_rfl) (by kernel_rfl) (fun _ _ _ h => h) (Or.inr ⟨by rfl, rfl⟩) (by assumption) ?_
        try simp only [Act.put, List.setIfInBounds_toArray, List.set_cons_zero, List.set_cons_succ, List.getElem_toArray, List.getElem_cons_zero, List.getElem_cons_succ]
        refine wpAnyH_take (i := 31) (v := ?v31_30) rfl (by kernel_rfl) (by kernel_rfl) (by kernel_rfl) (fun _ _ _ h => h) (Or.inl ⟨by rfl, ?hy31_30⟩) (by assumption) ?rest31_30
        case hy31_30 => (intro w9 hSw; clear hSw; go_simp; try with_reducible rfl)
        try simp only [Act.put, List.setIfInBounds_toArray, List.set_cons_zero, List.set_cons_succ, List.getElem_toArray, List.getElem_cons_zero, List.getElem_cons_succ]
        refine wpAnyH_done (by kernel_rfl) ?_ _
        go_wp2_with fail
        go_ret
        exact ⟨rfl, bz⟩
      · rcases Int.lt_or_le j 0 with g4 | g4
        · have d0 : decide (i < 0) = false := decide_eq_false (by omega)
          refine wp_region_held_drew (S := fun w9 : World => Vbx w9 HD11 P ∧ Vbx w9 HD9 (Vu.all s R C) ∧ Blk w9 (w.heap.size + 1) [.int .i64 K0, .int .i64 A0, .int .i64 B0, .int .i64 C0, .int .i64 D0]) (by kernel_rfl) ⟨D11, D9, DS⟩ (fun hS => ?_)
          refine wpAnyH_take (i := 0) (v := ?v0_31) rfl (by kernel_rfl) (by kernel_rfl) (by kernel_rfl) (fun _ _ _ h => h) (Or.inl ⟨by rfl, ?hy0_31⟩) (by assumption) ?rest0_31
          case hy0_31 => (intro w9 hSw; obtain ⟨sp, sv, ss1⟩ := hSw; obtain ⟨k0, k1, k2, k3, k4, k5, k6, k7, k8⟩ := Vbx.cells sv; obtain ⟨q0, q1, q2, q3, q4, q5, q6, q7, q8⟩ := Vbx.cells sp; obtain ⟨t0, t1, t2, t3, t4⟩ : _ ∧ _ ∧ _ ∧ _ ∧ _ := ⟨Blk.cell ss1 0 rfl, Blk.cell ss1 1 rfl, Blk.cell ss1 2 rfl, Blk.cell ss1 3 rfl, Blk.cell ss1 4 rfl⟩; go_simp; try with_reducible rfl)
          try simp only [Act.put, List.setIfInBounds_toArray, List.set_cons_zero, List.set_cons_succ, List.getElem_toArray, List.getElem_cons_zero, List.getElem_cons_succ]
          refine wpAnyH_take (i := 2) (v := ?v2_32) rfl (by kernel_rfl) (by kernel_rfl) (by kernel_rfl) (fun _ _ _ h => h) (Or.inl ⟨by rfl, ?hy2_32⟩) (by assumption) ?rest2_32
          case hy2_32 => (intro w9 hSw; clear hSw; go_simp; try with_reducible rfl)
          try simp only [Act.put, List.setIfInBounds_toArray, List.set_cons_zero, List.set_cons_succ, List.getElem_toArray, List.getElem_cons_zero, List.getElem_cons_succ]
          refine wpAnyH_take (i := 3) (v := ?v3_33) rfl (by kernel_rfl) (by kernel_rfl) (by kernel_rfl) (fun _ _ _ h => h) (Or.inl ⟨by rfl, ?hy3_33⟩) (by assumption) ?rest3_33
          case hy3_33 => (intro w9 hSw; obtain ⟨sp, sv, ss1⟩ := hSw; obtain ⟨k0, k1, k2, k3, k4, k5, k6, k7, k8⟩ := Vbx.cells sv; obtain ⟨q0, q1, q2, q3, q4, q5, q6, q7, q8⟩ := Vbx.cells sp; obtain ⟨t0, t1, t2, t3, t4⟩ : _ ∧ _ ∧ _ ∧ _ ∧ _ := ⟨Blk.cell ss1 0 rfl, Blk.cell ss1 1 rfl, Blk.cell ss1 2 rfl, Blk.cell ss1 3 rfl, Blk.cell ss1 4 rfl⟩; go_simp; try with_reducible rfl)
          try simp only [Act.put, List.setIfInBounds_toArray, List.set_cons_zero, List.set_cons_succ, List.getElem_toArray, List.getElem_cons_zero, List.getElem_cons_succ]
          refine wpAnyH_ready (rs := [1]) (by kernel_rfl) (by simp) ?_
          refine AllReadyH.cons rfl (fun K hK => ?_) AllReadyH.nil
          go_simp
          with_reducible refine (Rows_any P _).mono ?_
          rintro e w13 ⟨rfl, hb⟩
          replace DM := DM.on hb
          replace DS := DS.on hb
          replace hF := hF.on hb
          replace hst := hst.on hb
          replace D9 := D9.on hb
          replace D11 := D11.on hb
          replace bz := bz.trans (hb.mono bz.size)
          clear hb
          refine hK.out _ _ ⟨D11, D9, DS⟩ (fun hH => ?_)
          clear hK K hS
          have hS := hH
          clear hH
          try simp only [Act.put, List.setIfInBounds_toArray, List.set_cons_zero, List.set_cons_succ, List.getElem_toArray, List.getElem_cons_zero, List.getElem_cons_succ]
          refine wpAnyH_take (i := 4) (v := ?v4_34) rfl (by kernel_rfl) (by kernel_rfl) (by kernel_rfl) (fun _ _ _ h => h) (Or.inl ⟨by rfl, ?hy4_34⟩) (by assumption) ?rest4_34
          case hy4_34 => (intro w9 hSw; clear hSw; go_simp; try with_reducible rfl)
          try simp only [Act.put, List.setIfInBounds_toArray, List.set_cons_zero, List.set_cons_succ, List.getElem_toArray, List.getElem_cons_zero, List.getElem_cons_succ]
          refine wpAnyH_take (i := 5) (v := ?v5_35) rfl (by kernel_rfl) (by kernel_rfl) (by kernel_rfl) (fun _ _ _ h => h) (Or.inl ⟨by rfl, ?hy5_35⟩) (by assumption) ?rest5_35
          case hy5_35 => (intro w9 hSw; clear hSw; go_simp; try with_reducible rfl)
          try simp only [Act.put, List.setIfInBounds_toArray, List.set_cons_zero, List.set_cons_succ, List.getElem_toArray, List.getElem_cons_zero, List.getElem_cons_succ]
          refine wpAnyH_take (i := 6) (v := ?v6_36) rfl (by kernel_rfl) (by kernel_rfl) (by kernel_rfl) (fun _ _ _ h => h) (Or.inl ⟨by rfl, ?hy6_36⟩) (by assumption) ?rest6_36
          case hy6_36 => (intro w9 hSw; obtain ⟨sp, sv, ss1⟩ := hSw; obtain ⟨k0, k1, k2, k3, k4, k5, k6, k7, k8⟩ := Vbx.cells sv; obtain ⟨q0, q1, q2, q3, q4, q5, q6, q7, q8⟩ := Vbx.cells sp; obtain ⟨t0, t1, t2, t3, t4⟩ : _ ∧ _ ∧ _ ∧ _ ∧ _ := ⟨Blk.cell ss1 0 rfl, Blk.cell ss1 1 rfl, Blk.cell ss1 2 rfl, Blk.cell ss1 3 rfl, Blk.cell ss1 4 rfl⟩; go_simp; try with_reducible rfl)
          try simp only [Act.put, List.setIfInBounds_toArray, List.set_cons_zero, List.set_cons_succ, List.getElem_toArray, List.getElem_cons_zero, List.getElem_cons_succ]
          refine wpAnyH_take (i := 8) (v := ?v8_37) rfl (by kernel_rfl) (by kernel_rfl) (by kernel_rfl) (fun _ _ _ h => h) (Or.inl ⟨by rfl, ?hy8_37⟩) (by assumption) ?rest8_37
          case hy8_37 => (intro w9 hSw; clear hSw; go_simp; try with_reducible rfl)
          try simp only [Act.put, List.setIfInBounds_toArray, List.set_cons_zero, List.set_cons_succ, List.getElem_toArray, List.getElem_cons_zero, List.getElem_cons_succ]
          refine wpAnyH_take (i := 9) (v := ?v9_38) rfl (by kernel_rfl) (by kernel_rfl) (by kernel_rfl) (fun _ _ _ h => h) (Or.inl ⟨by rfl, ?hy9_38⟩) (by assumption) ?rest9_38
          case hy9_38 => (intro w9 hSw; obtain ⟨sp, sv, ss1⟩ := hSw; obtain ⟨k0, k1, k2, k3, k4, k5, k6, k7, k8⟩ := Vbx.cells sv; obtain ⟨q0, q1, q2, q3, q4, q5, q6, q7, q8⟩ := Vbx.cells sp; obtain ⟨t0, t1, t2, t3, t4⟩ : _ ∧ _ ∧ _ ∧ _ ∧ _ := ⟨Blk.cell ss1 0 rfl, Blk.cell ss1 1 rfl, Blk.cell ss1 2 rfl, Blk.cell ss1 3 rfl, Blk.cell ss1 4 rfl⟩; go_simp; try with_reducible rfl)
          try simp only [Act.put, List.setIfInBounds_toArray, List.set_cons_zero, List.set_cons_succ, List.getElem_toArray, List.getElem_cons_zero, List.getElem_cons_succ]
          refine wpAnyH_ready (rs := [7]) (by kernel_rfl) (by simp) ?_
          refine AllReadyH.cons rfl (fun K hK => ?_) AllReadyH.nil
          go_simp
          with_reducible refine (Cols_any P _).mono ?_
          rintro e w14 ⟨rfl, hb⟩
          replace DM := DM.on hb
          replace DS := DS.on hb
          replace hF := hF.on hb
          replace hst := hst.on hb
          replace D9 := D9.on hb
          replace D11 := D11.on hb
          replace bz := bz.trans (hb.mono bz.size)
          clear hb
          refine hK.out _ _ ⟨D11, D9, DS⟩ (fun hH => ?_)
          clear hK K hS
          have hS := hH
          clear hH
          try simp only [Act.put, List.setIfInBounds_toArray, List.set_cons_zero, List.set_cons_succ, List.getElem_toArray, List.getElem_cons_zero, List.getElem_cons_succ]
          refine wpAnyH_take (i := 10) (v := ?v10_39) rfl (by kernel_rfl) (by kernel_rfl) (by kernel_rfl) (fun _ _ _ h => h) (Or.inl ⟨by rfl, ?hy10_39⟩) (by assumption) ?rest10_39
          case hy10_39 => (intro w9 hSw; clear hSw; go_simp; try with_reducible rfl)
          try simp only [Act.put, List.setIfInBounds_toArray, List.set_cons_zero, List.set_cons_succ, List.getElem_toArray, List.getElem_cons_zero, List.getElem_cons_succ]
          refine wpAnyH_take (i := 11) (v := ?v11_40) rfl (by kernel_rfl) (by kernel_rfl) (by kernel_rfl) (fun _ _ _ h => h) (Or.inl ⟨by rfl, ?hy11_40⟩) (by assumption) ?rest11_40
          case hy11_40 => (intro w9 hSw; clear hSw; go_simp; try with_reducible rfl)
          try simp only [Act.put, List.setIfInBounds_toArray, List.set_cons_zero, List.set_cons_succ, List.getElem_toArray, List.getElem_cons_zero, List.getElem_cons_succ]
          refine wpAnyH_take (i := 12) (v := ?v12_41) rfl (by kernel_rfl) (by kernel_rfl) (by kernel_rfl) (fun _ _ _ h => h) (Or.inl ⟨by rfl, ?hy12_41⟩) (by assumption) ?rest12_41
          case hy12_41 => (intro w9 hSw; clear hSw; go_simp; try with_reducible rfl)
          try simp only [Act.put, List.setIfInBounds_toArray, List.set_cons_zero, List.set_cons_succ, List.getElem_toArray, List.getElem_cons_zero, List.getElem_cons_succ]
          refine wpAnyH_take (i := 13) (v := ?v13_42) rfl (by kernel_rfl) (by kernel_rfl) (by kernel_rfl) (fun _ _ _ h => h) (Or.inl ⟨by rfl, ?hy13_42⟩) (by assumption) ?rest13_42
          case hy13_42 => (intro w9 hSw; clear hSw; go_simp; try with_reducible rfl)
          try simp only [Act.put, List.setIfInBounds_toArray, List.set_cons_zero, List.set_cons_succ, List.getElem_toArray, List.getElem_cons_zero, List.getElem_cons_succ]
          refine wpAnyH_take (i := 14) (v := ?v14_43) rfl (by kernel_rfl) (by kernel_rfl) (by kernel_rfl) (fun _ _ _ h => h) (Or.inl ⟨by rfl, ?hy14_43⟩) (by assumption) ?rest14_43
          case hy14_43 => (intro w9 hSw; clear hSw; go_simp; try with_reducible rfl)
          try simp only [Act.put, List.setIfInBounds_toArray, List.set_cons_zero, List.set_cons_succ, List.getElem_toArray, List.getElem_cons_zero, List.getElem_cons_succ]
          refine wpAnyH_take (i := 15) (v := ?v15_44) rfl (by kernel_rfl) (by kernel_rfl) (by kernel_rfl) (fun _ _ _ h => h) (Or.inl ⟨by rfl, ?hy15_44⟩) (by assumption) ?rest15_44
          case hy15_44 => (intro w9 hSw; clear hSw; go_simp; try with_reducible rfl)
          try simp only [Act.put, List.setIfInBounds_toArray, List.set_cons_zero, List.set_cons_succ, List.getElem_toArray, List.getElem_cons_zero, List.getElem_cons_succ]
          refine wpAnyH_take (i := 16) (v := ?v16_45) rfl (by kernel_rfl) (by kernel_rfl) (by kernel_rfl) (fun _ _ _ h => h) (Or.inl ⟨by rfl, ?hy16_45⟩) (by assumption) ?rest16_45
          case hy16_45 => (intro w9 hSw; clear hSw; go_simp; try with_reducible rfl)
          try simp only [Act.put, List.setIfInBounds_toArray, List.set_cons_zero, List.set_cons_succ, List.getElem_toArray, List.getElem_cons_zero, List.getElem_cons_succ]
          refine wpAnyH_take (i := 17) (v := ?v17_46) rfl (by kernel_rfl) (by kernel_rfl) (by kernel_rfl) (fun _ _ _ h => h) (Or.inl ⟨by rfl, ?hy17_46⟩) (by assumption) ?rest17_46
          case hy17_46 => (intro w9 hSw; clear hSw; go_simp; try with_reducible rfl)
          try simp only [Act.put, List.setIfInBounds_toArray, List.set_cons_zero, List.set_cons_succ, List.getElem_toArray, List.getElem_cons_zero, List.getElem_cons_succ]
          refine wpAnyH_take (i := 18) (v := ?v18_47) rfl (by kernel_rfl) (by kernel_rfl) (by kernel_rfl) (fun _ _ _ h => h) (Or.inl ⟨by rfl, ?hy18_47⟩) (by assumption) ?rest18_47
          case hy18_47 => (intro w9 hSw; clear hSw; go_simp; try with_reducible rfl)
          try simp only [Act.put, List.setIfInBounds_toArray, List.set_cons_zero, List.set_cons_succ, List.getElem_toArray, List.getElem_cons_zero, List.getElem_cons_succ]
          refine wpAnyH_take (i := 19) (v := ?v19_48) rfl (by kernel_rfl) (by kernel_rfl) (by kernel_rfl) (fun _ _ _ h => h) (Or.inl ⟨by rfl, ?hy19_48⟩) (by assumption) ?rest19_48
          case hy19_48 => (intro w9 hSw; clear hSw; go_simp; try with_reducible rfl)
          try simp only [Act.put, List.setIfInBounds_toArray, List.set_cons_zero, List.set_cons_succ, List.getElem_toArray, List.getElem_cons_zero, List.getElem_cons_succ]
          refine wpAnyH_take (i := 20) (v := ?v20_49) rfl (by kernel_rfl) (by kernel_rfl) (by kernel_rfl) (fun _ _ _ h => h) (Or.inl ⟨by rfl, ?hy20_49⟩) (by assumption) ?rest20_49
          case hy20_49 => (intro w9 hSw; clear hSw; go_simp; try with_reducible rfl)
          try simp only [Act.put, List.setIfInBounds_toArray, List.set_cons_zero, List.set_cons_succ, List.getElem_toArray, List.getElem_cons_zero, List.getElem_cons_succ]
          refine wpAnyH_take (i := 21) (v := undef) rfl (by kernel_rfl) (by kernel_rfl) (by kernel_rfl) (fun _ _ _ h => h) (Or.inr ⟨by rfl, rfl⟩) (by assumption) ?_
          try simp only [Act.put, List.setIfInBounds_toArray, List.set_cons_zero, List.set_cons_succ, List.getElem_toArray, List.getElem_cons_zero, List.getElem_cons_succ]
          refine wpAnyH_take (i := 22) (v := undef) rfl (by kernel_rfl) (by kernel_rfl) (by kernel_rfl) (fun _ _ _ h => h) (Or.inr ⟨by rfl, rfl⟩) (by assumption) ?_
          try simp only [Act.put, List.setIfInBounds_toArray, List.set_cons_zero, List.set_cons_succ, List.getElem_toArray, List.getElem_cons_zero, List.getElem_cons_succ]
          refine wpAnyH_take (i := 23) (v := undef) rfl (by kernel_rfl) (by kernel_rfl) (by kernel_rfl) (fun _ _ _ h => h) (Or.inr ⟨by rfl, rfl⟩) (by assumption) ?_
          try simp only [Act.put, List.setIfInBounds_toArray, List.set_cons_zero, List.set_cons_succ, List.getElem_toArray, List.getElem_cons_zero, List.getElem_cons_succ]
          refine wpAnyH_take (i := 24) (v := undef) rfl (by kernel_rfl) (by kernel_rfl) (by kernel_rfl) (fun _ _ _ h => h) (Or.inr ⟨by rfl, rfl⟩) (by assumption) ?_
          try simp only [Act.put, List.setIfInBounds_toArray, List.set_cons_zero, List.set_cons_succ, List.getElem_toArray, List.getElem_cons_zero, List.getElem_cons_succ]
          refine wpAnyH_take (i := 25) (v := ?v25_50) rfl (by kernel_rfl) (by kernel_rfl) (by kernel_rfl) (fun _ _ _ h => h) (Or.inl ⟨by rfl, ?hy25_50⟩) (by assumption) ?rest25_50
          case hy25_50 => (intro w9 hSw; clear hSw; go_simp; try with_reducible rfl)
          try simp only [Act.put, List.setIfInBounds_toArray, List.set_cons_zero, List.set_cons_succ, List.getElem_toArray, List.getElem_cons_zero, List.getElem_cons_succ]
          refine wpAnyH_take (i := 26) (v := ?v26_51) rfl (by kernel_rfl) (by kernel_rfl) (by kernel_rfl) (fun _ _ _ h => h) (Or.inl ⟨by rfl, ?hy26_51⟩) (by assumption) ?rest26_51
          case hy26_51 => (intro w9 hSw; clear hSw; go_simp; try with_reducible rfl)
          try simp only [Act.put, List.setIfInBounds_toArray, List.set_cons_zero, List.set_cons_succ, List.getElem_toArray, List.getElem_cons_zero, List.getElem_cons_succ]
          refine wpAnyH_take (i := 27) (v := undef) rfl (by kernel_rfl) (by kernel_rfl) (by kernel_rfl) (fun _ _ _ h => h) (Or.inr ⟨by rfl, rfl⟩) (by assumption) ?_
          try simp only [Act.put, List.setIfInBounds_toArray, List.set_cons_zero, List.set_cons_succ, List.getElem_toArray, List.getElem_cons_zero, List.getElem_cons_succ]
          refine wpAnyH_take (i := 28) (v := undef) rfl (by kernel_rfl) (by kernel_rfl) (by kernel_rfl) (fun _ _ _ h => h) (Or.inr ⟨by rfl, rfl⟩) (by assumption) ?_
          try simp only [Act.put, List.setIfInBounds_toArray, List.set_cons_zero, List.set_cons_succ, List.getElem_toArray, List.getElem_cons_zero, List.getElem_cons_succ]
          refine wpAnyH_take (i := 29) (v := undef) rfl (by kernel_rfl) (by kernel_rfl) (by kernel_rfl) (fun _ _ _ h => h) (Or.inr ⟨by rfl, rfl⟩) (by assumption) ?_
          try simp only [Act.put, List.setIfInBounds_toArray, List.set_cons_zero, List.set_cons_succ, List.getElem_toArray, List.getElem_cons_zero, List.getElem_cons_succ]
          refine wpAnyH_take (i := 30) (v := undef) rfl (by kernel_rfl) (by kernel_rfl) (by kernel_rfl) (fun _ _ _ h => h) (Or.inr ⟨by rfl, rfl⟩) (by assumption) ?_
          try simp only [Act.put, List.setIfInBounds_toArray, List.set_cons_zero, List.set_cons_succ, List.getElem_toArray, List.getElem_cons_zero, List.getElem_cons_succ]
          refine wpAnyH_take (i := 31) (v := ?v31_52) rfl (by kernel_rfl) (by kernel_rfl) (by kernel_rfl) (fun _ _ _ h => h) (Or.inl ⟨by rfl, ?hy31_52⟩) (by assumption) ?rest31_52
          case hy31_52 => (intro w9 hSw; clear hSw; go_simp; try with_reducible rfl)
          try simp only [Act.put, List.setIfInBounds_toArray, List.set_cons_zero, List.set_cons_succ, List.getElem_toArray, List.getElem_cons_zero, List.getElem_cons_succ]
          refine wpAnyH_done (by kernel_rfl) ?_ _
          go_wp2_with fail
          go_ret
          exact ⟨rfl, bz⟩
        · rcases Int.lt_or_le i C0 with g5 | g5
          · rcases Int.lt_or_le j D0 with g6 | g6
            · have d0 : decide (i < 0) = false := decide_eq_false (by omega)
              have d1 : decide (j < 0) = false := decide_eq_false (by omega)
              have d2 : decide (C0 ≤ i) = false := decide_eq_false (by omega)
              have d3 : decide (D0 ≤ j) = false := decide_eq_false (by omega)
              refine wp_region_held_drew (S := fun w9 : World => Vbx w9 HD11 P ∧ Vbx w9 HD9 (Vu.all s R C) ∧ Blk w9 (w.heap.size + 1) [.int .i64 K0, .int .i64 A0, .int .i64 B0, .int .i64 C0, .int .i64 D0]) (by kernel_rfl) ⟨D11, D9, DS⟩ (fun hS => ?_)
              refine wpAnyH_take (i := 0) (v := ?v0_53) rfl (by kernel_rfl) (by kernel_rfl) (by kernel_rfl) (fun _ _ _ h => h) (Or.inl ⟨by rfl, ?hy0_53⟩) (by assumption) ?rest0_53
              case hy0_53 => (intro w9 hSw; obtain ⟨sp, sv, ss1⟩ := hSw; obtain ⟨k0, k1, k2, k3, k4, k5, k6, k7, k8⟩ := Vbx.cells sv; obtain ⟨q0, q1, q2, q3, q4, q5, q6, q7, q8⟩ := Vbx.cells sp; obtain ⟨t0, t1, t2, t3, t4⟩ : _ ∧ _ ∧ _ ∧ _ ∧ _ := ⟨Blk.cell ss1 0 rfl, Blk.cell ss1 1 rfl, Blk.cell ss1 2 rfl, Blk.cell ss1 3 rfl, Blk.cell ss1 4 rfl⟩; go_simp; try with_reducible rfl)
              try simp only [Act.put, List.setIfInBounds_toArray, List.set_cons_zero, List.set_cons_succ, List.getElem_toArray, List.getElem_cons_zero, List.getElem_cons_succ]
              refine wpAnyH_take (i := 2) (v := ?v2_54) rfl (by kernel_rfl) (by kernel_rfl) (by kernel_rfl) (fun _ _ _ h => h) (Or.inl ⟨by rfl, ?hy2_54⟩) (by assumption) ?rest2_54
              case hy2_54 => (intro w9 hSw; clear hSw; go_simp; try with_reducible rfl)
              try simp only [Act.put, List.setIfInBounds_toArray, List.set_cons_zero, List.set_cons_succ, List.getElem_toArray, List.getElem_cons_zero, List.getElem_cons_succ]
              refine wpAnyH_take (i := 3) (v := ?v3_55) rfl (by kernel_rfl) (by kernel_rfl) (by kernel_rfl) (fun _ _ _ h => h) (Or.inl ⟨by rfl, ?hy3_55⟩) (by assumption) ?rest3_55
              case hy3_55 => (intro w9 hSw; obtain ⟨sp, sv, ss1⟩ := hSw; obtain ⟨k0, k1, k2, k3, k4, k5, k6, k7, k8⟩ := Vbx.cells sv; obtain ⟨q0, q1, q2, q3, q4, q5, q6, q7, q8⟩ := Vbx.cells sp; obtain ⟨t0, t1, t2, t3, t4⟩ : _ ∧ _ ∧ _ ∧ _ ∧ _ := ⟨Blk.cell ss1 0 rfl, Blk.cell ss1 1 rfl, Blk.cell ss1 2 rfl, Blk.cell ss1 3 rfl, Blk.cell ss1 4 rfl⟩; go_simp; try with_reducible rfl)
              try simp only [Act.put, List.setIfInBounds_toArray, List.set_cons_zero, List.set_cons_succ, List.getElem_toArray, List.getElem_cons_zero, List.getElem_cons_succ]
              refine wpAnyH_ready (rs := [1]) (by kernel_rfl) (by simp) ?_
              refine AllReadyH.cons rfl (fun K hK => ?_) AllReadyH.nil
              go_simp
              with_reducible refine (Rows_any P _).mono ?_
              rintro e w13 ⟨rfl, hb⟩
              replace DM := DM.on hb
              replace DS := DS.on hb
              replace hF := hF.on hb
              replace hst := hst.on hb
              replace D9 := D9.on hb
              replace D11 := D11.on hb
              replace bz := bz.trans (hb.mono bz.size)
              clear hb
              refine hK.out _ _ ⟨D11, D9, DS⟩ (fun hH => ?_)
              clear hK K hS
              have hS := hH
              clear hH
              try simp only [Act.put, List.setIfInBounds_toArray, List.set_cons_zero, List.set_cons_succ, List.getElem_toArray, List.getElem_cons_zero, List.getElem_cons_succ]
              refine wpAnyH_take (i := 4) (v := ?v4_56) rfl (by kernel_rfl) (by kernel_rfl) (by kernel_rfl) (fun _ _ _ h => h) (Or.inl ⟨by rfl, ?hy4_56⟩) (by assumption) ?rest4_56
              case hy4_56 => (intro w9 hSw; clear hSw; go_simp; try with_reducible rfl)
              try simp only [Act.put, List.setIfInBounds_toArray, List.set_cons_zero, List.set_cons_succ, List.getElem_toArray, List.getElem_cons_zero, List.getElem_cons_succ]
              refine wpAnyH_take (i := 5) (v := ?v5_57) rfl (by kernel_rfl) (by kernel_rfl) (by kernel_rfl) (fun _ _ _ h => h) (Or.inl ⟨by rfl, ?hy5_57⟩) (by assumption) ?rest5_57
              case hy5_57 => (intro w9 hSw; clear hSw; go_simp; try with_reducible rfl)
              try simp only [Act.put, List.setIfInBounds_toArray, List.set_cons_zero, List.set_cons_succ, List.getElem_toArray, List.getElem_cons_zero, List.getElem_cons_succ]
              refine wpAnyH_take (i := 6) (v := ?v6_58) rfl (by kernel_rfl) (by kernel_rfl) (by kernel_rfl) (fun _ _ _ h => h) (Or.inl ⟨by rfl, ?hy6_58⟩) (by assumption) ?rest6_58
              case hy6_58 => (intro w9 hSw; obtain ⟨sp, sv, ss1⟩ := hSw; obtain ⟨k0, k1, k2, k3, k4, k5, k6, k7, k8⟩ := Vbx.cells sv; obtain ⟨q0, q1, q2, q3, q4, q5, q6, q7, q8⟩ := Vbx.cells sp; obtain ⟨t0, t1, t2, t3, t4⟩ : _ ∧ _ ∧ _ ∧ _ ∧ _ := ⟨Blk.cell ss1 0 rfl, Blk.cell ss1 1 rfl, Blk.cell ss1 2 rfl, Blk.cell ss1 3 rfl, Blk.cell ss1 4 rfl⟩; go_simp; try with_reducible rfl)
              try simp only [Act.put, List.setIfInBounds_toArray, List.set_cons_zero, List.set_cons_succ, List.getElem_toArray, List.getElem_cons_zero, List.getElem_cons_succ]
              refine wpAnyH_take (i := 8) (v := ?v8_59) rfl (by kernel_rfl) (by kernel_rfl) (by kernel_rfl) (fun _ _ _ h => h) (Or.inl ⟨by rfl, ?hy8_59⟩) (by assumption) ?rest8_59
              case hy8_59 => (intro w9 hSw; clear hSw; go_simp; try with_reducible rfl)
              try simp only [Act.put, List.setIfInBounds_toArray, List.set_cons_zero, List.set_cons_succ, List.getElem_toArray, List.getElem_cons_zero, List.getElem_cons_succ]
              refine wpAnyH_take (i := 9) (v := ?v9_60) rfl (by kernel_rfl) (by kernel_rfl) (by kernel_rfl) (fun _ _ _ h => h) (Or.inl ⟨by rfl, ?hy9_60⟩) (by assumption) ?rest9_60
              case hy9_60 => (intro w9 hSw; obtain ⟨sp, sv, ss1⟩ := hSw; obtain ⟨k0, k1, k2, k3, k4, k5, k6, k7, k8⟩ := Vbx.cells sv; obtain ⟨q0, q1, q2, q3, q4, q5, q6, q7, q8⟩ := Vbx.cells sp; obtain ⟨t0, t1, t2, t3, t4⟩ : _ ∧ _ ∧ _ ∧ _ ∧ _ := ⟨Blk.cell ss1 0 rfl, Blk.cell ss1 1 rfl, Blk.cell ss1 2 rfl, Blk.cell ss1 3 rfl, Blk.cell ss1 4 rfl⟩; go_simp; try with_reducible rfl)
              try simp only [Act.put, List.setIfInBounds_toArray, List.set_cons_zero, List.set_cons_succ, List.getElem_toArray, List.getElem_cons_zero, List.getElem_cons_succ]
              refine wpAnyH_ready (rs := [7]) (by kernel_rfl) (by simp) ?_
              refine AllReadyH.cons rfl (fun K hK => ?_) AllReadyH.nil
              go_simp
              with_reducible refine (Cols_any P _).mono ?_
              rintro e w14 ⟨rfl, hb⟩
              replace DM := DM.on hb
              replace DS := DS.on hb
              replace hF := hF.on hb
              replace hst := hst.on hb
              replace D9 := D9.on hb
              replace D11 := D11.on hb
              replace bz := bz.trans (hb.mono bz.size)
              clear hb
              refine hK.out _ _ ⟨D11, D9, DS⟩ (fun hH => ?_)
              clear hK K hS
              have hS := hH
              clear hH
              try simp only [Act.put, List.setIfInBounds_toArray, List.set_cons_zero, List.set_cons_succ, List.getElem_toArray, List.getElem_cons_zero, List.getElem_cons_succ]
              refine wpAnyH_take (i := 10) (v := ?v10_61) rfl (by kernel_rfl) (by kernel_rfl) (by kernel_rfl) (fun _ _ _ h => h) (Or.inl ⟨by rfl, ?hy10_61⟩) (by assumption) ?rest10_61
              case hy10_61 => (intro w9 hSw; clear hSw; go_simp; try with_reducible rfl)
              try simp only [Act.put, List.setIfInBounds_toArray, List.set_cons_zero, List.set_cons_succ, List.getElem_toArray, List.getElem_cons_zero, List.getElem_cons_succ]
              refine wpAnyH_take (i := 11) (v := ?v11_62) rfl (by kernel_rfl) (by kernel_rfl) (by kernel_rfl) (fun _ _ _ h => h) (Or.inl ⟨by rfl, ?hy11_62⟩) (by assumption) ?rest11_62
              case hy11_62 => (intro w9 hSw; clear hSw; go_simp; try with_reducible rfl)
              try simp only [Act.put, List.setIfInBounds_toArray, List.set_cons_zero, List.set_cons_succ, List.getElem_toArray, List.getElem_cons_zero, List.getElem_cons_succ]
              refine wpAnyH_take (i := 12) (v := ?v12_63) rfl (by kernel_rfl) (by kernel_rfl) (by kernel_rfl) (fun _ _ _ h => h) (Or.inl ⟨by rfl, ?hy12_63⟩) (by assumption) ?rest12_63
              case hy12_63 => (intro w9 hSw; clear hSw; go_simp; try with_reducible rfl)
              try simp only [Act.put, List.setIfInBounds_toArray, List.set_cons_zero, List.set_cons_succ, List.getElem_toArray, List.getElem_cons_zero, List.getElem_cons_succ]
              refine wpAnyH_take (i := 13) (v := ?v13_64) rfl (by kernel_rfl) (by kernel_rfl) (by kernel_rfl) (fun _ _ _ h => h) (Or.inl ⟨by rfl, ?hy13_64⟩) (by assumption) ?rest13_64
              case hy13_64 => (intro w9 hSw; clear hSw; go_simp; try with_reducible rfl)
              try simp only [Act.put, List.setIfInBounds_toArray, List.set_cons_zero, List.set_cons_succ, List.getElem_toArray, List.getElem_cons_zero, List.getElem_cons_succ]
              refine wpAnyH_take (i := 14) (v := ?v14_65) rfl (by kernel_rfl) (by kernel_rfl) (by kernel_rfl) (fun _ _ _ h => h) (Or.inl ⟨by rfl, ?hy14_65⟩) (by assumption) ?rest14_65
              case hy14_65 => (intro w9 hSw; clear hSw; go_simp; try with_reducible rfl)
              try simp only [Act.put, List.setIfInBounds_toArray, List.set_cons_zero, List.set_cons_succ, List.getElem_toArray, List.getElem_cons_zero, List.getElem_cons_succ]
              refine wpAnyH_take (i := 15) (v := ?v15_66) rfl (by kernel_rfl) (by kernel_rfl) (by kernel_rfl) (fun _ _ _ h => h) (Or.inl ⟨by rfl, ?hy15_66⟩) (by assumption) ?rest15_66
              case hy15_66 => (intro w9 hSw; clear hSw; go_simp; try with_reducible rfl)
              try simp only [Act.put, List.setIfInBounds_toArray, List.set_cons_zero, List.set_cons_succ, List.getElem_toArray, List.getElem_cons_zero, List.getElem_cons_succ]
              refine wpAnyH_take (i := 16) (v := ?v16_67) rfl (by kernel_rfl) (by kernel_rfl) (by kernel_rfl) (fun _ _ _ h => h) (Or.inl ⟨by rfl, ?hy16_67⟩) (by assumption) ?rest16_67
              case hy16_67 => (intro w9 hSw; clear hSw; go_simp; try with_reducible rfl)
              try simp only [Act.put, List.setIfInBounds_toArray, List.set_cons_zero, List.set_cons_succ, List.getElem_toArray, List.getElem_cons_zero, List.getElem_cons_succ]
              refine wpAnyH_take (i := 17) (v := ?v17_68) rfl (by kernel_rfl) (by kernel_rfl) (by kernel_rfl) (fun _ _ _ h => h) (Or.inl ⟨by rfl, ?hy17_68⟩) (by assumption) ?rest17_68
              case hy17_68 => (intro w9 hSw; clear hSw; go_simp; try with_reducible rfl)
              try simp only [Act.put, List.setIfInBounds_toArray, List.set_cons_zero, List.set_cons_succ, List.getElem_toArray, List.getElem_cons_zero, List.getElem_cons_succ]
              refine wpAnyH_take (i := 18) (v := ?v18_69) rfl (by kernel_rfl) (by kernel_rfl) (by kernel_rfl) (fun _ _ _ h => h) (Or.inl ⟨by rfl, ?hy18_69⟩) (by assumption) ?rest18_69
              case hy18_69 => (intro w9 hSw; clear hSw; go_simp; try with_reducible rfl)
              try simp only [Act.put, List.setIfInBounds_toArray, List.set_cons_zero, List.set_cons_succ, List.getElem_toArray, List.getElem_cons_zero, List.getElem_cons_succ]
              refine wpAnyH_take (i := 19) (v := ?v19_70) rfl (by kernel_rfl) (by kernel_rfl) (by kernel_rfl) (fun _ _ _ h => h) (Or.inl ⟨by rfl, ?hy19_70⟩) (by assumption) ?rest19_70
              case hy19_70 => (intro w9 hSw; clear hSw; go_simp; try with_reducible rfl)
              try simp only [Act.put, List.setIfInBounds_toArray, List.set_cons_zero, List.set_cons_succ, List.getElem_toArray, List.getElem_cons_zero, List.getElem_cons_succ]
              refine wpAnyH_take (i := 20) (v := ?v20_71) rfl (by kernel_rfl) (by kernel_rfl) (by kernel_rfl) (fun _ _ _ h => h) (Or.inl ⟨by rfl, ?hy20_71⟩) (by assumption) ?rest20_71
              case hy20_71 => (intro w9 hSw; clear hSw; go_simp; try with_reducible rfl)
              try simp only [Act.put, List.setIfInBounds_toArray, List.set_cons_zero, List.set_cons_succ, List.getElem_toArray, List.getElem_cons_zero, List.getElem_cons_succ]
              refine wpAnyH_take (i := 21) (v := ?v21_72) rfl (by kernel_rfl) (by kernel_rfl) (by kernel_rfl) (fun _ _ _ h => h) (Or.inl ⟨by rfl, ?hy21_72⟩) (by assumption) ?rest21_72
              case hy21_72 => (intro w9 hSw; clear hSw; go_simp; try with_reducible rfl)
              try simp only [Act.put, List.setIfInBounds_toArray, List.set_cons_zero, List.set_cons_succ, List.getElem_toArray, List.getElem_cons_zero, List.getElem_cons_succ]
              refine wpAnyH_take (i := 22) (v := ?v22_73) rfl (by kernel_rfl) (by kernel_rfl) (by kernel_rfl) (fun _ _ _ h => h) (Or.inl ⟨by rfl, ?hy22_73⟩) (by assumption) ?rest22_73
              case hy22_73 => (intro w9 hSw; clear hSw; go_simp; try with_reducible rfl)
              try simp only [Act.put, List.setIfInBounds_toArray, List.set_cons_zero, List.set_cons_succ, List.getElem_toArray, List.getElem_cons_zero, List.getElem_cons_succ]
              refine wpAnyH_take (i := 23) (v := ?v23_74) rfl (by kernel_rfl) (by kernel_rfl) (by kernel_rfl) (fun _ _ _ h => h) (Or.inl ⟨by rfl, ?hy23_74⟩) (by assumption) ?rest23_74
              case hy23_74 => (intro w9 hSw; obtain ⟨sp, sv, ss1⟩ := hSw; obtain ⟨k0, k1, k2, k3, k4, k5, k6, k7, k8⟩ := Vbx.cells sv; obtain ⟨q0, q1, q2, q3, q4, q5, q6, q7, q8⟩ := Vbx.cells sp; obtain ⟨t0, t1, t2, t3, t4⟩ : _ ∧ _ ∧ _ ∧ _ ∧ _ := ⟨Blk.cell ss1 0 rfl, Blk.cell ss1 1 rfl, Blk.cell ss1 2 rfl, Blk.cell ss1 3 rfl, Blk.cell ss1 4 rfl⟩; go_simp; try with_reducible rfl)
              try simp only [Act.put, List.setIfInBounds_toArray, List.set_cons_zero, List.set_cons_succ, List.getElem_toArray, List.getElem_cons_zero, List.getElem_cons_succ]
              refine wpAnyH_take (i := 24) (v := ?v24_75) rfl (by kernel_rfl) (by kernel_rfl) (by kernel_rfl) (fun _ _ _ h => h) (Or.inl ⟨by rfl, ?hy24_75⟩) (by assumption) ?rest24_75
              case hy24_75 => (intro w9 hSw; clear hSw; go_simp; try with_reducible rfl)
              try simp only [Act.put, List.setIfInBounds_toArray, List.set_cons_zero, List.set_cons_succ, List.getElem_toArray, List.getElem_cons_zero, List.getElem_cons_succ]
              refine wpAnyH_take (i := 25) (v := ?v25_76) rfl (by kernel_rfl) (by kernel_rfl) (by kernel_rfl) (fun _ _ _ h => h) (Or.inl ⟨by rfl, ?hy25_76⟩) (by assumption) ?rest25_76
              case hy25_76 => (intro w9 hSw; clear hSw; go_simp; try with_reducible rfl)
              try simp only [Act.put, List.setIfInBounds_toArray, List.set_cons_zero, List.set_cons_succ, List.getElem_toArray, List.getElem_cons_zero, List.getElem_cons_succ]
              refine wpAnyH_take (i := 26) (v := ?v26_77) rfl (by kernel_rfl) (by kernel_rfl) (by kernel_rfl) (fun _ _ _ h => h) (Or.inl ⟨by rfl, ?hy26_77⟩) (by assumption) ?rest26_77
              case hy26_77 => (intro w9 hSw; clear hSw; go_simp; try with_reducible rfl)
              try simp only [Act.put, List.setIfInBounds_toArray, List.set_cons_zero, List.set_cons_succ, List.getElem_toArray, List.getElem_cons_zero, List.getElem_cons_succ]
              refine wpAnyH_take (i := 27) (v := ?v27_78) rfl (by kernel_rfl) (by kernel_rfl) (by kernel_rfl) (fun _ _ _ h => h) (Or.inl ⟨by rfl, ?hy27_78⟩) (by assumption) ?rest27_78
              case hy27_78 => (intro w9 hSw; clear hSw; go_simp; try with_reducible rfl)
              try simp only [Act.put, List.setIfInBounds_toArray, List.set_cons_zero, List.set_cons_succ, List.getElem_toArray, List.getElem_cons_zero, List.getElem_cons_succ]
              refine wpAnyH_take (i := 28) (v := ?v28_79) rfl (by kernel_rfl) (by kernel_rfl) (by kernel_rfl) (fun _ _ _ h => h) (Or.inl ⟨by rfl, ?hy28_79⟩) (by assumption) ?rest28_79
              case hy28_79 => (intro w9 hSw; clear hSw; go_simp; try with_reducible rfl)
              try simp only [Act.put, List.setIfInBounds_toArray, List.set_cons_zero, List.set_cons_succ, List.getElem_toArray, List.getElem_cons_zero, List.getElem_cons_succ]
              refine wpAnyH_take (i := 29) (v := ?v29_80) rfl (by kernel_rfl) (by kernel_rfl) (by kernel_rfl) (fun _ _ _ h => h) (Or.inl ⟨by rfl, ?hy29_80⟩) (by assumption) ?rest29_80
              case hy29_80 => (intro w9 hSw; obtain ⟨sp, sv, ss1⟩ := hSw; obtain ⟨k0, k1, k2, k3, k4, k5, k6, k7, k8⟩ := Vbx.cells sv; obtain ⟨q0, q1, q2, q3, q4, q5, q6, q7, q8⟩ := Vbx.cells sp; obtain ⟨t0, t1, t2, t3, t4⟩ : _ ∧ _ ∧ _ ∧ _ ∧ _ := ⟨Blk.cell ss1 0 rfl, Blk.cell ss1 1 rfl, Blk.cell ss1 2 rfl, Blk.cell ss1 3 rfl, Blk.cell ss1 4 rfl⟩; go_simp; try with_reducible rfl)
              try simp only [Act.put, List.setIfInBounds_toArray, List.set_cons_zero, List.set_cons_succ, List.getElem_toArray, List.getElem_cons_zero, List.getElem_cons_succ]
              refine wpAnyH_take (i := 30) (v := ?v30_81) rfl (by kernel_rfl) (by kernel_rfl) (by kernel_rfl) (fun _ _ _ h => h) (Or.inl ⟨by rfl, ?hy30_81⟩) (by assumption) ?rest30_81
              case hy30_81 => (intro w9 hSw; clear hSw; go_simp; try with_reducible rfl)
              try simp only [Act.put, List.setIfInBounds_toArray, List.set_cons_zero, List.set_cons_succ, List.getElem_toArray, List.getElem_cons_zero, List.getElem_cons_succ]
              refine wpAnyH_take (i := 31) (v := ?v31_82) rfl (by kernel_rfl) (by kernel_rfl) (by kernel_rfl) (fun _ _ _ h => h) (Or.inl ⟨by rfl, ?hy31_82⟩) (by assumption) ?rest31_82
              case hy31_82 => (intro w9 hSw; clear hSw; go_simp; try with_reducible rfl)
              try simp only [Act.put, List.setIfInBounds_toArray, List.set_cons_zero, List.set_cons_succ, List.getElem_toArray, List.getElem_cons_zero, List.getElem_cons_succ]
              refine wpAnyH_done (by kernel_rfl) ?_ _
              have hin : withinB A0 C0 R = true ∧ withinB B0 D0 C = true ∧ P = (Vu.all s R C).part A0 B0 C0 D0 := by
                have e := HPe.out
                unfold Vu.partO at e
                simp only [beq_eq_false_iff_ne, ne_eq, reduceCtorEq, not_false_eq_true, Option.some_beq_none, Bool.false_eq_true, if_false] at e
                cases h9 : (withinB A0 C0 R && withinB B0 D0 C)
                · rw [h9] at e
                  simp only [Bool.false_eq_true, if_false] at e
                  rw [← e] at g1
                  simp at g1
                  omega
                · have h8 := Bool.and_eq_true_iff.1 h9
                  rw [h9] at e
                  exact ⟨h8.1, h8.2, e.symm⟩
              obtain ⟨w1, w2, hPp⟩ := hin
              have wb1 := of_decide_eq_true w1
              have wb2 := of_decide_eq_true w2
              have eA : P.at_ C.toNat l i j = (Vu.all s R C).at_ C.toNat l (A0 + i) (B0 + j) := by rw [hPp]; exact part_at (v := Vu.all s R C) w1 w2 g3 g5 g4 g6
              have eT : P.turnO.at_ C.toNat l j i = P.at_ C.toNat l i j := by rw [show P.turnO = P.T by rw [hPp]; rfl]; exact turn_at j i
              have hvP : Vk P s C.toNat l.length 2 := by rw [hll]; exact vP
              have hvV : Vk (Vu.all s R C) s C.toNat l.length 1 := by rw [hll]; exact hV
              have hvT : Vk P.turnO s C.toNat l.length 2 := turn_vk hvP
              obtain ⟨x0, x1⟩ := at_bd (v := P) (c := C.toNat) (l := l) (fun _ => hst.wd) hvP.none_ i j
              have qP := fun (W : World) (B : Nat) (h : St W B s g cap C.toNat l) => At_any h hvP i j
              have qV := fun (W : World) (B : Nat) (h : St W B s g cap C.toNat l) => At_any h hvV (A0 + i) (B0 + j)
              have qT := fun (W : World) (B : Nat) (h : St W B s g cap C.toNat l) => At_any h hvT j i
              simp only [← eA] at qV
              simp only [eT] at qT
              obtain ⟨X, hX⟩ : ∃ X, P.at_ C.toNat l i j = X := ⟨_, rfl⟩
              simp only [hX] at qP qV qT x0 x1
              have hw1 : IntKind.i64.wrap (A0 + i) = A0 + i := (IntWalk.i64_left _).trans (IntWalk.wrap64_in _ (by have := HB.out; omega))
              have hw2 : IntKind.i64.wrap (B0 + j) = B0 + j := (IntWalk.i64_left _).trans (IntWalk.wrap64_in _ (by have := HB.out; omega))
              have pB := fun W => rbits_any x0 x1 W
              have pPT := fun W => T_any P W
              obtain ⟨X1, hX1⟩ : ∃ Z, one X = Z := ⟨_, rfl⟩
              simp only [hX1] at pB
              clear eA eT hX hX1 hPp w1 w2 wb1 wb2 g1 g2 g3 g4 g5 g6 hvP hvV hvT vP hV HPe bx x0 x1
              go_wp2_with fail
              generalize w14 = W3 at DM DS hF hst D9 D11 bz ⊢
              replace DM := DM.drew
              replace DS := DS.drew
              replace hF := hF.drew
              replace hst := hst.drew
              replace D9 := D9.drew
              replace D11 := D11.drew
              replace bz := bz.drew
              refine wp_region_held_drew (S := fun w9 : World => Vbx w9 HD11 P ∧ Vbx w9 HD9 (Vu.all s R C) ∧ Blk w9 (w.heap.size + 1) [.int .i64 K0, .int .i64 A0, .int .i64 B0, .int .i64 C0, .int .i64 D0]) (by kernel_rfl) ⟨D11, D9, DS⟩ (fun hS => ?_)
              refine wpAnyH_take (i := 0) (v := ?v0_83) rfl (by kernel_rfl) (by kernel_rfl) (by kernel_rfl) (fun _ _ _ h => h) (Or.inl ⟨by rfl, ?hy0_83⟩) (by assumption) ?rest0_83
              case hy0_83 => (intro w9 hSw; obtain ⟨sp, sv, ss1⟩ := hSw; obtain ⟨k0, k1, k2, k3, k4, k5, k6, k7, k8⟩ := Vbx.cells sv; obtain ⟨q0, q1, q2, q3, q4, q5, q6, q7, q8⟩ := Vbx.cells sp; obtain ⟨t0, t1, t2, t3, t4⟩ : _ ∧ _ ∧ _ ∧ _ ∧ _ := ⟨Blk.cell ss1 0 rfl, Blk.cell ss1 1 rfl, Blk.cell ss1 2 rfl, Blk.cell ss1 3 rfl, Blk.cell ss1 4 rfl⟩; go_simp; try with_reducible rfl)
              try simp only [Act.put, List.setIfInBounds_toArray, List.set_cons_zero, List.set_cons_succ, List.getElem_toArray, List.getElem_cons_zero, List.getElem_cons_succ]
              refine wpAnyH_take (i := 1) (v := ?v1_84) rfl (by kernel_rfl) (by kernel_rfl) (by kernel_rfl) (fun _ _ _ h => h) (Or.inl ⟨by rfl, ?hy1_84⟩) (by assumption) ?rest1_84
              case hy1_84 => (intro w9 hSw; clear hSw; go_simp; try with_reducible rfl)
              try simp only [Act.put, List.setIfInBounds_toArray, List.set_cons_zero, List.set_cons_succ, List.getElem_toArray, List.getElem_cons_zero, List.getElem_cons_succ]
              refine wpAnyH_take (i := 2) (v := ?v2_85) rfl (by kernel_rfl) (by kernel_rfl) (by kernel_rfl) (fun _ _ _ h => h) (Or.inl ⟨by rfl, ?hy2_85⟩) (by assumption) ?rest2_85
              case hy2_85 => (intro w9 hSw; clear hSw; go_simp; try with_reducible rfl)
              try simp only [Act.put, List.setIfInBounds_toArray, List.set_cons_zero, List.set_cons_succ, List.getElem_toArray, List.getElem_cons_zero, List.getElem_cons_succ]
              refine wpAnyH_take (i := 5) (v := ?v5_86) rfl (by kernel_rfl) (by kernel_rfl) (by kernel_rfl) (fun _ _ _ h => h) (Or.inl ⟨by rfl, ?hy5_86⟩) (by assumption) ?rest5_86
              case hy5_86 => (intro w9 hSw; obtain ⟨sp, sv, ss1⟩ := hSw; obtain ⟨k0, k1, k2, k3, k4, k5, k6, k7, k8⟩ := Vbx.cells sv; obtain ⟨q0, q1, q2, q3, q4, q5, q6, q7, q8⟩ := Vbx.cells sp; obtain ⟨t0, t1, t2, t3, t4⟩ : _ ∧ _ ∧ _ ∧ _ ∧ _ := ⟨Blk.cell ss1 0 rfl, Blk.cell ss1 1 rfl, Blk.cell ss1 2 rfl, Blk.cell ss1 3 rfl, Blk.cell ss1 4 rfl⟩; go_simp; try with_reducible rfl)
              try simp only [Act.put, List.setIfInBounds_toArray, List.set_cons_zero, List.set_cons_succ, List.getElem_toArray, List.getElem_cons_zero, List.getElem_cons_succ]
              refine wpAnyH_take (i := 6) (v := ?v6_87) rfl (by kernel_rfl) (by kernel_rfl) (by kernel_rfl) (fun _ _ _ h => h) (Or.inl ⟨by rfl, ?hy6_87⟩) (by assumption) ?rest6_87
              case hy6_87 => (intro w9 hSw; clear hSw; go_simp; try with_reducible rfl)
              try simp only [Act.put, List.setIfInBounds_toArray, List.set_cons_zero, List.set_cons_succ, List.getElem_toArray, List.getElem_cons_zero, List.getElem_cons_succ]
              refine wpAnyH_take (i := 7) (v := ?v7_88) rfl (by kernel_rfl) (by kernel_rfl) (by kernel_rfl) (fun _ _ _ h => h) (Or.inl ⟨by rfl, ?hy7_88⟩) (by assumption) ?rest7_88
              case hy7_88 => (intro w9 hSw; obtain ⟨sp, sv, ss1⟩ := hSw; obtain ⟨k0, k1, k2, k3, k4, k5, k6, k7, k8⟩ := Vbx.cells sv; obtain ⟨q0, q1, q2, q3, q4, q5, q6, q7, q8⟩ := Vbx.cells sp; obtain ⟨t0, t1, t2, t3, t4⟩ : _ ∧ _ ∧ _ ∧ _ ∧ _ := ⟨Blk.cell ss1 0 rfl, Blk.cell ss1 1 rfl, Blk.cell ss1 2 rfl, Blk.cell ss1 3 rfl, Blk.cell ss1 4 rfl⟩; go_simp; try with_reducible rfl)
              try simp only [Act.put, List.setIfInBounds_toArray, List.set_cons_zero, List.set_cons_succ, List.getElem_toArray, List.getElem_cons_zero, List.getElem_cons_succ]
              refine wpAnyH_take (i := 8) (v := ?v8_89) rfl (by kernel_rfl) (by kernel_rfl) (by kernel_rfl) (fun _ _ _ h => h) (Or.inl ⟨by rfl, ?hy8_89⟩) (by assumption) ?rest8_89
              case hy8_89 => (intro w9 hSw; clear hSw; go_simp; try with_reducible rfl)
              try simp only [Act.put, List.setIfInBounds_toArray, List.set_cons_zero, List.set_cons_succ, List.getElem_toArray, List.getElem_cons_zero, List.getElem_cons_succ]
              refine wpAnyH_take (i := 9) (v := ?v9_90) rfl (by kernel_rfl) (by kernel_rfl) (by kernel_rfl) (fun _ _ _ h => h) (Or.inl ⟨by rfl, ?hy9_90⟩) (by assumption) ?rest9_90
              case hy9_90 => (intro w9 hSw; clear hSw; go_simp; try with_reducible rfl)
              try simp only [Act.put, List.setIfInBounds_toArray, List.set_cons_zero, List.set_cons_succ, List.getElem_toArray, List.getElem_cons_zero, List.getElem_cons_succ]
              refine wpAnyH_take (i := 10) (v := ?v10_91) rfl (by kernel_rfl) (by kernel_rfl) (by kernel_rfl) (fun _ _ _ h => h) (Or.inl ⟨by rfl, ?hy10_91⟩) (by assumption) ?rest10_91
              case hy10_91 => (intro w9 hSw; clear hSw; go_simp; try with_reducible rfl)
              try simp only [Act.put, List.setIfInBounds_toArray, List.set_cons_zero, List.set_cons_succ, List.getElem_toArray, List.getElem_cons_zero, List.getElem_cons_succ]
              refine wpAnyH_take (i := 11) (v := ?v11_92) rfl (by kernel_rfl) (by kernel_rfl) (by kernel_rfl) (fun _ _ _ h => h) (Or.inl ⟨by rfl, ?hy11_92⟩) (by assumption) ?rest11_92
              case hy11_92 => (intro w9 hSw; obtain ⟨sp, sv, ss1⟩ := hSw; obtain ⟨k0, k1, k2, k3, k4, k5, k6, k7, k8⟩ := Vbx.cells sv; obtain ⟨q0, q1, q2, q3, q4, q5, q6, q7, q8⟩ := Vbx.cells sp; obtain ⟨t0, t1, t2, t3, t4⟩ : _ ∧ _ ∧ _ ∧ _ ∧ _ := ⟨Blk.cell ss1 0 rfl, Blk.cell ss1 1 rfl, Blk.cell ss1 2 rfl, Blk.cell ss1 3 rfl, Blk.cell ss1 4 rfl⟩; go_simp; try with_reducible rfl)
              try simp only [Act.put, List.setIfInBounds_toArray, List.set_cons_zero, List.set_cons_succ, List.getElem_toArray, List.getElem_cons_zero, List.getElem_cons_succ]
              refine wpAnyH_take (i := 12) (v := ?v12_93) rfl (by kernel_rfl) (by kernel_rfl) (by kernel_rfl) (fun _ _ _ h => h) (Or.inl ⟨by rfl, ?hy12_93⟩) (by assumption) ?rest12_93
              case hy12_93 => (intro w9 hSw; clear hSw; go_simp; try with_reducible rfl)
              try simp only [Act.put, List.setIfInBounds_toArray, List.set_cons_zero, List.set_cons_succ, List.getElem_toArray, List.getElem_cons_zero, List.getElem_cons_succ]
              refine wpAnyH_take (i := 13) (v := ?v13_94) rfl (by kernel_rfl) (by kernel_rfl) (by kernel_rfl) (fun _ _ _ h => h) (Or.inl ⟨by rfl, ?hy13_94⟩) (by assumption) ?rest13_94
              case hy13_94 => (intro w9 hSw; clear hSw; go_simp; try with_reducible rfl)
              try simp only [Act.put, List.setIfInBounds_toArray, List.set_cons_zero, List.set_cons_succ, List.getElem_toArray, List.getElem_cons_zero, List.getElem_cons_succ]
              refine wpAnyH_ready (rs := [3]) (by kernel_rfl) (by simp) ?_
              refine AllReadyH.cons rfl (fun K hK => ?_) AllReadyH.nil
              go_simp
              with_reducible refine (qP _ _ hst).mono ?_
              rintro e w15 ⟨rfl, hb⟩
              replace DM := DM.on hb
              replace DS := DS.on hb
              replace hF := hF.on hb
              replace hst := hst.on hb
              replace D9 := D9.on hb
              replace D11 := D11.on hb
              replace bz := bz.trans (hb.mono bz.size)
              clear hb
              refine hK.out _ _ ⟨D11, D9, DS⟩ (fun hH => ?_)
              clear hK K hS
              have hS := hH
              clear hH
              try simp only [Act.put, List.setIfInBounds_toArray, List.set_cons_zero, List.set_cons_succ, List.getElem_toArray, List.getElem_cons_zero, List.getElem_cons_succ]
              refine wpAnyH_ready (rs := [4]) (by kernel_rfl) (by simp) ?_
              refine AllReadyH.cons rfl (fun K hK => ?_) AllReadyH.nil
              go_simp
              with_reducible refine (pB _).mono ?_
              rintro e v16 ⟨rfl, rfl⟩
              refine hK.out _ _ ⟨D11, D9, DS⟩ (fun hH => ?_)
              clear hK K hS
              have hS := hH
              clear hH
              try simp only [Act.put, List.setIfInBounds_toArray, List.set_cons_zero, List.set_cons_succ, List.getElem_toArray, List.getElem_cons_zero, List.getElem_cons_succ]
              refine wpAnyH_ready (rs := [14]) (by kernel_rfl) (by simp) ?_
              refine AllReadyH.cons rfl (fun K hK => ?_) AllReadyH.nil
              go_simp
              with_reducible refine (qV _ _ hst).mono ?_
              rintro e w17 ⟨rfl, hb⟩
              replace DM := DM.on hb
              replace DS := DS.on hb
              replace hF := hF.on hb
              replace hst := hst.on hb
              replace D9 := D9.on hb
              replace D11 := D11.on hb
              replace bz := bz.trans (hb.mono bz.size)
              clear hb
              refine hK.out _ _ ⟨D11, D9, DS⟩ (fun hH => ?_)
              clear hK K hS
              have hS := hH
              clear hH
              try simp only [Act.put, List.setIfInBounds_toArray, List.set_cons_zero, List.set_cons_succ, List.getElem_toArray, List.getElem_cons_zero, List.getElem_cons_succ]
              refine wpAnyH_ready (rs := [15]) (by kernel_rfl) (by simp) ?_
              refine AllReadyH.cons rfl (fun K hK => ?_) AllReadyH.nil
              go_simp
              with_reducible refine (pB _).mono ?_
              rintro e v18 ⟨rfl, rfl⟩
              refine hK.out _ _ ⟨D11, D9, DS⟩ (fun hH => ?_)
              clear hK K hS
              have hS := hH
              clear hH
              try simp only [Act.put, List.setIfInBounds_toArray, List.set_cons_zero, List.set_cons_succ, List.getElem_toArray, List.getElem_cons_zero, List.getElem_cons_succ]
              refine wpAnyH_take (i := 16) (v := ?v16_95) rfl (by kernel_rfl) (by kernel_rfl) (by kernel_rfl) (fun _ _ _ h => h) (Or.inl ⟨by rfl, ?hy16_95⟩) (by assumption) ?rest16_95
              case hy16_95 => (intro w9 hSw; clear hSw; go_simp; try with_reducible rfl)
              try simp only [Act.put, List.setIfInBounds_toArray, List.set_cons_zero, List.set_cons_succ, List.getElem_toArray, List.getElem_cons_zero, List.getElem_cons_succ]
              refine wpAnyH_take (i := 17) (v := ?v17_96) rfl (by kernel_rfl) (by kernel_rfl) (by kernel_rfl) (fun _ _ _ h => h) (Or.inl ⟨by rfl, ?hy17_96⟩) (by assumption) ?rest17_96
              case hy17_96 => (intro w9 hSw; clear hSw; go_simp; try with_reducible rfl)
              try simp only [Act.put, List.setIfInBounds_toArray, List.set_cons_zero, List.set_cons_succ, List.getElem_toArray, List.getElem_cons_zero, List.getElem_cons_succ]
              refine wpAnyH_take (i := 18) (v := ?v18_97) rfl (by kernel_rfl) (by kernel_rfl) (by kernel_rfl) (fun _ _ _ h => h) (Or.inl ⟨by rfl, ?hy18_97⟩) (by assumption) ?rest18_97
              case hy18_97 => (intro w9 hSw; obtain ⟨sp, sv, ss1⟩ := hSw; obtain ⟨k0, k1, k2, k3, k4, k5, k6, k7, k8⟩ := Vbx.cells sv; obtain ⟨q0, q1, q2, q3, q4, q5, q6, q7, q8⟩ := Vbx.cells sp; obtain ⟨t0, t1, t2, t3, t4⟩ : _ ∧ _ ∧ _ ∧ _ ∧ _ := ⟨Blk.cell ss1 0 rfl, Blk.cell ss1 1 rfl, Blk.cell ss1 2 rfl, Blk.cell ss1 3 rfl, Blk.cell ss1 4 rfl⟩; go_simp; try with_reducible rfl)
              try simp only [Act.put, List.setIfInBounds_toArray, List.set_cons_zero, List.set_cons_succ, List.getElem_toArray, List.getElem_cons_zero, List.getElem_cons_succ]
              refine wpAnyH_take (i := 20) (v := ?v20_98) rfl (by kernel_rfl) (by kernel_rfl) (by kernel_rfl) (fun _ _ _ h => h) (Or.inl ⟨by rfl, ?hy20_98⟩) (by assumption) ?rest20_98
              case hy20_98 => (intro w9 hSw; clear hSw; go_simp; try with_reducible rfl)
              try simp only [Act.put, List.setIfInBounds_toArray, List.set_cons_zero, List.set_cons_succ, List.getElem_toArray, List.getElem_cons_zero, List.getElem_cons_succ]
              refine wpAnyH_take (i := 21) (v := ?v21_99) rfl (by kernel_rfl) (by kernel_rfl) (by kernel_rfl) (fun _ _ _ h => h) (Or.inl ⟨by rfl, ?hy21_99⟩) (by assumption) ?rest21_99
              case hy21_99 => (intro w9 hSw; clear hSw; go_simp; try with_reducible rfl)
              try simp only [Act.put, List.setIfInBounds_toArray, List.set_cons_zero, List.set_cons_succ, List.getElem_toArray, List.getElem_cons_zero, List.getElem_cons_succ]
              refine wpAnyH_take (i := 24) (v := ?v24_100) rfl (by kernel_rfl) (by kernel_rfl) (by kernel_rfl) (fun _ _ _ h => h) (Or.inl ⟨by rfl, ?hy24_100⟩) (by assumption) ?rest24_100
              case hy24_100 => (intro w9 hSw; obtain ⟨sp, sv, ss1⟩ := hSw; obtain ⟨k0, k1, k2, k3, k4, k5, k6, k7, k8⟩ := Vbx.cells sv; obtain ⟨q0, q1, q2, q3, q4, q5, q6, q7, q8⟩ := Vbx.cells sp; obtain ⟨t0, t1, t2, t3, t4⟩ : _ ∧ _ ∧ _ ∧ _ ∧ _ := ⟨Blk.cell ss1 0 rfl, Blk.cell ss1 1 rfl, Blk.cell ss1 2 rfl, Blk.cell ss1 3 rfl, Blk.cell ss1 4 rfl⟩; go_simp; try with_reducible rfl)
              try simp only [Act.put, List.setIfInBounds_toArray, List.set_cons_zero, List.set_cons_succ, List.getElem_toArray, List.getElem_cons_zero, List.getElem_cons_succ]
              refine wpAnyH_take (i := 25) (v := ?v25_101) rfl (by kernel_rfl) (by kernel_rfl) (by kernel_rfl) (fun _ _ _ h => h) (Or.inl ⟨by rfl, ?hy25_101⟩) (by assumption) ?rest25_101
              case hy25_101 => (intro w9 hSw; clear hSw; go_simp; try with_reducible rfl)
              try simp only [Act.put, List.setIfInBounds_toArray, List.set_cons_zero, List.set_cons_succ, List.getElem_toArray, List.getElem_cons_zero, List.getElem_cons_succ]
              refine wpAnyH_take (i := 26) (v := ?v26_102) rfl (by kernel_rfl) (by kernel_rfl) (by kernel_rfl) (fun _ _ _ h => h) (Or.inl ⟨by rfl, ?hy26_102⟩) (by assumption) ?rest26_102
              case hy26_102 => (intro w9 hSw; clear hSw; go_simp; try with_reducible rfl)
              try simp only [Act.put, List.setIfInBounds_toArray, List.set_cons_zero, List.set_cons_succ, List.getElem_toArray, List.getElem_cons_zero, List.getElem_cons_succ]
              refine wpAnyH_ready (rs := [19]) (by kernel_rfl) (by simp) ?_
              refine AllReadyH.cons rfl (fun K hK => ?_) AllReadyH.nil
              go_simp
              with_reducible refine (pPT _).mono ?_
              rintro e w19 ⟨rfl, hb⟩
              replace DM := DM.on hb
              replace DS := DS.on hb
              replace hF := hF.on hb
              replace hst := hst.on hb
              replace D9 := D9.on hb
              replace D11 := D11.on hb
              replace bz := bz.trans (hb.mono bz.size)
              clear hb
              refine hK.out _ _ ⟨D11, D9, DS⟩ (fun hH => ?_)
              clear hK K hS
              have hS := hH
              clear hH
              try simp only [Act.put, List.setIfInBounds_toArray, List.set_cons_zero, List.set_cons_succ, List.getElem_toArray, List.getElem_cons_zero, List.getElem_cons_succ]
              refine wpAnyH_ready (rs := [22]) (by kernel_rfl) (by simp) ?_
              refine AllReadyH.cons rfl (fun K hK => ?_) AllReadyH.nil
              go_simp
              with_reducible refine (qT _ _ hst).mono ?_
              rintro e w20 ⟨rfl, hb⟩
              replace DM := DM.on hb
              replace DS := DS.on hb
              replace hF := hF.on hb
              replace hst := hst.on hb
              replace D9 := D9.on hb
              replace D11 := D11.on hb
              replace bz := bz.trans (hb.mono bz.size)
              clear hb
              refine hK.out _ _ ⟨D11, D9, DS⟩ (fun hH => ?_)
              clear hK K hS
              have hS := hH
              clear hH
              try simp only [Act.put, List.setIfInBounds_toArray, List.set_cons_zero, List.set_cons_succ, List.getElem_toArray, List.getElem_cons_zero, List.getElem_cons_succ]
              refine wpAnyH_ready (rs := [23]) (by kernel_rfl) (by simp) ?_
              refine AllReadyH.cons rfl (fun K hK => ?_) AllReadyH.nil
              go_simp
              with_reducible refine (pB _).mono ?_
              rintro e v21 ⟨rfl, rfl⟩
              refine hK.out _ _ ⟨D11, D9, DS⟩ (fun hH => ?_)
              clear hK K hS
              have hS := hH
              clear hH
              try simp only [Act.put, List.setIfInBounds_toArray, List.set_cons_zero, List.set_cons_succ, List.getElem_toArray, List.getElem_cons_zero, List.getElem_cons_succ]
              refine wpAnyH_ready (rs := [27]) (by kernel_rfl) (by simp) ?_
              refine AllReadyH.cons rfl (fun K hK => ?_) AllReadyH.nil
              go_simp
              with_reducible refine (qP _ _ hst).mono ?_
              rintro e w22 ⟨rfl, hb⟩
              replace DM := DM.on hb
              replace DS := DS.on hb
              replace hF := hF.on hb
              replace hst := hst.on hb
              replace D9 := D9.on hb
              replace D11 := D11.on hb
              replace bz := bz.trans (hb.mono bz.size)
              clear hb
              refine hK.out _ _ ⟨D11, D9, DS⟩ (fun hH => ?_)
              clear hK K hS
              have hS := hH
              clear hH
              try simp only [Act.put, List.setIfInBounds_toArray, List.set_cons_zero, List.set_cons_succ, List.getElem_toArray, List.getElem_cons_zero, List.getElem_cons_succ]
              refine wpAnyH_ready (rs := [28]) (by kernel_rfl) (by simp) ?_
              refine AllReadyH.cons rfl (fun K hK => ?_) AllReadyH.nil
              go_simp
              with_reducible refine (pB _).mono ?_
              rintro e v23 ⟨rfl, rfl⟩
              refine hK.out _ _ ⟨D11, D9, DS⟩ (fun hH => ?_)
              clear hK K hS
              have hS := hH
              clear hH
              try simp only [Act.put, List.setIfInBounds_toArray, List.set_cons_zero, List.set_cons_succ, List.getElem_toArray, List.getElem_cons_zero, List.getElem_cons_succ]
              refine wpAnyH_take (i := 29) (v := ?v29_103) rfl (by kernel_rfl) (by kernel_rfl) (by kernel_rfl) (fun _ _ _ h => h) (Or.inl ⟨by rfl, ?hy29_103⟩) (by assumption) ?rest29_103
              case hy29_103 => (intro w9 hSw; clear hSw; go_simp; try with_reducible rfl)
              try simp only [Act.put, List.setIfInBounds_toArray, List.set_cons_zero, List.set_cons_succ, List.getElem_toArray, List.getElem_cons_zero, List.getElem_cons_succ]
              refine wpAnyH_take (i := 30) (v := ?v30_104) rfl (by kernel_rfl) (by kernel_rfl) (by kernel_rfl) (fun _ _ _ h => h) (Or.inl ⟨by rfl, ?hy30_104⟩) (by assumption) ?rest30_104
              case hy30_104 => (intro w9 hSw; clear hSw; go_simp; try with_reducible rfl)
              try simp only [Act.put, List.setIfInBounds_toArray, List.set_cons_zero, List.set_cons_succ, List.getElem_toArray, List.getElem_cons_zero, List.getElem_cons_succ]
              refine wpAnyH_take (i := 31) (v := ?v31_105) rfl (by kernel_rfl) (by kernel_rfl) (by kernel_rfl) (fun _ _ _ h => h) (Or.inl ⟨by rfl, ?hy31_105⟩) (by assumption) ?rest31_105
              case hy31_105 => (intro w9 hSw; clear hSw; go_simp; try with_reducible rfl)
              try simp only [Act.put, List.setIfInBounds_toArray, List.set_cons_zero, List.set_cons_succ, List.getElem_toArray, List.getElem_cons_zero, List.getElem_cons_succ]
              refine wpAnyH_done (by kernel_rfl) ?_ _
              go_wp2_with fail
              go_ret
              exact ⟨rfl, bz⟩
            · have d0 : decide (i < 0) = false := decide_eq_false (by omega)
              have d1 : decide (j < 0) = false := decide_eq_false (by omega)
              have d2 : decide (C0 ≤ i) = false := decide_eq_false (by omega)
              refine wp_region_held_drew (S := fun w9 : World => Vbx w9 HD11 P ∧ Vbx w9 HD9 (Vu.all s R C) ∧ Blk w9 (w.heap.size + 1) [.int .i64 K0, .int .i64 A0, .int .i64 B0, .int .i64 C0, .int .i64 D0]) (by kernel_rfl) ⟨D11, D9, DS⟩ (fun hS => ?_)
              refine wpAnyH_take (i := 0) (v := ?v0_106) rfl (by kernel_rfl) (by kernel_rfl) (by kernel_rfl) (fun _ _ _ h => h) (Or.inl ⟨by rfl, ?hy0_106⟩) (by assumption) ?rest0_106
              case hy0_106 => (intro w9 hSw; obtain ⟨sp, sv, ss1⟩ := hSw; obtain ⟨k0, k1, k2, k3, k4, k5, k6, k7, k8⟩ := Vbx.cells sv; obtain ⟨q0, q1, q2, q3, q4, q5, q6, q7, q8⟩ := Vbx.cells sp; obtain ⟨t0, t1, t2, t3, t4⟩ : _ ∧ _ ∧ _ ∧ _ ∧ _ := ⟨Blk.cell ss1 0 rfl, Blk.cell ss1 1 rfl, Blk.cell ss1 2 rfl, Blk.cell ss1 3 rfl, Blk.cell ss1 4 rfl⟩; go_simp; try with_reducible rfl)
              try simp only [Act.put, List.setIfInBounds_toArray, List.set_cons_zero, List.set_cons_succ, List.getElem_toArray, List.getElem_cons_zero, List.getElem_cons_succ]
              refine wpAnyH_take (i := 2) (v := ?v2_107) rfl (by kernel_rfl) (by kernel_rfl) (by kernel_rfl) (fun _ _ _ h => h) (Or.inl ⟨by rfl, ?hy2_107⟩) (by assumption) ?rest2_107
              case hy2_107 => (intro w9 hSw; clear hSw; go_simp; try with_reducible rfl)
              try simp only [Act.put, List.setIfInBounds_toArray, List.set_cons_zero, List.set_cons_succ, List.getElem_toArray, List.getElem_cons_zero, List.getElem_cons_succ]
              refine wpAnyH_take (i := 3) (v := ?v3_108) rfl (by kernel_rfl) (by kernel_rfl) (by kernel_rfl) (fun _ _ _ h => h) (Or.inl ⟨by rfl, ?hy3_108⟩) (by assumption) ?rest3_108
              case hy3_108 => (intro w9 hSw; obtain ⟨sp, sv, ss1⟩ := hSw; obtain ⟨k0, k1, k2, k3, k4, k5, k6, k7, k8⟩ := Vbx.cells sv; obtain ⟨q0, q1, q2, q3, q4, q5, q6, q7, q8⟩ := Vbx.cells sp; obtain ⟨t0, t1, t2, t3, t4⟩ : _ ∧ _ ∧ _ ∧ _ ∧ _ := ⟨Blk.cell ss1 0 rfl, Blk.cell ss1 1 rfl, Blk.cell ss1 2 rfl, Blk.cell ss1 3 rfl, Blk.cell ss1 4 rfl⟩; go_simp; try with_reducible rfl)
              try simp only [Act.put, List.setIfInBounds_toArray, List.set_cons_zero, List.set_cons_succ, List.getElem_toArray, List.getElem_cons_zero, List.getElem_cons_succ]
              refine wpAnyH_ready (rs := [1]) (by kernel_rfl) (by simp) ?_
              refine AllReadyH.cons rfl (fun K hK => ?_) AllReadyH.nil
              go_simp
              with_reducible refine (Rows_any P _).mono ?_
              rintro e w13 ⟨rfl, hb⟩
              replace DM := DM.on hb
              replace DS := DS.on hb
              replace hF := hF.on hb
              replace hst := hst.on hb
              replace D9 := D9.on hb
              replace D11 := D11.on hb
              replace bz := bz.trans (hb.mono bz.size)
              clear hb
              refine hK.out _ _ ⟨D11, D9, DS⟩ (fun hH => ?_)
              clear hK K hS
              have hS := hH
              clear hH
              try simp only [Act.put, List.setIfInBounds_toArray, List.set_cons_zero, List.set_cons_succ, List.getElem_toArray, List.getElem_cons_zero, List.getElem_cons_succ]
              refine wpAnyH_take (i := 4) (v := ?v4_109) rfl (by kernel_rfl) (by kernel_rfl) (by kernel_rfl) (fun _ _ _ h => h) (Or.inl ⟨by rfl, ?hy4_109⟩) (by assumption) ?rest4_109
              case hy4_109 => (intro w9 hSw; clear hSw; go_simp; try with_reducible rfl)
              try simp only [Act.put, List.setIfInBounds_toArray, List.set_cons_zero, List.set_cons_succ, List.getElem_toArray, List.getElem_cons_zero, List.getElem_cons_succ]
              refine wpAnyH_take (i := 5) (v := ?v5_110) rfl (by kernel_rfl) (by kernel_rfl) (by kernel_rfl) (fun _ _ _ h => h) (Or.inl ⟨by rfl, ?hy5_110⟩) (by assumption) ?rest5_110
              case hy5_110 => (intro w9 hSw; clear hSw; go_simp; try with_reducible rfl)
              try simp only [Act.put, List.setIfInBounds_toArray, List.set_cons_zero, List.set_cons_succ, List.getElem_toArray, List.getElem_cons_zero, List.getElem_cons_succ]
              refine wpAnyH_take (i := 6) (v := ?v6_111) rfl (by kernel_rfl) (by kernel_rfl) (by kernel_rfl) (fun _ _ _ h => h) (Or.inl ⟨by rfl, ?hy6_111⟩) (by assumption) ?rest6_111
              case hy6_111 => (intro w9 hSw; obtain ⟨sp, sv, ss1⟩ := hSw; obtain ⟨k0, k1, k2, k3, k4, k5, k6, k7, k8⟩ := Vbx.cells sv; obtain ⟨q0, q1, q2, q3, q4, q5, q6, q7, q8⟩ := Vbx.cells sp; obtain ⟨t0, t1, t2, t3, t4⟩ : _ ∧ _ ∧ _ ∧ _ ∧ _ := ⟨Blk.cell ss1 0 rfl, Blk.cell ss1 1 rfl, Blk.cell ss1 2 rfl, Blk.cell ss1 3 rfl, Blk.cell ss1 4 rfl⟩; go_simp; try with_reducible rfl)
              try simp only [Act.put, List.setIfInBounds_toArray, List.set_cons_zero, List.set_cons_succ, List.getElem_toArray, List.getElem_cons_zero, List.getElem_cons_succ]
              refine wpAnyH_take (i := 8) (v := ?v8_112) rfl (by kernel_rfl) (by kernel_rfl) (by kernel_rfl) (fun _ _ _ h => h) (Or.inl ⟨by rfl, ?hy8_112⟩) (by assumption) ?rest8_112
              case hy8_112 => (intro w9 hSw; clear hSw; go_simp; try with_reducible rfl)
              try simp only [Act.put, List.setIfInBounds_toArray, List.set_cons_zero, List.set_cons_succ, List.getElem_toArray, List.getElem_cons_zero, List.getElem_cons_succ]
              refine wpAnyH_take (i := 9) (v := ?v9_113) rfl (by kernel_rfl) (by kernel_rfl) (by kernel_rfl) (fun _ _ _ h => h) (Or.inl ⟨by rfl, ?hy9_113⟩) (by assumption) ?rest9_113
              case hy9_113 => (intro w9 hSw; obtain ⟨sp, sv, ss1⟩ := hSw; obtain ⟨k0, k1, k2, k3, k4, k5, k6, k7, k8⟩ := Vbx.cells sv; obtain ⟨q0, q1, q2, q3, q4, q5, q6, q7, q8⟩ := Vbx.cells sp; obtain ⟨t0, t1, t2, t3, t4⟩ : _ ∧ _ ∧ _ ∧ _ ∧ _ := ⟨Blk.cell ss1 0 rfl, Blk.cell ss1 1 rfl, Blk.cell ss1 2 rfl, Blk.cell ss1 3 rfl, Blk.cell ss1 4 rfl⟩; go_simp; try with_reducible rfl)
              try simp only [Act.put, List.setIfInBounds_toArray, List.set_cons_zero, List.set_cons_succ, List.getElem_toArray, List.getElem_cons_zero, List.getElem_cons_succ]
              refine wpAnyH_ready (rs := [7]) (by kernel_rfl) (by simp) ?_
              refine AllReadyH.cons rfl (fun K hK => ?_) AllReadyH.nil
              go_simp
              with_reducible refine (Cols_any P _).mono ?_
              rintro e w14 ⟨rfl, hb⟩
              replace DM := DM.on hb
              replace DS := DS.on hb
              replace hF := hF.on hb
              replace hst := hst.on hb
              replace D9 := D9.on hb
              replace D11 := D11.on hb
              replace bz := bz.trans (hb.mono bz.size)
              clear hb
              refine hK.out _ _ ⟨D11, D9, DS⟩ (fun hH => ?_)
              clear hK K hS
              have hS := hH
              clear hH
              try simp only [Act.put, List.setIfInBounds_toArray, List.set_cons_zero, List.set_cons_succ, List.getElem_toArray, List.getElem_cons_zero, List.getElem_cons_succ]
              refine wpAnyH_take (i := 10) (v := ?v10_114) rfl (by kernel_rfl) (by kernel_rfl) (by kernel_rfl) (fun _ _ _ h => h) (Or.inl ⟨by rfl, ?hy10_114⟩) (by assumption) ?rest10_114
              case hy10_114 => (intro w9 hSw; clear hSw; go_simp; try with_reducible rfl)
              try simp only [Act.put, List.setIfInBounds_toArray, List.set_cons_zero, List.set_cons_succ, List.getElem_toArray, List.getElem_cons_zero, List.getElem_cons_succ]
              refine wpAnyH_take (i := 11) (v := ?v11_115) rfl (by kernel_rfl) (by kernel_rfl) (by kernel_rfl) (fun _ _ _ h => h) (Or.inl ⟨by rfl, ?hy11_115⟩) (by assumption) ?rest11_115
              case hy11_115 => (intro w9 hSw; clear hSw; go_simp; try with_reducible rfl)
              try simp only [Act.put, List.setIfInBounds_toArray, List.set_cons_zero, List.set_cons_succ, List.getElem_toArray, List.getElem_cons_zero, List.getElem_cons_succ]
              refine wpAnyH_take (i := 12) (v := ?v12_116) rfl (by kernel_rfl) (by kernel_rfl) (by kernel_rfl) (fun _ _ _ h => h) (Or.inl ⟨by rfl, ?hy12_116⟩) (by assumption) ?rest12_116
              case hy12_116 => (intro w9 hSw; clear hSw; go_simp; try with_reducible rfl)
              try simp only [Act.put, List.setIfInBounds_toArray, List.set_cons_zero, List.set_cons_succ, List.getElem_toArray, List.getElem_cons_zero, List.getElem_cons_succ]
              refine wpAnyH_take (i := 13) (v := ?v13_117) rfl (by kernel_rfl) (by kernel_rfl) (by kernel_rfl) (fun _ _ _ h => h) (Or.inl ⟨by rfl, ?hy13_117⟩) (by assumption) ?rest13_117
              case hy13_117 => (intro w9 hSw; clear hSw; go_simp; try with_reducible rfl)
              try simp only [Act.put, List.setIfInBounds_toArray, List.set_cons_zero, List.set_cons_succ, List.getElem_toArray, List.getElem_cons_zero, List.getElem_cons_succ]
              refine wpAnyH_take (i := 14) (v := ?v14_118) rfl (by kernel_rfl) (by kernel_rfl) (by kernel_rfl) (fun _ _ _ h => h) (Or.inl ⟨by rfl, ?hy14_118⟩) (by assumption) ?rest14_118
              case hy14_118 => (intro w9 hSw; clear hSw; go_simp; try with_reducible rfl)
              try simp only [Act.put, List.setIfInBounds_toArray, List.set_cons_zero, List.set_cons_succ, List.getElem_toArray, List.getElem_cons_zero, List.getElem_cons_succ]
              refine wpAnyH_take (i := 15) (v := ?v15_119) rfl (by kernel_rfl) (by kernel_rfl) (by kernel_rfl) (fun _ _ _ h => h) (Or.inl ⟨by rfl, ?hy15_119⟩) (by assumption) ?rest15_119
              case hy15_119 => (intro w9 hSw; clear hSw; go_simp; try with_reducible rfl)
              try simp only [Act.put, List.setIfInBounds_toArray, List.set_cons_zero, List.set_cons_succ, List.getElem_toArray, List.getElem_cons_zero, List.getElem_cons_succ]
              refine wpAnyH_take (i := 16) (v := ?v16_120) rfl (by kernel_rfl) (by kernel_rfl) (by kernel_rfl) (fun _ _ _ h => h) (Or.inl ⟨by rfl, ?hy16_120⟩) (by assumption) ?rest16_120
              case hy16_120 => (intro w9 hSw; clear hSw; go_simp; try with_reducible rfl)
              try simp only [Act.put, List.setIfInBounds_toArray, List.set_cons_zero, List.set_cons_succ, List.getElem_toArray, List.getElem_cons_zero, List.getElem_cons_succ]
              refine wpAnyH_take (i := 17) (v := ?v17_121) rfl (by kernel_rfl) (by kernel_rfl) (by kernel_rfl) (fun _ _ _ h => h) (Or.inl ⟨by rfl, ?hy17_121⟩) (by assumption) ?rest17_121
              case hy17_121 => (intro w9 hSw; clear hSw; go_simp; try with_reducible rfl)
              try simp only [Act.put, List.setIfInBounds_toArray, List.set_cons_zero, List.set_cons_succ, List.getElem_toArray, List.getElem_cons_zero, List.getElem_cons_succ]
              refine wpAnyH_take (i := 18) (v := ?v18_122) rfl (by kernel_rfl) (by kernel_rfl) (by kernel_rfl) (fun _ _ _ h => h) (Or.inl ⟨by rfl, ?hy18_122⟩) (by assumption) ?rest18_122
              case hy18_122 => (intro w9 hSw; clear hSw; go_simp; try with_reducible rfl)
              try simp only [Act.put, List.setIfInBounds_toArray, List.set_cons_zero, List.set_cons_succ, List.getElem_toArray, List.getElem_cons_zero, List.getElem_cons_succ]
              refine wpAnyH_take (i := 19) (v := ?v19_123) rfl (by kernel_rfl) (by kernel_rfl) (by kernel_rfl) (fun _ _ _ h => h) (Or.inl ⟨by rfl, ?hy19_123⟩) (by assumption) ?rest19_123
              case hy19_123 => (intro w9 hSw; clear hSw; go_simp; try with_reducible rfl)
              try simp only [Act.put, List.setIfInBounds_toArray, List.set_cons_zero, List.set_cons_succ, List.getElem_toArray, List.getElem_cons_zero, List.getElem_cons_succ]
              refine wpAnyH_take (i := 20) (v := ?v20_124) rfl (by kernel_rfl) (by kernel_rfl) (by kernel_rfl) (fun _ _ _ h => h) (Or.inl ⟨by rfl, ?hy20_124⟩) (by assumption) ?rest20_124
              case hy20_124 => (intro w9 hSw; clear hSw; go_simp; try with_reducible rfl)
              try simp only [Act.put, List.setIfInBounds_toArray, List.set_cons_zero, List.set_cons_succ, List.getElem_toArray, List.getElem_cons_zero, List.getElem_cons_succ]
              refine wpAnyH_take (i := 21) (v := ?v21_125) rfl (by kernel_rfl) (by kernel_rfl) (by kernel_rfl) (fun _ _ _ h => h) (Or.inl ⟨by rfl, ?hy21_125⟩) (by assumption) ?rest21_125
              case hy21_125 => (intro w9 hSw; clear hSw; go_simp; try with_reducible rfl)
              try simp only [Act.put, List.setIfInBounds_toArray, List.set_cons_zero, List.set_cons_succ, List.getElem_toArray, List.getElem_cons_zero, List.getElem_cons_succ]
              refine wpAnyH_take (i := 22) (v := ?v22_126) rfl (by kernel_rfl) (by kernel_rfl) (by kernel_rfl) (fun _ _ _ h => h) (Or.inl ⟨by rfl, ?hy22_126⟩) (by assumption) ?rest22_126
              case hy22_126 => (intro w9 hSw; clear hSw; go_simp; try with_reducible rfl)
              try simp only [Act.put, List.setIfInBounds_toArray, List.set_cons_zero, List.set_cons_succ, List.getElem_toArray, List.getElem_cons_zero, List.getElem_cons_succ]
              refine wpAnyH_take (i := 23) (v := ?v23_127) rfl (by kernel_rfl) (by kernel_rfl) (by kernel_rfl) (fun _ _ _ h => h) (Or.inl ⟨by rfl, ?hy23_127⟩) (by assumption) ?rest23_127
              case hy23_127 => (intro w9 hSw; obtain ⟨sp, sv, ss1⟩ := hSw; obtain ⟨k0, k1, k2, k3, k4, k5, k6, k7, k8⟩ := Vbx.cells sv; obtain ⟨q0, q1, q2, q3, q4, q5, q6, q7, q8⟩ := Vbx.cells sp; obtain ⟨t0, t1, t2, t3, t4⟩ : _ ∧ _ ∧ _ ∧ _ ∧ _ := ⟨Blk.cell ss1 0 rfl, Blk.cell ss1 1 rfl, Blk.cell ss1 2 rfl, Blk.cell ss1 3 rfl, Blk.cell ss1 4 rfl⟩; go_simp; try with_reducible rfl)
              try simp only [Act.put, List.setIfInBounds_toArray, List.set_cons_zero, List.set_cons_succ, List.getElem_toArray, List.getElem_cons_zero, List.getElem_cons_succ]
              refine wpAnyH_take (i := 24) (v := ?v24_128) rfl (by kernel_rfl) (by kernel_rfl) (by kernel_rfl) (fun _ _ _ h => h) (Or.inl ⟨by rfl, ?hy24_128⟩) (by assumption) ?rest24_128
              case hy24_128 => (intro w9 hSw; clear hSw; go_simp; try with_reducible rfl)
              try simp only [Act.put, List.setIfInBounds_toArray, List.set_cons_zero, List.set_cons_succ, List.getElem_toArray, List.getElem_cons_zero, List.getElem_cons_succ]
              refine wpAnyH_take (i := 25) (v := ?v25_129) rfl (by kernel_rfl) (by kernel_rfl) (by kernel_rfl) (fun _ _ _ h => h) (Or.inl ⟨by rfl, ?hy25_129⟩) (by assumption) ?rest25_129
              case hy25_129 => (intro w9 hSw; clear hSw; go_simp; try with_reducible rfl)
              try simp only [Act.put, List.setIfInBounds_toArray, List.set_cons_zero, List.set_cons_succ, List.getElem_toArray, List.getElem_cons_zero, List.getElem_cons_succ]
              refine wpAnyH_take (i := 26) (v := ?v26_130) rfl (by kernel_rfl) (by kernel_rfl) (by kernel_rfl) (fun _ _ _ h => h) (Or.inl ⟨by rfl, ?hy26_130⟩) (by assumption) ?rest26_130
              case hy26_130 => (intro w9 hSw; clear hSw; go_simp; try with_reducible rfl)
              try simp only [Act.put, List.setIfInBounds_toArray, List.set_cons_zero, List.set_cons_succ, List.getElem_toArray, List.getElem_cons_zero, List.getElem_cons_succ]
              refine wpAnyH_take (i := 27) (v := ?v27_131) rfl (by kernel_rfl) (by kernel_rfl) (by kernel_rfl) (fun _ _ _ h => h) (Or.inl ⟨by rfl, ?hy27_131⟩) (by assumption) ?rest27_131
              case hy27_131 => (intro w9 hSw; clear hSw; go_simp; try with_reducible rfl)
              try simp only [Act.put, List.setIfInBounds_toArray, List.set_cons_zero, List.set_cons_succ, List.getElem_toArray, List.getElem_cons_zero, List.getElem_cons_succ]
              refine wpAnyH_take (i := 28) (v := ?v28_132) rfl (by kernel_rfl) (by kernel_rfl) (by kernel_rfl) (fun _ _ _ h => h) (Or.inl ⟨by rfl, ?hy28_132⟩) (by assumption) ?rest28_132
              case hy28_132 => (intro w9 hSw; clear hSw; go_simp; try with_reducible rfl)
              try simp only [Act.put, List.setIfInBounds_toArray, List.set_cons_zero, List.set_cons_succ, List.getElem_toArray, List.getElem_cons_zero, List.getElem_cons_succ]
              refine wpAnyH_take (i := 29) (v := ?v29_133) rfl (by kernel_rfl) (by kernel_rfl) (by kernel_rfl) (fun _ _ _ h => h) (Or.inl ⟨by rfl, ?hy29_133⟩) (by assumption) ?rest29_133
              case hy29_133 => (intro w9 hSw; obtain ⟨sp, sv, ss1⟩ := hSw; obtain ⟨k0, k1, k2, k3, k4, k5, k6, k7, k8⟩ := Vbx.cells sv; obtain ⟨q0, q1, q2, q3, q4, q5, q6, q7, q8⟩ := Vbx.cells sp; obtain ⟨t0, t1, t2, t3, t4⟩ : _ ∧ _ ∧ _ ∧ _ ∧ _ := ⟨Blk.cell ss1 0 rfl, Blk.cell ss1 1 rfl, Blk.cell ss1 2 rfl, Blk.cell ss1 3 rfl, Blk.cell ss1 4 rfl⟩; go_simp; try with_reducible rfl)
              try simp only [Act.put, List.setIfInBounds_toArray, List.set_cons_zero, List.set_cons_succ, List.getElem_toArray, List.getElem_cons_zero, List.getElem_cons_succ]
              refine wpAnyH_take (i := 30) (v := ?v30_134) rfl (by kernel_rfl) (by kernel_rfl) (by kernel_rfl) (fun _ _ _ h => h) (Or.inl ⟨by rfl, ?hy30_134⟩) (by assumption) ?rest30_134
              case hy30_134 => (intro w9 hSw; clear hSw; go_simp; try with_reducible rfl)
              try simp only [Act.put, List.setIfInBounds_toArray, List.set_cons_zero, List.set_cons_succ, List.getElem_toArray, List.getElem_cons_zero, List.getElem_cons_succ]
              refine wpAnyH_take (i := 31) (v := ?v31_135) rfl (by kernel_rfl) (by kernel_rfl) (by kernel_rfl) (fun _ _ _ h => h) (Or.inl ⟨by rfl, ?hy31_135⟩) (by assumption) ?rest31_135
              case hy31_135 => (intro w9 hSw; clear hSw; go_simp; try with_reducible rfl)
              try simp only [Act.put, List.setIfInBounds_toArray, List.set_cons_zero, List.set_cons_succ, List.getElem_toArray, List.getElem_cons_zero, List.getElem_cons_succ]
              refine wpAnyH_done (by kernel_rfl) ?_ _
              go_wp2_with fail
              go_ret
              exact ⟨rfl, bz⟩
          · have d0 : decide (i < 0) = false := decide_eq_false (by omega)
            have d1 : decide (j < 0) = false := decide_eq_false (by omega)
            refine wp_region_held_drew (S := fun w9 : World => Vbx w9 HD11 P ∧ Vbx w9 HD9 (Vu.all s R C) ∧ Blk w9 (w.heap.size + 1) [.int .i64 K0, .int .i64 A0, .int .i64 B0, .int .i64 C0, .int .i64 D0]) (by kernel_rfl) ⟨D11, D9, DS⟩ (fun hS => ?_)
            refine wpAnyH_take (i := 0) (v := ?v0_136) rfl (by kernel_rfl) (by kernel_rfl) (by kernel_rfl) (fun _ _ _ h => h) (Or.inl ⟨by rfl, ?hy0_136⟩) (by assumption) ?rest0_136
            case hy0_136 => (intro w9 hSw; obtain ⟨sp, sv, ss1⟩ := hSw; obtain ⟨k0, k1, k2, k3, k4, k5, k6, k7, k8⟩ := Vbx.cells sv; obtain ⟨q0, q1, q2, q3, q4, q5, q6, q7, q8⟩ := Vbx.cells sp; obtain ⟨t0, t1, t2, t3, t4⟩ : _ ∧ _ ∧ _ ∧ _ ∧ _ := ⟨Blk.cell ss1 0 rfl, Blk.cell ss1 1 rfl, Blk.cell ss1 2 rfl, Blk.cell ss1 3 rfl, Blk.cell ss1 4 rfl⟩; go_simp; try with_reducible rfl)
            try simp only [Act.put, List.setIfInBounds_toArray, List.set_cons_zero, List.set_cons_succ, List.getElem_toArray, List.getElem_cons_zero, List.getElem_cons_succ]
            refine wpAnyH_take (i := 2) (v := ?v2_137) rfl (by kernel_rfl) (by kernel_rfl) (by kernel_rfl) (fun _ _ _ h => h) (Or.inl ⟨by rfl, ?hy2_137⟩) (by assumption) ?rest2_137
            case hy2_137 => (intro w9 hSw; clear hSw; go_simp; try with_reducible rfl)
            try simp only [Act.put, List.setIfInBounds_toArray, List.set_cons_zero, List.set_cons_succ, List.getElem_toArray, List.getElem_cons_zero, List.getElem_cons_succ]
            refine wpAnyH_take (i := 3) (v := ?v3_138) rfl (by kernel_rfl) (by kernel_rfl) (by kernel_rfl) (fun _ _ _ h => h) (Or.inl ⟨by rfl, ?hy3_138⟩) (by assumption) ?rest3_138
            case hy3_138 => (intro w9 hSw; obtain ⟨sp, sv, ss1⟩ := hSw; obtain ⟨k0, k1, k2, k3, k4, k5, k6, k7, k8⟩ := Vbx.cells sv; obtain ⟨q0, q1, q2, q3, q4, q5, q6, q7, q8⟩ := Vbx.cells sp; obtain ⟨t0, t1, t2, t3, t4⟩ : _ ∧ _ ∧ _ ∧ _ ∧ _ := ⟨Blk.cell ss1 0 rfl, Blk.cell ss1 1 rfl, Blk.cell ss1 2 rfl, Blk.cell ss1 3 rfl, Blk.cell ss1 4 rfl⟩; go_simp; try with_reducible rfl)
            try simp only [Act.put, List.setIfInBounds_toArray, List.set_cons_zero, List.set_cons_succ, List.getElem_toArray, List.getElem_cons_zero, List.getElem_cons_succ]
            refine wpAnyH_ready (rs := [1]) (by kernel_rfl) (by simp) ?_
            refine AllReadyH.cons rfl (fun K hK => ?_) AllReadyH.nil
            go_simp
            with_reducible refine (Rows_any P _).mono ?_
            rintro e w13 ⟨rfl, hb⟩
            replace DM := DM.on hb
            replace DS := DS.on hb
            replace hF := hF.on hb
            replace hst := hst.on hb
            replace D9 := D9.on hb
            replace D11 := D11.on hb
            replace bz := bz.trans (hb.mono bz.size)
            clear hb
            refine hK.out _ _ ⟨D11, D9, DS⟩ (fun hH => ?_)
            clear hK K hS
            have hS := hH
            clear hH
            try simp only [Act.put, List.setIfInBounds_toArray, List.set_cons_zero, List.set_cons_succ, List.getElem_toArray, List.getElem_cons_zero, List.getElem_cons_succ]
            refine wpAnyH_take (i := 4) (v := ?v4_139) rfl (by kernel_rfl) (by kernel_rfl) (by kernel_rfl) (fun _ _ _ h => h) (Or.inl ⟨by rfl, ?hy4_139⟩) (by assumption) ?rest4_139
            case hy4_139 => (intro w9 hSw; clear hSw; go_simp; try with_reducible rfl)
            try simp only [Act.put, List.setIfInBounds_toArray, List.set_cons_zero, List.set_cons_succ, List.getElem_toArray, List.getElem_cons_zero, List.getElem_cons_succ]
            refine wpAnyH_take (i := 5) (v := ?v5_140) rfl (by kernel_rfl) (by kernel_rfl) (by kernel_rfl) (fun _ _ _ h => h) (Or.inl ⟨by rfl, ?hy5_140⟩) (by assumption) ?rest5_140
            case hy5_140 => (intro w9 hSw; clear hSw; go_simp; try with_reducible rfl)
            try simp only [Act.put, List.setIfInBounds_toArray, List.set_cons_zero, List.set_cons_succ, List.getElem_toArray, List.getElem_cons_zero, List.getElem_cons_succ]
            refine wpAnyH_take (i := 6) (v := ?v6_141) rfl (by kernel_rfl) (by kernel_rfl) (by kernel_rfl) (fun _ _ _ h => h) (Or.inl ⟨by rfl, ?hy6_141⟩) (by assumption) ?rest6_141
            case hy6_141 => (intro w9 hSw; obtain ⟨sp, sv, ss1⟩ := hSw; obtain ⟨k0, k1, k2, k3, k4, k5, k6, k7, k8⟩ := Vbx.cells sv; obtain ⟨q0, q1, q2, q3, q4, q5, q6, q7, q8⟩ := Vbx.cells sp; obtain ⟨t0, t1, t2, t3, t4⟩ : _ ∧ _ ∧ _ ∧ _ ∧ _ := ⟨Blk.cell ss1 0 rfl, Blk.cell ss1 1 rfl, Blk.cell ss1 2 rfl, Blk.cell ss1 3 rfl, Blk.cell ss1 4 rfl⟩; go_simp; try with_reducible rfl)
            try simp only [Act.put, List.setIfInBounds_toArray, List.set_cons_zero, List.set_cons_succ, List.getElem_toArray, List.getElem_cons_zero, List.getElem_cons_succ]
            refine wpAnyH_take (i := 8) (v := ?v8_142) rfl (by kernel_rfl) (by kernel_rfl) (by kernel_rfl) (fun _ _ _ h => h) (Or.inl ⟨by rfl, ?hy8_142⟩) (by assumption) ?rest8_142
            case hy8_142 => (intro w9 hSw; clear hSw; go_simp; try with_reducible rfl)
            try simp only [Act.put, List.setIfInBounds_toArray, List.set_cons_zero, List.set_cons_succ, List.getElem_toArray, List.getElem_cons_zero, List.getElem_cons_succ]
            refine wpAnyH_take (i := 9) (v := ?v9_143) rfl (by kernel_rfl) (by kernel_rfl) (by kernel_rfl) (fun _ _ _ h => h) (Or.inl ⟨by rfl, ?hy9_143⟩) (by assumption) ?rest9_143
            case hy9_143 => (intro w9 hSw; obtain ⟨sp, sv, ss1⟩ := hSw; obtain ⟨k0, k1, k2, k3, k4, k5, k6, k7, k8⟩ := Vbx.cells sv; obtain ⟨q0, q1, q2, q3, q4, q5, q6, q7, q8⟩ := Vbx.cells sp; obtain ⟨t0, t1, t2, t3, t4⟩ : _ ∧ _ ∧ _ ∧ _ ∧ _ := ⟨Blk.cell ss1 0 rfl, Blk.cell ss1 1 rfl, Blk.cell ss1 2 rfl, Blk.cell ss1 3 rfl, Blk.cell ss1 4 rfl⟩; go_simp; try with_reducible rfl)
            try simp only [Act.put, List.setIfInBounds_toArray, List.set_cons_zero, List.set_cons_succ, List.getElem_toArray, List.getElem_cons_zero, List.getElem_cons_succ]
            refine wpAnyH_ready (rs := [7]) (by kernel_rfl) (by simp) ?_
            refine AllReadyH.cons rfl (fun K hK => ?_) AllReadyH.nil
            go_simp
            with_reducible refine (Cols_any P _).mono ?_
            rintro e w14 ⟨rfl, hb⟩
            replace DM := DM.on hb
            replace DS := DS.on hb
            replace hF := hF.on hb
            replace hst := hst.on hb
            replace D9 := D9.on hb
            replace D11 := D11.on hb
            replace bz := bz.trans (hb.mono bz.size)
            clear hb
            refine hK.out _ _ ⟨D11, D9, DS⟩ (fun hH => ?_)
            clear hK K hS
            have hS := hH
            clear hH
            try simp only [Act.put, List.setIfInBounds_toArray, List.set_cons_zero, List.set_cons_succ, List.getElem_toArray, List.getElem_cons_zero, List.getElem_cons_succ]
            refine wpAnyH_take (i := 10) (v := ?v10_144) rfl (by kernel_rfl) (by kernel_rfl) (by kernel_rfl) (fun _ _ _ h => h) (Or.inl ⟨by rfl, ?hy10_144⟩) (by assumption) ?rest10_144
            case hy10_144 => (intro w9 hSw; clear hSw; go_simp; try with_reducible rfl)
            try simp only [Act.put, List.setIfInBounds_toArray, List.set_cons_zero, List.set_cons_succ, List.getElem_toArray, List.getElem_cons_zero, List.getElem_cons_succ]
            refine wpAnyH_take (i := 11) (v := ?v11_145) rfl (by kernel_rfl) (by kernel_rfl) (by kernel_rfl) (fun _ _ _ h => h) (Or.inl ⟨by rfl, ?hy11_145⟩) (by assumption) ?rest11_145
            case hy11_145 => (intro w9 hSw; clear hSw; go_simp; try with_reducible rfl)
            try simp only [Act.put, List.setIfInBounds_toArray, List.set_cons_zero, List.set_cons_succ, List.getElem_toArray, List.getElem_cons_zero, List.getElem_cons_succ]
            refine wpAnyH_take (i := 12) (v := ?v12_146) rfl (by kernel_rfl) (by kernel_rfl) (by kernel_rfl) (fun _ _ _ h => h) (Or.inl ⟨by rfl, ?hy12_146⟩) (by assumption) ?rest12_146
            case hy12_146 => (intro w9 hSw; clear hSw; go_simp; try with_reducible rfl)
            try simp only [Act.put, List.setIfInBounds_toArray, List.set_cons_zero, List.set_cons_succ, List.getElem_toArray, List.getElem_cons_zero, List.getElem_cons_succ]
            refine wpAnyH_take (i := 13) (v := ?v13_147) rfl (by kernel_rfl) (by kernel_rfl) (by kernel_rfl) (fun _ _ _ h => h) (Or.inl ⟨by rfl, ?hy13_147⟩) (by assumption) ?rest13_147
            case hy13_147 => (intro w9 hSw; clear hSw; go_simp; try with_reducible rfl)
            try simp only [Act.put, List.setIfInBounds_toArray, List.set_cons_zero, List.set_cons_succ, List.getElem_toArray, List.getElem_cons_zero, List.getElem_cons_succ]
            refine wpAnyH_take (i := 14) (v := ?v14_148) rfl (by kernel_rfl) (by kernel_rfl) (by kernel_rfl) (fun _ _ _ h => h) (Or.inl ⟨by rfl, ?hy14_148⟩) (by assumption) ?rest14_148
            case hy14_148 => (intro w9 hSw; clear hSw; go_simp; try with_reducible rfl)
            try simp only [Act.put, List.setIfInBounds_toArray, List.set_cons_zero, List.set_cons_succ, List.getElem_toArray, List.getElem_cons_zero, List.getElem_cons_succ]
            refine wpAnyH_take (i := 15) (v := ?v15_149) rfl (by kernel_rfl) (by kernel_rfl) (by kernel_rfl) (fun _ _ _ h => h) (Or.inl ⟨by rfl, ?hy15_149⟩) (by assumption) ?rest15_149
            case hy15_149 => (intro w9 hSw; clear hSw; go_simp; try with_reducible rfl)
            try simp only [Act.put, List.setIfInBounds_toArray, List.set_cons_zero, List.set_cons_succ, List.getElem_toArray, List.getElem_cons_zero, List.getElem_cons_succ]
            refine wpAnyH_take (i := 16) (v := ?v16_150) rfl (by kernel_rfl) (by kernel_rfl) (by kernel_rfl) (fun _ _ _ h => h) (Or.inl ⟨by rfl, ?hy16_150⟩) (by assumption) ?rest16_150
            case hy16_150 => (intro w9 hSw; clear hSw; go_simp; try with_reducible rfl)
            try simp only [Act.put, List.setIfInBounds_toArray, List.set_cons_zero, List.set_cons_succ, List.getElem_toArray, List.getElem_cons_zero, List.getElem_cons_succ]
            refine wpAnyH_take (i := 17) (v := ?v17_151) rfl (by kernel_rfl) (by kernel_rfl) (by kernel_rfl) (fun _ _ _ h => h) (Or.inl ⟨by rfl, ?hy17_151⟩) (by assumption) ?rest17_151
            case hy17_151 => (intro w9 hSw; clear hSw; go_simp; try with_reducible rfl)
            try simp only [Act.put, List.setIfInBounds_toArray, List.set_cons_zero, List.set_cons_succ, List.getElem_toArray, List.getElem_cons_zero, List.getElem_cons_succ]
            refine wpAnyH_take (i := 18) (v := ?v18_152) rfl (by kernel_rfl) (by kernel_rfl) (by kernel_rfl) (fun _ _ _ h => h) (Or.inl ⟨by rfl, ?hy18_152⟩) (by assumption) ?rest18_152
            case hy18_152 => (intro w9 hSw; clear hSw; go_simp; try with_reducible rfl)
            try simp only [Act.put, List.setIfInBounds_toArray, List.set_cons_zero, List.set_cons_succ, List.getElem_toArray, List.getElem_cons_zero, List.getElem_cons_succ]
            refine wpAnyH_take (i := 19) (v := ?v19_153) rfl (by kernel_rfl) (by kernel_rfl) (by kernel_rfl) (fun _ _ _ h => h) (Or.inl ⟨by rfl, ?hy19_153⟩) (by assumption) ?rest19_153
            case hy19_153 => (intro w9 hSw; clear hSw; go_simp; try with_reducible rfl)
            try simp only [Act.put, List.setIfInBounds_toArray, List.set_cons_zero, List.set_cons_succ, List.getElem_toArray, List.getElem_cons_zero, List.getElem_cons_succ]
            refine wpAnyH_take (i := 20) (v := ?v20_154) rfl (by kernel_rfl) (by kernel_rfl) (by kernel_rfl) (fun _ _ _ h => h) (Or.inl ⟨by rfl, ?hy20_154⟩) (by assumption) ?rest20_154
            case hy20_154 => (intro w9 hSw; clear hSw; go_simp; try with_reducible rfl)
            try simp only [Act.put, List.setIfInBounds_toArray, List.set_cons_zero, List.set_cons_succ, List.getElem_toArray, List.getElem_cons_zero, List.getElem_cons_succ]
            refine wpAnyH_take (i := 21) (v := ?v21_155) rfl (by kernel_rfl) (by kernel_rfl) (by kernel_rfl) (fun _ _ _ h => h) (Or.inl ⟨by rfl, ?hy21_155⟩) (by assumption) ?rest21_155
            case hy21_155 => (intro w9 hSw; clear hSw; go_simp; try with_reducible rfl)
            try simp only [Act.put, List.setIfInBounds_toArray, List.set_cons_zero, List.set_cons_succ, List.getElem_toArray, List.getElem_cons_zero, List.getElem_cons_succ]
            refine wpAnyH_take (i := 22) (v := ?v22_156) rfl (by kernel_rfl) (by kernel_rfl) (by kernel_rfl) (fun _ _ _ h => h) (Or.inl ⟨by rfl, ?hy22_156⟩) (by assumption) ?rest22_156
            case hy22_156 => (intro w9 hSw; clear hSw; go_simp; try with_reducible rfl)
            try simp only [Act.put, List.setIfInBounds_toArray, List.set_cons_zero, List.set_cons_succ, List.getElem_toArray, List.getElem_cons_zero, List.getElem_cons_succ]
            refine wpAnyH_take (i := 23) (v := ?v23_157) rfl (by kernel_rfl) (by kernel_rfl) (by kernel_rfl) (fun _ _ _ h => h) (Or.inl ⟨by rfl, ?hy23_157⟩) (by assumption) ?rest23_157
            case hy23_157 => (intro w9 hSw; obtain ⟨sp, sv, ss1⟩ := hSw; obtain ⟨k0, k1, k2, k3, k4, k5, k6, k7, k8⟩ := Vbx.cells sv; obtain ⟨q0, q1, q2, q3, q4, q5, q6, q7, q8⟩ := Vbx.cells sp; obtain ⟨t0, t1, t2, t3, t4⟩ : _ ∧ _ ∧ _ ∧ _ ∧ _ := ⟨Blk.cell ss1 0 rfl, Blk.cell ss1 1 rfl, Blk.cell ss1 2 rfl, Blk.cell ss1 3 rfl, Blk.cell ss1 4 rfl⟩; go_simp; try with_reducible rfl)
            try simp only [Act.put, List.setIfInBounds_toArray, List.set_cons_zero, List.set_cons_succ, List.getElem_toArray, List.getElem_cons_zero, List.getElem_cons_succ]
            refine wpAnyH_take (i := 24) (v := ?v24_158) rfl (by kernel_rfl) (by kernel_rfl) (by kernel_rfl) (fun _ _ _ h => h) (Or.inl ⟨by rfl, ?hy24_158⟩) (by assumption) ?rest24_158
            case hy24_158 => (intro w9 hSw; clear hSw; go_simp; try with_reducible rfl)
            try simp only [Act.put, List.setIfInBounds_toArray, List.set_cons_zero, List.set_cons_succ, List.getElem_toArray, List.getElem_cons_zero, List.getElem_cons_succ]
            refine wpAnyH_take (i := 25) (v := ?v25_159) rfl (by kernel_rfl) (by kernel_rfl) (by kernel_rfl) (fun _ _ _ h => h) (Or.inl ⟨by rfl, ?hy25_159⟩) (by assumption) ?rest25_159
            case hy25_159 => (intro w9 hSw; clear hSw; go_simp; try with_reducible rfl)
            try simp only [Act.put, List.setIfInBounds_toArray, List.set_cons_zero, List.set_cons_succ, List.getElem_toArray, List.getElem_cons_zero, List.getElem_cons_succ]
            refine wpAnyH_take (i := 26) (v := ?v26_160) rfl (by kernel_rfl) (by kernel_rfl) (by kernel_rfl) (fun _ _ _ h => h) (Or.inl ⟨by rfl, ?hy26_160⟩) (by assumption) ?rest26_160
            case hy26_160 => (intro w9 hSw; clear hSw; go_simp; try with_reducible rfl)
            try simp only [Act.put, List.setIfInBounds_toArray, List.set_cons_zero, List.set_cons_succ, List.getElem_toArray, List.getElem_cons_zero, List.getElem_cons_succ]
            refine wpAnyH_take (i := 27) (v := undef) rfl (by kernel_rfl) (by kernel_rfl) (by kernel_rfl) (fun _ _ _ h => h) (Or.inr ⟨by rfl, rfl⟩) (by assumption) ?_
            try simp only [Act.put, List.setIfInBounds_toArray, List.set_cons_zero, List.set_cons_succ, List.getElem_toArray, List.getElem_cons_zero, List.getElem_cons_succ]
            refine wpAnyH_take (i := 28) (v := undef) rfl (by kernel_rfl) (by kernel_rfl) (by kernel_rfl) (fun _ _ _ h => h) (Or.inr ⟨by rfl, rfl⟩) (by assumption) ?_
            try simp only [Act.put, List.setIfInBounds_toArray, List.set_cons_zero, List.set_cons_succ, List.getElem_toArray, List.getElem_cons_zero, List.getElem_cons_succ]
            refine wpAnyH_take (i := 29) (v := undef) rfl (by kernel_rfl) (by kernel_rfl) (by kernel_rfl) (fun _ _ _ h => h) (Or.inr ⟨by rfl, rfl⟩) (by assumption) ?_
            try simp only [Act.put, List.setIfInBounds_toArray, List.set_cons_zero, List.set_cons_succ, List.getElem_toArray, List.getElem_cons_zero, List.getElem_cons_succ]
            refine wpAnyH_take (i := 30) (v := undef) rfl (by kernel_rfl) (by kernel_rfl) (by kernel_rfl) (fun _ _ _ h => h) (Or.inr ⟨by rfl, rfl⟩) (by assumption) ?_
            try simp only [Act.put, List.setIfInBounds_toArray, List.set_cons_zero, List.set_cons_succ, List.getElem_toArray, List.getElem_cons_zero, List.getElem_cons_succ]
            refine wpAnyH_take (i := 31) (v := ?v31_161) rfl (by kernel_rfl) (by kernel_rfl) (by kernel_rfl) (fun _ _ _ h => h) (Or.inl ⟨by rfl, ?hy31_161⟩) (by assumption) ?rest31_161
            case hy31_161 => (intro w9 hSw; clear hSw; go_simp; try with_reducible rfl)
            try simp only [Act.put, List.setIfInBounds_toArray, List.set_cons_zero, List.set_cons_succ, List.getElem_toArray, List.getElem_cons_zero, List.getElem_cons_succ]
            refine wpAnyH_done (by kernel_rfl) ?_ _
            go_wp2_with fail
            go_ret
            exact ⟨rfl, bz⟩
    · refine wp_region_held_drew (S := fun w9 : World => Vbx w9 HD11 P ∧ Vbx w9 HD9 (Vu.all s R C) ∧ Blk w9 (w.heap.size + 1) [.int .i64 K0, .int .i64 A0, .int .i64 B0, .int .i64 C0, .int .i64 D0]) (by kernel_rfl) ⟨D11, D9, DS⟩ (fun hS => ?_)
      refine wpAnyH_take (i := 0) (v := ?v0_162) rfl (by kernel_rfl) (by kernel_rfl) (by kernel_rfl) (fun _ _ _ h => h) (Or.inl ⟨by rfl, ?hy0_162⟩) (by assumption) ?rest0_162
      case hy0_162 => (intro w9 hSw; obtain ⟨sp, sv, ss1⟩ := hSw; obtain ⟨k0, k1, k2, k3, k4, k5, k6, k7, k8⟩ := Vbx.cells sv; obtain ⟨q0, q1, q2, q3, q4, q5, q6, q7, q8⟩ := Vbx.cells sp; obtain ⟨t0, t1, t2, t3, t4⟩ : _ ∧ _ ∧ _ ∧ _ ∧ _ := ⟨Blk.cell ss1 0 rfl, Blk.cell ss1 1 rfl, Blk.cell ss1 2 rfl, Blk.cell ss1 3 rfl, Blk.cell ss1 4 rfl⟩; go_simp; try with_reducible rfl)
      try simp only [Act.put, List.setIfInBounds_toArray, List.set_cons_zero, List.set_cons_succ, List.getElem_toArray, List.getElem_cons_zero, List.getElem_cons_succ]
      refine wpAnyH_take (i := 2) (v := ?v2_163) rfl (by kernel_rfl) (by kernel_rfl) (by kernel_rfl) (fun _ _ _ h => h) (Or.inl ⟨by rfl, ?hy2_163⟩) (by assumption) ?rest2_163
      case hy2_163 => (intro w9 hSw; clear hSw; go_simp; try with_reducible rfl)
      try simp only [Act.put, List.setIfInBounds_toArray, List.set_cons_zero, List.set_cons_succ, List.getElem_toArray, List.getElem_cons_zero, List.getElem_cons_succ]
      refine wpAnyH_take (i := 3) (v := ?v3_164) rfl (by kernel_rfl) (by kernel_rfl) (by kernel_rfl) (fun _ _ _ h => h) (Or.inl ⟨by rfl, ?hy3_164⟩) (by assumption) ?rest3_164
      case hy3_164 => (intro w9 hSw; obtain ⟨sp, sv, ss1⟩ := hSw; obtain ⟨k0, k1, k2, k3, k4, k5, k6, k7, k8⟩ := Vbx.cells sv; obtain ⟨q0, q1, q2, q3, q4, q5, q6, q7, q8⟩ := Vbx.cells sp; obtain ⟨t0, t1, t2, t3, t4⟩ : _ ∧ _ ∧ _ ∧ _ ∧ _ := ⟨Blk.cell ss1 0 rfl, Blk.cell ss1 1 rfl, Blk.cell ss1 2 rfl, Blk.cell ss1 3 rfl, Blk.cell ss1 4 rfl⟩; go_simp; try with_reducible rfl)
      try simp only [Act.put, List.setIfInBounds_toArray, List.set_cons_zero, List.set_cons_succ, List.getElem_toArray, List.getElem_cons_zero, List.getElem_cons_succ]
      refine wpAnyH_ready (rs := [1]) (by kernel_rfl) (by simp) ?_
      refine AllReadyH.cons rfl (fun K hK => ?_) AllReadyH.nil
      go_simp
      with_reducible refine (Rows_any P _).mono ?_
      rintro e w13 ⟨rfl, hb⟩
      replace DM := DM.on hb
      replace DS := DS.on hb
      replace hF := hF.on hb
      replace hst := hst.on hb
      replace D9 := D9.on hb
      replace D11 := D11.on hb
      replace bz := bz.trans (hb.mono bz.size)
      clear hb
      refine hK.out _ _ ⟨D11, D9, DS⟩ (fun hH => ?_)
      clear hK K hS
      have hS := hH
      clear hH
      try simp only [Act.put, List.setIfInBounds_toArray, List.set_cons_zero, List.set_cons_succ, List.getElem_toArray, List.getElem_cons_zero, List.getElem_cons_succ]
      refine wpAnyH_take (i := 4) (v := ?v4_165) rfl (by kernel_rfl) (by kernel_rfl) (by kernel_rfl) (fun _ _ _ h => h) (Or.inl ⟨by rfl, ?hy4_165⟩) (by assumption) ?rest4_165
      case hy4_165 => (intro w9 hSw; clear hSw; go_simp; try with_reducible rfl)
      try simp only [Act.put, List.setIfInBounds_toArray, List.set_cons_zero, List.set_cons_succ, List.getElem_toArray, List.getElem_cons_zero, List.getElem_cons_succ]
      refine wpAnyH_take (i := 5) (v := ?v5_166) rfl (by kernel_rfl) (by kernel_rfl) (by kernel_rfl) (fun _ _ _ h => h) (Or.inl ⟨by rfl, ?hy5_166⟩) (by assumption) ?rest5_166
      case hy5_166 => (intro w9 hSw; clear hSw; go_simp; try with_reducible rfl)
      try simp only [Act.put, List.setIfInBounds_toArray, List.set_cons_zero, List.set_cons_succ, List.getElem_toArray, List.getElem_cons_zero, List.getElem_cons_succ]
      refine wpAnyH_take (i := 6) (v := ?v6_167) rfl (by kernel_rfl) (by kernel_rfl) (by kernel_rfl) (fun _ _ _ h => h) (Or.inl ⟨by rfl, ?hy6_167⟩) (by assumption) ?rest6_167
      case hy6_167 => (intro w9 hSw; obtain ⟨sp, sv, ss1⟩ := hSw; obtain ⟨k0, k1, k2, k3, k4, k5, k6, k7, k8⟩ := Vbx.cells sv; obtain ⟨q0, q1, q2, q3, q4, q5, q6, q7, q8⟩ := Vbx.cells sp; obtain ⟨t0, t1, t2, t3, t4⟩ : _ ∧ _ ∧ _ ∧ _ ∧ _ := ⟨Blk.cell ss1 0 rfl, Blk.cell ss1 1 rfl, Blk.cell ss1 2 rfl, Blk.cell ss1 3 rfl, Blk.cell ss1 4 rfl⟩; go_simp; try with_reducible rfl)
      try simp only [Act.put, List.setIfInBounds_toArray, List.set_cons_zero, List.set_cons_succ, List.getElem_toArray, List.getElem_cons_zero, List.getElem_cons_succ]
      refine wpAnyH_take (i := 8) (v := ?v8_168) rfl (by kernel_rfl) (by kernel_rfl) (by kernel_rfl) (fun _ _ _ h => h) (Or.inl ⟨by rfl, ?hy8_168⟩) (by assumption) ?rest8_168
      case hy8_168 => (intro w9 hSw; clear hSw; go_simp; try with_reducible rfl)
      try simp only [Act.put, List.setIfInBounds_toArray, List.set_cons_zero, List.set_cons_succ, List.getElem_toArray, List.getElem_cons_zero, List.getElem_cons_succ]
      refine wpAnyH_take (i := 9) (v := ?v9_169) rfl (by kernel_rfl) (by kernel_rfl) (by kernel_rfl) (fun _ _ _ h => h) (Or.inl ⟨by rfl, ?hy9_169⟩) (by assumption) ?rest9_169
      case hy9_169 => (intro w9 hSw; obtain ⟨sp, sv, ss1⟩ := hSw; obtain ⟨k0, k1, k2, k3, k4, k5, k6, k7, k8⟩ := Vbx.cells sv; obtain ⟨q0, q1, q2, q3, q4, q5, q6, q7, q8⟩ := Vbx.cells sp; obtain ⟨t0, t1, t2, t3, t4⟩ : _ ∧ _ ∧ _ ∧ _ ∧ _ := ⟨Blk.cell ss1 0 rfl, Blk.cell ss1 1 rfl, Blk.cell ss1 2 rfl, Blk.cell ss1 3 rfl, Blk.cell ss1 4 rfl⟩; go_simp; try with_reducible rfl)
      try simp only [Act.put, List.setIfInBounds_toArray, List.set_cons_zero, List.set_cons_succ, List.getElem_toArray, List.getElem_cons_zero, List.getElem_cons_succ]
      refine wpAnyH_ready (rs := [7]) (by kernel_rfl) (by simp) ?_
      refine AllReadyH.cons rfl (fun K hK => ?_) AllReadyH.nil
      go_simp
      with_reducible refine (Cols_any P _).mono ?_
      rintro e w14 ⟨rfl, hb⟩
      replace DM := DM.on hb
      replace DS := DS.on hb
      replace hF := hF.on hb
      replace hst := hst.on hb
      replace D9 := D9.on hb
      replace D11 := D11.on hb
      replace bz := bz.trans (hb.mono bz.size)
      clear hb
      refine hK.out _ _ ⟨D11, D9, DS⟩ (fun hH => ?_)
      clear hK K hS
      have hS := hH
      clear hH
      try simp only [Act.put, List.setIfInBounds_toArray, List.set_cons_zero, List.set_cons_succ, List.getElem_toArray, List.getElem_cons_zero, List.getElem_cons_succ]
      refine wpAnyH_take (i := 10) (v := ?v10_170) rfl (by kernel_rfl) (by kernel_rfl) (by kernel_rfl) (fun _ _ _ h => h) (Or.inl ⟨by rfl, ?hy10_170⟩) (by assumption) ?rest10_170
      case hy10_170 => (intro w9 hSw; clear hSw; go_simp; try with_reducible rfl)
      try simp only [Act.put, List.setIfInBounds_toArray, List.set_cons_zero, List.set_cons_succ, List.getElem_toArray, List.getElem_cons_zero, List.getElem_cons_succ]
      refine wpAnyH_take (i := 11) (v := ?v11_171) rfl (by kernel_rfl) (by kernel_rfl) (by kernel_rfl) (fun _ _ _ h => h) (Or.inl ⟨by rfl, ?hy11_171⟩) (by assumption) ?rest11_171
      case hy11_171 => (intro w9 hSw; clear hSw; go_simp; try with_reducible rfl)
      try simp only [Act.put, List.setIfInBounds_toArray, List.set_cons_zero, List.set_cons_succ, List.getElem_toArray, List.getElem_cons_zero, List.getElem_cons_succ]
      refine wpAnyH_take (i := 12) (v := ?v12_172) rfl (by kernel_rfl) (by kernel_rfl) (by kernel_rfl) (fun _ _ _ h => h) (Or.inl ⟨by rfl, ?hy12_172⟩) (by assumption) ?rest12_172
      case hy12_172 => (intro w9 hSw; clear hSw; go_simp; try with_reducible rfl)
      try simp only [Act.put, List.setIfInBounds_toArray, List.set_cons_zero, List.set_cons_succ, List.getElem_toArray, List.getElem_cons_zero, List.getElem_cons_succ]
      refine wpAnyH_take (i := 13) (v := undef) rfl (by kernel_rfl) (by kernel_rfl) (by kernel_rfl) (fun _ _ _ h => h) (Or.inr ⟨by rfl, rfl⟩) (by assumption) ?_
      try simp only [Act.put, List.setIfInBounds_toArray, List.set_cons_zero, List.set_cons_succ, List.getElem_toArray, List.getElem_cons_zero, List.getElem_cons_succ]
      refine wpAnyH_take (i := 14) (v := undef) rfl (by kernel_rfl) (by kernel_rfl) (by kernel_rfl) (fun _ _ _ h => h) (Or.inr ⟨by rfl, rfl⟩) (by assumption) ?_
      try simp only [Act.put, List.setIfInBounds_toArray, List.set_cons_zero, List.set_cons_succ, List.getElem_toArray, List.getElem_cons_zero, List.getElem_cons_succ]
      refine wpAnyH_take (i := 15) (v := ?v15_173) rfl (by kernel_rfl) (by kernel_rfl) (by kernel_rfl) (fun _ _ _ h => h) (Or.inl ⟨by rfl, ?hy15_173⟩) (by assumption) ?rest15_173
      case hy15_173 => (intro w9 hSw; clear hSw; go_simp; try with_reducible rfl)
      try simp only [Act.put, List.setIfInBounds_toArray, List.set_cons_zero, List.set_cons_succ, List.getElem_toArray, List.getElem_cons_zero, List.getElem_cons_succ]
      refine wpAnyH_take (i := 16) (v := ?v16_174) rfl (by kernel_rfl) (by kernel_rfl) (by kernel_rfl) (fun _ _ _ h => h) (Or.inl ⟨by rfl, ?hy16_174⟩) (by assumption) ?rest16_174
      case hy16_174 => (intro w9 hSw; clear hSw; go_simp; try with_reducible rfl)
      try simp only [Act.put, List.setIfInBounds_toArray, List.set_cons_zero, List.set_cons_succ, List.getElem_toArray, List.getElem_cons_zero, List.getElem_cons_succ]
      refine wpAnyH_take (i := 17) (v := undef) rfl (by kernel_rfl) (by kernel_rfl) (by kernel_rfl) (fun _ _ _ h => h) (Or.inr ⟨by rfl, rfl⟩) (by assumption) ?_
      try simp only [Act.put, List.setIfInBounds_toArray, List.set_cons_zero, List.set_cons_succ, List.getElem_toArray, List.getElem_cons_zero, List.getElem_cons_succ]
      refine wpAnyH_take (i := 18) (v := undef) rfl (by kernel_rfl) (by kernel_rfl) (by kernel_rfl) (fun _ _ _ h => h) (Or.inr ⟨by rfl, rfl⟩) (by assumption) ?_
      try simp only [Act.put, List.setIfInBounds_toArray, List.set_cons_zero, List.set_cons_succ, List.getElem_toArray, List.getElem_cons_zero, List.getElem_cons_succ]
      refine wpAnyH_take (i := 19) (v := ?v19_175) rfl (by kernel_rfl) (by kernel_rfl) (by kernel_rfl) (fun _ _ _ h => h) (Or.inl ⟨by rfl, ?hy19_175⟩) (by assumption) ?rest19_175
      case hy19_175 => (intro w9 hSw; clear hSw; go_simp; try with_reducible rfl)
      try simp only [Act.put, List.setIfInBounds_toArray, List.set_cons_zero, List.set_cons_succ, List.getElem_toArray, List.getElem_cons_zero, List.getElem_cons_succ]
      refine wpAnyH_take (i := 20) (v := ?v20_176) rfl (by kernel_rfl) (by kernel_rfl) (by kernel_rfl) (fun _ _ _ h => h) (Or.inl ⟨by rfl, ?hy20_176⟩) (by assumption) ?rest20_176
      case hy20_176 => (intro w9 hSw; clear hSw; go_simp; try with_reducible rfl)
      try simp only [Act.put, List.setIfInBounds_toArray, List.set_cons_zero, List.set_cons_succ, List.getElem_toArray, List.getElem_cons_zero, List.getElem_cons_succ]
      refine wpAnyH_take (i := 21) (v := undef) rfl (by kernel_rfl) (by kernel_rfl) (by kernel_rfl) (fun _ _ _ h => h) (Or.inr ⟨by rfl, rfl⟩) (by assumption) ?_
      try simp only [Act.put, List.setIfInBounds_toArray, List.set_cons_zero, List.set_cons_succ, List.getElem_toArray, List.getElem_cons_zero, List.getElem_cons_succ]
      refine wpAnyH_take (i := 22) (v := undef) rfl (by kernel_rfl) (by kernel_rfl) (by kernel_rfl) (fun _ _ _ h => h) (Or.inr ⟨by rfl, rfl⟩) (by assumption) ?_
      try simp only [Act.put, List.setIfInBounds_toArray, List.set_cons_zero, List.set_cons_succ, List.getElem_toArray, List.getElem_cons_zero, List.getElem_cons_succ]
      refine wpAnyH_take (i := 23) (v := undef) rfl (by kernel_rfl) (by kernel_rfl) (by kernel_rfl) (fun _ _ _ h => h) (Or.inr ⟨by rfl, rfl⟩) (by assumption) ?_
      try simp only [Act.put, List.setIfInBounds_toArray, List.set_cons_zero, List.set_cons_succ, List.getElem_toArray, List.getElem_cons_zero, List.getElem_cons_succ]
      refine wpAnyH_take (i := 24) (v := undef) rfl (by kernel_rfl) (by kernel_rfl) (by kernel_rfl) (fun _ _ _ h => h) (Or.inr ⟨by rfl, rfl⟩) (by assumption) ?_
      try simp only [Act.put, List.setIfInBounds_toArray, List.set_cons_zero, List.set_cons_succ, List.getElem_toArray, List.getElem_cons_zero, List.getElem_cons_succ]
      refine wpAnyH_take (i := 25) (v := ?v25_177) rfl (by kernel_rfl) (by kernel_rfl) (by kernel_rfl) (fun _ _ _ h => h) (Or.inl ⟨by rfl, ?hy25_177⟩) (by assumption) ?rest25_177
      case hy25_177 => (intro w9 hSw; clear hSw; go_simp; try with_reducible rfl)
      try simp only [Act.put, List.setIfInBounds_toArray, List.set_cons_zero, List.set_cons_succ, List.getElem_toArray, List.getElem_cons_zero, List.getElem_cons_succ]
      refine wpAnyH_take (i := 26) (v := ?v26_178) rfl (by kernel_rfl) (by kernel_rfl) (by kernel_rfl) (fun _ _ _ h => h) (Or.inl ⟨by rfl, ?hy26_178⟩) (by assumption) ?rest26_178
      case hy26_178 => (intro w9 hSw; clear hSw; go_simp; try with_reducible rfl)
      try simp only [Act.put, List.setIfInBounds_toArray, List.set_cons_zero, List.set_cons_succ, List.getElem_toArray, List.getElem_cons_zero, List.getElem_cons_succ]
      refine wpAnyH_take (i := 27) (v := undef) rfl (by kernel_rfl) (by kernel_rfl) (by kernel_rfl) (fun _ _ _ h => h) (Or.inr ⟨by rfl, rfl⟩) (by assumption) ?_
      try simp only [Act.put, List.setIfInBounds_toArray, List.set_cons_zero, List.set_cons_succ, List.getElem_toArray, List.getElem_cons_zero, List.getElem_cons_succ]
      refine wpAnyH_take (i := 28) (v := undef) rfl (by kernel_rfl) (by kernel_rfl) (by kernel_rfl) (fun _ _ _ h => h) (Or.inr ⟨by rfl, rfl⟩) (by assumption) ?_
      try simp only [Act.put, List.setIfInBounds_toArray, List.set_cons_zero, List.set_cons_succ, List.getElem_toArray, List.getElem_cons_zero, List.getElem_cons_succ]
      refine wpAnyH_take (i := 29) (v := undef) rfl (by kernel_rfl) (by kernel_rfl) (by kernel_rfl) (fun _ _ _ h => h) (Or.inr ⟨by rfl, rfl⟩) (by assumption) ?_
      try simp only [Act.put, List.setIfInBounds_toArray, List.set_cons_zero, List.set_cons_succ, List.getElem_toArray, List.getElem_cons_zero, List.getElem_cons_succ]
      refine wpAnyH_take (i := 30) (v := undef) rfl (by kernel_rfl) (by kernel_rfl) (by kernel_rfl) (fun _ _ _ h => h) (Or.inr ⟨by rfl, rfl⟩) (by assumption) ?_
      try simp only [Act.put, List.setIfInBounds_toArray, List.set_cons_zero, List.set_cons_succ, List.getElem_toArray, List.getElem_cons_zero, List.getElem_cons_succ]
      refine wpAnyH_take (i := 31) (v := ?v31_179) rfl (by kernel_rfl) (by kernel_rfl) (by kernel_rfl) (fun _ _ _ h => h) (Or.inl ⟨by rfl, ?hy31_179⟩) (by assumption) ?rest31_179
      case hy31_179 => (intro w9 hSw; clear hSw; go_simp; try with_reducible rfl)
      try simp only [Act.put, List.setIfInBounds_toArray, List.set_cons_zero, List.set_cons_succ, List.getElem_toArray, List.getElem_cons_zero, List.getElem_cons_succ]
      refine wpAnyH_done (by kernel_rfl) ?_ _
      go_wp2_with fail
      go_ret
      exact ⟨rfl, bz⟩
  · refine wp_region_held_drew (S := fun w9 : World => Vbx w9 HD11 P ∧ Vbx w9 HD9 (Vu.all s R C) ∧ Blk w9 (w.heap.size + 1) [.int .i64 K0, .int .i64 A0, .int .i64 B0, .int .i64 C0, .int .i64 D0]) (by kernel_rfl) ⟨D11, D9, DS⟩ (fun hS => ?_)
    refine wpAnyH_take (i := 0) (v := ?v0_180) rfl (by kernel_rfl) (by kernel_rfl) (by kernel_rfl) (fun _ _ _ h => h) (Or.inl ⟨by rfl, ?hy0_180⟩) (by assumption) ?rest0_180
    case hy0_180 => (intro w9 hSw; obtain ⟨sp, sv, ss1⟩ := hSw; obtain ⟨k0, k1, k2, k3, k4, k5, k6, k7, k8⟩ := Vbx.cells sv; obtain ⟨q0, q1, q2, q3, q4, q5, q6, q7, q8⟩ := Vbx.cells sp; obtain ⟨t0, t1, t2, t3, t4⟩ : _ ∧ _ ∧ _ ∧ _ ∧ _ := ⟨Blk.cell ss1 0 rfl, Blk.cell ss1 1 rfl, Blk.cell ss1 2 rfl, Blk.cell ss1 3 rfl, Blk.cell ss1 4 rfl⟩; go_simp; try with_reducible rfl)
    try simp only [Act.put, List.setIfInBounds_toArray, List.set_cons_zero, List.set_cons_succ, List.getElem_toArray, List.getElem_cons_zero, List.getElem_cons_succ]
    refine wpAnyH_take (i := 2) (v := ?v2_181) rfl (by kernel_rfl) (by kernel_rfl) (by kernel_rfl) (fun _ _ _ h => h) (Or.inl ⟨by rfl, ?hy2_181⟩) (by assumption) ?rest2_181
    case hy2_181 => (intro w9 hSw; clear hSw; go_simp; try with_reducible rfl)
    try simp only [Act.put, List.setIfInBounds_toArray, List.set_cons_zero, List.set_cons_succ, List.getElem_toArray, List.getElem_cons_zero, List.getElem_cons_succ]
    refine wpAnyH_take (i := 3) (v := ?v3_182) rfl (by kernel_rfl) (by kernel_rfl) (by kernel_rfl) (fun _ _ _ h => h) (Or.inl ⟨by rfl, ?hy3_182⟩) (by assumption) ?rest3_182
    case hy3_182 => (intro w9 hSw; obtain ⟨sp, sv, ss1⟩ := hSw; obtain ⟨k0, k1, k2, k3, k4, k5, k6, k7, k8⟩ := Vbx.cells sv; obtain ⟨q0, q1, q2, q3, q4, q5, q6, q7, q8⟩ := Vbx.cells sp; obtain ⟨t0, t1, t2, t3, t4⟩ : _ ∧ _ ∧ _ ∧ _ ∧ _ := ⟨Blk.cell ss1 0 rfl, Blk.cell ss1 1 rfl, Blk.cell ss1 2 rfl, Blk.cell ss1 3 rfl, Blk.cell ss1 4 rfl⟩; go_simp; try with_reducible rfl)
    try simp only [Act.put, List.setIfInBounds_toArray, List.set_cons_zero, List.set_cons_succ, List.getElem_toArray, List.getElem_cons_zero, List.getElem_cons_succ]
    refine wpAnyH_ready (rs := [1]) (by kernel_rfl) (by simp) ?_
    refine AllReadyH.cons rfl (fun K hK => ?_) AllReadyH.nil
    go_simp
    with_reducible refine (Rows_any P _).mono ?_
    rintro e w13 ⟨rfl, hb⟩
    replace DM := DM.on hb
    replace DS := DS.on hb
    replace hF := hF.on hb
    replace hst := hst.on hb
    replace D9 := D9.on hb
    replace D11 := D11.on hb
    replace bz := bz.trans (hb.mono bz.size)
    clear hb
    refine hK.out _ _ ⟨D11, D9, DS⟩ (fun hH => ?_)
    clear hK K hS
    have hS := hH
    clear hH
    try simp only [Act.put, List.setIfInBounds_toArray, List.set_cons_zero, List.set_cons_succ, List.getElem_toArray, List.getElem_cons_zero, List.getElem_cons_succ]
    refine wpAnyH_take (i := 4) (v := ?v4_183) rfl (by kernel_rfl) (by kernel_rfl) (by kernel_rfl) (fun _ _ _ h => h) (Or.inl ⟨by rfl, ?hy4_183⟩) (by assumption) ?rest4_183
    case hy4_183 => (intro w9 hSw; clear hSw; go_simp; try with_reducible rfl)
    try simp only [Act.put, List.setIfInBounds_toArray, List.set_cons_zero, List.set_cons_succ, List.getElem_toArray, List.getElem_cons_zero, List.getElem_cons_succ]
    refine wpAnyH_take (i := 5) (v := ?v5_184) rfl (by kernel_rfl) (by kernel_rfl) (by kernel_rfl) (fun _ _ _ h => h) (Or.inl ⟨by rfl, ?hy5_184⟩) (by assumption) ?rest5_184
    case hy5_184 => (intro w9 hSw; clear hSw; go_simp; try with_reducible rfl)
    try simp only [Act.put, List.setIfInBounds_toArray, List.set_cons_zero, List.set_cons_succ, List.getElem_toArray, List.getElem_cons_zero, List.getElem_cons_succ]
    refine wpAnyH_take (i := 6) (v := undef) rfl (by kernel_rfl) (by kernel_rfl) (by kernel_rfl) (fun _ _ _ h => h) (Or.inr ⟨by rfl, rfl⟩) (by assumption) ?_
    try simp only [Act.put, List.setIfInBounds_toArray, List.set_cons_zero, List.set_cons_succ, List.getElem_toArray, List.getElem_cons_zero, List.getElem_cons_succ]
    refine wpAnyH_take (i := 7) (v := undef) rfl (by kernel_rfl) (by kernel_rfl) (by kernel_rfl) (fun _ _ _ h => h) (Or.inr ⟨by rfl, rfl⟩) (by assumption) ?_
    try simp only [Act.put, List.setIfInBounds_toArray, List.set_cons_zero, List.set_cons_succ, List.getElem_toArray, List.getElem_cons_zero, List.getElem_cons_succ]
    refine wpAnyH_take (i := 8) (v := undef) rfl (by kernel_rfl) (by kernel_rfl) (by kernel_rfl) (fun _ _ _ h => h) (Or.inr ⟨by rfl, rfl⟩) (by assumption) ?_
    try simp only [Act.put, List.setIfInBounds_toArray, List.set_cons_zero, List.set_cons_succ, List.getElem_toArray, List.getElem_cons_zero, List.getElem_cons_succ]
    refine wpAnyH_take (i := 9) (v := undef) rfl (by kernel_rfl) (by kernel_rfl) (by kernel_rfl) (fun _ _ _ h => h) (Or.inr ⟨by rfl, rfl⟩) (by assumption) ?_
    try simp only [Act.put, List.setIfInBounds_toArray, List.set_cons_zero, List.set_cons_succ, List.getElem_toArray, List.getElem_cons_zero, List.getElem_cons_succ]
    refine wpAnyH_take (i := 10) (v := undef) rfl (by kernel_rfl) (by kernel_rfl) (by kernel_rfl) (fun _ _ _ h => h) (Or.inr ⟨by rfl, rfl⟩) (by assumption) ?_
    try simp only [Act.put, List.setIfInBounds_toArray, List.set_cons_zero, List.set_cons_succ, List.getElem_toArray, List.getElem_cons_zero, List.getElem_cons_succ]
    refine wpAnyH_take (i := 11) (v := ?v11_185) rfl (by kernel_rfl) (by kernel_rfl) (by kernel_rfl) (fun _ _ _ h => h) (Or.inl ⟨by rfl, ?hy11_185⟩) (by assumption) ?rest11_185
    case hy11_185 => (intro w9 hSw; clear hSw; go_simp; try with_reducible rfl)
    try simp only [Act.put, List.setIfInBounds_toArray, List.set_cons_zero, List.set_cons_succ, List.getElem_toArray, List.getElem_cons_zero, List.getElem_cons_succ]
    refine wpAnyH_take (i := 12) (v := ?v12_186) rfl (by kernel_rfl) (by kernel_rfl) (by kernel_rfl) (fun _ _ _ h => h) (Or.inl ⟨by rfl, ?hy12_186⟩) (by assumption) ?rest12_186
    case hy12_186 => (intro w9 hSw; clear hSw; go_simp; try with_reducible rfl)
    try simp only [Act.put, List.setIfInBounds_toArray, List.set_cons_zero, List.set_cons_succ, List.getElem_toArray, List.getElem_cons_zero, List.getElem_cons_succ]
    refine wpAnyH_take (i := 13) (v := undef) rfl (by kernel_rfl) (by kernel_rfl) (by kernel_rfl) (fun _ _ _ h => h) (Or.inr ⟨by rfl, rfl⟩) (by assumption) ?_
    try simp only [Act.put, List.setIfInBounds_toArray, List.set_cons_zero, List.set_cons_succ, List.getElem_toArray, List.getElem_cons_zero, List.getElem_cons_succ]
    refine wpAnyH_take (i := 14) (v := undef) rfl (by kernel_rfl) (by kernel_rfl) (by kernel_rfl) (fun _ _ _ h => h) (Or.inr ⟨by rfl, rfl⟩) (by assumption) ?_
    try simp only [Act.put, List.setIfInBounds_toArray, List.set_cons_zero, List.set_cons_succ, List.getElem_toArray, List.getElem_cons_zero, List.getElem_cons_succ]
    refine wpAnyH_take (i := 15) (v := ?v15_187) rfl (by kernel_rfl) (by kernel_rfl) (by kernel_rfl) (fun _ _ _ h => h) (Or.inl ⟨by rfl, ?hy15_187⟩) (by assumption) ?rest15_187
    case hy15_187 => (intro w9 hSw; clear hSw; go_simp; try with_reducible rfl)
    try simp only [Act.put, List.setIfInBounds_toArray, List.set_cons_zero, List.set_cons_succ, List.getElem_toArray, List.getElem_cons_zero, List.getElem_cons_succ]
    refine wpAnyH_take (i := 16) (v := ?v16_188) rfl (by kernel_rfl) (by kernel_rfl) (by kernel_rfl) (fun _ _ _ h => h) (Or.inl ⟨by rfl, ?hy16_188⟩) (by assumption) ?rest16_188
    case hy16_188 => (intro w9 hSw; clear hSw; go_simp; try with_reducible rfl)
    try simp only [Act.put, List.setIfInBounds_toArray, List.set_cons_zero, List.set_cons_succ, List.getElem_toArray, List.getElem_cons_zero, List.getElem_cons_succ]
    refine wpAnyH_take (i := 17) (v := undef) rfl (by kernel_rfl) (by kernel_rfl) (by kernel_rfl) (fun _ _ _ h => h) (Or.inr ⟨by rfl, rfl⟩) (by assumption) ?_
    try simp only [Act.put, List.setIfInBounds_toArray, List.set_cons_zero, List.set_cons_succ, List.getElem_toArray, List.getElem_cons_zero, List.getElem_cons_succ]
    refine wpAnyH_take (i := 18) (v := undef) rfl (by kernel_rfl) (by kernel_rfl) (by kernel_rfl) (fun _ _ _ h => h) (Or.inr ⟨by rfl, rfl⟩) (by assumption) ?_
    try simp only [Act.put, List.setIfInBounds_toArray, List.set_cons_zero, List.set_cons_succ, List.getElem_toArray, List.getElem_cons_zero, List.getElem_cons_succ]
    refine wpAnyH_take (i := 19) (v := ?v19_189) rfl (by kernel_rfl) (by kernel_rfl) (by kernel_rfl) (fun _ _ _ h => h) (Or.inl ⟨by rfl, ?hy19_189⟩) (by assumption) ?rest19_189
    case hy19_189 => (intro w9 hSw; clear hSw; go_simp; try with_reducible rfl)
    try simp only [Act.put, List.setIfInBounds_toArray, List.set_cons_zero, List.set_cons_succ, List.getElem_toArray, List.getElem_cons_zero, List.getElem_cons_succ]
    refine wpAnyH_take (i := 20) (v := ?v20_190) rfl (by kernel_rfl) (by kernel_rfl) (by kernel_rfl) (fun _ _ _ h => h) (Or.inl ⟨by rfl, ?hy20_190⟩) (by assumption) ?rest20_190
    case hy20_190 => (intro w9 hSw; clear hSw; go_simp; try with_reducible rfl)
    try simp only [Act.put, List.setIfInBounds_toArray, List.set_cons_zero, List.set_cons_succ, List.getElem_toArray, List.getElem_cons_zero, List.getElem_cons_succ]
    refine wpAnyH_take (i := 21) (v := undef) rfl (by kernel_rfl) (by kernel_rfl) (by kernel_rfl) (fun _ _ _ h => h) (Or.inr ⟨by rfl, rfl⟩) (by assumption) ?_
    try simp only [Act.put, List.setIfInBounds_toArray, List.set_cons_zero, List.set_cons_succ, List.getElem_toArray, List.getElem_cons_zero, List.getElem_cons_succ]
    refine wpAnyH_take (i := 22) (v := undef) rfl (by kernel_rfl) (by kernel_rfl) (by kernel_rfl) (fun _ _ _ h => h) (Or.inr ⟨by rfl, rfl⟩) (by assumption) ?_
    try simp only [Act.put, List.setIfInBounds_toArray, List.set_cons_zero, List.set_cons_succ, List.getElem_toArray, List.getElem_cons_zero, List.getElem_cons_succ]
    refine wpAnyH_take (i := 23) (v := undef) rfl (by kernel_rfl) (by kernel_rfl) (by kernel_rfl) (fun _ _ _ h => h) (Or.inr ⟨by rfl, rfl⟩) (by assumption) ?_
    try simp only [Act.put, List.setIfInBounds_toArray, List.set_cons_zero, List.set_cons_succ, List.getElem_toArray, List.getElem_cons_zero, List.getElem_cons_succ]
    refine wpAnyH_take (i := 24) (v := undef) rfl (by kernel_rfl) (by kernel_rfl) (by kernel_rfl) (fun _ _ _ h => h) (Or.inr ⟨by rfl, rfl⟩) (by assumption) ?_
    try simp only [Act.put, List.setIfInBounds_toArray, List.set_cons_zero, List.set_cons_succ, List.getElem_toArray, List.getElem_cons_zero, List.getElem_cons_succ]
    refine wpAnyH_take (i := 25) (v := ?v25_191) rfl (by kernel_rfl) (by kernel_rfl) (by kernel_rfl) (fun _ _ _ h => h) (Or.inl ⟨by rfl, ?hy25_191⟩) (by assumption) ?rest25_191
    case hy25_191 => (intro w9 hSw; clear hSw; go_simp; try with_reducible rfl)
    try simp only [Act.put, List.setIfInBounds_toArray, List.set_cons_zero, List.set_cons_succ, List.getElem_toArray, List.getElem_cons_zero, List.getElem_cons_succ]
    refine wpAnyH_take (i := 26) (v := ?v26_192) rfl (by kernel_rfl) (by kernel_rfl) (by kernel_rfl) (fun _ _ _ h => h) (Or.inl ⟨by rfl, ?hy26_192⟩) (by assumption) ?rest26_192
    case hy26_192 => (intro w9 hSw; clear hSw; go_simp; try with_reducible rfl)
    try simp only [Act.put, List.setIfInBounds_toArray, List.set_cons_zero, List.set_cons_succ, List.getElem_toArray, List.getElem_cons_zero, List.getElem_cons_succ]
    refine wpAnyH_take (i := 27) (v := undef) rfl (by kernel_rfl) (by kernel_rfl) (by kernel_rfl) (fun _ _ _ h => h) (Or.inr ⟨by rfl, rfl⟩) (by assumption) ?_
    try simp only [Act.put, List.setIfInBounds_toArray, List.set_cons_zero, List.set_cons_succ, List.getElem_toArray, List.getElem_cons_zero, List.getElem_cons_succ]
    refine wpAnyH_take (i := 28) (v := undef) rfl (by kernel_rfl) (by kernel_rfl) (by kernel_rfl) (fun _ _ _ h => h) (Or.inr ⟨by rfl, rfl⟩) (by assumption) ?_
    try simp only [Act.put, List.setIfInBounds_toArray, List.set_cons_zero, List.set_cons_succ, List.getElem_toArray, List.getElem_cons_zero, List.getElem_cons_succ]
    refine wpAnyH_take (i := 29) (v := undef) rfl (by kernel_rfl) (by kernel_rfl) (by kernel_rfl) (fun _ _ _ h => h) (Or.inr ⟨by rfl, rfl⟩) (by assumption) ?_
    try simp only [Act.put, List.setIfInBounds_toArray, List.set_cons_zero, List.set_cons_succ, List.getElem_toArray, List.getElem_cons_zero, List.getElem_cons_succ]
    refine wpAnyH_take (i := 30) (v := undef) rfl (by kernel_rfl) (by kernel_rfl) (by kernel_rfl) (fun _ _ _ h => h) (Or.inr ⟨by rfl, rfl⟩) (by assumption) ?_
    try simp only [Act.put, List.setIfInBounds_toArray, List.set_cons_zero, List.set_cons_succ, List.getElem_toArray, List.getElem_cons_zero, List.getElem_cons_succ]
    refine wpAnyH_take (i := 31) (v := ?v31_193) rfl (by kernel_rfl) (by kernel_rfl) (by kernel_rfl) (fun _ _ _ h => h) (Or.inl ⟨by rfl, ?hy31_193⟩) (by assumption) ?rest31_193
    case hy31_193 => (intro w9 hSw; clear hSw; go_simp; try with_reducible rfl)
    try simp only [Act.put, List.setIfInBounds_toArray, List.set_cons_zero, List.set_cons_succ, List.getElem_toArray, List.getElem_cons_zero, List.getElem_cons_succ]
    refine wpAnyH_done (by kernel_rfl) ?_ _
    go_wp2_with fail
    go_ret
    exact ⟨rfl, bz⟩
theorem law_means (h : FL w A n c l) (bx : ((-9223372036854775808 ≤ A0 ∧ A0 ≤ 9223372036854775807) ∧ -9223372036854775808 ≤ B0 ∧ B0 ≤ 9223372036854775807) ∧ ((-9223372036854775808 ≤ C0 ∧ C0 ≤ 9223372036854775807) ∧ -9223372036854775808 ≤ D0 ∧ D0 ≤ 9223372036854775807) ∧ (-9223372036854775808 ≤ i ∧ i ≤ 9223372036854775807) ∧ -9223372036854775808 ≤ j ∧ j ≤ 9223372036854775807) :
    Calls Try.prog 9 #[mV R C A n c, .agg #[.int .i64 K0, .int .i64 A0, .int .i64 B0, .int .i64 C0, .int .i64 D0], .int .i64 i, .int .i64 j] w (Ans w (.bool true)) := by
  cases hm : mayB R C n
  · cases hb : bigB n
    · exact means_no_small h bx hb hm
    · exact means_no_big h bx hb hm
  · cases hb : bigB n
    · exact means_yes_small h bx hb hm
    · exact means_yes_big h bx hb hm
end
end Go.Proofs.Ytceoefgjjekgaaa
