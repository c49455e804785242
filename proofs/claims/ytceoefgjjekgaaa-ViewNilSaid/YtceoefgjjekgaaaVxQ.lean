/-
  Layer 7: the law ViewOf. (Written by wip/tools/gen_vxq.py.)
-/
import Derived.Test.YtceoefgjjekgaaaVxO
namespace Go.Proofs.Ytceoefgjjekgaaa
open Go.RowKit Go.Bw Go.Sort Go.Shelf
set_option linter.unusedVariables false
set_option linter.unusedSimpArgs false

theorem FL.farB {w w' : World} {A : Option Addr} {n c g : Nat} {l : List Int} (h : FL w A n c l) (hg : w.grownBy w' (some g)) (hA : ∀ a, A = some a → a.block ≠ g) : FL w' A n c l :=
  ⟨h.1, ⟨h.2.1.1, h.2.1.2.1, fun hn => by
    obtain ⟨ad, e, hb, hc⟩ := h.2.1.2.2 hn
    have hbl : w'.heap[ad.block]? = w.heap[ad.block]? := hg.block _ hb (fun e2 => hA ad e (by injection e2))
    refine ⟨ad, e, Nat.lt_of_lt_of_le hb hg.size, fun k hk => ?_⟩
    rw [← hc k hk]
    unfold World.cell?
    rw [add_block, hbl]⟩, h.2.2⟩
theorem sameL_refl (l : List Int) : sameL l l = true := decide_eq_true rfl
theorem sameM_refl (R C : Int) (l : List Int) : sameM R C l R C l = true := by unfold sameM; rw [sameL_refl]; simp
/-- a matrix of new memory -/
def MatF (w : World) (R C : Int) (F : List Int) (e : Ending) (w' : World) : Prop := ∃ A3 c3, e = .returned (mV R C A3 F.length c3) ∧ FL w' A3 F.length c3 F ∧ Below w.heap.size w w'
theorem Matrix_fl {w : World} {v : Vu} {B s g cap c n : Nat} {l : List Int} {K : Int} (hv : Vk v s c n K) (hs : v.p ≠ none → St w B s g cap c l ∧ l.length = n) : Calls Try.prog 19 #[v.V] w (MatF w v.R v.C (v.fl c l)) := by
  refine (Matrix_any hv hs).mono ?_
  rintro e w1 ⟨A3, c3, rfl, ho, _, hb⟩
  exact ⟨A3, c3, rfl, ⟨rfl, ho.nums, wd_fl (fun hp => (hs hp).1.wd) hv.none_⟩, hb⟩
theorem SameM_true {w : World} {A A2 : Option Addr} {n n2 c c2 : Nat} {l : List Int} {R C : Int} (h : FL w A n c l) (h2 : FL w A2 n2 c2 l) : Calls Try.prog 20 #[mV R C A n c, mV R C A2 n2 c2] w (Ans w (.bool true)) := by
  have := SameMatrix_any R C R C h h2
  rwa [sameM_refl] at this
theorem SameF_true {w : World} {A A2 : Option Addr} {n n2 c c2 : Nat} {l : List Int} (h : FL w A n c l) (h2 : FL w A2 n2 c2 l) : Calls Try.prog 18 #[.slice A n c, .slice A2 n2 c2] w (Ans w (.bool true)) := by
  have := SameFloats_any h h2
  rwa [sameL_refl] at this

section
variable {w : World} {R C : Int} {A : Option Addr} {n c : Nat} {l : List Int}
set_option maxRecDepth 100000 in
set_option maxHeartbeats 8000000 in
theorem law_of_big (h : FL w A n c l) (hbg : bigB n = true) : Calls Try.prog 3 #[mV R C A n c] w (Ans w (.bool true)) := by
  have pb := fun W => big_any R C A n c h.max W
  rw [hbg] at pb
  have DM := Blk.new w [.int .i64 R, .int .i64 C, .slice A n c] 24
  have bz := (Below.refl _ w).alloc (Nat.le_refl _) (.cells #[.int .i64 R, .int .i64 C, .slice A n c] 24)
  clear h hbg
  obtain ⟨c0, c1, c2, f0, f1, f2⟩ := Mbx.cells DM
  go_enter Try.func3, Try.ntmps3
  go_wp2_with fail
  with_reducible refine (pb _).mono ?_
  rintro e w1 ⟨rfl, hb⟩
  replace bz := bz.trans (hb.mono bz.size)
  clear hb
  go_wp2_with fail
  with_reducible refine (known_any _).mono ?_
  rintro e w2 ⟨rfl, hb⟩
  replace bz := bz.trans (hb.mono bz.size)
  go_wp2_with fail
  go_ret
  exact ⟨rfl, bz⟩
set_option maxRecDepth 100000 in
set_option maxHeartbeats 8000000 in
theorem law_of_no (h : FL w A n c l) (hbg : bigB n = false) (hs : mayB R C n = false) : Calls Try.prog 3 #[mV R C A n c] w (Ans w (.bool true)) := by
  have pb := fun W => big_any R C A n c h.max W
  rw [hbg] at pb
  have hmx := h.max
  have hn : n ≤ 400 := by have := of_decide_eq_false hbg; omega
  have pM := fun W => May_any R C A n c W h.max
  have hll := h.1
  have hwd := h.2.2
  have hs2 : szB R C = false ∨ (szB R C = true ∧ (n : Int) ≠ R * C) := by
    unfold mayB at hs
    cases h1 : szB R C
    · exact .inl rfl
    · rw [h1] at hs; exact .inr ⟨rfl, by simpa using hs⟩
  rw [hs] at pM
  clear hs
  have DM := Blk.new w [.int .i64 R, .int .i64 C, .slice A n c] 24
  have bz := (Below.refl _ w).alloc (Nat.le_refl _) (.cells #[.int .i64 R, .int .i64 C, .slice A n c] 24)
  have hF := h.lo.on bz
  clear h hbg
  obtain ⟨c0, c1, c2, f0, f1, f2⟩ := Mbx.cells DM
  go_enter Try.func3, Try.ntmps3
  go_wp2_with fail
  with_reducible refine (pb _).mono ?_
  rintro e w1 ⟨rfl, hb⟩
  replace DM := DM.on hb
  replace hF := hF.on hb
  replace bz := bz.trans (hb.mono bz.size)
  clear hb c0 c1 c2 f0 f1 f2
  obtain ⟨c0, c1, c2, f0, f1, f2⟩ := Mbx.cells DM
  have hnil : OwnF w1 (w.heap.size + 1) none 0 [] := OwnF.nil _ _
  have hz1 := DM.lt
  have hFl := hF.fl
  go_upto_region 4 with (at_builtin; refine wpList_appF _ rfl _ _ rfl (w.heap.size + 1) none 0 [] rfl hnil _ A c l (by rw [hFl.1]; rfl) hFl.2.1 (by first | (rw [hFl.1]; simp; omega) | (simp; rw [hFl.1]; omega)) (by omega) ?_; intro A5 c5 w2 hown hg hat)
  simp only [List.nil_append, hll] at hown hg hat ⊢
  replace DM := DM.grown hg (by simp [Value.ownBlock])
  replace hF := hF.grownR hg (fun k e => by simp [Value.ownBlock] at e)
  replace bz := bz.grown hg bz.size (fun k e => by simp [Value.ownBlock] at e)
  clear c0 c1 c2 f0 f1 f2
  obtain ⟨c0, c1, c2, f0, f1, f2⟩ := Mbx.cells DM
  have hO : FL w2 A5 n c5 l := ⟨hll, hown.nums, hwd⟩
  have hA5 : ∀ a, A5 = some a → w.heap.size + 1 ≤ a.block ∧ a.block < w2.heap.size := fun a e => hown.gt e
  clear hnil hat hg hz1 hFl
  have pO := fun (W : World) (hF : FL W A5 n c5 l) => Of_no hF hs2
  go_wp2_with fail
  with_reducible refine (pO _ hO).mono ?_
  rintro e w3 ⟨rfl, hb⟩
  replace DM := DM.on hb
  replace hF := hF.on hb
  replace hO := hO.on hb
  replace bz := bz.trans (hb.mono bz.size)
  clear hb c0 c1 c2 f0 f1 f2
  have D4 := Blk.new w3 (Vu.zero).L 30
  obtain ⟨HD4, eHD4⟩ : ∃ H, w3.heap.size = H := ⟨_, rfl⟩
  rw [eHD4] at D4
  replace DM := DM.on ((Below.refl _ _).alloc (Nat.le_refl _) (.cells (Vu.zero).L.toArray 30))
  replace hF := hF.on ((Below.refl _ _).alloc (Nat.le_refl _) (.cells (Vu.zero).L.toArray 30))
  replace hO := hO.on ((Below.refl _ _).alloc (Nat.le_refl _) (.cells (Vu.zero).L.toArray 30))
  replace bz := bz.alloc bz.size (.cells (Vu.zero).L.toArray 30)
  have HHD4 := Lib.hid eHD4
  obtain ⟨c0, c1, c2, f0, f1, f2⟩ := Mbx.cells DM
  go_wp2_with fail
  with_reducible refine (pM _).mono ?_
  rintro e w4 ⟨rfl, hb⟩
  replace DM := DM.on hb
  replace hF := hF.on hb
  replace hO := hO.on hb
  replace D4 := D4.on hb
  replace bz := bz.trans (hb.mono bz.size)
  clear hb c0 c1 c2 f0 f1 f2
  obtain ⟨cD4_0, cD4_1, cD4_2, cD4_3, cD4_4, cD4_5, cD4_6, cD4_7, cD4_8⟩ := Vbx.cells D4
  go_wp2_with fail
  with_reducible refine (k_SZ _).mono ?_
  rintro e w5 ⟨rfl, hb⟩
  replace DM := DM.on hb
  replace hF := hF.on hb
  replace hO := hO.on hb
  replace D4 := D4.on hb
  replace bz := bz.trans (hb.mono bz.size)
  clear hb
  go_wp2_with fail
  with_reducible refine (num_any _ _).mono ?_
  rintro e v1 ⟨rfl, rfl⟩
  go_wp2_with fail
  with_reducible refine (known_any _).mono ?_
  rintro e w6 ⟨rfl, hb⟩
  replace DM := DM.on hb
  replace hF := hF.on hb
  replace hO := hO.on hb
  replace D4 := D4.on hb
  replace bz := bz.trans (hb.mono bz.size)
  go_wp2_with fail
  go_ret
  exact ⟨rfl, bz⟩
set_option maxRecDepth 100000 in
set_option maxHeartbeats 8000000 in
theorem law_of_yes (h : FL w A n c l) (hbg : bigB n = false) (hm : mayB R C n = true) : Calls Try.prog 3 #[mV R C A n c] w (Ans w (.bool true)) := by
  have pb := fun W => big_any R C A n c h.max W
  rw [hbg] at pb
  have hmx := h.max
  have hn : n ≤ 400 := by have := of_decide_eq_false hbg; omega
  have pM := fun W => May_any R C A n c W h.max
  have hll := h.1
  have hwd := h.2.2
  rw [hm] at pM
  have hmm := Bool.and_eq_true_iff.1 hm
  have hs : szB R C = true := hmm.1
  have hl : (n : Int) = R * C := of_decide_eq_true hmm.2
  obtain ⟨⟨R0, R1, C0, C1⟩, p0, p1⟩ := szB_bd hs
  have HV := Lib.hid (show ∀ s, Vk (Vu.all s R C) s C.toNat n 1 from fun s => all_vk s R0 R1 C0 C1 hl)
  have HFL := Lib.hid (show ∀ s, (Vu.all s R C).fl C.toNat l = l from fun s => all_fl s R0 R1 C0 C1 (by rw [hll]; exact hl))
  clear hm hmm R0 R1 C0 C1 p0 p1
  have DM := Blk.new w [.int .i64 R, .int .i64 C, .slice A n c] 24
  have bz := (Below.refl _ w).alloc (Nat.le_refl _) (.cells #[.int .i64 R, .int .i64 C, .slice A n c] 24)
  have hF := h.lo.on bz
  clear h hbg
  obtain ⟨c0, c1, c2, f0, f1, f2⟩ := Mbx.cells DM
  go_enter Try.func3, Try.ntmps3
  go_wp2_with fail
  with_reducible refine (pb _).mono ?_
  rintro e w1 ⟨rfl, hb⟩
  replace DM := DM.on hb
  replace hF := hF.on hb
  replace bz := bz.trans (hb.mono bz.size)
  clear hb c0 c1 c2 f0 f1 f2
  obtain ⟨c0, c1, c2, f0, f1, f2⟩ := Mbx.cells DM
  have hnil : OwnF w1 (w.heap.size + 1) none 0 [] := OwnF.nil _ _
  have hz1 := DM.lt
  have hFl := hF.fl
  go_upto_region 4 with (at_builtin; refine wpList_appF _ rfl _ _ rfl (w.heap.size + 1) none 0 [] rfl hnil _ A c l (by rw [hFl.1]; rfl) hFl.2.1 (by first | (rw [hFl.1]; simp; omega) | (simp; rw [hFl.1]; omega)) (by omega) ?_; intro A5 c5 w2 hown hg hat)
  simp only [List.nil_append, hll] at hown hg hat ⊢
  replace DM := DM.grown hg (by simp [Value.ownBlock])
  replace hF := hF.grownR hg (fun k e => by simp [Value.ownBlock] at e)
  replace bz := bz.grown hg bz.size (fun k e => by simp [Value.ownBlock] at e)
  clear c0 c1 c2 f0 f1 f2
  obtain ⟨c0, c1, c2, f0, f1, f2⟩ := Mbx.cells DM
  have hO : FL w2 A5 n c5 l := ⟨hll, hown.nums, hwd⟩
  have hA5 : ∀ a, A5 = some a → w.heap.size + 1 ≤ a.block ∧ a.block < w2.heap.size := fun a e => hown.gt e
  clear hnil hat hg hz1 hFl
  have pO := fun (W : World) (A : Option Addr) (c : Nat) (hF : FL W A n c l) => Of_yes hF hs hl
  have hz2 := bz.size
  have hz3 := DM.lt
  go_wp2_with fail
  with_reducible refine (pO _ _ _ hO).mono ?_
  rintro e w3 ⟨s, g, cap, rfl, hst, hb⟩
  replace DM := DM.on hb
  replace hF := hF.on hb
  replace hO := hO.on hb
  replace bz := bz.trans (hb.mono bz.size)
  clear hb c0 c1 c2 f0 f1 f2
  have hsg := hst.gt
  have hA5g : ∀ a, A5 = some a → a.block ≠ g := fun a e => by have := (hA5 a e).2; omega
  have D4 := Blk.new w3 (Vu.all s R C).L 30
  obtain ⟨HD4, eHD4⟩ : ∃ H, w3.heap.size = H := ⟨_, rfl⟩
  rw [eHD4] at D4
  replace DM := DM.on ((Below.refl _ _).alloc (Nat.le_refl _) (.cells (Vu.all s R C).L.toArray 30))
  replace hF := hF.on ((Below.refl _ _).alloc (Nat.le_refl _) (.cells (Vu.all s R C).L.toArray 30))
  replace hO := hO.on ((Below.refl _ _).alloc (Nat.le_refl _) (.cells (Vu.all s R C).L.toArray 30))
  replace hst := hst.on ((Below.refl _ _).alloc (Nat.le_refl _) (.cells (Vu.all s R C).L.toArray 30))
  replace bz := bz.alloc bz.size (.cells (Vu.all s R C).L.toArray 30)
  have HHD4 := Lib.hid eHD4
  rw [eHD4] at hsg
  obtain ⟨c0, c1, c2, f0, f1, f2⟩ := Mbx.cells DM
  go_wp2_with fail
  with_reducible refine (pM _).mono ?_
  rintro e w4 ⟨rfl, hb⟩
  replace DM := DM.on hb
  replace hF := hF.on hb
  replace hO := hO.on hb
  replace hst := hst.on hb
  replace D4 := D4.on hb
  replace bz := bz.trans (hb.mono bz.size)
  clear hb c0 c1 c2 f0 f1 f2
  obtain ⟨cD4_0, cD4_1, cD4_2, cD4_3, cD4_4, cD4_5, cD4_6, cD4_7, cD4_8⟩ := Vbx.cells D4
  have pF : ∀ (W : World) (h : St W w2.heap.size s g cap C.toNat l), Calls Try.prog 17 #[(Vu.all s R C).V, .float .f64 4619567317775286272] W (Wrote W w2.heap.size s g cap C.toNat 0 ((Vu.all s R C).fillL C.toNat l 4619567317775286272)) := fun W h => Fill_yes (x := 4619567317775286272) (HV.out s) h hll (by simp) (by omega) (by omega)
  go_wp2_with fail
  with_reducible refine (pF _ hst).mono ?_
  rintro e w5 ⟨rfl, hst2, hg⟩
  clear cD4_0 cD4_1 cD4_2 cD4_3 cD4_4 cD4_5 cD4_6 cD4_7 cD4_8
  replace DM := DM.grown hg (by simp; omega)
  replace D4 := D4.grown hg (by simp; omega)
  replace hF := hF.grown hg (by omega)
  replace bz := bz.grown hg bz.size (fun k e => by cases e; omega)
  replace hO : FL w5 A5 n c5 l := hO.farB hg hA5g
  clear hst hst2 hg hA5g hA5
  obtain ⟨c0, c1, c2, f0, f1, f2⟩ := Mbx.cells DM
  have pS := fun (W : World) (h : FL W A5 n c5 l) (h2 : FL W A n c l) => SameF_true h h2
  go_wp2_with fail
  with_reducible refine (pS _ hO hF.fl).mono ?_
  rintro e w6 ⟨rfl, hb⟩
  replace DM := DM.on hb
  replace hF := hF.on hb
  replace hO := hO.on hb
  replace D4 := D4.on hb
  replace bz := bz.trans (hb.mono bz.size)
  clear hb c0 c1 c2 f0 f1 f2 hO
  obtain ⟨c0, c1, c2, f0, f1, f2⟩ := Mbx.cells DM
  have hz5 := bz.size
  have hz6 := D4.lt
  go_wp2_with fail
  with_reducible refine (pO _ _ _ hF.fl).mono ?_
  rintro e w7 ⟨s2, g2, cap2, rfl, hst, hb⟩
  replace DM := DM.on hb
  replace hF := hF.on hb
  replace D4 := D4.on hb
  replace bz := bz.trans (hb.mono bz.size)
  clear hb c0 c1 c2 f0 f1 f2
  have hsg2 : HD4 < s2 ∧ HD4 < g2 := by have h1 := hst.lo; have h2 := hst.gt.1; omega
  obtain ⟨fc0, fc1, fc2, fc3, fc4, fc5, fc6, fc7, fc8⟩ := Vbx.cells D4
  obtain ⟨fr0, fr1, fr2, fr3, fr4, fr5, fr6, fr7, fr8⟩ := Vbx.free D4
  go_upto_region 11 with fail
  clear fc0 fr0 fc1 fr1 fc2 fr2 fc3 fr3 fc4 fr4 fc5 fr5 fc6 fr6 fc7 fr7 fc8 fr8
  have hgS := set9_grown w7 (HD4) (.pointer (Vu.all s2 R C).p) (.int .i64 (Vu.all s2 R C).f0) (.int .i64 (Vu.all s2 R C).f1) (.int .i64 (Vu.all s2 R C).d0) (.int .i64 (Vu.all s2 R C).d1) (.int .i64 (Vu.all s2 R C).r0) (.int .i64 (Vu.all s2 R C).r1) (.int .i64 (Vu.all s2 R C).R) (.int .i64 (Vu.all s2 R C).C)
  replace D4 := Vbx.put D4 (Vu.all s2 R C)
  replace DM := DM.grown hgS (by simp <;> omega)
  replace hF := hF.grown hgS (by omega)
  replace hst := hst.grown hgS (by omega) (by omega)
  replace bz := bz.grown hgS bz.size (fun k e => by cases e; omega)
  generalize (((((((((w7.setCell ⟨HD4, 0, none⟩ (.pointer (Vu.all s2 R C).p)).setCell ⟨HD4, 1, none⟩ (.int .i64 (Vu.all s2 R C).f0)).setCell ⟨HD4, 2, none⟩ (.int .i64 (Vu.all s2 R C).f1)).setCell ⟨HD4, 3, none⟩ (.int .i64 (Vu.all s2 R C).d0)).setCell ⟨HD4, 4, none⟩ (.int .i64 (Vu.all s2 R C).d1)).setCell ⟨HD4, 5, none⟩ (.int .i64 (Vu.all s2 R C).r0)).setCell ⟨HD4, 6, none⟩ (.int .i64 (Vu.all s2 R C).r1)).setCell ⟨HD4, 7, none⟩ (.int .i64 (Vu.all s2 R C).R)).setCell ⟨HD4, 8, none⟩ (.int .i64 (Vu.all s2 R C).C)) = W5 at hgS DM hF D4 hst bz ⊢
  clear hgS
  obtain ⟨cD4_0, cD4_1, cD4_2, cD4_3, cD4_4, cD4_5, cD4_6, cD4_7, cD4_8⟩ := Vbx.cells D4
  have pX := fun (W : World) (B : Nat) (h : St W B s2 g2 cap2 C.toNat l) => Matrix_fl (HV.out s2) (fun _ => ⟨h, hll⟩)
  simp only [HFL.out] at pX
  go_wp2_with fail
  with_reducible refine (pX _ _ hst).mono ?_
  rintro e w8 ⟨A6, c6, rfl, hX, hb⟩
  replace DM := DM.on hb
  replace hF := hF.on hb
  replace D4 := D4.on hb
  replace hst := hst.on hb
  replace bz := bz.trans (hb.mono bz.size)
  clear hb cD4_0 cD4_1 cD4_2 cD4_3 cD4_4 cD4_5 cD4_6 cD4_7 cD4_8
  simp only [hll] at hX ⊢
  obtain ⟨H6, eH6⟩ : ∃ H, w8.heap.size = H := ⟨_, rfl⟩
  have D6 := Blk.new w8 [.int .i64 R, .int .i64 C, .slice A6 n c6] 24
  rw [eH6] at D6
  replace DM := DM.on ((Below.refl _ _).alloc (Nat.le_refl _) (.cells #[.int .i64 R, .int .i64 C, .slice A6 n c6] 24))
  replace hF := hF.on ((Below.refl _ _).alloc (Nat.le_refl _) (.cells #[.int .i64 R, .int .i64 C, .slice A6 n c6] 24))
  replace D4 := D4.on ((Below.refl _ _).alloc (Nat.le_refl _) (.cells #[.int .i64 R, .int .i64 C, .slice A6 n c6] 24))
  replace hst := hst.on ((Below.refl _ _).alloc (Nat.le_refl _) (.cells #[.int .i64 R, .int .i64 C, .slice A6 n c6] 24))
  replace hX := hX.on ((Below.refl _ _).alloc (Nat.le_refl _) (.cells #[.int .i64 R, .int .i64 C, .slice A6 n c6] 24))
  replace bz := bz.alloc bz.size (.cells #[.int .i64 R, .int .i64 C, .slice A6 n c6] 24)
  go_upto_region 12 with fail
  generalize (w8.alloc (.cells #[.int .i64 R, .int .i64 C, .slice A6 n c6] 24)) = W6 at DM hF D4 hst hX D6 bz ⊢
  replace DM := DM.drew
  replace hF := hF.drew
  replace D4 := D4.drew
  replace D6 := D6.drew
  replace bz := bz.drew
  replace hX : FL W6.drew A6 n c6 l := hX
  replace hst := hst.drew
  refine wp_region_held_drew (S := fun w9 : World => Mbx w9 w.heap.size R C A n c ∧ Vbx w9 HD4 (Vu.all s2 R C) ∧ Mbx w9 H6 R C A6 n c6) (by kernel_rfl) ⟨DM, D4, D6⟩ (fun hS => ?_)
  refine wpAnyH_take (i := 0) (v := ?v0_1) rfl (by kernel_rfl) (by kernel_rfl) (by kernel_rfl) (fun _ _ _ h => h) (Or.inl ⟨by rfl, ?hy0_1⟩) (by assumption) ?rest0_1
  case hy0_1 => (intro w9 hSw; clear hSw; go_simp; try with_reducible rfl)
  try simp only [Act.put, List.setIfInBounds_toArray, List.set_cons_zero, List.set_cons_succ, List.getElem_toArray, List.getElem_cons_zero, List.getElem_cons_succ]
  refine wpAnyH_ready (rs := [1]) (by kernel_rfl) (by simp) ?_
  refine AllReadyH.cons rfl (fun K hK => ?_) AllReadyH.nil
  go_simp
  with_reducible refine (num_any _ _).mono ?_
  rintro e v1 ⟨rfl, rfl⟩
  refine hK.out _ _ ⟨DM, D4, D6⟩ (fun hH => ?_)
  clear hK K hS
  have hS := hH
  clear hH
  try simp only [Act.put, List.setIfInBounds_toArray, List.set_cons_zero, List.set_cons_succ, List.getElem_toArray, List.getElem_cons_zero, List.getElem_cons_succ]
  refine wpAnyH_take (i := 2) (v := ?v2_2) rfl (by kernel_rfl) (by kernel_rfl) (by kernel_rfl) (fun _ _ _ h => h) (Or.inl ⟨by rfl, ?hy2_2⟩) (by assumption) ?rest2_2
  case hy2_2 => (intro w9 hSw; clear hSw; go_simp; try with_reducible rfl)
  try simp only [Act.put, List.setIfInBounds_toArray, List.set_cons_zero, List.set_cons_succ, List.getElem_toArray, List.getElem_cons_zero, List.getElem_cons_succ]
  refine wpAnyH_take (i := 3) (v := ?v3_3) rfl (by kernel_rfl) (by kernel_rfl) (by kernel_rfl) (fun _ _ _ h => h) (Or.inl ⟨by rfl, ?hy3_3⟩) (by assumption) ?rest3_3
  case hy3_3 => (intro w9 hSw; clear hSw; go_simp; try with_reducible rfl)
  try simp only [Act.put, List.setIfInBounds_toArray, List.set_cons_zero, List.set_cons_succ, List.getElem_toArray, List.getElem_cons_zero, List.getElem_cons_succ]
  refine wpAnyH_take (i := 4) (v := ?v4_4) rfl (by kernel_rfl) (by kernel_rfl) (by kernel_rfl) (fun _ _ _ h => h) (Or.inl ⟨by rfl, ?hy4_4⟩) (by assumption) ?rest4_4
  case hy4_4 => (intro w9 hSw; obtain ⟨sm, sv, sx⟩ := hSw; obtain ⟨k0, k1, k2, k3, k4, k5, k6, k7, k8⟩ := Vbx.cells sv; obtain ⟨c0, c1, c2, f0, f1, f2⟩ := Mbx.cells sm; obtain ⟨x0, x1, x2, xf0, xf1, xf2⟩ := Mbx.cells sx; go_simp; try with_reducible rfl)
  try simp only [Act.put, List.setIfInBounds_toArray, List.set_cons_zero, List.set_cons_succ, List.getElem_toArray, List.getElem_cons_zero, List.getElem_cons_succ]
  refine wpAnyH_take (i := 5) (v := ?v5_5) rfl (by kernel_rfl) (by kernel_rfl) (by kernel_rfl) (fun _ _ _ h => h) (Or.inl ⟨by rfl, ?hy5_5⟩) (by assumption) ?rest5_5
  case hy5_5 => (intro w9 hSw; obtain ⟨sm, sv, sx⟩ := hSw; obtain ⟨k0, k1, k2, k3, k4, k5, k6, k7, k8⟩ := Vbx.cells sv; obtain ⟨c0, c1, c2, f0, f1, f2⟩ := Mbx.cells sm; obtain ⟨x0, x1, x2, xf0, xf1, xf2⟩ := Mbx.cells sx; go_simp; try with_reducible rfl)
  try simp only [Act.put, List.setIfInBounds_toArray, List.set_cons_zero, List.set_cons_succ, List.getElem_toArray, List.getElem_cons_zero, List.getElem_cons_succ]
  refine wpAnyH_ready (rs := [6]) (by kernel_rfl) (by simp) ?_
  refine AllReadyH.cons rfl (fun K hK => ?_) AllReadyH.nil
  go_simp
  with_reducible refine (SameM_true hX hF.fl).mono ?_
  rintro e w9 ⟨rfl, hb⟩
  replace DM := DM.on hb
  replace hF := hF.on hb
  replace D4 := D4.on hb
  replace hst := hst.on hb
  replace hX := hX.on hb
  replace D6 := D6.on hb
  replace bz := bz.trans (hb.mono bz.size)
  clear hb
  refine hK.out _ _ ⟨DM, D4, D6⟩ (fun hH => ?_)
  clear hK K hS
  have hS := hH
  clear hH
  try simp only [Act.put, List.setIfInBounds_toArray, List.set_cons_zero, List.set_cons_succ, List.getElem_toArray, List.getElem_cons_zero, List.getElem_cons_succ]
  refine wpAnyH_take (i := 7) (v := ?v7_6) rfl (by kernel_rfl) (by kernel_rfl) (by kernel_rfl) (fun _ _ _ h => h) (Or.inl ⟨by rfl, ?hy7_6⟩) (by assumption) ?rest7_6
  case hy7_6 => (intro w9 hSw; clear hSw; go_simp; try with_reducible rfl)
  try simp only [Act.put, List.setIfInBounds_toArray, List.set_cons_zero, List.set_cons_succ, List.getElem_toArray, List.getElem_cons_zero, List.getElem_cons_succ]
  refine wpAnyH_take (i := 8) (v := ?v8_7) rfl (by kernel_rfl) (by kernel_rfl) (by kernel_rfl) (fun _ _ _ h => h) (Or.inl ⟨by rfl, ?hy8_7⟩) (by assumption) ?rest8_7
  case hy8_7 => (intro w9 hSw; clear hSw; go_simp; try with_reducible rfl)
  try simp only [Act.put, List.setIfInBounds_toArray, List.set_cons_zero, List.set_cons_succ, List.getElem_toArray, List.getElem_cons_zero, List.getElem_cons_succ]
  refine wpAnyH_take (i := 9) (v := ?v9_8) rfl (by kernel_rfl) (by kernel_rfl) (by kernel_rfl) (fun _ _ _ h => h) (Or.inl ⟨by rfl, ?hy9_8⟩) (by assumption) ?rest9_8
  case hy9_8 => (intro w9 hSw; obtain ⟨sm, sv, sx⟩ := hSw; obtain ⟨k0, k1, k2, k3, k4, k5, k6, k7, k8⟩ := Vbx.cells sv; obtain ⟨c0, c1, c2, f0, f1, f2⟩ := Mbx.cells sm; obtain ⟨x0, x1, x2, xf0, xf1, xf2⟩ := Mbx.cells sx; go_simp; try with_reducible rfl)
  try simp only [Act.put, List.setIfInBounds_toArray, List.set_cons_zero, List.set_cons_succ, List.getElem_toArray, List.getElem_cons_zero, List.getElem_cons_succ]
  refine wpAnyH_take (i := 11) (v := ?v11_9) rfl (by kernel_rfl) (by kernel_rfl) (by kernel_rfl) (fun _ _ _ h => h) (Or.inl ⟨by rfl, ?hy11_9⟩) (by assumption) ?rest11_9
  case hy11_9 => (intro w9 hSw; clear hSw; go_simp; try with_reducible rfl)
  try simp only [Act.put, List.setIfInBounds_toArray, List.set_cons_zero, List.set_cons_succ, List.getElem_toArray, List.getElem_cons_zero, List.getElem_cons_succ]
  refine wpAnyH_take (i := 12) (v := ?v12_10) rfl (by kernel_rfl) (by kernel_rfl) (by kernel_rfl) (fun _ _ _ h => h) (Or.inl ⟨by rfl, ?hy12_10⟩) (by assumption) ?rest12_10
  case hy12_10 => (intro w9 hSw; obtain ⟨sm, sv, sx⟩ := hSw; obtain ⟨k0, k1, k2, k3, k4, k5, k6, k7, k8⟩ := Vbx.cells sv; obtain ⟨c0, c1, c2, f0, f1, f2⟩ := Mbx.cells sm; obtain ⟨x0, x1, x2, xf0, xf1, xf2⟩ := Mbx.cells sx; go_simp; try with_reducible rfl)
  try simp only [Act.put, List.setIfInBounds_toArray, List.set_cons_zero, List.set_cons_succ, List.getElem_toArray, List.getElem_cons_zero, List.getElem_cons_succ]
  refine wpAnyH_ready (rs := [10]) (by kernel_rfl) (by simp) ?_
  refine AllReadyH.cons rfl (fun K hK => ?_) AllReadyH.nil
  go_simp
  with_reducible refine (Rows_any (Vu.all s2 R C) _).mono ?_
  rintro e w10 ⟨rfl, hb⟩
  replace DM := DM.on hb
  replace hF := hF.on hb
  replace D4 := D4.on hb
  replace hst := hst.on hb
  replace hX := hX.on hb
  replace D6 := D6.on hb
  replace bz := bz.trans (hb.mono bz.size)
  clear hb
  refine hK.out _ _ ⟨DM, D4, D6⟩ (fun hH => ?_)
  clear hK K hS
  have hS := hH
  clear hH
  try simp only [Act.put, List.setIfInBounds_toArray, List.set_cons_zero, List.set_cons_succ, List.getElem_toArray, List.getElem_cons_zero, List.getElem_cons_succ]
  refine wpAnyH_take (i := 13) (v := ?v13_11) rfl (by kernel_rfl) (by kernel_rfl) (by kernel_rfl) (fun _ _ _ h => h) (Or.inl ⟨by rfl, ?hy13_11⟩) (by assumption) ?rest13_11
  case hy13_11 => (intro w9 hSw; clear hSw; go_simp; try with_reducible rfl)
  try simp only [Act.put, List.setIfInBounds_toArray, List.set_cons_zero, List.set_cons_succ, List.getElem_toArray, List.getElem_cons_zero, List.getElem_cons_succ]
  refine wpAnyH_take (i := 14) (v := ?v14_12) rfl (by kernel_rfl) (by kernel_rfl) (by kernel_rfl) (fun _ _ _ h => h) (Or.inl ⟨by rfl, ?hy14_12⟩) (by assumption) ?rest14_12
  case hy14_12 => (intro w9 hSw; clear hSw; go_simp; try with_reducible rfl)
  try simp only [Act.put, List.setIfInBounds_toArray, List.set_cons_zero, List.set_cons_succ, List.getElem_toArray, List.getElem_cons_zero, List.getElem_cons_succ]
  refine wpAnyH_take (i := 15) (v := ?v15_13) rfl (by kernel_rfl) (by kernel_rfl) (by kernel_rfl) (fun _ _ _ h => h) (Or.inl ⟨by rfl, ?hy15_13⟩) (by assumption) ?rest15_13
  case hy15_13 => (intro w9 hSw; clear hSw; go_simp; try with_reducible rfl)
  try simp only [Act.put, List.setIfInBounds_toArray, List.set_cons_zero, List.set_cons_succ, List.getElem_toArray, List.getElem_cons_zero, List.getElem_cons_succ]
  refine wpAnyH_take (i := 16) (v := ?v16_14) rfl (by kernel_rfl) (by kernel_rfl) (by kernel_rfl) (fun _ _ _ h => h) (Or.inl ⟨by rfl, ?hy16_14⟩) (by assumption) ?rest16_14
  case hy16_14 => (intro w9 hSw; obtain ⟨sm, sv, sx⟩ := hSw; obtain ⟨k0, k1, k2, k3, k4, k5, k6, k7, k8⟩ := Vbx.cells sv; obtain ⟨c0, c1, c2, f0, f1, f2⟩ := Mbx.cells sm; obtain ⟨x0, x1, x2, xf0, xf1, xf2⟩ := Mbx.cells sx; go_simp; try with_reducible rfl)
  try simp only [Act.put, List.setIfInBounds_toArray, List.set_cons_zero, List.set_cons_succ, List.getElem_toArray, List.getElem_cons_zero, List.getElem_cons_succ]
  refine wpAnyH_take (i := 18) (v := ?v18_15) rfl (by kernel_rfl) (by kernel_rfl) (by kernel_rfl) (fun _ _ _ h => h) (Or.inl ⟨by rfl, ?hy18_15⟩) (by assumption) ?rest18_15
  case hy18_15 => (intro w9 hSw; clear hSw; go_simp; try with_reducible rfl)
  try simp only [Act.put, List.setIfInBounds_toArray, List.set_cons_zero, List.set_cons_succ, List.getElem_toArray, List.getElem_cons_zero, List.getElem_cons_succ]
  refine wpAnyH_take (i := 19) (v := ?v19_16) rfl (by kernel_rfl) (by kernel_rfl) (by kernel_rfl) (fun _ _ _ h => h) (Or.inl ⟨by rfl, ?hy19_16⟩) (by assumption) ?rest19_16
  case hy19_16 => (intro w9 hSw; obtain ⟨sm, sv, sx⟩ := hSw; obtain ⟨k0, k1, k2, k3, k4, k5, k6, k7, k8⟩ := Vbx.cells sv; obtain ⟨c0, c1, c2, f0, f1, f2⟩ := Mbx.cells sm; obtain ⟨x0, x1, x2, xf0, xf1, xf2⟩ := Mbx.cells sx; go_simp; try with_reducible rfl)
  try simp only [Act.put, List.setIfInBounds_toArray, List.set_cons_zero, List.set_cons_succ, List.getElem_toArray, List.getElem_cons_zero, List.getElem_cons_succ]
  refine wpAnyH_ready (rs := [17]) (by kernel_rfl) (by simp) ?_
  refine AllReadyH.cons rfl (fun K hK => ?_) AllReadyH.nil
  go_simp
  with_reducible refine (Cols_any (Vu.all s2 R C) _).mono ?_
  rintro e w11 ⟨rfl, hb⟩
  replace DM := DM.on hb
  replace hF := hF.on hb
  replace D4 := D4.on hb
  replace hst := hst.on hb
  replace hX := hX.on hb
  replace D6 := D6.on hb
  replace bz := bz.trans (hb.mono bz.size)
  clear hb
  refine hK.out _ _ ⟨DM, D4, D6⟩ (fun hH => ?_)
  clear hK K hS
  have hS := hH
  clear hH
  try simp only [Act.put, List.setIfInBounds_toArray, List.set_cons_zero, List.set_cons_succ, List.getElem_toArray, List.getElem_cons_zero, List.getElem_cons_succ]
  refine wpAnyH_take (i := 20) (v := ?v20_17) rfl (by kernel_rfl) (by kernel_rfl) (by kernel_rfl) (fun _ _ _ h => h) (Or.inl ⟨by rfl, ?hy20_17⟩) (by assumption) ?rest20_17
  case hy20_17 => (intro w9 hSw; clear hSw; go_simp; try with_reducible rfl)
  try simp only [Act.put, List.setIfInBounds_toArray, List.set_cons_zero, List.set_cons_succ, List.getElem_toArray, List.getElem_cons_zero, List.getElem_cons_succ]
  refine wpAnyH_take (i := 21) (v := ?v21_18) rfl (by kernel_rfl) (by kernel_rfl) (by kernel_rfl) (fun _ _ _ h => h) (Or.inl ⟨by rfl, ?hy21_18⟩) (by assumption) ?rest21_18
  case hy21_18 => (intro w9 hSw; clear hSw; go_simp; try with_reducible rfl)
  try simp only [Act.put, List.setIfInBounds_toArray, List.set_cons_zero, List.set_cons_succ, List.getElem_toArray, List.getElem_cons_zero, List.getElem_cons_succ]
  refine wpAnyH_take (i := 22) (v := ?v22_19) rfl (by kernel_rfl) (by kernel_rfl) (by kernel_rfl) (fun _ _ _ h => h) (Or.inl ⟨by rfl, ?hy22_19⟩) (by assumption) ?rest22_19
  case hy22_19 => (intro w9 hSw; clear hSw; go_simp; try with_reducible rfl)
  try simp only [Act.put, List.setIfInBounds_toArray, List.set_cons_zero, List.set_cons_succ, List.getElem_toArray, List.getElem_cons_zero, List.getElem_cons_succ]
  refine wpAnyH_ready (rs := [23]) (by kernel_rfl) (by simp) ?_
  refine AllReadyH.cons rfl (fun K hK => ?_) AllReadyH.nil
  go_simp
  with_reducible refine (known_any _).mono ?_
  rintro e w12 ⟨rfl, hb⟩
  replace DM := DM.on hb
  replace hF := hF.on hb
  replace D4 := D4.on hb
  replace hst := hst.on hb
  replace hX := hX.on hb
  replace D6 := D6.on hb
  replace bz := bz.trans (hb.mono bz.size)
  clear hb
  refine hK.out _ _ ⟨DM, D4, D6⟩ (fun hH => ?_)
  clear hK K hS
  have hS := hH
  clear hH
  try simp only [Act.put, List.setIfInBounds_toArray, List.set_cons_zero, List.set_cons_succ, List.getElem_toArray, List.getElem_cons_zero, List.getElem_cons_succ]
  refine wpAnyH_take (i := 24) (v := ?v24_20) rfl (by kernel_rfl) (by kernel_rfl) (by kernel_rfl) (fun _ _ _ h => h) (Or.inl ⟨by rfl, ?hy24_20⟩) (by assumption) ?rest24_20
  case hy24_20 => (intro w9 hSw; clear hSw; go_simp; try with_reducible rfl)
  try simp only [Act.put, List.setIfInBounds_toArray, List.set_cons_zero, List.set_cons_succ, List.getElem_toArray, List.getElem_cons_zero, List.getElem_cons_succ]
  refine wpAnyH_take (i := 25) (v := ?v25_21) rfl (by kernel_rfl) (by kernel_rfl) (by kernel_rfl) (fun _ _ _ h => h) (Or.inl ⟨by rfl, ?hy25_21⟩) (by assumption) ?rest25_21
  case hy25_21 => (intro w9 hSw; clear hSw; go_simp; try with_reducible rfl)
  try simp only [Act.put, List.setIfInBounds_toArray, List.set_cons_zero, List.set_cons_succ, List.getElem_toArray, List.getElem_cons_zero, List.getElem_cons_succ]
  refine wpAnyH_done (by kernel_rfl) ?_ _
  go_wp2_with fail
  go_ret
  exact ⟨rfl, bz⟩
theorem law_of (h : FL w A n c l) : Calls Try.prog 3 #[mV R C A n c] w (Ans w (.bool true)) := by
  cases hb : bigB n
  · cases hm : mayB R C n
    · exact law_of_no h hb hm
    · exact law_of_yes h hb hm
  · exact law_of_big h hb
end
end Go.Proofs.Ytceoefgjjekgaaa
