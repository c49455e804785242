/-
  Layer 11: the law BidiagNil. (Written by wip/tools/gen_bpm.py.)
-/
import Derived.Test.YtbaeabmmokgomaaNBpL
import Derived.Test.YtbaeabmmokgomaaMJRgT
namespace Go.Proofs.Ytbaeabmmokgomaa
open Go.RowKit Go.Bw
set_option linter.unusedVariables false
set_option linter.unusedSimpArgs false
attribute [local go_sem] run_store_float
set_option maxHeartbeats 400000 in
theorem inf_any (w : World) : Calls Try.prog 25 #[.int .i64 1] w (Ans w (.float .f64 9218868437227405312)) := by
  have hf := run_float64frombits 9218868437227405312
  have bz := Below.refl w.heap.size w
  go_enter Try.func25, Try.ntmps25
  go_wp2_with fail
  go_ret
  exact ⟨rfl, bz⟩
theorem ez1 : mkB (bdX [0, 0, 0, 0, 0, 0] 3 2 0) = some 0 := by decide +kernel
theorem ez2 : mkT (bdX [0, 0, 0, 0, 0, 0] 3 2 0) = some 0 := by decide +kernel
theorem ez3 : mkB (bdX [0, 0, 0, 0, 0, 0] 3 2 1) = some 0 := by decide +kernel
theorem rowz {Ls Ms : Nat → List Int} {d e : List Int} {hs gs : List Re} (K : BdK 3 2 2 Ls Ms d e hs gs) (h0 : Ls 0 = [0, 0, 0, 0, 0, 0]) : d = [0, 0] ∧ e = [0] := by
  have hl : 0 < hs.length := by rw [K.hl]; decide
  obtain ⟨_, h2, h3⟩ := K.hh 0 hs[0] (List.getElem?_eq_getElem hl)
  rw [h0, ez2] at h2
  rw [h0, h2] at h3
  have hM : SameF (Ms 0) [0, 0, 0, 0, 0, 0] := SameF.of h3.len (fun i hi => by
    rw [h3.len] at hi
    rw [h3.at_ i hi]
    unfold lT tg lP
    have e1 : eqA (some 0) (some 0) = true := by decide
    rw [e1]
    simp)
  have hS : Ls 1 = Ms 0 := K.still 0 (by omega) (by omega)
  refine ⟨list_two9 (x := 0) (y := 0) K.dl K.dw ?_ ?_, list_one9 (x := 0) K.el K.ew ?_⟩
  · rw [K.dd 0 (by omega), h0]; exact ez1
  · rw [K.dd 1 (by omega), hS, mkB_same (bdX_same hM 3 2 1)]; exact ez3
  · rw [K.ee 0 (by omega) (by omega), if_neg (by omega)]
    have h9 := hM.at_ 1
    exact h9.trans (by decide)
set_option maxRecDepth 100000 in
set_option maxHeartbeats 32000000 in
theorem law_nil (w : World) : Calls Try.prog 6 #[] w (Ans w (.bool true)) := by
  have bz := Below.refl w.heap.size w
  have pk := fun W => known_any W
  go_enter Try.func6, Try.ntmps6
  replace bz := bz.alloc bz.size (.cells #[.float .f64 4607182418800017408] 49)
  have FO : FL (w.alloc (.cells #[.float .f64 4607182418800017408] 49)) (some ⟨w.heap.size, 0, none⟩) 1 1 [4607182418800017408] := by have h9 := fl_built (W := w) (l := [4607182418800017408]) (by intro x hx; simp at hx; omega) (by simp); exact h9
  skip
  have T1 := Blk.new (w.alloc (.cells #[.float .f64 4607182418800017408] 49)) [.slice (some ⟨w.heap.size, 0, none⟩) 1 1, .float .f64 0] 51
  obtain ⟨t1, et1⟩ : ∃ H, (w.alloc (.cells #[.float .f64 4607182418800017408] 49)).heap.size = H := ⟨_, rfl⟩
  rw [et1] at T1
  have hbA := (Below.refl _ (w.alloc (.cells #[.float .f64 4607182418800017408] 49))).alloc (Nat.le_refl _) (.cells #[.slice (some ⟨w.heap.size, 0, none⟩) 1 1, .float .f64 0] 51)
  replace FO := FO.on hbA
  clear hbA
  replace bz := bz.alloc bz.size (.cells #[.slice (some ⟨w.heap.size, 0, none⟩) 1 1, .float .f64 0] 51)
  go_upto_region 2 with fail
  try simp only [et1] at ⊢
  generalize (w.alloc (.cells #[.float .f64 4607182418800017408] 49)).alloc (.cells #[.slice (some ⟨w.heap.size, 0, none⟩) 1 1, .float .f64 0] 51) = V1 at FO T1 bz ⊢
  clear et1
  have pq : Hid (Calls Try.prog 17 #[.int .i64 512, .int .i64 0, .slice none 0 0] V1 (GqP V1 512 0 0 (fun L => ∃ Qs, TqL 512 0 0 [] Qs ∧ Qs 0 = L))) := Lib.hid (gQ_yes (m := 512) (n := 0) (rl_none9 _) (by decide) (by omega) (by omega) rfl ⟨rfl, fun k r h => by simp at h⟩)
  go_wp2_with fail
  with_reducible refine pq.out.mono ?_
  rintro e9 w2 ⟨A2, c2, L2, rfl, _, _, hb⟩
  clear pq
  replace FO := FO.on hb
  replace T1 := T1.on hb
  replace bz := bz.trans (hb.mono bz.size)
  clear hb
  have T2 := Blk.new w2 [.int .i64 512, .int .i64 0, .slice A2 0 c2] 24
  obtain ⟨t2, et2⟩ : ∃ H, w2.heap.size = H := ⟨_, rfl⟩
  rw [et2] at T2
  have hbA := (Below.refl _ w2).alloc (Nat.le_refl _) (.cells #[.int .i64 512, .int .i64 0, .slice A2 0 c2] 24)
  replace FO := FO.on hbA
  replace T1 := T1.on hbA
  clear hbA
  replace bz := bz.alloc bz.size (.cells #[.int .i64 512, .int .i64 0, .slice A2 0 c2] 24)
  go_upto_region 3 with fail
  try simp only [et2] at ⊢
  generalize w2.alloc (.cells #[.int .i64 512, .int .i64 0, .slice A2 0 c2] 24) = V2 at FO T1 T2 bz ⊢
  clear et2
  have pq : Hid (Calls Try.prog 17 #[.int .i64 513, .int .i64 0, .slice none 0 0] V2 (QnP V2 2)) := Lib.hid (gQ_no (rl_none9 _) (by omega))
  go_wp2_with fail
  with_reducible refine pq.out.mono ?_
  rintro e9 w3 ⟨rfl, hb⟩
  clear pq
  replace FO := FO.on hb
  replace T1 := T1.on hb
  replace T2 := T2.on hb
  replace bz := bz.trans (hb.mono bz.size)
  clear hb
  have T3 := Blk.new w3 [.int .i64 0, .int .i64 0, .slice none 0 0] 24
  obtain ⟨t3, et3⟩ : ∃ H, w3.heap.size = H := ⟨_, rfl⟩
  rw [et3] at T3
  have hbA := (Below.refl _ w3).alloc (Nat.le_refl _) (.cells #[.int .i64 0, .int .i64 0, .slice none 0 0] 24)
  replace FO := FO.on hbA
  replace T1 := T1.on hbA
  replace T2 := T2.on hbA
  clear hbA
  replace bz := bz.alloc bz.size (.cells #[.int .i64 0, .int .i64 0, .slice none 0 0] 24)
  go_upto_region 4 with fail
  try simp only [et3] at ⊢
  generalize w3.alloc (.cells #[.int .i64 0, .int .i64 0, .slice none 0 0] 24) = V3 at FO T1 T2 T3 bz ⊢
  clear et3
  clear T3
  have pq : Hid (Calls Try.prog 17 #[.int .i64 1, .int .i64 2, .slice none 0 0] V3 (QnP V3 2)) := Lib.hid (gQ_no (rl_none9 _) (by omega))
  go_wp2_with fail
  with_reducible refine pq.out.mono ?_
  rintro e9 w4 ⟨rfl, hb⟩
  clear pq
  replace FO := FO.on hb
  replace T1 := T1.on hb
  replace T2 := T2.on hb
  replace bz := bz.trans (hb.mono bz.size)
  clear hb
  have T4 := Blk.new w4 [.int .i64 0, .int .i64 0, .slice none 0 0] 24
  obtain ⟨t4, et4⟩ : ∃ H, w4.heap.size = H := ⟨_, rfl⟩
  rw [et4] at T4
  have hbA := (Below.refl _ w4).alloc (Nat.le_refl _) (.cells #[.int .i64 0, .int .i64 0, .slice none 0 0] 24)
  replace FO := FO.on hbA
  replace T1 := T1.on hbA
  replace T2 := T2.on hbA
  clear hbA
  replace bz := bz.alloc bz.size (.cells #[.int .i64 0, .int .i64 0, .slice none 0 0] 24)
  go_upto_region 5 with fail
  try simp only [et4] at ⊢
  generalize w4.alloc (.cells #[.int .i64 0, .int .i64 0, .slice none 0 0] 24) = V4 at FO T1 T2 T4 bz ⊢
  clear et4
  clear T4
  obtain ⟨z0, z1, _, _⟩ := Rbx.cells T1
  have DO := Blk.new V4 [.slice (some ⟨w.heap.size, 0, none⟩) 1 1, .float .f64 0] 51
  have hbA := (Below.refl _ V4).alloc (Nat.le_refl _) (.cells #[.slice (some ⟨w.heap.size, 0, none⟩) 1 1, .float .f64 0] 51)
  replace FO := FO.on hbA
  replace T1 := T1.on hbA
  replace T2 := T2.on hbA
  clear hbA
  replace bz := bz.alloc bz.size (.cells #[.slice (some ⟨w.heap.size, 0, none⟩) 1 1, .float .f64 0] 51)
  have RL : Rl (V4.alloc (.cells #[.slice (some ⟨w.heap.size, 0, none⟩) 1 1, .float .f64 0] 51)) (some ⟨V4.heap.size, 0, none⟩) 1 1 [⟨some ⟨w.heap.size, 0, none⟩, 1, [4607182418800017408], 0⟩] := Rl.one FO (by decide) DO
  have pq : Hid (Calls Try.prog 17 #[.int .i64 2, .int .i64 1, .slice (some ⟨V4.heap.size, 0, none⟩) 1 1] (V4.alloc (.cells #[.slice (some ⟨w.heap.size, 0, none⟩) 1 1, .float .f64 0] 51)) (QnP (V4.alloc (.cells #[.slice (some ⟨w.heap.size, 0, none⟩) 1 1, .float .f64 0] 51)) 2)) := Lib.hid (gQ_no (m := 2) (n := 1) RL (fun q => by have h9 := q.2.2.2.2.2 0 _ rfl; simp at h9))
  clear RL DO
  go_wp2_with fail
  clear z0 z1
  with_reducible refine pq.out.mono ?_
  rintro e9 w5 ⟨rfl, hb⟩
  clear pq
  replace FO := FO.on hb
  replace T1 := T1.on hb
  replace T2 := T2.on hb
  replace bz := bz.trans (hb.mono bz.size)
  clear hb
  have T5 := Blk.new w5 [.int .i64 0, .int .i64 0, .slice none 0 0] 24
  obtain ⟨t5, et5⟩ : ∃ H, w5.heap.size = H := ⟨_, rfl⟩
  rw [et5] at T5
  have hbA := (Below.refl _ w5).alloc (Nat.le_refl _) (.cells #[.int .i64 0, .int .i64 0, .slice none 0 0] 24)
  replace FO := FO.on hbA
  replace T1 := T1.on hbA
  replace T2 := T2.on hbA
  clear hbA
  replace bz := bz.alloc bz.size (.cells #[.int .i64 0, .int .i64 0, .slice none 0 0] 24)
  go_upto_region 6 with fail
  try simp only [et5] at ⊢
  generalize w5.alloc (.cells #[.int .i64 0, .int .i64 0, .slice none 0 0] 24) = V5 at FO T1 T2 T5 bz ⊢
  clear et5
  clear T5
  have pq : Hid (Calls Try.prog 21 #[.int .i64 3, .slice none 0 0] V5 (QnP V5 2)) := Lib.hid (gP_no (n := 3) (rl_none9 _) (fun q => by have h9 := q.2.2.1; simp at h9))
  go_wp2_with fail
  with_reducible refine pq.out.mono ?_
  rintro e9 w6 ⟨rfl, hb⟩
  clear pq
  replace FO := FO.on hb
  replace T1 := T1.on hb
  replace T2 := T2.on hb
  replace bz := bz.trans (hb.mono bz.size)
  clear hb
  have T6 := Blk.new w6 [.int .i64 0, .int .i64 0, .slice none 0 0] 24
  obtain ⟨t6, et6⟩ : ∃ H, w6.heap.size = H := ⟨_, rfl⟩
  rw [et6] at T6
  have hbA := (Below.refl _ w6).alloc (Nat.le_refl _) (.cells #[.int .i64 0, .int .i64 0, .slice none 0 0] 24)
  replace FO := FO.on hbA
  replace T1 := T1.on hbA
  replace T2 := T2.on hbA
  clear hbA
  replace bz := bz.alloc bz.size (.cells #[.int .i64 0, .int .i64 0, .slice none 0 0] 24)
  go_upto_region 7 with fail
  try simp only [et6] at ⊢
  generalize w6.alloc (.cells #[.int .i64 0, .int .i64 0, .slice none 0 0] 24) = V6 at FO T1 T2 T6 bz ⊢
  clear et6
  clear T6
  obtain ⟨z0, z1, _, _⟩ := Rbx.cells T1
  have DO := Blk.new V6 [.slice (some ⟨w.heap.size, 0, none⟩) 1 1, .float .f64 0] 51
  have hbA := (Below.refl _ V6).alloc (Nat.le_refl _) (.cells #[.slice (some ⟨w.heap.size, 0, none⟩) 1 1, .float .f64 0] 51)
  replace FO := FO.on hbA
  replace T1 := T1.on hbA
  replace T2 := T2.on hbA
  clear hbA
  replace bz := bz.alloc bz.size (.cells #[.slice (some ⟨w.heap.size, 0, none⟩) 1 1, .float .f64 0] 51)
  have RL : Rl (V6.alloc (.cells #[.slice (some ⟨w.heap.size, 0, none⟩) 1 1, .float .f64 0] 51)) (some ⟨V6.heap.size, 0, none⟩) 1 1 [⟨some ⟨w.heap.size, 0, none⟩, 1, [4607182418800017408], 0⟩] := Rl.one FO (by decide) DO
  have pq : Hid (Calls Try.prog 21 #[.int .i64 3, .slice (some ⟨V6.heap.size, 0, none⟩) 1 1] (V6.alloc (.cells #[.slice (some ⟨w.heap.size, 0, none⟩) 1 1, .float .f64 0] 51)) (QnP (V6.alloc (.cells #[.slice (some ⟨w.heap.size, 0, none⟩) 1 1, .float .f64 0] 51)) 2)) := Lib.hid (gP_no (n := 3) RL (fun q => by have h9 := q.2.2.2 0 _ rfl; simp at h9))
  clear RL DO
  go_wp2_with fail
  clear z0 z1
  with_reducible refine pq.out.mono ?_
  rintro e9 w7 ⟨rfl, hb⟩
  clear pq
  replace FO := FO.on hb
  replace T1 := T1.on hb
  replace T2 := T2.on hb
  replace bz := bz.trans (hb.mono bz.size)
  clear hb
  have T7 := Blk.new w7 [.int .i64 0, .int .i64 0, .slice none 0 0] 24
  obtain ⟨t7, et7⟩ : ∃ H, w7.heap.size = H := ⟨_, rfl⟩
  rw [et7] at T7
  have hbA := (Below.refl _ w7).alloc (Nat.le_refl _) (.cells #[.int .i64 0, .int .i64 0, .slice none 0 0] 24)
  replace FO := FO.on hbA
  replace T1 := T1.on hbA
  replace T2 := T2.on hbA
  clear hbA
  replace bz := bz.alloc bz.size (.cells #[.int .i64 0, .int .i64 0, .slice none 0 0] 24)
  go_upto_region 8 with fail
  try simp only [et7] at ⊢
  generalize w7.alloc (.cells #[.int .i64 0, .int .i64 0, .slice none 0 0] 24) = V7 at FO T1 T2 T7 bz ⊢
  clear et7
  clear T7
  clear FO T1
  have pq : Hid (Calls Try.prog 21 #[.int .i64 2, .slice none 0 0] V7 (GqP V7 2 2 4 (fun L => ∃ Qs, Tq 2 0 0 [] Qs ∧ Qs 0 = L))) := Lib.hid (gP_yes (n := 2) (rl_none9 _) (by omega) rfl ⟨rfl, fun k r h => by simp at h⟩)
  go_wp2_with fail
  with_reducible refine pq.out.mono ?_
  rintro e9 w8 ⟨A8, c8, L8, rfl, F8, hQ8, hb⟩
  clear pq
  replace T2 := T2.on hb
  replace bz := bz.trans (hb.mono bz.size)
  clear hb
  obtain ⟨Qs8, T8q, hQ80⟩ := hQ8
  have hI8 : Is L8 4 (oneF 2 2) := by rw [← hQ80]; exact T8q.top
  have HSM : Hid (sameM 2 2 L8 2 2 [4607182418800017408, 0, 0, 4607182418800017408] = true) := Lib.hid (sameM_of 2 2 F8.2.2 (fun x hx => by simp at hx; omega) (SameF.of hI8.len (fun i hi => by rw [hI8.len] at hi; rw [hI8.at_ i hi]; rcases i with _ | _ | _ | _ | i <;> first | decide | omega)))
  clear hI8 T8q hQ80
  replace F8 : FL w8 A8 4 c8 L8 := F8
  have T8 := Blk.new w8 [.int .i64 2, .int .i64 2, .slice A8 4 c8] 24
  obtain ⟨t8, et8⟩ : ∃ H, w8.heap.size = H := ⟨_, rfl⟩
  rw [et8] at T8
  have hbA := (Below.refl _ w8).alloc (Nat.le_refl _) (.cells #[.int .i64 2, .int .i64 2, .slice A8 4 c8] 24)
  replace T2 := T2.on hbA
  replace F8 := F8.on hbA
  clear hbA
  replace bz := bz.alloc bz.size (.cells #[.int .i64 2, .int .i64 2, .slice A8 4 c8] 24)
  go_upto_region 9 with fail
  try simp only [et8] at ⊢
  generalize w8.alloc (.cells #[.int .i64 2, .int .i64 2, .slice A8 4 c8] 24) = V8 at T2 F8 T8 bz ⊢
  clear et8
  have hbA := (Below.refl _ V8).alloc (Nat.le_refl _) (.cells #[.float .f64 0, .float .f64 0, .float .f64 0, .float .f64 0, .float .f64 0, .float .f64 0] 49)
  replace T2 := T2.on hbA
  replace F8 := F8.on hbA
  replace T8 := T8.on hbA
  clear hbA
  replace bz := bz.alloc bz.size (.cells #[.float .f64 0, .float .f64 0, .float .f64 0, .float .f64 0, .float .f64 0, .float .f64 0] 49)
  have fb : FL (V8.alloc (.cells #[.float .f64 0, .float .f64 0, .float .f64 0, .float .f64 0, .float .f64 0, .float .f64 0] 49)) (some ⟨V8.heap.size, 0, none⟩) 6 6 [0, 0, 0, 0, 0, 0] := by have h9 := fl_built (W := V8) (l := [0, 0, 0, 0, 0, 0]) (by intro x hx; simp at hx; omega) (by simp); exact h9
  have lb : V8.heap.size < (V8.alloc (.cells #[.float .f64 0, .float .f64 0, .float .f64 0, .float .f64 0, .float .f64 0, .float .f64 0] 49)).heap.size := by rw [World.size_alloc]; omega
  go_wp2_with fail
  with_reducible refine (wmat_any 3 2 _).mono ?_
  rintro e9 m9 ⟨rfl, hb⟩
  replace T2 := T2.on hb
  replace F8 := F8.on hb
  replace T8 := T8.on hb
  replace fb := fb.on hb
  replace bz := bz.trans (hb.mono bz.size)
  replace lb := Nat.lt_of_lt_of_le lb hb.size
  obtain ⟨hb9, eb9⟩ : ∃ x, V8.heap.size = x := ⟨_, rfl⟩
  rw [eb9] at fb lb
  try simp only [eb9] at ⊢
  clear eb9
  clear hb
  have pq : Hid (Calls Try.prog 9 #[mV 3 2 (some ⟨hb9, 0, none⟩) 6 6] m9 (BdG m9 3 2 [0, 0, 0, 0, 0, 0])) := Lib.hid (gReduce_yes (m := 3) (n := 2) fb rfl (by omega) (by omega) (by decide) (fun x e9 => by injection e9 with e9; subst e9; exact lb))
  clear fb lb
  go_wp2_with fail
  with_reducible refine pq.out.mono ?_
  rintro e9 w9 ⟨Ls, Ms, Ad9, cd9, d9, Ae9, ce9, e9, Ah9, ch9, hs9, Ag9, cg9, gs9, rfl, Fd9, Fe9, _, _, K, hL, hb⟩
  clear pq
  replace T2 := T2.on hb
  replace F8 := F8.on hb
  replace T8 := T8.on hb
  replace bz := bz.trans (hb.mono bz.size)
  clear hb
  obtain ⟨rfl, rfl⟩ := rowz K hL
  have hh := K.hl
  have hg := K.gl
  rw [hh, hg]
  clear hh hg K hL
  replace Fd9 : FL w9 Ad9 2 cd9 [0, 0] := Fd9
  replace Fe9 : FL w9 Ae9 1 ce9 [0] := Fe9
  have T9 := Blk.new w9 [.slice Ad9 2 cd9, .slice Ae9 1 ce9] 28
  obtain ⟨t9, et9⟩ : ∃ H, w9.heap.size = H := ⟨_, rfl⟩
  rw [et9] at T9
  have hbA := (Below.refl _ w9).alloc (Nat.le_refl _) (.cells #[.slice Ad9 2 cd9, .slice Ae9 1 ce9] 28)
  replace T2 := T2.on hbA
  replace F8 := F8.on hbA
  replace T8 := T8.on hbA
  replace Fd9 := Fd9.on hbA
  replace Fe9 := Fe9.on hbA
  clear hbA
  replace bz := bz.alloc bz.size (.cells #[.slice Ad9 2 cd9, .slice Ae9 1 ce9] 28)
  go_upto_region 10 with fail
  try simp only [et9] at ⊢
  generalize w9.alloc (.cells #[.slice Ad9 2 cd9, .slice Ae9 1 ce9] 28) = V9 at T2 F8 T8 Fd9 Fe9 T9 bz ⊢
  clear et9
  have pq : Hid (Calls Try.prog 9 #[mV 0 0 none 0 0] V9 (BdG V9 0 0 [])) := Lib.hid (gReduce_yes (m := 0) (n := 0) (FL.nil _) rfl (by omega) (by omega) (by decide) (fun x e9 => by cases e9))
  go_wp2_with fail
  with_reducible refine pq.out.mono ?_
  rintro e9 w10 ⟨Ls, Ms, Ad10, cd10, d10, Ae10, ce10, e10, Ah10, ch10, hs10, Ag10, cg10, gs10, rfl, Fd10, Fe10, _, _, K, hL, hb⟩
  clear pq
  replace T2 := T2.on hb
  replace F8 := F8.on hb
  replace T8 := T8.on hb
  replace Fd9 := Fd9.on hb
  replace Fe9 := Fe9.on hb
  replace T9 := T9.on hb
  replace bz := bz.trans (hb.mono bz.size)
  clear hb
  have hd : d10.length = 0 := K.dl
  have he : e10.length = 0 := K.el
  rw [hd, he]
  clear hd he K hL Fd10 Fe10
  have T10 := Blk.new w10 [.slice Ad10 0 cd10, .slice Ae10 0 ce10] 28
  obtain ⟨t10, et10⟩ : ∃ H, w10.heap.size = H := ⟨_, rfl⟩
  rw [et10] at T10
  have hbA := (Below.refl _ w10).alloc (Nat.le_refl _) (.cells #[.slice Ad10 0 cd10, .slice Ae10 0 ce10] 28)
  replace T2 := T2.on hbA
  replace F8 := F8.on hbA
  replace T8 := T8.on hbA
  replace Fd9 := Fd9.on hbA
  replace Fe9 := Fe9.on hbA
  replace T9 := T9.on hbA
  clear hbA
  replace bz := bz.alloc bz.size (.cells #[.slice Ad10 0 cd10, .slice Ae10 0 ce10] 28)
  go_upto_region 11 with fail
  try simp only [et10] at ⊢
  generalize w10.alloc (.cells #[.slice Ad10 0 cd10, .slice Ae10 0 ce10] 28) = V10 at T2 F8 T8 Fd9 Fe9 T9 T10 bz ⊢
  clear et10
  go_wp2_with fail
  with_reducible refine (inf_any _).mono ?_
  rintro e9 i11 ⟨rfl, hb⟩
  replace T2 := T2.on hb
  replace F8 := F8.on hb
  replace T8 := T8.on hb
  replace Fd9 := Fd9.on hb
  replace Fe9 := Fe9.on hb
  replace T9 := T9.on hb
  replace T10 := T10.on hb
  replace bz := bz.trans (hb.mono bz.size)
  clear hb
  have hbA := (Below.refl _ i11).alloc (Nat.le_refl _) (.cells #[.float .f64 9218868437227405312] 49)
  replace T2 := T2.on hbA
  replace F8 := F8.on hbA
  replace T8 := T8.on hbA
  replace Fd9 := Fd9.on hbA
  replace Fe9 := Fe9.on hbA
  replace T9 := T9.on hbA
  replace T10 := T10.on hbA
  clear hbA
  replace bz := bz.alloc bz.size (.cells #[.float .f64 9218868437227405312] 49)
  have fb : FL (i11.alloc (.cells #[.float .f64 9218868437227405312] 49)) (some ⟨i11.heap.size, 0, none⟩) 1 1 [9218868437227405312] := by have h9 := fl_built (W := i11) (l := [9218868437227405312]) (by intro x hx; simp at hx; omega) (by simp); exact h9
  have lb : i11.heap.size < (i11.alloc (.cells #[.float .f64 9218868437227405312] 49)).heap.size := by rw [World.size_alloc]; omega
  go_wp2_with fail
  with_reducible refine (wmat_any 1 1 _).mono ?_
  rintro e9 m11 ⟨rfl, hb⟩
  replace T2 := T2.on hb
  replace F8 := F8.on hb
  replace T8 := T8.on hb
  replace Fd9 := Fd9.on hb
  replace Fe9 := Fe9.on hb
  replace T9 := T9.on hb
  replace T10 := T10.on hb
  replace fb := fb.on hb
  replace bz := bz.trans (hb.mono bz.size)
  replace lb := Nat.lt_of_lt_of_le lb hb.size
  obtain ⟨hb11, eb11⟩ : ∃ x, i11.heap.size = x := ⟨_, rfl⟩
  rw [eb11] at fb lb
  try simp only [eb11] at ⊢
  clear eb11
  clear hb
  have pq : Hid (Calls Try.prog 9 #[mV 1 1 (some ⟨hb11, 0, none⟩) 1 1] m11 (BdN m11 10)) := Lib.hid (gReduce_no (R := 1) (C := 1) fb (by decide) (by decide))
  go_wp2_with fail
  with_reducible refine pq.out.mono ?_
  rintro e9 w11 ⟨rfl, hb⟩
  clear pq
  replace T2 := T2.on hb
  replace F8 := F8.on hb
  replace T8 := T8.on hb
  replace Fd9 := Fd9.on hb
  replace Fe9 := Fe9.on hb
  replace T9 := T9.on hb
  replace T10 := T10.on hb
  replace bz := bz.trans (hb.mono bz.size)
  clear hb
  have T11 := Blk.new w11 [.slice none 0 0, .slice none 0 0] 28
  obtain ⟨t11, et11⟩ : ∃ H, w11.heap.size = H := ⟨_, rfl⟩
  rw [et11] at T11
  have hbA := (Below.refl _ w11).alloc (Nat.le_refl _) (.cells #[.slice none 0 0, .slice none 0 0] 28)
  replace T2 := T2.on hbA
  replace F8 := F8.on hbA
  replace T8 := T8.on hbA
  replace Fd9 := Fd9.on hbA
  replace Fe9 := Fe9.on hbA
  replace T9 := T9.on hbA
  replace T10 := T10.on hbA
  clear hbA
  replace bz := bz.alloc bz.size (.cells #[.slice none 0 0, .slice none 0 0] 28)
  go_upto_region 12 with fail
  try simp only [et11] at ⊢
  generalize w11.alloc (.cells #[.slice none 0 0, .slice none 0 0] 28) = V11 at T2 F8 T8 Fd9 Fe9 T9 T10 T11 bz ⊢
  clear et11
  clear T11
  clear fb lb
  go_wp2_with fail
  with_reducible refine (wmat_any 1 1 _).mono ?_
  rintro e9 m12 ⟨rfl, hb⟩
  replace T2 := T2.on hb
  replace F8 := F8.on hb
  replace T8 := T8.on hb
  replace Fd9 := Fd9.on hb
  replace Fe9 := Fe9.on hb
  replace T9 := T9.on hb
  replace T10 := T10.on hb
  replace bz := bz.trans (hb.mono bz.size)
  clear hb
  have pq : Hid (Calls Try.prog 9 #[mV 1 1 none 0 0] m12 (BdN m12 2)) := Lib.hid (gReduce_no (R := 1) (C := 1) (FL.nil _) (by decide) (by decide))
  go_wp2_with fail
  with_reducible refine pq.out.mono ?_
  rintro e9 w12 ⟨rfl, hb⟩
  clear pq
  replace T2 := T2.on hb
  replace F8 := F8.on hb
  replace T8 := T8.on hb
  replace Fd9 := Fd9.on hb
  replace Fe9 := Fe9.on hb
  replace T9 := T9.on hb
  replace T10 := T10.on hb
  replace bz := bz.trans (hb.mono bz.size)
  clear hb
  have T12 := Blk.new w12 [.slice none 0 0, .slice none 0 0] 28
  obtain ⟨t12, et12⟩ : ∃ H, w12.heap.size = H := ⟨_, rfl⟩
  rw [et12] at T12
  have hbA := (Below.refl _ w12).alloc (Nat.le_refl _) (.cells #[.slice none 0 0, .slice none 0 0] 28)
  replace T2 := T2.on hbA
  replace F8 := F8.on hbA
  replace T8 := T8.on hbA
  replace Fd9 := Fd9.on hbA
  replace Fe9 := Fe9.on hbA
  replace T9 := T9.on hbA
  replace T10 := T10.on hbA
  clear hbA
  replace bz := bz.alloc bz.size (.cells #[.slice none 0 0, .slice none 0 0] 28)
  go_upto_region 13 with fail
  try simp only [et12] at ⊢
  generalize w12.alloc (.cells #[.slice none 0 0, .slice none 0 0] 28) = V12 at T2 F8 T8 Fd9 Fe9 T9 T10 T12 bz ⊢
  clear et12
  clear T12
  replace T2 := T2.drew
  replace F8 := F8.drew
  replace T8 := T8.drew
  replace Fd9 := Fd9.drew
  replace Fe9 := Fe9.drew
  replace T9 := T9.drew
  replace T10 := T10.drew
  replace bz := bz.drew
  refine wp_region_held_drew (S := fun w9 : World => Mbx w9 t2 512 0 A2 0 c2 ∧ Mbx w9 t8 2 2 A8 4 c8 ∧ Tbx w9 t9 Ad9 2 cd9 Ae9 1 ce9 ∧ Tbx w9 t10 Ad10 0 cd10 Ae10 0 ce10) (by kernel_rfl) ⟨T2, T8, T9, T10⟩ (fun hS => ?_)
  generalize V12.drew = wl at hS T2 F8 T8 Fd9 Fe9 T9 T10  bz ⊢
  refine wpAnyH_tab [⟨98, 4, 0⟩, ⟨99, 158456325028528675187087900672, 1⟩, ⟨100, 316912650057057350374175801344, 2⟩, ⟨101, 633825300114114700748351602688, 4⟩, ⟨102, 1267650600228229401496703205384, 8⟩, ⟨103, 3802951800684688204490109616128, 24⟩, ⟨104, 6338253001141147007483516026880, 40⟩, ⟨105, 11408855402054064613470328848384, 72⟩, ⟨106, 20282409603651670423947251286016, 160⟩, ⟨107, 40564819207303340847894502572064, 256⟩, ⟨108, 121694457621910022543683507716096, 768⟩, ⟨109, 202824096036516704239472512860160, 1280⟩, ⟨110, 365083372865730067631050523148288, 2304⟩, ⟨111, 649037107316853453566312041152512, 5120⟩, ⟨112, 1298074214633706907132624082305152, 8192⟩, ⟨113, 3894222643901120721397872246915072, 24576⟩, ⟨114, 6490371073168534535663120411525120, 40960⟩, ⟨115, 11682667931703362164193616740745216, 73728⟩, ⟨116, 20769187434139310514121985316880384, 163840⟩, ⟨117, 41538374868278621028243970633761280, 262144⟩, ⟨118, 124615124604835863084731911901282304, 786432⟩, ⟨119, 207691874341393105141219853168803840, 1310720⟩, ⟨120, 373845373814507589254195735703846912, 2359296⟩, ⟨121, 664613997892457936451903530140172288, 5242880⟩, ⟨122, 1329227995784915872903807060280346624, 8388608⟩, ⟨123, 3987683987354747618711421180841033728, 25165824⟩, ⟨124, 6646139978924579364519035301401722880, 41943040⟩, ⟨125, 11963051962064242856134263542523101184, 75497472⟩, ⟨126, 21267647932558653966460912964485513216, 167772160⟩, ⟨127, 42535295865117307932921825928971034624, 268435456⟩, ⟨128, 127605887595351923798765477786913079296, 805306368⟩, ⟨129, 212676479325586539664609129644855132160, 1342177280⟩, ⟨130, 382817662786055771396296433360739237888, 2415919104⟩, ⟨131, 680564733841876926926749214863536422912, 5368709120⟩, ⟨132, 1361129467683753853853498429727072862208, 8589934592⟩, ⟨133, 1361129467683753853853498429727072845824, 8589934592⟩, ⟨134, 6805647338418769269267492148635364229120, 42949672960⟩, ⟨135, 14972424144521292392388482726997801304064, 94489280512⟩, ⟨136, 23139200950623815515509473305360238379008, 146028888064⟩, ⟨137, 43556142965880123323311949751266331066368, 412316860416⟩, ⟨138, 87112285931760246646623899502532662165504, 549755813888⟩, ⟨139, 261336857795280739939871698507597986398208, 1649267441664⟩, ⟨140, 87112285931760246646623899502532662657024, 549755813888⟩, ⟨141, 784010573385842219819615095522793959194624, 7146825580544⟩, ⟨142, 1829358004566965179579101889553185904787456, 11544872091648⟩, ⟨143, 87112285931760246646623899502532670521344, 549755813888⟩, ⟨144, 5662298585564416032030553467664623038627840, 44530220924928⟩, ⟨145, 14025078035013399710106447819907758603370496, 88510686035968⟩, ⟨146, 22387857484462383388182342172150894168113152, 141287244169216⟩, ⟨147, 44688602682993006529718060444799255674093568, 282024732524544⟩, ⟨148, 89202980794122492566142873090593446023921664, 633318697598976⟩, ⟨149, 178405961588244985132285746181186892047908864, 1125899906842624⟩, ⟨150, 178405961588244985132285746181186892047843328, 1125899906842624⟩, ⟨151, 178405961588244985132285746181186892047843328, 1125899906842624⟩, ⟨152, 2319277500647184806719714700355429596621963264, 14636698788954112⟩, ⟨153, 3389713270176654717513429177442550948909023232, 21392098230009856⟩, ⟨154, 5887396732412084509365429623979167437578829824, 37154696925806592⟩, ⟨155, 11417981541647679048466287755595961091061972992, 108086391056891904⟩, ⟨156, 22835963083295358096932575511191922182124077056, 144115188075855872⟩, ⟨157, 68507889249886074290797726533575766546371837952, 432345564227567616⟩, ⟨158, 114179815416476790484662877555959610910619729920, 720575940379279360⟩, ⟨159, 205523667749658222872393179600727299639115513856, 1297036692682702848⟩, ⟨160, 365375409332725729550921208179070754913983135744, 2449958197289549824⟩, ⟨161, 730750818665451459101842416358141509827967320064, 4611686018427387904⟩, ⟨162, 2192252455996354377305527249074424529483898814464, 13835058055282163712⟩, ⟨163, 3653754093327257295509212081790707549139831357440, 23058430092136939520⟩, ⟨164, 6576757367989063131916581747223273588451696443392, 41505174165846491136⟩, ⟨165, 12422763917312674804731321078088405667075426615296, 78398662313265594368⟩, ⟨166, 23384026197294446691258957323460528314494920687616, 152185638608103800832⟩, ⟨167, 46768052394588893382517914646921056628989975592960, 295147905179352825856⟩, ⟨168, 140304157183766680147553743940763169886969524125696, 885443715538058477568⟩, ⟨169, 233840261972944466912589573234605283144949206876160, 1475739525896764129280⟩, ⟨170, 420912471551300040442661231822289509660908572377088, 2656331146614175432704⟩, ⟨171, 748288838313422294120286634350736906063837462003712, 5902958103587056517120⟩, ⟨172, 1496577676626844588240573268701473812127677071491072, 9444732965739290427392⟩, ⟨173, 4489733029880533764721719806104421436383024772022272, 28334198897217871282176⟩, ⟨174, 7482888383134222941202866343507369060638374620037120, 47223664828696452136960⟩, ⟨175, 13469199089641601294165159418313264309149074316066816, 85002596691653613846528⟩, ⟨176, 23945242826029513411849172299223580994042798784118784, 188894659314785808547840⟩, ⟨177, 47890485652059026823698344598447161988085597568237568, 302231454903657293676544⟩, ⟨178, 143671456956177080471095033795341485964256792704712704, 906694364710971881029632⟩, ⟨1, 191561942608236107294793378393788647952342390272950272, 2417851639229258349412351⟩] (by kernel_rfl) (fun hT => ?_)
  refine wpAnyH_take (i := 0) (oi := { dst := some 97, op := Go.Op.fieldAddr 24 (Go.Operand.tmp 2) 0, type := 0, pos := "law.go:209", after := #[], guard := none }) (v := ?v0_1) (by kernel_rfl) (tab_ns hT) (tab_free 0 hT (by kernel_rfl) (by kernel_rfl)) (tab_rdy 0 hT (by kernel_rfl) (by kernel_rfl) (by kernel_rfl)) (fun _ _ _ h => h) (Or.inl ⟨by kernel_rfl, ?hy0_1⟩) (by assumption) ?rest0_1
  case hy0_1 => (intro w9 hSw; clear hSw; go_simp; try with_reducible rfl)
  try simp only [Act.put, List.setIfInBounds_toArray, List.set_cons_zero, List.set_cons_succ, List.getElem_toArray, List.getElem_cons_zero, List.getElem_cons_succ]
  refine wpAnyH_take (i := 1) (oi := { dst := some 98, op := Go.Op.load 3 (Go.Operand.tmp 97), type := 3, pos := "law.go:209", after := #[{ on := 0, ground := Go.Ground.data }], guard := none }) (v := ?v1_2) (by kernel_rfl) (tab_ns hT) (tab_free 1 hT (by kernel_rfl) (by kernel_rfl)) (tab_rdy 1 hT (by kernel_rfl) (by kernel_rfl) (by kernel_rfl)) (fun _ _ _ h => h) (Or.inl ⟨by kernel_rfl, ?hy1_2⟩) (by assumption) ?rest1_2
  case hy1_2 => (intro w9 hSw; obtain ⟨ma1, ma2, ma3, ma4⟩ := hSw; obtain ⟨y0, y1, y2, _, _, _⟩ := Mbx.cells ma1; obtain ⟨z0, z1, z2, _, _, _⟩ := Mbx.cells ma2; obtain ⟨p0, p1, _, _⟩ := Tbx.cells ma3; obtain ⟨p2, p3, _, _⟩ := Tbx.cells ma4; go_simp; try with_reducible rfl)
  try simp only [Act.put, List.setIfInBounds_toArray, List.set_cons_zero, List.set_cons_succ, List.getElem_toArray, List.getElem_cons_zero, List.getElem_cons_succ]
  refine wpAnyH_take (i := 2) (oi := { dst := some 99, op := Go.Op.binOp Go.BinOp.eql 3 (Go.Operand.tmp 98) (Go.Operand.const (Go.Value.int Go.IntKind.i64 512)) 3, type := 4, pos := "law.go:209", after := #[{ on := 1, ground := Go.Ground.data }], guard := none }) (v := ?v2_3) (by kernel_rfl) (tab_ns hT) (tab_free 3 hT (by kernel_rfl) (by kernel_rfl)) (tab_rdy 3 hT (by kernel_rfl) (by kernel_rfl) (by kernel_rfl)) (fun _ _ _ h => h) (Or.inl ⟨by kernel_rfl, ?hy2_3⟩) (by assumption) ?rest2_3
  case hy2_3 => (intro w9 hSw; clear hSw; go_simp; try with_reducible rfl)
  try simp only [Act.put, List.setIfInBounds_toArray, List.set_cons_zero, List.set_cons_succ, List.getElem_toArray, List.getElem_cons_zero, List.getElem_cons_succ]
  refine wpAnyH_take (i := 3) (oi := { dst := some 100, op := Go.Op.move (Go.Operand.tmp 99), type := 4, pos := "law.go:209", after := #[{ on := 2, ground := Go.Ground.data }], guard := none }) (v := ?v3_4) (by kernel_rfl) (tab_ns hT) (tab_free 7 hT (by kernel_rfl) (by kernel_rfl)) (tab_rdy 7 hT (by kernel_rfl) (by kernel_rfl) (by kernel_rfl)) (fun _ _ _ h => h) (Or.inl ⟨by kernel_rfl, ?hy3_4⟩) (by assumption) ?rest3_4
  case hy3_4 => (intro w9 hSw; clear hSw; go_simp; try with_reducible rfl)
  try simp only [Act.put, List.setIfInBounds_toArray, List.set_cons_zero, List.set_cons_succ, List.getElem_toArray, List.getElem_cons_zero, List.getElem_cons_succ]
  refine wpAnyH_take (i := 4) (oi := { dst := some 101, op := Go.Op.move (Go.Operand.tmp 3), type := 30, pos := "law.go:209", after := #[{ on := 3, ground := Go.Ground.guard }], guard := some (3, true) }) (v := ?v4_5) (by kernel_rfl) (tab_ns hT) (tab_free 15 hT (by kernel_rfl) (by kernel_rfl)) (tab_rdy 15 hT (by kernel_rfl) (by kernel_rfl) (by kernel_rfl)) (fun _ _ _ h => h) (Or.inl ⟨by kernel_rfl, ?hy4_5⟩) (by assumption) ?rest4_5
  case hy4_5 => (intro w9 hSw; clear hSw; go_simp; try with_reducible rfl)
  try simp only [Act.put, List.setIfInBounds_toArray, List.set_cons_zero, List.set_cons_succ, List.getElem_toArray, List.getElem_cons_zero, List.getElem_cons_succ]
  refine wpAnyH_ready (rs := [5]) (tab_ready 31 hT (by kernel_rfl) (by kernel_rfl) (by kernel_rfl)) (by simp) ?_
  refine AllReadyH.con1 (o := { dst := some 102, op := Go.Op.call { callee := Go.Callee.value (Go.Operand.func 12), args := #[Go.Operand.tmp 101], argTypes := #[30] }, type := 3, pos := "law.go:209", after := #[{ on := 4, ground := Go.Ground.data }, { on := 3, ground := Go.Ground.chain }, { on := 3, ground := Go.Ground.guard }], guard := some (3, true) }) (by kernel_rfl) (by kernel_rfl) (fun K hK => ?_) AllReadyH.nil
  go_simp
  with_reducible refine (wnum_any 0 _).mono ?_
  rintro e9 k1 ⟨rfl, hb⟩
  replace T2 := T2.on hb
  replace F8 := F8.on hb
  replace T8 := T8.on hb
  replace Fd9 := Fd9.on hb
  replace Fe9 := Fe9.on hb
  replace T9 := T9.on hb
  replace T10 := T10.on hb
  replace bz := bz.trans (hb.mono bz.size)
  clear hb
  clear hS; refine hK.out _ _ ⟨T2, T8, T9, T10⟩ (fun hS => ?_); clear hK K
  try simp only [Act.put, List.setIfInBounds_toArray, List.set_cons_zero, List.set_cons_succ, List.getElem_toArray, List.getElem_cons_zero, List.getElem_cons_succ]
  refine wpAnyH_take (i := 6) (oi := { dst := some 103, op := Go.Op.binOp Go.BinOp.eql 3 (Go.Operand.tmp 102) (Go.Operand.const (Go.Value.int Go.IntKind.i64 0)) 3, type := 4, pos := "law.go:209", after := #[{ on := 5, ground := Go.Ground.data }, { on := 3, ground := Go.Ground.guard }], guard := some (3, true) }) (v := ?v6_6) (by kernel_rfl) (tab_ns hT) (tab_free 63 hT (by kernel_rfl) (by kernel_rfl)) (tab_rdy 63 hT (by kernel_rfl) (by kernel_rfl) (by kernel_rfl)) (fun _ _ _ h => h) (Or.inl ⟨by kernel_rfl, ?hy6_6⟩) (by assumption) ?rest6_6
  case hy6_6 => (intro w9 hSw; clear hSw; go_simp; try with_reducible rfl)
  try simp only [Act.put, List.setIfInBounds_toArray, List.set_cons_zero, List.set_cons_succ, List.getElem_toArray, List.getElem_cons_zero, List.getElem_cons_succ]
  refine wpAnyH_take (i := 7) (oi := { dst := some 104, op := Go.Op.pick (Go.Operand.tmp 100) (Go.Operand.tmp 103) (Go.Operand.const (Go.Value.bool false)), type := 4, pos := "law.go:209", after := #[{ on := 3, ground := Go.Ground.data }, { on := 6, ground := Go.Ground.data }], guard := none }) (v := ?v7_7) (by kernel_rfl) (tab_ns hT) (tab_free 127 hT (by kernel_rfl) (by kernel_rfl)) (tab_rdy 127 hT (by kernel_rfl) (by kernel_rfl) (by kernel_rfl)) (fun _ _ _ h => h) (Or.inl ⟨by kernel_rfl, ?hy7_7⟩) (by assumption) ?rest7_7
  case hy7_7 => (intro w9 hSw; clear hSw; go_simp; try with_reducible rfl)
  try simp only [Act.put, List.setIfInBounds_toArray, List.set_cons_zero, List.set_cons_succ, List.getElem_toArray, List.getElem_cons_zero, List.getElem_cons_succ]
  refine wpAnyH_take (i := 8) (oi := { dst := some 105, op := Go.Op.move (Go.Operand.tmp 104), type := 4, pos := "law.go:209", after := #[{ on := 7, ground := Go.Ground.data }, { on := 5, ground := Go.Ground.chain }], guard := none }) (v := ?v8_8) (by kernel_rfl) (tab_ns hT) (tab_free 255 hT (by kernel_rfl) (by kernel_rfl)) (tab_rdy 255 hT (by kernel_rfl) (by kernel_rfl) (by kernel_rfl)) (fun _ _ _ h => h) (Or.inl ⟨by kernel_rfl, ?hy8_8⟩) (by assumption) ?rest8_8
  case hy8_8 => (intro w9 hSw; clear hSw; go_simp; try with_reducible rfl)
  try simp only [Act.put, List.setIfInBounds_toArray, List.set_cons_zero, List.set_cons_succ, List.getElem_toArray, List.getElem_cons_zero, List.getElem_cons_succ]
  refine wpAnyH_take (i := 9) (oi := { dst := some 106, op := Go.Op.move (Go.Operand.tmp 5), type := 30, pos := "law.go:209", after := #[{ on := 8, ground := Go.Ground.guard }], guard := some (8, true) }) (v := ?v9_9) (by kernel_rfl) (tab_ns hT) (tab_free 511 hT (by kernel_rfl) (by kernel_rfl)) (tab_rdy 511 hT (by kernel_rfl) (by kernel_rfl) (by kernel_rfl)) (fun _ _ _ h => h) (Or.inl ⟨by kernel_rfl, ?hy9_9⟩) (by assumption) ?rest9_9
  case hy9_9 => (intro w9 hSw; clear hSw; go_simp; try with_reducible rfl)
  try simp only [Act.put, List.setIfInBounds_toArray, List.set_cons_zero, List.set_cons_succ, List.getElem_toArray, List.getElem_cons_zero, List.getElem_cons_succ]
  refine wpAnyH_ready (rs := [10]) (tab_ready 1023 hT (by kernel_rfl) (by kernel_rfl) (by kernel_rfl)) (by simp) ?_
  refine AllReadyH.con1 (o := { dst := some 107, op := Go.Op.call { callee := Go.Callee.value (Go.Operand.func 12), args := #[Go.Operand.tmp 106], argTypes := #[30] }, type := 3, pos := "law.go:209", after := #[{ on := 9, ground := Go.Ground.data }, { on := 8, ground := Go.Ground.chain }, { on := 8, ground := Go.Ground.guard }], guard := some (8, true) }) (by kernel_rfl) (by kernel_rfl) (fun K hK => ?_) AllReadyH.nil
  go_simp
  with_reducible refine (wnum_any 2 _).mono ?_
  rintro e9 k2 ⟨rfl, hb⟩
  replace T2 := T2.on hb
  replace F8 := F8.on hb
  replace T8 := T8.on hb
  replace Fd9 := Fd9.on hb
  replace Fe9 := Fe9.on hb
  replace T9 := T9.on hb
  replace T10 := T10.on hb
  replace bz := bz.trans (hb.mono bz.size)
  clear hb
  clear hS; refine hK.out _ _ ⟨T2, T8, T9, T10⟩ (fun hS => ?_); clear hK K
  try simp only [Act.put, List.setIfInBounds_toArray, List.set_cons_zero, List.set_cons_succ, List.getElem_toArray, List.getElem_cons_zero, List.getElem_cons_succ]
  refine wpAnyH_take (i := 11) (oi := { dst := some 108, op := Go.Op.binOp Go.BinOp.eql 3 (Go.Operand.tmp 107) (Go.Operand.const (Go.Value.int Go.IntKind.i64 2)) 3, type := 4, pos := "law.go:209", after := #[{ on := 10, ground := Go.Ground.data }, { on := 8, ground := Go.Ground.guard }], guard := some (8, true) }) (v := ?v11_10) (by kernel_rfl) (tab_ns hT) (tab_free 2047 hT (by kernel_rfl) (by kernel_rfl)) (tab_rdy 2047 hT (by kernel_rfl) (by kernel_rfl) (by kernel_rfl)) (fun _ _ _ h => h) (Or.inl ⟨by kernel_rfl, ?hy11_10⟩) (by assumption) ?rest11_10
  case hy11_10 => (intro w9 hSw; clear hSw; go_simp; try with_reducible rfl)
  try simp only [Act.put, List.setIfInBounds_toArray, List.set_cons_zero, List.set_cons_succ, List.getElem_toArray, List.getElem_cons_zero, List.getElem_cons_succ]
  refine wpAnyH_take (i := 12) (oi := { dst := some 109, op := Go.Op.pick (Go.Operand.tmp 105) (Go.Operand.tmp 108) (Go.Operand.const (Go.Value.bool false)), type := 4, pos := "law.go:209", after := #[{ on := 8, ground := Go.Ground.data }, { on := 11, ground := Go.Ground.data }], guard := none }) (v := ?v12_11) (by kernel_rfl) (tab_ns hT) (tab_free 4095 hT (by kernel_rfl) (by kernel_rfl)) (tab_rdy 4095 hT (by kernel_rfl) (by kernel_rfl) (by kernel_rfl)) (fun _ _ _ h => h) (Or.inl ⟨by kernel_rfl, ?hy12_11⟩) (by assumption) ?rest12_11
  case hy12_11 => (intro w9 hSw; clear hSw; go_simp; try with_reducible rfl)
  try simp only [Act.put, List.setIfInBounds_toArray, List.set_cons_zero, List.set_cons_succ, List.getElem_toArray, List.getElem_cons_zero, List.getElem_cons_succ]
  refine wpAnyH_take (i := 13) (oi := { dst := some 110, op := Go.Op.move (Go.Operand.tmp 109), type := 4, pos := "law.go:209", after := #[{ on := 12, ground := Go.Ground.data }, { on := 10, ground := Go.Ground.chain }], guard := none }) (v := ?v13_12) (by kernel_rfl) (tab_ns hT) (tab_free 8191 hT (by kernel_rfl) (by kernel_rfl)) (tab_rdy 8191 hT (by kernel_rfl) (by kernel_rfl) (by kernel_rfl)) (fun _ _ _ h => h) (Or.inl ⟨by kernel_rfl, ?hy13_12⟩) (by assumption) ?rest13_12
  case hy13_12 => (intro w9 hSw; clear hSw; go_simp; try with_reducible rfl)
  try simp only [Act.put, List.setIfInBounds_toArray, List.set_cons_zero, List.set_cons_succ, List.getElem_toArray, List.getElem_cons_zero, List.getElem_cons_succ]
  refine wpAnyH_take (i := 14) (oi := { dst := some 111, op := Go.Op.move (Go.Operand.tmp 7), type := 30, pos := "law.go:209", after := #[{ on := 13, ground := Go.Ground.guard }], guard := some (13, true) }) (v := ?v14_13) (by kernel_rfl) (tab_ns hT) (tab_free 16383 hT (by kernel_rfl) (by kernel_rfl)) (tab_rdy 16383 hT (by kernel_rfl) (by kernel_rfl) (by kernel_rfl)) (fun _ _ _ h => h) (Or.inl ⟨by kernel_rfl, ?hy14_13⟩) (by assumption) ?rest14_13
  case hy14_13 => (intro w9 hSw; clear hSw; go_simp; try with_reducible rfl)
  try simp only [Act.put, List.setIfInBounds_toArray, List.set_cons_zero, List.set_cons_succ, List.getElem_toArray, List.getElem_cons_zero, List.getElem_cons_succ]
  refine wpAnyH_ready (rs := [15]) (tab_ready 32767 hT (by kernel_rfl) (by kernel_rfl) (by kernel_rfl)) (by simp) ?_
  refine AllReadyH.con1 (o := { dst := some 112, op := Go.Op.call { callee := Go.Callee.value (Go.Operand.func 12), args := #[Go.Operand.tmp 111], argTypes := #[30] }, type := 3, pos := "law.go:209", after := #[{ on := 14, ground := Go.Ground.data }, { on := 13, ground := Go.Ground.chain }, { on := 13, ground := Go.Ground.guard }], guard := some (13, true) }) (by kernel_rfl) (by kernel_rfl) (fun K hK => ?_) AllReadyH.nil
  go_simp
  with_reducible refine (wnum_any 2 _).mono ?_
  rintro e9 k3 ⟨rfl, hb⟩
  replace T2 := T2.on hb
  replace F8 := F8.on hb
  replace T8 := T8.on hb
  replace Fd9 := Fd9.on hb
  replace Fe9 := Fe9.on hb
  replace T9 := T9.on hb
  replace T10 := T10.on hb
  replace bz := bz.trans (hb.mono bz.size)
  clear hb
  clear hS; refine hK.out _ _ ⟨T2, T8, T9, T10⟩ (fun hS => ?_); clear hK K
  try simp only [Act.put, List.setIfInBounds_toArray, List.set_cons_zero, List.set_cons_succ, List.getElem_toArray, List.getElem_cons_zero, List.getElem_cons_succ]
  refine wpAnyH_take (i := 16) (oi := { dst := some 113, op := Go.Op.binOp Go.BinOp.eql 3 (Go.Operand.tmp 112) (Go.Operand.const (Go.Value.int Go.IntKind.i64 2)) 3, type := 4, pos := "law.go:209", after := #[{ on := 15, ground := Go.Ground.data }, { on := 13, ground := Go.Ground.guard }], guard := some (13, true) }) (v := ?v16_14) (by kernel_rfl) (tab_ns hT) (tab_free 65535 hT (by kernel_rfl) (by kernel_rfl)) (tab_rdy 65535 hT (by kernel_rfl) (by kernel_rfl) (by kernel_rfl)) (fun _ _ _ h => h) (Or.inl ⟨by kernel_rfl, ?hy16_14⟩) (by assumption) ?rest16_14
  case hy16_14 => (intro w9 hSw; clear hSw; go_simp; try with_reducible rfl)
  try simp only [Act.put, List.setIfInBounds_toArray, List.set_cons_zero, List.set_cons_succ, List.getElem_toArray, List.getElem_cons_zero, List.getElem_cons_succ]
  refine wpAnyH_take (i := 17) (oi := { dst := some 114, op := Go.Op.pick (Go.Operand.tmp 110) (Go.Operand.tmp 113) (Go.Operand.const (Go.Value.bool false)), type := 4, pos := "law.go:209", after := #[{ on := 13, ground := Go.Ground.data }, { on := 16, ground := Go.Ground.data }], guard := none }) (v := ?v17_15) (by kernel_rfl) (tab_ns hT) (tab_free 131071 hT (by kernel_rfl) (by kernel_rfl)) (tab_rdy 131071 hT (by kernel_rfl) (by kernel_rfl) (by kernel_rfl)) (fun _ _ _ h => h) (Or.inl ⟨by kernel_rfl, ?hy17_15⟩) (by assumption) ?rest17_15
  case hy17_15 => (intro w9 hSw; clear hSw; go_simp; try with_reducible rfl)
  try simp only [Act.put, List.setIfInBounds_toArray, List.set_cons_zero, List.set_cons_succ, List.getElem_toArray, List.getElem_cons_zero, List.getElem_cons_succ]
  refine wpAnyH_take (i := 18) (oi := { dst := some 115, op := Go.Op.move (Go.Operand.tmp 114), type := 4, pos := "law.go:209", after := #[{ on := 17, ground := Go.Ground.data }, { on := 15, ground := Go.Ground.chain }], guard := none }) (v := ?v18_16) (by kernel_rfl) (tab_ns hT) (tab_free 262143 hT (by kernel_rfl) (by kernel_rfl)) (tab_rdy 262143 hT (by kernel_rfl) (by kernel_rfl) (by kernel_rfl)) (fun _ _ _ h => h) (Or.inl ⟨by kernel_rfl, ?hy18_16⟩) (by assumption) ?rest18_16
  case hy18_16 => (intro w9 hSw; clear hSw; go_simp; try with_reducible rfl)
  try simp only [Act.put, List.setIfInBounds_toArray, List.set_cons_zero, List.set_cons_succ, List.getElem_toArray, List.getElem_cons_zero, List.getElem_cons_succ]
  refine wpAnyH_take (i := 19) (oi := { dst := some 116, op := Go.Op.move (Go.Operand.tmp 9), type := 30, pos := "law.go:209", after := #[{ on := 18, ground := Go.Ground.guard }], guard := some (18, true) }) (v := ?v19_17) (by kernel_rfl) (tab_ns hT) (tab_free 524287 hT (by kernel_rfl) (by kernel_rfl)) (tab_rdy 524287 hT (by kernel_rfl) (by kernel_rfl) (by kernel_rfl)) (fun _ _ _ h => h) (Or.inl ⟨by kernel_rfl, ?hy19_17⟩) (by assumption) ?rest19_17
  case hy19_17 => (intro w9 hSw; clear hSw; go_simp; try with_reducible rfl)
  try simp only [Act.put, List.setIfInBounds_toArray, List.set_cons_zero, List.set_cons_succ, List.getElem_toArray, List.getElem_cons_zero, List.getElem_cons_succ]
  refine wpAnyH_ready (rs := [20]) (tab_ready 1048575 hT (by kernel_rfl) (by kernel_rfl) (by kernel_rfl)) (by simp) ?_
  refine AllReadyH.con1 (o := { dst := some 117, op := Go.Op.call { callee := Go.Callee.value (Go.Operand.func 12), args := #[Go.Operand.tmp 116], argTypes := #[30] }, type := 3, pos := "law.go:209", after := #[{ on := 19, ground := Go.Ground.data }, { on := 18, ground := Go.Ground.chain }, { on := 18, ground := Go.Ground.guard }], guard := some (18, true) }) (by kernel_rfl) (by kernel_rfl) (fun K hK => ?_) AllReadyH.nil
  go_simp
  with_reducible refine (wnum_any 2 _).mono ?_
  rintro e9 k4 ⟨rfl, hb⟩
  replace T2 := T2.on hb
  replace F8 := F8.on hb
  replace T8 := T8.on hb
  replace Fd9 := Fd9.on hb
  replace Fe9 := Fe9.on hb
  replace T9 := T9.on hb
  replace T10 := T10.on hb
  replace bz := bz.trans (hb.mono bz.size)
  clear hb
  clear hS; refine hK.out _ _ ⟨T2, T8, T9, T10⟩ (fun hS => ?_); clear hK K
  try simp only [Act.put, List.setIfInBounds_toArray, List.set_cons_zero, List.set_cons_succ, List.getElem_toArray, List.getElem_cons_zero, List.getElem_cons_succ]
  refine wpAnyH_take (i := 21) (oi := { dst := some 118, op := Go.Op.binOp Go.BinOp.eql 3 (Go.Operand.tmp 117) (Go.Operand.const (Go.Value.int Go.IntKind.i64 2)) 3, type := 4, pos := "law.go:209", after := #[{ on := 20, ground := Go.Ground.data }, { on := 18, ground := Go.Ground.guard }], guard := some (18, true) }) (v := ?v21_18) (by kernel_rfl) (tab_ns hT) (tab_free 2097151 hT (by kernel_rfl) (by kernel_rfl)) (tab_rdy 2097151 hT (by kernel_rfl) (by kernel_rfl) (by kernel_rfl)) (fun _ _ _ h => h) (Or.inl ⟨by kernel_rfl, ?hy21_18⟩) (by assumption) ?rest21_18
  case hy21_18 => (intro w9 hSw; clear hSw; go_simp; try with_reducible rfl)
  try simp only [Act.put, List.setIfInBounds_toArray, List.set_cons_zero, List.set_cons_succ, List.getElem_toArray, List.getElem_cons_zero, List.getElem_cons_succ]
  refine wpAnyH_take (i := 22) (oi := { dst := some 119, op := Go.Op.pick (Go.Operand.tmp 115) (Go.Operand.tmp 118) (Go.Operand.const (Go.Value.bool false)), type := 4, pos := "law.go:209", after := #[{ on := 18, ground := Go.Ground.data }, { on := 21, ground := Go.Ground.data }], guard := none }) (v := ?v22_19) (by kernel_rfl) (tab_ns hT) (tab_free 4194303 hT (by kernel_rfl) (by kernel_rfl)) (tab_rdy 4194303 hT (by kernel_rfl) (by kernel_rfl) (by kernel_rfl)) (fun _ _ _ h => h) (Or.inl ⟨by kernel_rfl, ?hy22_19⟩) (by assumption) ?rest22_19
  case hy22_19 => (intro w9 hSw; clear hSw; go_simp; try with_reducible rfl)
  try simp only [Act.put, List.setIfInBounds_toArray, List.set_cons_zero, List.set_cons_succ, List.getElem_toArray, List.getElem_cons_zero, List.getElem_cons_succ]
  refine wpAnyH_take (i := 23) (oi := { dst := some 120, op := Go.Op.move (Go.Operand.tmp 119), type := 4, pos := "law.go:209", after := #[{ on := 22, ground := Go.Ground.data }, { on := 20, ground := Go.Ground.chain }], guard := none }) (v := ?v23_20) (by kernel_rfl) (tab_ns hT) (tab_free 8388607 hT (by kernel_rfl) (by kernel_rfl)) (tab_rdy 8388607 hT (by kernel_rfl) (by kernel_rfl) (by kernel_rfl)) (fun _ _ _ h => h) (Or.inl ⟨by kernel_rfl, ?hy23_20⟩) (by assumption) ?rest23_20
  case hy23_20 => (intro w9 hSw; clear hSw; go_simp; try with_reducible rfl)
  try simp only [Act.put, List.setIfInBounds_toArray, List.set_cons_zero, List.set_cons_succ, List.getElem_toArray, List.getElem_cons_zero, List.getElem_cons_succ]
  refine wpAnyH_take (i := 24) (oi := { dst := some 121, op := Go.Op.move (Go.Operand.tmp 11), type := 30, pos := "law.go:209", after := #[{ on := 23, ground := Go.Ground.guard }], guard := some (23, true) }) (v := ?v24_21) (by kernel_rfl) (tab_ns hT) (tab_free 16777215 hT (by kernel_rfl) (by kernel_rfl)) (tab_rdy 16777215 hT (by kernel_rfl) (by kernel_rfl) (by kernel_rfl)) (fun _ _ _ h => h) (Or.inl ⟨by kernel_rfl, ?hy24_21⟩) (by assumption) ?rest24_21
  case hy24_21 => (intro w9 hSw; clear hSw; go_simp; try with_reducible rfl)
  try simp only [Act.put, List.setIfInBounds_toArray, List.set_cons_zero, List.set_cons_succ, List.getElem_toArray, List.getElem_cons_zero, List.getElem_cons_succ]
  refine wpAnyH_ready (rs := [25]) (tab_ready 33554431 hT (by kernel_rfl) (by kernel_rfl) (by kernel_rfl)) (by simp) ?_
  refine AllReadyH.con1 (o := { dst := some 122, op := Go.Op.call { callee := Go.Callee.value (Go.Operand.func 12), args := #[Go.Operand.tmp 121], argTypes := #[30] }, type := 3, pos := "law.go:209", after := #[{ on := 24, ground := Go.Ground.data }, { on := 23, ground := Go.Ground.chain }, { on := 23, ground := Go.Ground.guard }], guard := some (23, true) }) (by kernel_rfl) (by kernel_rfl) (fun K hK => ?_) AllReadyH.nil
  go_simp
  with_reducible refine (wnum_any 2 _).mono ?_
  rintro e9 k5 ⟨rfl, hb⟩
  replace T2 := T2.on hb
  replace F8 := F8.on hb
  replace T8 := T8.on hb
  replace Fd9 := Fd9.on hb
  replace Fe9 := Fe9.on hb
  replace T9 := T9.on hb
  replace T10 := T10.on hb
  replace bz := bz.trans (hb.mono bz.size)
  clear hb
  clear hS; refine hK.out _ _ ⟨T2, T8, T9, T10⟩ (fun hS => ?_); clear hK K
  try simp only [Act.put, List.setIfInBounds_toArray, List.set_cons_zero, List.set_cons_succ, List.getElem_toArray, List.getElem_cons_zero, List.getElem_cons_succ]
  refine wpAnyH_take (i := 26) (oi := { dst := some 123, op := Go.Op.binOp Go.BinOp.eql 3 (Go.Operand.tmp 122) (Go.Operand.const (Go.Value.int Go.IntKind.i64 2)) 3, type := 4, pos := "law.go:209", after := #[{ on := 25, ground := Go.Ground.data }, { on := 23, ground := Go.Ground.guard }], guard := some (23, true) }) (v := ?v26_22) (by kernel_rfl) (tab_ns hT) (tab_free 67108863 hT (by kernel_rfl) (by kernel_rfl)) (tab_rdy 67108863 hT (by kernel_rfl) (by kernel_rfl) (by kernel_rfl)) (fun _ _ _ h => h) (Or.inl ⟨by kernel_rfl, ?hy26_22⟩) (by assumption) ?rest26_22
  case hy26_22 => (intro w9 hSw; clear hSw; go_simp; try with_reducible rfl)
  try simp only [Act.put, List.setIfInBounds_toArray, List.set_cons_zero, List.set_cons_succ, List.getElem_toArray, List.getElem_cons_zero, List.getElem_cons_succ]
  refine wpAnyH_take (i := 27) (oi := { dst := some 124, op := Go.Op.pick (Go.Operand.tmp 120) (Go.Operand.tmp 123) (Go.Operand.const (Go.Value.bool false)), type := 4, pos := "law.go:209", after := #[{ on := 23, ground := Go.Ground.data }, { on := 26, ground := Go.Ground.data }], guard := none }) (v := ?v27_23) (by kernel_rfl) (tab_ns hT) (tab_free 134217727 hT (by kernel_rfl) (by kernel_rfl)) (tab_rdy 134217727 hT (by kernel_rfl) (by kernel_rfl) (by kernel_rfl)) (fun _ _ _ h => h) (Or.inl ⟨by kernel_rfl, ?hy27_23⟩) (by assumption) ?rest27_23
  case hy27_23 => (intro w9 hSw; clear hSw; go_simp; try with_reducible rfl)
  try simp only [Act.put, List.setIfInBounds_toArray, List.set_cons_zero, List.set_cons_succ, List.getElem_toArray, List.getElem_cons_zero, List.getElem_cons_succ]
  refine wpAnyH_take (i := 28) (oi := { dst := some 125, op := Go.Op.move (Go.Operand.tmp 124), type := 4, pos := "law.go:209", after := #[{ on := 27, ground := Go.Ground.data }, { on := 25, ground := Go.Ground.chain }], guard := none }) (v := ?v28_24) (by kernel_rfl) (tab_ns hT) (tab_free 268435455 hT (by kernel_rfl) (by kernel_rfl)) (tab_rdy 268435455 hT (by kernel_rfl) (by kernel_rfl) (by kernel_rfl)) (fun _ _ _ h => h) (Or.inl ⟨by kernel_rfl, ?hy28_24⟩) (by assumption) ?rest28_24
  case hy28_24 => (intro w9 hSw; clear hSw; go_simp; try with_reducible rfl)
  try simp only [Act.put, List.setIfInBounds_toArray, List.set_cons_zero, List.set_cons_succ, List.getElem_toArray, List.getElem_cons_zero, List.getElem_cons_succ]
  refine wpAnyH_take (i := 29) (oi := { dst := some 126, op := Go.Op.move (Go.Operand.tmp 13), type := 30, pos := "law.go:209", after := #[{ on := 28, ground := Go.Ground.guard }], guard := some (28, true) }) (v := ?v29_25) (by kernel_rfl) (tab_ns hT) (tab_free 536870911 hT (by kernel_rfl) (by kernel_rfl)) (tab_rdy 536870911 hT (by kernel_rfl) (by kernel_rfl) (by kernel_rfl)) (fun _ _ _ h => h) (Or.inl ⟨by kernel_rfl, ?hy29_25⟩) (by assumption) ?rest29_25
  case hy29_25 => (intro w9 hSw; clear hSw; go_simp; try with_reducible rfl)
  try simp only [Act.put, List.setIfInBounds_toArray, List.set_cons_zero, List.set_cons_succ, List.getElem_toArray, List.getElem_cons_zero, List.getElem_cons_succ]
  refine wpAnyH_ready (rs := [30]) (tab_ready 1073741823 hT (by kernel_rfl) (by kernel_rfl) (by kernel_rfl)) (by simp) ?_
  refine AllReadyH.con1 (o := { dst := some 127, op := Go.Op.call { callee := Go.Callee.value (Go.Operand.func 12), args := #[Go.Operand.tmp 126], argTypes := #[30] }, type := 3, pos := "law.go:209", after := #[{ on := 29, ground := Go.Ground.data }, { on := 28, ground := Go.Ground.chain }, { on := 28, ground := Go.Ground.guard }], guard := some (28, true) }) (by kernel_rfl) (by kernel_rfl) (fun K hK => ?_) AllReadyH.nil
  go_simp
  with_reducible refine (wnum_any 2 _).mono ?_
  rintro e9 k6 ⟨rfl, hb⟩
  replace T2 := T2.on hb
  replace F8 := F8.on hb
  replace T8 := T8.on hb
  replace Fd9 := Fd9.on hb
  replace Fe9 := Fe9.on hb
  replace T9 := T9.on hb
  replace T10 := T10.on hb
  replace bz := bz.trans (hb.mono bz.size)
  clear hb
  clear hS; refine hK.out _ _ ⟨T2, T8, T9, T10⟩ (fun hS => ?_); clear hK K
  try simp only [Act.put, List.setIfInBounds_toArray, List.set_cons_zero, List.set_cons_succ, List.getElem_toArray, List.getElem_cons_zero, List.getElem_cons_succ]
  refine wpAnyH_take (i := 31) (oi := { dst := some 128, op := Go.Op.binOp Go.BinOp.eql 3 (Go.Operand.tmp 127) (Go.Operand.const (Go.Value.int Go.IntKind.i64 2)) 3, type := 4, pos := "law.go:209", after := #[{ on := 30, ground := Go.Ground.data }, { on := 28, ground := Go.Ground.guard }], guard := some (28, true) }) (v := ?v31_26) (by kernel_rfl) (tab_ns hT) (tab_free 2147483647 hT (by kernel_rfl) (by kernel_rfl)) (tab_rdy 2147483647 hT (by kernel_rfl) (by kernel_rfl) (by kernel_rfl)) (fun _ _ _ h => h) (Or.inl ⟨by kernel_rfl, ?hy31_26⟩) (by assumption) ?rest31_26
  case hy31_26 => (intro w9 hSw; clear hSw; go_simp; try with_reducible rfl)
  try simp only [Act.put, List.setIfInBounds_toArray, List.set_cons_zero, List.set_cons_succ, List.getElem_toArray, List.getElem_cons_zero, List.getElem_cons_succ]
  refine wpAnyH_take (i := 32) (oi := { dst := some 129, op := Go.Op.pick (Go.Operand.tmp 125) (Go.Operand.tmp 128) (Go.Operand.const (Go.Value.bool false)), type := 4, pos := "law.go:209", after := #[{ on := 28, ground := Go.Ground.data }, { on := 31, ground := Go.Ground.data }], guard := none }) (v := ?v32_27) (by kernel_rfl) (tab_ns hT) (tab_free 4294967295 hT (by kernel_rfl) (by kernel_rfl)) (tab_rdy 4294967295 hT (by kernel_rfl) (by kernel_rfl) (by kernel_rfl)) (fun _ _ _ h => h) (Or.inl ⟨by kernel_rfl, ?hy32_27⟩) (by assumption) ?rest32_27
  case hy32_27 => (intro w9 hSw; clear hSw; go_simp; try with_reducible rfl)
  try simp only [Act.put, List.setIfInBounds_toArray, List.set_cons_zero, List.set_cons_succ, List.getElem_toArray, List.getElem_cons_zero, List.getElem_cons_succ]
  refine wpAnyH_take (i := 33) (oi := { dst := some 130, op := Go.Op.move (Go.Operand.tmp 129), type := 4, pos := "law.go:209", after := #[{ on := 32, ground := Go.Ground.data }, { on := 30, ground := Go.Ground.chain }], guard := none }) (v := ?v33_28) (by kernel_rfl) (tab_ns hT) (tab_free 8589934591 hT (by kernel_rfl) (by kernel_rfl)) (tab_rdy 8589934591 hT (by kernel_rfl) (by kernel_rfl) (by kernel_rfl)) (fun _ _ _ h => h) (Or.inl ⟨by kernel_rfl, ?hy33_28⟩) (by assumption) ?rest33_28
  case hy33_28 => (intro w9 hSw; clear hSw; go_simp; try with_reducible rfl)
  try simp only [Act.put, List.setIfInBounds_toArray, List.set_cons_zero, List.set_cons_succ, List.getElem_toArray, List.getElem_cons_zero, List.getElem_cons_succ]
  refine wpAnyH_take (i := 34) (oi := { dst := some 131, op := Go.Op.load 24 (Go.Operand.tmp 14), type := 24, pos := "law.go:209", after := #[{ on := 33, ground := Go.Ground.guard }], guard := some (33, true) }) (v := ?v34_29) (by kernel_rfl) (tab_ns hT) (tab_free 17179869183 hT (by kernel_rfl) (by kernel_rfl)) (tab_rdy 17179869183 hT (by kernel_rfl) (by kernel_rfl) (by kernel_rfl)) (fun _ _ _ h => h) (Or.inl ⟨by kernel_rfl, ?hy34_29⟩) (by assumption) ?rest34_29
  case hy34_29 => (intro w9 hSw; obtain ⟨ma1, ma2, ma3, ma4⟩ := hSw; obtain ⟨y0, y1, y2, _, _, _⟩ := Mbx.cells ma1; obtain ⟨z0, z1, z2, _, _, _⟩ := Mbx.cells ma2; obtain ⟨p0, p1, _, _⟩ := Tbx.cells ma3; obtain ⟨p2, p3, _, _⟩ := Tbx.cells ma4; go_simp; try with_reducible rfl)
  try simp only [Act.put, List.setIfInBounds_toArray, List.set_cons_zero, List.set_cons_succ, List.getElem_toArray, List.getElem_cons_zero, List.getElem_cons_succ]
  refine wpAnyH_ready (rs := [35]) (tab_ready 34359738367 hT (by kernel_rfl) (by kernel_rfl) (by kernel_rfl)) (by simp) ?_
  refine AllReadyH.con1 (o := { dst := some 132, op := Go.Op.buildSlice 22 4 #[(0, Go.Operand.const (Go.Value.float Go.FloatKind.f64 4607182418800017408)), (1, Go.Operand.const (Go.Value.float Go.FloatKind.f64 0)), (2, Go.Operand.const (Go.Value.float Go.FloatKind.f64 0)), (3, Go.Operand.const (Go.Value.float Go.FloatKind.f64 4607182418800017408))], type := 22, pos := "law.go:209", after := #[{ on := 33, ground := Go.Ground.guard }], guard := some (33, true) }) (by kernel_rfl) (by kernel_rfl) (fun K hK => ?_) AllReadyH.nil
  go_simp
  have hbA := (Below.refl _ k6).alloc (Nat.le_refl _) (.cells #[.float .f64 4607182418800017408, .float .f64 0, .float .f64 0, .float .f64 4607182418800017408] 49)
  replace T2 := T2.on hbA
  replace F8 := F8.on hbA
  replace T8 := T8.on hbA
  replace Fd9 := Fd9.on hbA
  replace Fe9 := Fe9.on hbA
  replace T9 := T9.on hbA
  replace T10 := T10.on hbA
  clear hbA
  replace bz := bz.alloc bz.size (.cells #[.float .f64 4607182418800017408, .float .f64 0, .float .f64 0, .float .f64 4607182418800017408] 49)
  have FM : FL (k6.alloc (.cells #[.float .f64 4607182418800017408, .float .f64 0, .float .f64 0, .float .f64 4607182418800017408] 49)) (some ⟨k6.heap.size, 0, none⟩) 4 4 [4607182418800017408, 0, 0, 4607182418800017408] := by have h9 := fl_built (W := k6) (l := [4607182418800017408, 0, 0, 4607182418800017408]) (by intro x hx; simp at hx; omega) (by simp); exact h9
  obtain ⟨aFM, eaFM⟩ : ∃ x, k6.heap.size = x := ⟨_, rfl⟩
  rw [eaFM] at FM
  try simp only [eaFM] at ⊢
  clear eaFM
  generalize (k6.alloc (.cells #[.float .f64 4607182418800017408, .float .f64 0, .float .f64 0, .float .f64 4607182418800017408] 49)) = q7 at T2 F8 T8 Fd9 Fe9 T9 T10 FM bz ⊢
  clear hS; refine hK.out _ _ ⟨T2, T8, T9, T10⟩ (fun hS => ?_); clear hK K
  try simp only [Act.put, List.setIfInBounds_toArray, List.set_cons_zero, List.set_cons_succ, List.getElem_toArray, List.getElem_cons_zero, List.getElem_cons_succ]
  refine wpAnyH_ready (rs := [36]) (tab_ready 68719476735 hT (by kernel_rfl) (by kernel_rfl) (by kernel_rfl)) (by simp) ?_
  refine AllReadyH.con1 (o := { dst := some 133, op := Go.Op.call { callee := Go.Callee.value (Go.Operand.func 24), args := #[Go.Operand.const (Go.Value.int Go.IntKind.i64 2), Go.Operand.const (Go.Value.int Go.IntKind.i64 2), Go.Operand.tmp 132], argTypes := #[3, 3, 22] }, type := 24, pos := "law.go:209", after := #[{ on := 35, ground := Go.Ground.data }, { on := 33, ground := Go.Ground.chain }, { on := 33, ground := Go.Ground.guard }], guard := some (33, true) }) (by kernel_rfl) (by kernel_rfl) (fun K hK => ?_) AllReadyH.nil
  go_simp
  with_reducible refine (wmat_any 2 2 _).mono ?_
  rintro e9 k8 ⟨rfl, hb⟩
  replace T2 := T2.on hb
  replace F8 := F8.on hb
  replace T8 := T8.on hb
  replace Fd9 := Fd9.on hb
  replace Fe9 := Fe9.on hb
  replace T9 := T9.on hb
  replace T10 := T10.on hb
  replace FM := FM.on hb
  replace bz := bz.trans (hb.mono bz.size)
  clear hb
  clear hS; refine hK.out _ _ ⟨T2, T8, T9, T10⟩ (fun hS => ?_); clear hK K
  try simp only [Act.put, List.setIfInBounds_toArray, List.set_cons_zero, List.set_cons_succ, List.getElem_toArray, List.getElem_cons_zero, List.getElem_cons_succ]
  refine wpAnyH_ready (rs := [37]) (tab_ready 137438953471 hT (by kernel_rfl) (by kernel_rfl) (by kernel_rfl)) (by simp) ?_
  refine AllReadyH.con1 (o := { dst := some 134, op := Go.Op.call { callee := Go.Callee.value (Go.Operand.func 19), args := #[Go.Operand.tmp 131, Go.Operand.tmp 133], argTypes := #[24, 24] }, type := 4, pos := "law.go:209", after := #[{ on := 34, ground := Go.Ground.data }, { on := 36, ground := Go.Ground.data }, { on := 36, ground := Go.Ground.chain }, { on := 33, ground := Go.Ground.guard }], guard := some (33, true) }) (by kernel_rfl) (by kernel_rfl) (fun K hK => ?_) AllReadyH.nil
  go_simp
  have pi := wis_any 2 2 2 2 F8 FM
  rw [HSM.out] at pi
  with_reducible refine (pi).mono ?_
  rintro e9 k9 ⟨rfl, hb⟩
  replace T2 := T2.on hb
  replace F8 := F8.on hb
  replace T8 := T8.on hb
  replace Fd9 := Fd9.on hb
  replace Fe9 := Fe9.on hb
  replace T9 := T9.on hb
  replace T10 := T10.on hb
  replace FM := FM.on hb
  replace bz := bz.trans (hb.mono bz.size)
  clear hb
  clear pi FM F8
  clear hS; refine hK.out _ _ ⟨T2, T8, T9, T10⟩ (fun hS => ?_); clear hK K
  try simp only [Act.put, List.setIfInBounds_toArray, List.set_cons_zero, List.set_cons_succ, List.getElem_toArray, List.getElem_cons_zero, List.getElem_cons_succ]
  refine wpAnyH_take (i := 38) (oi := { dst := some 135, op := Go.Op.pick (Go.Operand.tmp 130) (Go.Operand.tmp 134) (Go.Operand.const (Go.Value.bool false)), type := 4, pos := "law.go:209", after := #[{ on := 33, ground := Go.Ground.data }, { on := 37, ground := Go.Ground.data }], guard := none }) (v := ?v38_30) (by kernel_rfl) (tab_ns hT) (tab_free 274877906943 hT (by kernel_rfl) (by kernel_rfl)) (tab_rdy 274877906943 hT (by kernel_rfl) (by kernel_rfl) (by kernel_rfl)) (fun _ _ _ h => h) (Or.inl ⟨by kernel_rfl, ?hy38_30⟩) (by assumption) ?rest38_30
  case hy38_30 => (intro w9 hSw; clear hSw; go_simp; try with_reducible rfl)
  try simp only [Act.put, List.setIfInBounds_toArray, List.set_cons_zero, List.set_cons_succ, List.getElem_toArray, List.getElem_cons_zero, List.getElem_cons_succ]
  refine wpAnyH_take (i := 39) (oi := { dst := some 136, op := Go.Op.move (Go.Operand.tmp 135), type := 4, pos := "law.go:209", after := #[{ on := 38, ground := Go.Ground.data }, { on := 37, ground := Go.Ground.chain }], guard := none }) (v := ?v39_31) (by kernel_rfl) (tab_ns hT) (tab_free 549755813887 hT (by kernel_rfl) (by kernel_rfl)) (tab_rdy 549755813887 hT (by kernel_rfl) (by kernel_rfl) (by kernel_rfl)) (fun _ _ _ h => h) (Or.inl ⟨by kernel_rfl, ?hy39_31⟩) (by assumption) ?rest39_31
  case hy39_31 => (intro w9 hSw; clear hSw; go_simp; try with_reducible rfl)
  try simp only [Act.put, List.setIfInBounds_toArray, List.set_cons_zero, List.set_cons_succ, List.getElem_toArray, List.getElem_cons_zero, List.getElem_cons_succ]
  refine wpAnyH_take (i := 40) (oi := { dst := some 137, op := Go.Op.move (Go.Operand.tmp 15), type := 30, pos := "law.go:209", after := #[{ on := 39, ground := Go.Ground.guard }], guard := some (39, true) }) (v := ?v40_32) (by kernel_rfl) (tab_ns hT) (tab_free 1099511627775 hT (by kernel_rfl) (by kernel_rfl)) (tab_rdy 1099511627775 hT (by kernel_rfl) (by kernel_rfl) (by kernel_rfl)) (fun _ _ _ h => h) (Or.inl ⟨by kernel_rfl, ?hy40_32⟩) (by assumption) ?rest40_32
  case hy40_32 => (intro w9 hSw; clear hSw; go_simp; try with_reducible rfl)
  try simp only [Act.put, List.setIfInBounds_toArray, List.set_cons_zero, List.set_cons_succ, List.getElem_toArray, List.getElem_cons_zero, List.getElem_cons_succ]
  refine wpAnyH_take (i := 42) (oi := { dst := some 139, op := Go.Op.move (Go.Operand.tmp 19), type := 30, pos := "law.go:209", after := #[{ on := 39, ground := Go.Ground.guard }], guard := some (39, true) }) (v := ?v42_33) (by kernel_rfl) (tab_ns hT) (tab_free 2199023255551 hT (by kernel_rfl) (by kernel_rfl)) (tab_rdy 2199023255551 hT (by kernel_rfl) (by kernel_rfl) (by kernel_rfl)) (fun _ _ _ h => h) (Or.inl ⟨by kernel_rfl, ?hy42_33⟩) (by assumption) ?rest42_33
  case hy42_33 => (intro w9 hSw; clear hSw; go_simp; try with_reducible rfl)
  try simp only [Act.put, List.setIfInBounds_toArray, List.set_cons_zero, List.set_cons_succ, List.getElem_toArray, List.getElem_cons_zero, List.getElem_cons_succ]
  refine wpAnyH_take (i := 45) (oi := { dst := some 142, op := Go.Op.move (Go.Operand.tmp 23), type := 30, pos := "law.go:209", after := #[{ on := 39, ground := Go.Ground.guard }], guard := some (39, true) }) (v := ?v45_34) (by kernel_rfl) (tab_ns hT) (tab_free 6597069766655 hT (by kernel_rfl) (by kernel_rfl)) (tab_rdy 6597069766655 hT (by kernel_rfl) (by kernel_rfl) (by kernel_rfl)) (fun _ _ _ h => h) (Or.inl ⟨by kernel_rfl, ?hy45_34⟩) (by assumption) ?rest45_34
  case hy45_34 => (intro w9 hSw; clear hSw; go_simp; try with_reducible rfl)
  try simp only [Act.put, List.setIfInBounds_toArray, List.set_cons_zero, List.set_cons_succ, List.getElem_toArray, List.getElem_cons_zero, List.getElem_cons_succ]
  refine wpAnyH_ready (rs := [41]) (tab_ready 41781441855487 hT (by kernel_rfl) (by kernel_rfl) (by kernel_rfl)) (by simp) ?_
  refine AllReadyH.con1 (o := { dst := some 138, op := Go.Op.call { callee := Go.Callee.value (Go.Operand.func 12), args := #[Go.Operand.tmp 137], argTypes := #[30] }, type := 3, pos := "law.go:209", after := #[{ on := 40, ground := Go.Ground.data }, { on := 39, ground := Go.Ground.chain }, { on := 39, ground := Go.Ground.guard }], guard := some (39, true) }) (by kernel_rfl) (by kernel_rfl) (fun K hK => ?_) AllReadyH.nil
  go_simp
  with_reducible refine (wnum_any 0 _).mono ?_
  rintro e9 k10 ⟨rfl, hb⟩
  replace T2 := T2.on hb
  replace T8 := T8.on hb
  replace Fd9 := Fd9.on hb
  replace Fe9 := Fe9.on hb
  replace T9 := T9.on hb
  replace T10 := T10.on hb
  replace bz := bz.trans (hb.mono bz.size)
  clear hb
  clear hS; refine hK.out _ _ ⟨T2, T8, T9, T10⟩ (fun hS => ?_); clear hK K
  try simp only [Act.put, List.setIfInBounds_toArray, List.set_cons_zero, List.set_cons_succ, List.getElem_toArray, List.getElem_cons_zero, List.getElem_cons_succ]
  refine wpAnyH_ready (rs := [43]) (tab_ready 43980465111039 hT (by kernel_rfl) (by kernel_rfl) (by kernel_rfl)) (by simp) ?_
  refine AllReadyH.con1 (o := { dst := some 140, op := Go.Op.call { callee := Go.Callee.value (Go.Operand.func 12), args := #[Go.Operand.tmp 139], argTypes := #[30] }, type := 3, pos := "law.go:209", after := #[{ on := 42, ground := Go.Ground.data }, { on := 41, ground := Go.Ground.chain }, { on := 39, ground := Go.Ground.guard }], guard := some (39, true) }) (by kernel_rfl) (by kernel_rfl) (fun K hK => ?_) AllReadyH.nil
  go_simp
  with_reducible refine (wnum_any 0 _).mono ?_
  rintro e9 k11 ⟨rfl, hb⟩
  replace T2 := T2.on hb
  replace T8 := T8.on hb
  replace Fd9 := Fd9.on hb
  replace Fe9 := Fe9.on hb
  replace T9 := T9.on hb
  replace T10 := T10.on hb
  replace bz := bz.trans (hb.mono bz.size)
  clear hb
  clear hS; refine hK.out _ _ ⟨T2, T8, T9, T10⟩ (fun hS => ?_); clear hK K
  try simp only [Act.put, List.setIfInBounds_toArray, List.set_cons_zero, List.set_cons_succ, List.getElem_toArray, List.getElem_cons_zero, List.getElem_cons_succ]
  refine wpAnyH_take (i := 44) (oi := { dst := some 141, op := Go.Op.binOp Go.BinOp.add 3 (Go.Operand.tmp 138) (Go.Operand.tmp 140) 3, type := 3, pos := "law.go:209", after := #[{ on := 41, ground := Go.Ground.data }, { on := 43, ground := Go.Ground.data }, { on := 39, ground := Go.Ground.guard }], guard := some (39, true) }) (v := ?v44_35) (by kernel_rfl) (tab_ns hT) (tab_free 52776558133247 hT (by kernel_rfl) (by kernel_rfl)) (tab_rdy 52776558133247 hT (by kernel_rfl) (by kernel_rfl) (by kernel_rfl)) (fun _ _ _ h => h) (Or.inl ⟨by kernel_rfl, ?hy44_35⟩) (by assumption) ?rest44_35
  case hy44_35 => (intro w9 hSw; clear hSw; go_simp; try with_reducible rfl)
  try simp only [Act.put, List.setIfInBounds_toArray, List.set_cons_zero, List.set_cons_succ, List.getElem_toArray, List.getElem_cons_zero, List.getElem_cons_succ]
  refine wpAnyH_ready (rs := [46]) (tab_ready 70368744177663 hT (by kernel_rfl) (by kernel_rfl) (by kernel_rfl)) (by simp) ?_
  refine AllReadyH.con1 (o := { dst := some 143, op := Go.Op.call { callee := Go.Callee.value (Go.Operand.func 12), args := #[Go.Operand.tmp 142], argTypes := #[30] }, type := 3, pos := "law.go:209", after := #[{ on := 45, ground := Go.Ground.data }, { on := 43, ground := Go.Ground.chain }, { on := 39, ground := Go.Ground.guard }], guard := some (39, true) }) (by kernel_rfl) (by kernel_rfl) (fun K hK => ?_) AllReadyH.nil
  go_simp
  with_reducible refine (wnum_any 0 _).mono ?_
  rintro e9 k12 ⟨rfl, hb⟩
  replace T2 := T2.on hb
  replace T8 := T8.on hb
  replace Fd9 := Fd9.on hb
  replace Fe9 := Fe9.on hb
  replace T9 := T9.on hb
  replace T10 := T10.on hb
  replace bz := bz.trans (hb.mono bz.size)
  clear hb
  clear hS; refine hK.out _ _ ⟨T2, T8, T9, T10⟩ (fun hS => ?_); clear hK K
  try simp only [Act.put, List.setIfInBounds_toArray, List.set_cons_zero, List.set_cons_succ, List.getElem_toArray, List.getElem_cons_zero, List.getElem_cons_succ]
  refine wpAnyH_take (i := 47) (oi := { dst := some 144, op := Go.Op.binOp Go.BinOp.add 3 (Go.Operand.tmp 141) (Go.Operand.tmp 143) 3, type := 3, pos := "law.go:209", after := #[{ on := 44, ground := Go.Ground.data }, { on := 46, ground := Go.Ground.data }, { on := 39, ground := Go.Ground.guard }], guard := some (39, true) }) (v := ?v47_36) (by kernel_rfl) (tab_ns hT) (tab_free 140737488355327 hT (by kernel_rfl) (by kernel_rfl)) (tab_rdy 140737488355327 hT (by kernel_rfl) (by kernel_rfl) (by kernel_rfl)) (fun _ _ _ h => h) (Or.inl ⟨by kernel_rfl, ?hy47_36⟩) (by assumption) ?rest47_36
  case hy47_36 => (intro w9 hSw; clear hSw; go_simp; try with_reducible rfl)
  try simp only [Act.put, List.setIfInBounds_toArray, List.set_cons_zero, List.set_cons_succ, List.getElem_toArray, List.getElem_cons_zero, List.getElem_cons_succ]
  refine wpAnyH_take (i := 48) (oi := { dst := some 145, op := Go.Op.binOp Go.BinOp.eql 3 (Go.Operand.tmp 144) (Go.Operand.const (Go.Value.int Go.IntKind.i64 0)) 3, type := 4, pos := "law.go:209", after := #[{ on := 47, ground := Go.Ground.data }, { on := 39, ground := Go.Ground.guard }], guard := some (39, true) }) (v := ?v48_37) (by kernel_rfl) (tab_ns hT) (tab_free 281474976710655 hT (by kernel_rfl) (by kernel_rfl)) (tab_rdy 281474976710655 hT (by kernel_rfl) (by kernel_rfl) (by kernel_rfl)) (fun _ _ _ h => h) (Or.inl ⟨by kernel_rfl, ?hy48_37⟩) (by assumption) ?rest48_37
  case hy48_37 => (intro w9 hSw; clear hSw; go_simp; try with_reducible rfl)
  try simp only [Act.put, List.setIfInBounds_toArray, List.set_cons_zero, List.set_cons_succ, List.getElem_toArray, List.getElem_cons_zero, List.getElem_cons_succ]
  refine wpAnyH_take (i := 49) (oi := { dst := some 146, op := Go.Op.pick (Go.Operand.tmp 136) (Go.Operand.tmp 145) (Go.Operand.const (Go.Value.bool false)), type := 4, pos := "law.go:209", after := #[{ on := 39, ground := Go.Ground.data }, { on := 48, ground := Go.Ground.data }], guard := none }) (v := ?v49_38) (by kernel_rfl) (tab_ns hT) (tab_free 562949953421311 hT (by kernel_rfl) (by kernel_rfl)) (tab_rdy 562949953421311 hT (by kernel_rfl) (by kernel_rfl) (by kernel_rfl)) (fun _ _ _ h => h) (Or.inl ⟨by kernel_rfl, ?hy49_38⟩) (by assumption) ?rest49_38
  case hy49_38 => (intro w9 hSw; clear hSw; go_simp; try with_reducible rfl)
  try simp only [Act.put, List.setIfInBounds_toArray, List.set_cons_zero, List.set_cons_succ, List.getElem_toArray, List.getElem_cons_zero, List.getElem_cons_succ]
  refine wpAnyH_take (i := 50) (oi := { dst := some 147, op := Go.Op.move (Go.Operand.tmp 146), type := 4, pos := "law.go:209", after := #[{ on := 49, ground := Go.Ground.data }, { on := 46, ground := Go.Ground.chain }], guard := none }) (v := ?v50_39) (by kernel_rfl) (tab_ns hT) (tab_free 1125899906842623 hT (by kernel_rfl) (by kernel_rfl)) (tab_rdy 1125899906842623 hT (by kernel_rfl) (by kernel_rfl) (by kernel_rfl)) (fun _ _ _ h => h) (Or.inl ⟨by kernel_rfl, ?hy50_39⟩) (by assumption) ?rest50_39
  case hy50_39 => (intro w9 hSw; clear hSw; go_simp; try with_reducible rfl)
  try simp only [Act.put, List.setIfInBounds_toArray, List.set_cons_zero, List.set_cons_succ, List.getElem_toArray, List.getElem_cons_zero, List.getElem_cons_succ]
  refine wpAnyH_take (i := 51) (oi := { dst := some 148, op := Go.Op.load 28 (Go.Operand.tmp 16), type := 28, pos := "law.go:209", after := #[{ on := 50, ground := Go.Ground.guard }], guard := some (50, true) }) (v := ?v51_40) (by kernel_rfl) (tab_ns hT) (tab_free 2251799813685247 hT (by kernel_rfl) (by kernel_rfl)) (tab_rdy 2251799813685247 hT (by kernel_rfl) (by kernel_rfl) (by kernel_rfl)) (fun _ _ _ h => h) (Or.inl ⟨by kernel_rfl, ?hy51_40⟩) (by assumption) ?rest51_40
  case hy51_40 => (intro w9 hSw; obtain ⟨ma1, ma2, ma3, ma4⟩ := hSw; obtain ⟨y0, y1, y2, _, _, _⟩ := Mbx.cells ma1; obtain ⟨z0, z1, z2, _, _, _⟩ := Mbx.cells ma2; obtain ⟨p0, p1, _, _⟩ := Tbx.cells ma3; obtain ⟨p2, p3, _, _⟩ := Tbx.cells ma4; go_simp; try with_reducible rfl)
  try simp only [Act.put, List.setIfInBounds_toArray, List.set_cons_zero, List.set_cons_succ, List.getElem_toArray, List.getElem_cons_zero, List.getElem_cons_succ]
  refine wpAnyH_ready (rs := [52, 53]) (tab_ready 4503599627370495 hT (by kernel_rfl) (by kernel_rfl) (by kernel_rfl)) (by simp) ?_
  refine (AllReadyH.con1 (o := { dst := some 149, op := Go.Op.buildSlice 22 2 #[(0, Go.Operand.const (Go.Value.float Go.FloatKind.f64 0)), (1, Go.Operand.const (Go.Value.float Go.FloatKind.f64 0))], type := 22, pos := "law.go:209", after := #[{ on := 50, ground := Go.Ground.guard }], guard := some (50, true) }) (by kernel_rfl) (by kernel_rfl) (fun K hK => ?_) (AllReadyH.con1 (o := { dst := some 150, op := Go.Op.buildSlice 22 1 #[(0, Go.Operand.const (Go.Value.float Go.FloatKind.f64 0))], type := 22, pos := "law.go:209", after := #[{ on := 50, ground := Go.Ground.guard }], guard := some (50, true) }) (by kernel_rfl) (by kernel_rfl) (fun K hK => ?_) AllReadyH.nil))
  · go_simp
    have hbA := (Below.refl _ k12).alloc (Nat.le_refl _) (.cells #[.float .f64 0, .float .f64 0] 49)
    replace T2 := T2.on hbA
    replace T8 := T8.on hbA
    replace Fd9 := Fd9.on hbA
    replace Fe9 := Fe9.on hbA
    replace T9 := T9.on hbA
    replace T10 := T10.on hbA
    clear hbA
    replace bz := bz.alloc bz.size (.cells #[.float .f64 0, .float .f64 0] 49)
    have FD : FL (k12.alloc (.cells #[.float .f64 0, .float .f64 0] 49)) (some ⟨k12.heap.size, 0, none⟩) 2 2 [0, 0] := by have h9 := fl_built (W := k12) (l := [0, 0]) (by intro x hx; simp at hx; omega) (by simp); exact h9
    obtain ⟨aFD, eaFD⟩ : ∃ x, k12.heap.size = x := ⟨_, rfl⟩
    rw [eaFD] at FD
    try simp only [eaFD] at ⊢
    clear eaFD
    generalize (k12.alloc (.cells #[.float .f64 0, .float .f64 0] 49)) = q13 at T2 T8 Fd9 Fe9 T9 T10 FD bz ⊢
    clear hS; refine hK.out _ _ ⟨T2, T8, T9, T10⟩ (fun hS => ?_); clear hK K
    try simp only [Act.put, List.setIfInBounds_toArray, List.set_cons_zero, List.set_cons_succ, List.getElem_toArray, List.getElem_cons_zero, List.getElem_cons_succ]
    refine wpAnyH_ready (rs := [53]) (tab_ready 9007199254740991 hT (by kernel_rfl) (by kernel_rfl) (by kernel_rfl)) (by simp) ?_
    refine AllReadyH.con1 (o := { dst := some 150, op := Go.Op.buildSlice 22 1 #[(0, Go.Operand.const (Go.Value.float Go.FloatKind.f64 0))], type := 22, pos := "law.go:209", after := #[{ on := 50, ground := Go.Ground.guard }], guard := some (50, true) }) (by kernel_rfl) (by kernel_rfl) (fun K hK => ?_) AllReadyH.nil
    go_simp
    have hbA := (Below.refl _ q13).alloc (Nat.le_refl _) (.cells #[.float .f64 0] 49)
    replace T2 := T2.on hbA
    replace T8 := T8.on hbA
    replace Fd9 := Fd9.on hbA
    replace Fe9 := Fe9.on hbA
    replace T9 := T9.on hbA
    replace T10 := T10.on hbA
    replace FD := FD.on hbA
    clear hbA
    replace bz := bz.alloc bz.size (.cells #[.float .f64 0] 49)
    have FE : FL (q13.alloc (.cells #[.float .f64 0] 49)) (some ⟨q13.heap.size, 0, none⟩) 1 1 [0] := by have h9 := fl_built (W := q13) (l := [0]) (by intro x hx; simp at hx; omega) (by simp); exact h9
    obtain ⟨aFE, eaFE⟩ : ∃ x, q13.heap.size = x := ⟨_, rfl⟩
    rw [eaFE] at FE
    try simp only [eaFE] at ⊢
    clear eaFE
    generalize (q13.alloc (.cells #[.float .f64 0] 49)) = q14 at T2 T8 Fd9 Fe9 T9 T10 FD FE bz ⊢
    clear hS; refine hK.out _ _ ⟨T2, T8, T9, T10⟩ (fun hS => ?_); clear hK K
    try simp only [Act.put, List.setIfInBounds_toArray, List.set_cons_zero, List.set_cons_succ, List.getElem_toArray, List.getElem_cons_zero, List.getElem_cons_succ]
    refine wpAnyH_take (i := 54) (oi := { dst := some 151, op := Go.Op.build 28 #[(0, Go.Operand.tmp 149), (1, Go.Operand.tmp 150)], type := 28, pos := "law.go:209", after := #[{ on := 52, ground := Go.Ground.data }, { on := 53, ground := Go.Ground.data }, { on := 50, ground := Go.Ground.guard }], guard := some (50, true) }) (v := ?v54_41) (by kernel_rfl) (tab_ns hT) (tab_free 18014398509481983 hT (by kernel_rfl) (by kernel_rfl)) (tab_rdy 18014398509481983 hT (by kernel_rfl) (by kernel_rfl) (by kernel_rfl)) (fun _ _ _ h => h) (Or.inl ⟨by kernel_rfl, ?hy54_41⟩) (by assumption) ?rest54_41
    case hy54_41 => (intro w9 hSw; clear hSw; go_simp; try with_reducible rfl)
    try simp only [Act.put, List.setIfInBounds_toArray, List.set_cons_zero, List.set_cons_succ, List.getElem_toArray, List.getElem_cons_zero, List.getElem_cons_succ]
    refine wpAnyH_ready (rs := [55]) (tab_ready 36028797018963967 hT (by kernel_rfl) (by kernel_rfl) (by kernel_rfl)) (by simp) ?_
    refine AllReadyH.con1 (o := { dst := some 152, op := Go.Op.call { callee := Go.Callee.value (Go.Operand.func 14), args := #[Go.Operand.tmp 148, Go.Operand.tmp 151], argTypes := #[28, 28] }, type := 4, pos := "law.go:209", after := #[{ on := 51, ground := Go.Ground.data }, { on := 54, ground := Go.Ground.data }, { on := 50, ground := Go.Ground.chain }, { on := 50, ground := Go.Ground.guard }], guard := some (50, true) }) (by kernel_rfl) (by kernel_rfl) (fun K hK => ?_) AllReadyH.nil
    go_simp
    have pi := wsameBi_any Fd9 Fe9 FD FE
    rw [show (sameL [0, 0] [0, 0] && sameL [0] [0]) = true by decide] at pi
    with_reducible refine (pi).mono ?_
    rintro e9 k15 ⟨rfl, hb⟩
    replace T2 := T2.on hb
    replace T8 := T8.on hb
    replace Fd9 := Fd9.on hb
    replace Fe9 := Fe9.on hb
    replace T9 := T9.on hb
    replace T10 := T10.on hb
    replace FD := FD.on hb
    replace FE := FE.on hb
    replace bz := bz.trans (hb.mono bz.size)
    clear hb
    clear pi
    clear hS; refine hK.out _ _ ⟨T2, T8, T9, T10⟩ (fun hS => ?_); clear hK K
    try simp only [Act.put, List.setIfInBounds_toArray, List.set_cons_zero, List.set_cons_succ, List.getElem_toArray, List.getElem_cons_zero, List.getElem_cons_succ]
    refine wpAnyH_take (i := 56) (oi := { dst := some 153, op := Go.Op.pick (Go.Operand.tmp 147) (Go.Operand.tmp 152) (Go.Operand.const (Go.Value.bool false)), type := 4, pos := "law.go:209", after := #[{ on := 50, ground := Go.Ground.data }, { on := 55, ground := Go.Ground.data }], guard := none }) (v := ?v56_42) (by kernel_rfl) (tab_ns hT) (tab_free 72057594037927935 hT (by kernel_rfl) (by kernel_rfl)) (tab_rdy 72057594037927935 hT (by kernel_rfl) (by kernel_rfl) (by kernel_rfl)) (fun _ _ _ h => h) (Or.inl ⟨by kernel_rfl, ?hy56_42⟩) (by assumption) ?rest56_42
    case hy56_42 => (intro w9 hSw; clear hSw; go_simp; try with_reducible rfl)
    try simp only [Act.put, List.setIfInBounds_toArray, List.set_cons_zero, List.set_cons_succ, List.getElem_toArray, List.getElem_cons_zero, List.getElem_cons_succ]
    refine wpAnyH_take (i := 57) (oi := { dst := some 154, op := Go.Op.move (Go.Operand.tmp 153), type := 4, pos := "law.go:209", after := #[{ on := 56, ground := Go.Ground.data }, { on := 55, ground := Go.Ground.chain }], guard := none }) (v := ?v57_43) (by kernel_rfl) (tab_ns hT) (tab_free 144115188075855871 hT (by kernel_rfl) (by kernel_rfl)) (tab_rdy 144115188075855871 hT (by kernel_rfl) (by kernel_rfl) (by kernel_rfl)) (fun _ _ _ h => h) (Or.inl ⟨by kernel_rfl, ?hy57_43⟩) (by assumption) ?rest57_43
    case hy57_43 => (intro w9 hSw; clear hSw; go_simp; try with_reducible rfl)
    try simp only [Act.put, List.setIfInBounds_toArray, List.set_cons_zero, List.set_cons_succ, List.getElem_toArray, List.getElem_cons_zero, List.getElem_cons_succ]
    refine wpAnyH_take (i := 58) (oi := { dst := some 155, op := Go.Op.move (Go.Operand.tmp 17), type := 29, pos := "law.go:209", after := #[{ on := 57, ground := Go.Ground.guard }], guard := some (57, true) }) (v := ?v58_44) (by kernel_rfl) (tab_ns hT) (tab_free 288230376151711743 hT (by kernel_rfl) (by kernel_rfl)) (tab_rdy 288230376151711743 hT (by kernel_rfl) (by kernel_rfl) (by kernel_rfl)) (fun _ _ _ h => h) (Or.inl ⟨by kernel_rfl, ?hy58_44⟩) (by assumption) ?rest58_44
    case hy58_44 => (intro w9 hSw; clear hSw; go_simp; try with_reducible rfl)
    try simp only [Act.put, List.setIfInBounds_toArray, List.set_cons_zero, List.set_cons_succ, List.getElem_toArray, List.getElem_cons_zero, List.getElem_cons_succ]
    refine wpAnyH_take (i := 59) (oi := { dst := some 156, op := Go.Op.call { callee := Go.Callee.builtin Go.Builtin.len, args := #[Go.Operand.tmp 155], argTypes := #[29] }, type := 3, pos := "law.go:209", after := #[{ on := 58, ground := Go.Ground.data }, { on := 57, ground := Go.Ground.guard }], guard := some (57, true) }) (v := ?v59_45) (by kernel_rfl) (tab_ns hT) (tab_free 576460752303423487 hT (by kernel_rfl) (by kernel_rfl)) (tab_rdy 576460752303423487 hT (by kernel_rfl) (by kernel_rfl) (by kernel_rfl)) (fun _ _ _ h => h) (Or.inl ⟨by kernel_rfl, ?hy59_45⟩) (by assumption) ?rest59_45
    case hy59_45 => (intro w9 hSw; obtain ⟨ma1, ma2, ma3, ma4⟩ := hSw; obtain ⟨y0, y1, y2, _, _, _⟩ := Mbx.cells ma1; obtain ⟨z0, z1, z2, _, _, _⟩ := Mbx.cells ma2; obtain ⟨p0, p1, _, _⟩ := Tbx.cells ma3; obtain ⟨p2, p3, _, _⟩ := Tbx.cells ma4; go_simp; try with_reducible rfl)
    try simp only [Act.put, List.setIfInBounds_toArray, List.set_cons_zero, List.set_cons_succ, List.getElem_toArray, List.getElem_cons_zero, List.getElem_cons_succ]
    refine wpAnyH_take (i := 60) (oi := { dst := some 157, op := Go.Op.binOp Go.BinOp.eql 3 (Go.Operand.tmp 156) (Go.Operand.const (Go.Value.int Go.IntKind.i64 2)) 3, type := 4, pos := "law.go:209", after := #[{ on := 59, ground := Go.Ground.data }, { on := 57, ground := Go.Ground.guard }], guard := some (57, true) }) (v := ?v60_46) (by kernel_rfl) (tab_ns hT) (tab_free 1152921504606846975 hT (by kernel_rfl) (by kernel_rfl)) (tab_rdy 1152921504606846975 hT (by kernel_rfl) (by kernel_rfl) (by kernel_rfl)) (fun _ _ _ h => h) (Or.inl ⟨by kernel_rfl, ?hy60_46⟩) (by assumption) ?rest60_46
    case hy60_46 => (intro w9 hSw; clear hSw; go_simp; try with_reducible rfl)
    try simp only [Act.put, List.setIfInBounds_toArray, List.set_cons_zero, List.set_cons_succ, List.getElem_toArray, List.getElem_cons_zero, List.getElem_cons_succ]
    refine wpAnyH_take (i := 61) (oi := { dst := some 158, op := Go.Op.pick (Go.Operand.tmp 154) (Go.Operand.tmp 157) (Go.Operand.const (Go.Value.bool false)), type := 4, pos := "law.go:209", after := #[{ on := 57, ground := Go.Ground.data }, { on := 60, ground := Go.Ground.data }], guard := none }) (v := ?v61_47) (by kernel_rfl) (tab_ns hT) (tab_free 2305843009213693951 hT (by kernel_rfl) (by kernel_rfl)) (tab_rdy 2305843009213693951 hT (by kernel_rfl) (by kernel_rfl) (by kernel_rfl)) (fun _ _ _ h => h) (Or.inl ⟨by kernel_rfl, ?hy61_47⟩) (by assumption) ?rest61_47
    case hy61_47 => (intro w9 hSw; clear hSw; go_simp; try with_reducible rfl)
    try simp only [Act.put, List.setIfInBounds_toArray, List.set_cons_zero, List.set_cons_succ, List.getElem_toArray, List.getElem_cons_zero, List.getElem_cons_succ]
    refine wpAnyH_take (i := 62) (oi := { dst := some 159, op := Go.Op.move (Go.Operand.tmp 158), type := 4, pos := "law.go:209", after := #[{ on := 61, ground := Go.Ground.data }, { on := 57, ground := Go.Ground.chain }], guard := none }) (v := ?v62_48) (by kernel_rfl) (tab_ns hT) (tab_free 4611686018427387903 hT (by kernel_rfl) (by kernel_rfl)) (tab_rdy 4611686018427387903 hT (by kernel_rfl) (by kernel_rfl) (by kernel_rfl)) (fun _ _ _ h => h) (Or.inl ⟨by kernel_rfl, ?hy62_48⟩) (by assumption) ?rest62_48
    case hy62_48 => (intro w9 hSw; clear hSw; go_simp; try with_reducible rfl)
    try simp only [Act.put, List.setIfInBounds_toArray, List.set_cons_zero, List.set_cons_succ, List.getElem_toArray, List.getElem_cons_zero, List.getElem_cons_succ]
    refine wpAnyH_take (i := 63) (oi := { dst := some 160, op := Go.Op.fieldAddr 28 (Go.Operand.tmp 20) 0, type := 0, pos := "law.go:209", after := #[{ on := 62, ground := Go.Ground.guard }], guard := some (62, true) }) (v := ?v63_49) (by kernel_rfl) (tab_ns hT) (tab_free 9223372036854775807 hT (by kernel_rfl) (by kernel_rfl)) (tab_rdy 9223372036854775807 hT (by kernel_rfl) (by kernel_rfl) (by kernel_rfl)) (fun _ _ _ h => h) (Or.inl ⟨by kernel_rfl, ?hy63_49⟩) (by assumption) ?rest63_49
    case hy63_49 => (intro w9 hSw; clear hSw; go_simp; try with_reducible rfl)
    try simp only [Act.put, List.setIfInBounds_toArray, List.set_cons_zero, List.set_cons_succ, List.getElem_toArray, List.getElem_cons_zero, List.getElem_cons_succ]
    refine wpAnyH_take (i := 64) (oi := { dst := some 161, op := Go.Op.load 22 (Go.Operand.tmp 160), type := 22, pos := "law.go:209", after := #[{ on := 63, ground := Go.Ground.data }, { on := 62, ground := Go.Ground.guard }], guard := some (62, true) }) (v := ?v64_50) (by kernel_rfl) (tab_ns hT) (tab_free 18446744073709551615 hT (by kernel_rfl) (by kernel_rfl)) (tab_rdy 18446744073709551615 hT (by kernel_rfl) (by kernel_rfl) (by kernel_rfl)) (fun _ _ _ h => h) (Or.inl ⟨by kernel_rfl, ?hy64_50⟩) (by assumption) ?rest64_50
    case hy64_50 => (intro w9 hSw; obtain ⟨ma1, ma2, ma3, ma4⟩ := hSw; obtain ⟨y0, y1, y2, _, _, _⟩ := Mbx.cells ma1; obtain ⟨z0, z1, z2, _, _, _⟩ := Mbx.cells ma2; obtain ⟨p0, p1, _, _⟩ := Tbx.cells ma3; obtain ⟨p2, p3, _, _⟩ := Tbx.cells ma4; go_simp; try with_reducible rfl)
    try simp only [Act.put, List.setIfInBounds_toArray, List.set_cons_zero, List.set_cons_succ, List.getElem_toArray, List.getElem_cons_zero, List.getElem_cons_succ]
    refine wpAnyH_take (i := 65) (oi := { dst := some 162, op := Go.Op.call { callee := Go.Callee.builtin Go.Builtin.len, args := #[Go.Operand.tmp 161], argTypes := #[22] }, type := 3, pos := "law.go:209", after := #[{ on := 64, ground := Go.Ground.data }, { on := 62, ground := Go.Ground.guard }], guard := some (62, true) }) (v := ?v65_51) (by kernel_rfl) (tab_ns hT) (tab_free 36893488147419103231 hT (by kernel_rfl) (by kernel_rfl)) (tab_rdy 36893488147419103231 hT (by kernel_rfl) (by kernel_rfl) (by kernel_rfl)) (fun _ _ _ h => h) (Or.inl ⟨by kernel_rfl, ?hy65_51⟩) (by assumption) ?rest65_51
    case hy65_51 => (intro w9 hSw; obtain ⟨ma1, ma2, ma3, ma4⟩ := hSw; obtain ⟨y0, y1, y2, _, _, _⟩ := Mbx.cells ma1; obtain ⟨z0, z1, z2, _, _, _⟩ := Mbx.cells ma2; obtain ⟨p0, p1, _, _⟩ := Tbx.cells ma3; obtain ⟨p2, p3, _, _⟩ := Tbx.cells ma4; go_simp; try with_reducible rfl)
    try simp only [Act.put, List.setIfInBounds_toArray, List.set_cons_zero, List.set_cons_succ, List.getElem_toArray, List.getElem_cons_zero, List.getElem_cons_succ]
    refine wpAnyH_take (i := 66) (oi := { dst := some 163, op := Go.Op.binOp Go.BinOp.eql 3 (Go.Operand.tmp 162) (Go.Operand.const (Go.Value.int Go.IntKind.i64 0)) 3, type := 4, pos := "law.go:209", after := #[{ on := 65, ground := Go.Ground.data }, { on := 62, ground := Go.Ground.guard }], guard := some (62, true) }) (v := ?v66_52) (by kernel_rfl) (tab_ns hT) (tab_free 73786976294838206463 hT (by kernel_rfl) (by kernel_rfl)) (tab_rdy 73786976294838206463 hT (by kernel_rfl) (by kernel_rfl) (by kernel_rfl)) (fun _ _ _ h => h) (Or.inl ⟨by kernel_rfl, ?hy66_52⟩) (by assumption) ?rest66_52
    case hy66_52 => (intro w9 hSw; clear hSw; go_simp; try with_reducible rfl)
    try simp only [Act.put, List.setIfInBounds_toArray, List.set_cons_zero, List.set_cons_succ, List.getElem_toArray, List.getElem_cons_zero, List.getElem_cons_succ]
    refine wpAnyH_take (i := 67) (oi := { dst := some 164, op := Go.Op.pick (Go.Operand.tmp 159) (Go.Operand.tmp 163) (Go.Operand.const (Go.Value.bool false)), type := 4, pos := "law.go:209", after := #[{ on := 62, ground := Go.Ground.data }, { on := 66, ground := Go.Ground.data }], guard := none }) (v := ?v67_53) (by kernel_rfl) (tab_ns hT) (tab_free 147573952589676412927 hT (by kernel_rfl) (by kernel_rfl)) (tab_rdy 147573952589676412927 hT (by kernel_rfl) (by kernel_rfl) (by kernel_rfl)) (fun _ _ _ h => h) (Or.inl ⟨by kernel_rfl, ?hy67_53⟩) (by assumption) ?rest67_53
    case hy67_53 => (intro w9 hSw; clear hSw; go_simp; try with_reducible rfl)
    try simp only [Act.put, List.setIfInBounds_toArray, List.set_cons_zero, List.set_cons_succ, List.getElem_toArray, List.getElem_cons_zero, List.getElem_cons_succ]
    refine wpAnyH_take (i := 68) (oi := { dst := some 165, op := Go.Op.move (Go.Operand.tmp 164), type := 4, pos := "law.go:209", after := #[{ on := 67, ground := Go.Ground.data }, { on := 62, ground := Go.Ground.chain }], guard := none }) (v := ?v68_54) (by kernel_rfl) (tab_ns hT) (tab_free 295147905179352825855 hT (by kernel_rfl) (by kernel_rfl)) (tab_rdy 295147905179352825855 hT (by kernel_rfl) (by kernel_rfl) (by kernel_rfl)) (fun _ _ _ h => h) (Or.inl ⟨by kernel_rfl, ?hy68_54⟩) (by assumption) ?rest68_54
    case hy68_54 => (intro w9 hSw; clear hSw; go_simp; try with_reducible rfl)
    try simp only [Act.put, List.setIfInBounds_toArray, List.set_cons_zero, List.set_cons_succ, List.getElem_toArray, List.getElem_cons_zero, List.getElem_cons_succ]
    refine wpAnyH_take (i := 69) (oi := { dst := some 166, op := Go.Op.move (Go.Operand.tmp 27), type := 30, pos := "law.go:209", after := #[{ on := 68, ground := Go.Ground.guard }], guard := some (68, true) }) (v := ?v69_55) (by kernel_rfl) (tab_ns hT) (tab_free 590295810358705651711 hT (by kernel_rfl) (by kernel_rfl)) (tab_rdy 590295810358705651711 hT (by kernel_rfl) (by kernel_rfl) (by kernel_rfl)) (fun _ _ _ h => h) (Or.inl ⟨by kernel_rfl, ?hy69_55⟩) (by assumption) ?rest69_55
    case hy69_55 => (intro w9 hSw; clear hSw; go_simp; try with_reducible rfl)
    try simp only [Act.put, List.setIfInBounds_toArray, List.set_cons_zero, List.set_cons_succ, List.getElem_toArray, List.getElem_cons_zero, List.getElem_cons_succ]
    refine wpAnyH_ready (rs := [70]) (tab_ready 1180591620717411303423 hT (by kernel_rfl) (by kernel_rfl) (by kernel_rfl)) (by simp) ?_
    refine AllReadyH.con1 (o := { dst := some 167, op := Go.Op.call { callee := Go.Callee.value (Go.Operand.func 12), args := #[Go.Operand.tmp 166], argTypes := #[30] }, type := 3, pos := "law.go:209", after := #[{ on := 69, ground := Go.Ground.data }, { on := 68, ground := Go.Ground.chain }, { on := 68, ground := Go.Ground.guard }], guard := some (68, true) }) (by kernel_rfl) (by kernel_rfl) (fun K hK => ?_) AllReadyH.nil
    go_simp
    with_reducible refine (wnum_any 10 _).mono ?_
    rintro e9 k16 ⟨rfl, hb⟩
    replace T2 := T2.on hb
    replace T8 := T8.on hb
    replace Fd9 := Fd9.on hb
    replace Fe9 := Fe9.on hb
    replace T9 := T9.on hb
    replace T10 := T10.on hb
    replace FD := FD.on hb
    replace FE := FE.on hb
    replace bz := bz.trans (hb.mono bz.size)
    clear hb
    clear hS; refine hK.out _ _ ⟨T2, T8, T9, T10⟩ (fun hS => ?_); clear hK K
    try simp only [Act.put, List.setIfInBounds_toArray, List.set_cons_zero, List.set_cons_succ, List.getElem_toArray, List.getElem_cons_zero, List.getElem_cons_succ]
    refine wpAnyH_take (i := 71) (oi := { dst := some 168, op := Go.Op.binOp Go.BinOp.eql 3 (Go.Operand.tmp 167) (Go.Operand.const (Go.Value.int Go.IntKind.i64 10)) 3, type := 4, pos := "law.go:209", after := #[{ on := 70, ground := Go.Ground.data }, { on := 68, ground := Go.Ground.guard }], guard := some (68, true) }) (v := ?v71_56) (by kernel_rfl) (tab_ns hT) (tab_free 2361183241434822606847 hT (by kernel_rfl) (by kernel_rfl)) (tab_rdy 2361183241434822606847 hT (by kernel_rfl) (by kernel_rfl) (by kernel_rfl)) (fun _ _ _ h => h) (Or.inl ⟨by kernel_rfl, ?hy71_56⟩) (by assumption) ?rest71_56
    case hy71_56 => (intro w9 hSw; clear hSw; go_simp; try with_reducible rfl)
    try simp only [Act.put, List.setIfInBounds_toArray, List.set_cons_zero, List.set_cons_succ, List.getElem_toArray, List.getElem_cons_zero, List.getElem_cons_succ]
    refine wpAnyH_take (i := 72) (oi := { dst := some 169, op := Go.Op.pick (Go.Operand.tmp 165) (Go.Operand.tmp 168) (Go.Operand.const (Go.Value.bool false)), type := 4, pos := "law.go:209", after := #[{ on := 68, ground := Go.Ground.data }, { on := 71, ground := Go.Ground.data }], guard := none }) (v := ?v72_57) (by kernel_rfl) (tab_ns hT) (tab_free 4722366482869645213695 hT (by kernel_rfl) (by kernel_rfl)) (tab_rdy 4722366482869645213695 hT (by kernel_rfl) (by kernel_rfl) (by kernel_rfl)) (fun _ _ _ h => h) (Or.inl ⟨by kernel_rfl, ?hy72_57⟩) (by assumption) ?rest72_57
    case hy72_57 => (intro w9 hSw; clear hSw; go_simp; try with_reducible rfl)
    try simp only [Act.put, List.setIfInBounds_toArray, List.set_cons_zero, List.set_cons_succ, List.getElem_toArray, List.getElem_cons_zero, List.getElem_cons_succ]
    refine wpAnyH_take (i := 73) (oi := { dst := some 170, op := Go.Op.move (Go.Operand.tmp 169), type := 4, pos := "law.go:209", after := #[{ on := 72, ground := Go.Ground.data }, { on := 70, ground := Go.Ground.chain }], guard := none }) (v := ?v73_58) (by kernel_rfl) (tab_ns hT) (tab_free 9444732965739290427391 hT (by kernel_rfl) (by kernel_rfl)) (tab_rdy 9444732965739290427391 hT (by kernel_rfl) (by kernel_rfl) (by kernel_rfl)) (fun _ _ _ h => h) (Or.inl ⟨by kernel_rfl, ?hy73_58⟩) (by assumption) ?rest73_58
    case hy73_58 => (intro w9 hSw; clear hSw; go_simp; try with_reducible rfl)
    try simp only [Act.put, List.setIfInBounds_toArray, List.set_cons_zero, List.set_cons_succ, List.getElem_toArray, List.getElem_cons_zero, List.getElem_cons_succ]
    refine wpAnyH_take (i := 74) (oi := { dst := some 171, op := Go.Op.move (Go.Operand.tmp 31), type := 30, pos := "law.go:209", after := #[{ on := 73, ground := Go.Ground.guard }], guard := some (73, true) }) (v := ?v74_59) (by kernel_rfl) (tab_ns hT) (tab_free 18889465931478580854783 hT (by kernel_rfl) (by kernel_rfl)) (tab_rdy 18889465931478580854783 hT (by kernel_rfl) (by kernel_rfl) (by kernel_rfl)) (fun _ _ _ h => h) (Or.inl ⟨by kernel_rfl, ?hy74_59⟩) (by assumption) ?rest74_59
    case hy74_59 => (intro w9 hSw; clear hSw; go_simp; try with_reducible rfl)
    try simp only [Act.put, List.setIfInBounds_toArray, List.set_cons_zero, List.set_cons_succ, List.getElem_toArray, List.getElem_cons_zero, List.getElem_cons_succ]
    refine wpAnyH_ready (rs := [75]) (tab_ready 37778931862957161709567 hT (by kernel_rfl) (by kernel_rfl) (by kernel_rfl)) (by simp) ?_
    refine AllReadyH.con1 (o := { dst := some 172, op := Go.Op.call { callee := Go.Callee.value (Go.Operand.func 12), args := #[Go.Operand.tmp 171], argTypes := #[30] }, type := 3, pos := "law.go:209", after := #[{ on := 74, ground := Go.Ground.data }, { on := 73, ground := Go.Ground.chain }, { on := 73, ground := Go.Ground.guard }], guard := some (73, true) }) (by kernel_rfl) (by kernel_rfl) (fun K hK => ?_) AllReadyH.nil
    go_simp
    with_reducible refine (wnum_any 2 _).mono ?_
    rintro e9 k17 ⟨rfl, hb⟩
    replace T2 := T2.on hb
    replace T8 := T8.on hb
    replace Fd9 := Fd9.on hb
    replace Fe9 := Fe9.on hb
    replace T9 := T9.on hb
    replace T10 := T10.on hb
    replace FD := FD.on hb
    replace FE := FE.on hb
    replace bz := bz.trans (hb.mono bz.size)
    clear hb
    clear hS; refine hK.out _ _ ⟨T2, T8, T9, T10⟩ (fun hS => ?_); clear hK K
    try simp only [Act.put, List.setIfInBounds_toArray, List.set_cons_zero, List.set_cons_succ, List.getElem_toArray, List.getElem_cons_zero, List.getElem_cons_succ]
    refine wpAnyH_take (i := 76) (oi := { dst := some 173, op := Go.Op.binOp Go.BinOp.eql 3 (Go.Operand.tmp 172) (Go.Operand.const (Go.Value.int Go.IntKind.i64 2)) 3, type := 4, pos := "law.go:209", after := #[{ on := 75, ground := Go.Ground.data }, { on := 73, ground := Go.Ground.guard }], guard := some (73, true) }) (v := ?v76_60) (by kernel_rfl) (tab_ns hT) (tab_free 75557863725914323419135 hT (by kernel_rfl) (by kernel_rfl)) (tab_rdy 75557863725914323419135 hT (by kernel_rfl) (by kernel_rfl) (by kernel_rfl)) (fun _ _ _ h => h) (Or.inl ⟨by kernel_rfl, ?hy76_60⟩) (by assumption) ?rest76_60
    case hy76_60 => (intro w9 hSw; clear hSw; go_simp; try with_reducible rfl)
    try simp only [Act.put, List.setIfInBounds_toArray, List.set_cons_zero, List.set_cons_succ, List.getElem_toArray, List.getElem_cons_zero, List.getElem_cons_succ]
    refine wpAnyH_take (i := 77) (oi := { dst := some 174, op := Go.Op.pick (Go.Operand.tmp 170) (Go.Operand.tmp 173) (Go.Operand.const (Go.Value.bool false)), type := 4, pos := "law.go:209", after := #[{ on := 73, ground := Go.Ground.data }, { on := 76, ground := Go.Ground.data }], guard := none }) (v := ?v77_61) (by kernel_rfl) (tab_ns hT) (tab_free 151115727451828646838271 hT (by kernel_rfl) (by kernel_rfl)) (tab_rdy 151115727451828646838271 hT (by kernel_rfl) (by kernel_rfl) (by kernel_rfl)) (fun _ _ _ h => h) (Or.inl ⟨by kernel_rfl, ?hy77_61⟩) (by assumption) ?rest77_61
    case hy77_61 => (intro w9 hSw; clear hSw; go_simp; try with_reducible rfl)
    try simp only [Act.put, List.setIfInBounds_toArray, List.set_cons_zero, List.set_cons_succ, List.getElem_toArray, List.getElem_cons_zero, List.getElem_cons_succ]
    refine wpAnyH_take (i := 78) (oi := { dst := some 175, op := Go.Op.move (Go.Operand.tmp 174), type := 4, pos := "law.go:209", after := #[{ on := 77, ground := Go.Ground.data }, { on := 75, ground := Go.Ground.chain }], guard := none }) (v := ?v78_62) (by kernel_rfl) (tab_ns hT) (tab_free 302231454903657293676543 hT (by kernel_rfl) (by kernel_rfl)) (tab_rdy 302231454903657293676543 hT (by kernel_rfl) (by kernel_rfl) (by kernel_rfl)) (fun _ _ _ h => h) (Or.inl ⟨by kernel_rfl, ?hy78_62⟩) (by assumption) ?rest78_62
    case hy78_62 => (intro w9 hSw; clear hSw; go_simp; try with_reducible rfl)
    try simp only [Act.put, List.setIfInBounds_toArray, List.set_cons_zero, List.set_cons_succ, List.getElem_toArray, List.getElem_cons_zero, List.getElem_cons_succ]
    refine wpAnyH_ready (rs := [79]) (tab_ready 604462909807314587353087 hT (by kernel_rfl) (by kernel_rfl) (by kernel_rfl)) (by simp) ?_
    refine AllReadyH.con1 (o := { dst := some 176, op := Go.Op.call { callee := Go.Callee.value (Go.Operand.func 8), args := #[], argTypes := #[] }, type := 4, pos := "law.go:209", after := #[{ on := 78, ground := Go.Ground.chain }, { on := 78, ground := Go.Ground.guard }], guard := some (78, true) }) (by kernel_rfl) (by kernel_rfl) (fun K hK => ?_) AllReadyH.nil
    go_simp
    with_reducible refine (pk _).mono ?_
    rintro e9 k18 ⟨rfl, hb⟩
    replace T2 := T2.on hb
    replace T8 := T8.on hb
    replace Fd9 := Fd9.on hb
    replace Fe9 := Fe9.on hb
    replace T9 := T9.on hb
    replace T10 := T10.on hb
    replace FD := FD.on hb
    replace FE := FE.on hb
    replace bz := bz.trans (hb.mono bz.size)
    clear hb
    clear hS; refine hK.out _ _ ⟨T2, T8, T9, T10⟩ (fun hS => ?_); clear hK K
    try simp only [Act.put, List.setIfInBounds_toArray, List.set_cons_zero, List.set_cons_succ, List.getElem_toArray, List.getElem_cons_zero, List.getElem_cons_succ]
    refine wpAnyH_take (i := 80) (oi := { dst := some 177, op := Go.Op.pick (Go.Operand.tmp 175) (Go.Operand.tmp 176) (Go.Operand.const (Go.Value.bool false)), type := 4, pos := "law.go:209", after := #[{ on := 78, ground := Go.Ground.data }, { on := 79, ground := Go.Ground.data }], guard := none }) (v := ?v80_63) (by kernel_rfl) (tab_ns hT) (tab_free 1208925819614629174706175 hT (by kernel_rfl) (by kernel_rfl)) (tab_rdy 1208925819614629174706175 hT (by kernel_rfl) (by kernel_rfl) (by kernel_rfl)) (fun _ _ _ h => h) (Or.inl ⟨by kernel_rfl, ?hy80_63⟩) (by assumption) ?rest80_63
    case hy80_63 => (intro w9 hSw; clear hSw; go_simp; try with_reducible rfl)
    try simp only [Act.put, List.setIfInBounds_toArray, List.set_cons_zero, List.set_cons_succ, List.getElem_toArray, List.getElem_cons_zero, List.getElem_cons_succ]
    refine wpAnyH_take (i := 81) (oi := { dst := some 0, op := Go.Op.assign (Go.Operand.tmp 177), type := 4, pos := "law.go:209", after := #[{ on := 80, ground := Go.Ground.data }, { on := 79, ground := Go.Ground.chain }, { on := 0, ground := Go.Ground.phase }, { on := 1, ground := Go.Ground.phase }, { on := 2, ground := Go.Ground.phase }, { on := 3, ground := Go.Ground.phase }, { on := 4, ground := Go.Ground.phase }, { on := 5, ground := Go.Ground.phase }, { on := 6, ground := Go.Ground.phase }, { on := 7, ground := Go.Ground.phase }, { on := 8, ground := Go.Ground.phase }, { on := 9, ground := Go.Ground.phase }, { on := 10, ground := Go.Ground.phase }, { on := 11, ground := Go.Ground.phase }, { on := 12, ground := Go.Ground.phase }, { on := 13, ground := Go.Ground.phase }, { on := 14, ground := Go.Ground.phase }, { on := 15, ground := Go.Ground.phase }, { on := 16, ground := Go.Ground.phase }, { on := 17, ground := Go.Ground.phase }, { on := 18, ground := Go.Ground.phase }, { on := 19, ground := Go.Ground.phase }, { on := 20, ground := Go.Ground.phase }, { on := 21, ground := Go.Ground.phase }, { on := 22, ground := Go.Ground.phase }, { on := 23, ground := Go.Ground.phase }, { on := 24, ground := Go.Ground.phase }, { on := 25, ground := Go.Ground.phase }, { on := 26, ground := Go.Ground.phase }, { on := 27, ground := Go.Ground.phase }, { on := 28, ground := Go.Ground.phase }, { on := 29, ground := Go.Ground.phase }, { on := 30, ground := Go.Ground.phase }, { on := 31, ground := Go.Ground.phase }, { on := 32, ground := Go.Ground.phase }, { on := 33, ground := Go.Ground.phase }, { on := 34, ground := Go.Ground.phase }, { on := 35, ground := Go.Ground.phase }, { on := 36, ground := Go.Ground.phase }, { on := 37, ground := Go.Ground.phase }, { on := 38, ground := Go.Ground.phase }, { on := 39, ground := Go.Ground.phase }, { on := 40, ground := Go.Ground.phase }, { on := 41, ground := Go.Ground.phase }, { on := 42, ground := Go.Ground.phase }, { on := 43, ground := Go.Ground.phase }, { on := 44, ground := Go.Ground.phase }, { on := 45, ground := Go.Ground.phase }, { on := 46, ground := Go.Ground.phase }, { on := 47, ground := Go.Ground.phase }, { on := 48, ground := Go.Ground.phase }, { on := 49, ground := Go.Ground.phase }, { on := 50, ground := Go.Ground.phase }, { on := 51, ground := Go.Ground.phase }, { on := 52, ground := Go.Ground.phase }, { on := 53, ground := Go.Ground.phase }, { on := 54, ground := Go.Ground.phase }, { on := 55, ground := Go.Ground.phase }, { on := 56, ground := Go.Ground.phase }, { on := 57, ground := Go.Ground.phase }, { on := 58, ground := Go.Ground.phase }, { on := 59, ground := Go.Ground.phase }, { on := 60, ground := Go.Ground.phase }, { on := 61, ground := Go.Ground.phase }, { on := 62, ground := Go.Ground.phase }, { on := 63, ground := Go.Ground.phase }, { on := 64, ground := Go.Ground.phase }, { on := 65, ground := Go.Ground.phase }, { on := 66, ground := Go.Ground.phase }, { on := 67, ground := Go.Ground.phase }, { on := 68, ground := Go.Ground.phase }, { on := 69, ground := Go.Ground.phase }, { on := 70, ground := Go.Ground.phase }, { on := 71, ground := Go.Ground.phase }, { on := 72, ground := Go.Ground.phase }, { on := 73, ground := Go.Ground.phase }, { on := 74, ground := Go.Ground.phase }, { on := 75, ground := Go.Ground.phase }, { on := 76, ground := Go.Ground.phase }, { on := 77, ground := Go.Ground.phase }, { on := 78, ground := Go.Ground.phase }, { on := 79, ground := Go.Ground.phase }, { on := 80, ground := Go.Ground.phase }], guard := none }) (v := ?v81_64) (by kernel_rfl) (tab_ns hT) (tab_free 2417851639229258349412351 hT (by kernel_rfl) (by kernel_rfl)) (tab_rdy 2417851639229258349412351 hT (by kernel_rfl) (by kernel_rfl) (by kernel_rfl)) (fun _ _ _ h => h) (Or.inl ⟨by kernel_rfl, ?hy81_64⟩) (by assumption) ?rest81_64
    case hy81_64 => (intro w9 hSw; clear hSw; go_simp; try with_reducible rfl)
    try simp only [Act.put, List.setIfInBounds_toArray, List.set_cons_zero, List.set_cons_succ, List.getElem_toArray, List.getElem_cons_zero, List.getElem_cons_succ]
    refine wpAnyH_done (tab_ready 4835703278458516698824703 hT (by kernel_rfl) (by kernel_rfl) (by kernel_rfl)) ?_ _
    go_wp2_with fail
    go_ret
    exact ⟨rfl, bz⟩
  go_simp
  have hbA := (Below.refl _ k12).alloc (Nat.le_refl _) (.cells #[.float .f64 0] 49)
  replace T2 := T2.on hbA
  replace T8 := T8.on hbA
  replace Fd9 := Fd9.on hbA
  replace Fe9 := Fe9.on hbA
  replace T9 := T9.on hbA
  replace T10 := T10.on hbA
  clear hbA
  replace bz := bz.alloc bz.size (.cells #[.float .f64 0] 49)
  have FE : FL (k12.alloc (.cells #[.float .f64 0] 49)) (some ⟨k12.heap.size, 0, none⟩) 1 1 [0] := by have h9 := fl_built (W := k12) (l := [0]) (by intro x hx; simp at hx; omega) (by simp); exact h9
  obtain ⟨aFE, eaFE⟩ : ∃ x, k12.heap.size = x := ⟨_, rfl⟩
  rw [eaFE] at FE
  try simp only [eaFE] at ⊢
  clear eaFE
  generalize (k12.alloc (.cells #[.float .f64 0] 49)) = q19 at T2 T8 Fd9 Fe9 T9 T10 FE bz ⊢
  clear hS; refine hK.out _ _ ⟨T2, T8, T9, T10⟩ (fun hS => ?_); clear hK K
  try simp only [Act.put, List.setIfInBounds_toArray, List.set_cons_zero, List.set_cons_succ, List.getElem_toArray, List.getElem_cons_zero, List.getElem_cons_succ]
  refine wpAnyH_ready (rs := [52]) (tab_ready 13510798882111487 hT (by kernel_rfl) (by kernel_rfl) (by kernel_rfl)) (by simp) ?_
  refine AllReadyH.con1 (o := { dst := some 149, op := Go.Op.buildSlice 22 2 #[(0, Go.Operand.const (Go.Value.float Go.FloatKind.f64 0)), (1, Go.Operand.const (Go.Value.float Go.FloatKind.f64 0))], type := 22, pos := "law.go:209", after := #[{ on := 50, ground := Go.Ground.guard }], guard := some (50, true) }) (by kernel_rfl) (by kernel_rfl) (fun K hK => ?_) AllReadyH.nil
  go_simp
  have hbA := (Below.refl _ q19).alloc (Nat.le_refl _) (.cells #[.float .f64 0, .float .f64 0] 49)
  replace T2 := T2.on hbA
  replace T8 := T8.on hbA
  replace Fd9 := Fd9.on hbA
  replace Fe9 := Fe9.on hbA
  replace T9 := T9.on hbA
  replace T10 := T10.on hbA
  replace FE := FE.on hbA
  clear hbA
  replace bz := bz.alloc bz.size (.cells #[.float .f64 0, .float .f64 0] 49)
  have FD : FL (q19.alloc (.cells #[.float .f64 0, .float .f64 0] 49)) (some ⟨q19.heap.size, 0, none⟩) 2 2 [0, 0] := by have h9 := fl_built (W := q19) (l := [0, 0]) (by intro x hx; simp at hx; omega) (by simp); exact h9
  obtain ⟨aFD, eaFD⟩ : ∃ x, q19.heap.size = x := ⟨_, rfl⟩
  rw [eaFD] at FD
  try simp only [eaFD] at ⊢
  clear eaFD
  generalize (q19.alloc (.cells #[.float .f64 0, .float .f64 0] 49)) = q20 at T2 T8 Fd9 Fe9 T9 T10 FE FD bz ⊢
  clear hS; refine hK.out _ _ ⟨T2, T8, T9, T10⟩ (fun hS => ?_); clear hK K
  try simp only [Act.put, List.setIfInBounds_toArray, List.set_cons_zero, List.set_cons_succ, List.getElem_toArray, List.getElem_cons_zero, List.getElem_cons_succ]
  refine wpAnyH_take (i := 54) (oi := { dst := some 151, op := Go.Op.build 28 #[(0, Go.Operand.tmp 149), (1, Go.Operand.tmp 150)], type := 28, pos := "law.go:209", after := #[{ on := 52, ground := Go.Ground.data }, { on := 53, ground := Go.Ground.data }, { on := 50, ground := Go.Ground.guard }], guard := some (50, true) }) (v := ?v54_65) (by kernel_rfl) (tab_ns hT) (tab_free 18014398509481983 hT (by kernel_rfl) (by kernel_rfl)) (tab_rdy 18014398509481983 hT (by kernel_rfl) (by kernel_rfl) (by kernel_rfl)) (fun _ _ _ h => h) (Or.inl ⟨by kernel_rfl, ?hy54_65⟩) (by assumption) ?rest54_65
  case hy54_65 => (intro w9 hSw; clear hSw; go_simp; try with_reducible rfl)
  try simp only [Act.put, List.setIfInBounds_toArray, List.set_cons_zero, List.set_cons_succ, List.getElem_toArray, List.getElem_cons_zero, List.getElem_cons_succ]
  refine wpAnyH_ready (rs := [55]) (tab_ready 36028797018963967 hT (by kernel_rfl) (by kernel_rfl) (by kernel_rfl)) (by simp) ?_
  refine AllReadyH.con1 (o := { dst := some 152, op := Go.Op.call { callee := Go.Callee.value (Go.Operand.func 14), args := #[Go.Operand.tmp 148, Go.Operand.tmp 151], argTypes := #[28, 28] }, type := 4, pos := "law.go:209", after := #[{ on := 51, ground := Go.Ground.data }, { on := 54, ground := Go.Ground.data }, { on := 50, ground := Go.Ground.chain }, { on := 50, ground := Go.Ground.guard }], guard := some (50, true) }) (by kernel_rfl) (by kernel_rfl) (fun K hK => ?_) AllReadyH.nil
  go_simp
  have pi := wsameBi_any Fd9 Fe9 FD FE
  rw [show (sameL [0, 0] [0, 0] && sameL [0] [0]) = true by decide] at pi
  with_reducible refine (pi).mono ?_
  rintro e9 k21 ⟨rfl, hb⟩
  replace T2 := T2.on hb
  replace T8 := T8.on hb
  replace Fd9 := Fd9.on hb
  replace Fe9 := Fe9.on hb
  replace T9 := T9.on hb
  replace T10 := T10.on hb
  replace FE := FE.on hb
  replace FD := FD.on hb
  replace bz := bz.trans (hb.mono bz.size)
  clear hb
  clear pi
  clear hS; refine hK.out _ _ ⟨T2, T8, T9, T10⟩ (fun hS => ?_); clear hK K
  try simp only [Act.put, List.setIfInBounds_toArray, List.set_cons_zero, List.set_cons_succ, List.getElem_toArray, List.getElem_cons_zero, List.getElem_cons_succ]
  refine wpAnyH_take (i := 56) (oi := { dst := some 153, op := Go.Op.pick (Go.Operand.tmp 147) (Go.Operand.tmp 152) (Go.Operand.const (Go.Value.bool false)), type := 4, pos := "law.go:209", after := #[{ on := 50, ground := Go.Ground.data }, { on := 55, ground := Go.Ground.data }], guard := none }) (v := ?v56_66) (by kernel_rfl) (tab_ns hT) (tab_free 72057594037927935 hT (by kernel_rfl) (by kernel_rfl)) (tab_rdy 72057594037927935 hT (by kernel_rfl) (by kernel_rfl) (by kernel_rfl)) (fun _ _ _ h => h) (Or.inl ⟨by kernel_rfl, ?hy56_66⟩) (by assumption) ?rest56_66
  case hy56_66 => (intro w9 hSw; clear hSw; go_simp; try with_reducible rfl)
  try simp only [Act.put, List.setIfInBounds_toArray, List.set_cons_zero, List.set_cons_succ, List.getElem_toArray, List.getElem_cons_zero, List.getElem_cons_succ]
  refine wpAnyH_take (i := 57) (oi := { dst := some 154, op := Go.Op.move (Go.Operand.tmp 153), type := 4, pos := "law.go:209", after := #[{ on := 56, ground := Go.Ground.data }, { on := 55, ground := Go.Ground.chain }], guard := none }) (v := ?v57_67) (by kernel_rfl) (tab_ns hT) (tab_free 144115188075855871 hT (by kernel_rfl) (by kernel_rfl)) (tab_rdy 144115188075855871 hT (by kernel_rfl) (by kernel_rfl) (by kernel_rfl)) (fun _ _ _ h => h) (Or.inl ⟨by kernel_rfl, ?hy57_67⟩) (by assumption) ?rest57_67
  case hy57_67 => (intro w9 hSw; clear hSw; go_simp; try with_reducible rfl)
  try simp only [Act.put, List.setIfInBounds_toArray, List.set_cons_zero, List.set_cons_succ, List.getElem_toArray, List.getElem_cons_zero, List.getElem_cons_succ]
  refine wpAnyH_take (i := 58) (oi := { dst := some 155, op := Go.Op.move (Go.Operand.tmp 17), type := 29, pos := "law.go:209", after := #[{ on := 57, ground := Go.Ground.guard }], guard := some (57, true) }) (v := ?v58_68) (by kernel_rfl) (tab_ns hT) (tab_free 288230376151711743 hT (by kernel_rfl) (by kernel_rfl)) (tab_rdy 288230376151711743 hT (by kernel_rfl) (by kernel_rfl) (by kernel_rfl)) (fun _ _ _ h => h) (Or.inl ⟨by kernel_rfl, ?hy58_68⟩) (by assumption) ?rest58_68
  case hy58_68 => (intro w9 hSw; clear hSw; go_simp; try with_reducible rfl)
  try simp only [Act.put, List.setIfInBounds_toArray, List.set_cons_zero, List.set_cons_succ, List.getElem_toArray, List.getElem_cons_zero, List.getElem_cons_succ]
  refine wpAnyH_take (i := 59) (oi := { dst := some 156, op := Go.Op.call { callee := Go.Callee.builtin Go.Builtin.len, args := #[Go.Operand.tmp 155], argTypes := #[29] }, type := 3, pos := "law.go:209", after := #[{ on := 58, ground := Go.Ground.data }, { on := 57, ground := Go.Ground.guard }], guard := some (57, true) }) (v := ?v59_69) (by kernel_rfl) (tab_ns hT) (tab_free 576460752303423487 hT (by kernel_rfl) (by kernel_rfl)) (tab_rdy 576460752303423487 hT (by kernel_rfl) (by kernel_rfl) (by kernel_rfl)) (fun _ _ _ h => h) (Or.inl ⟨by kernel_rfl, ?hy59_69⟩) (by assumption) ?rest59_69
  case hy59_69 => (intro w9 hSw; obtain ⟨ma1, ma2, ma3, ma4⟩ := hSw; obtain ⟨y0, y1, y2, _, _, _⟩ := Mbx.cells ma1; obtain ⟨z0, z1, z2, _, _, _⟩ := Mbx.cells ma2; obtain ⟨p0, p1, _, _⟩ := Tbx.cells ma3; obtain ⟨p2, p3, _, _⟩ := Tbx.cells ma4; go_simp; try with_reducible rfl)
  try simp only [Act.put, List.setIfInBounds_toArray, List.set_cons_zero, List.set_cons_succ, List.getElem_toArray, List.getElem_cons_zero, List.getElem_cons_succ]
  refine wpAnyH_take (i := 60) (oi := { dst := some 157, op := Go.Op.binOp Go.BinOp.eql 3 (Go.Operand.tmp 156) (Go.Operand.const (Go.Value.int Go.IntKind.i64 2)) 3, type := 4, pos := "law.go:209", after := #[{ on := 59, ground := Go.Ground.data }, { on := 57, ground := Go.Ground.guard }], guard := some (57, true) }) (v := ?v60_70) (by kernel_rfl) (tab_ns hT) (tab_free 1152921504606846975 hT (by kernel_rfl) (by kernel_rfl)) (tab_rdy 1152921504606846975 hT (by kernel_rfl) (by kernel_rfl) (by kernel_rfl)) (fun _ _ _ h => h) (Or.inl ⟨by kernel_rfl, ?hy60_70⟩) (by assumption) ?rest60_70
  case hy60_70 => (intro w9 hSw; clear hSw; go_simp; try with_reducible rfl)
  try simp only [Act.put, List.setIfInBounds_toArray, List.set_cons_zero, List.set_cons_succ, List.getElem_toArray, List.getElem_cons_zero, List.getElem_cons_succ]
  refine wpAnyH_take (i := 61) (oi := { dst := some 158, op := Go.Op.pick (Go.Operand.tmp 154) (Go.Operand.tmp 157) (Go.Operand.const (Go.Value.bool false)), type := 4, pos := "law.go:209", after := #[{ on := 57, ground := Go.Ground.data }, { on := 60, ground := Go.Ground.data }], guard := none }) (v := ?v61_71) (by kernel_rfl) (tab_ns hT) (tab_free 2305843009213693951 hT (by kernel_rfl) (by kernel_rfl)) (tab_rdy 2305843009213693951 hT (by kernel_rfl) (by kernel_rfl) (by kernel_rfl)) (fun _ _ _ h => h) (Or.inl ⟨by kernel_rfl, ?hy61_71⟩) (by assumption) ?rest61_71
  case hy61_71 => (intro w9 hSw; clear hSw; go_simp; try with_reducible rfl)
  try simp only [Act.put, List.setIfInBounds_toArray, List.set_cons_zero, List.set_cons_succ, List.getElem_toArray, List.getElem_cons_zero, List.getElem_cons_succ]
  refine wpAnyH_take (i := 62) (oi := { dst := some 159, op := Go.Op.move (Go.Operand.tmp 158), type := 4, pos := "law.go:209", after := #[{ on := 61, ground := Go.Ground.data }, { on := 57, ground := Go.Ground.chain }], guard := none }) (v := ?v62_72) (by kernel_rfl) (tab_ns hT) (tab_free 4611686018427387903 hT (by kernel_rfl) (by kernel_rfl)) (tab_rdy 4611686018427387903 hT (by kernel_rfl) (by kernel_rfl) (by kernel_rfl)) (fun _ _ _ h => h) (Or.inl ⟨by kernel_rfl, ?hy62_72⟩) (by assumption) ?rest62_72
  case hy62_72 => (intro w9 hSw; clear hSw; go_simp; try with_reducible rfl)
  try simp only [Act.put, List.setIfInBounds_toArray, List.set_cons_zero, List.set_cons_succ, List.getElem_toArray, List.getElem_cons_zero, List.getElem_cons_succ]
  refine wpAnyH_take (i := 63) (oi := { dst := some 160, op := Go.Op.fieldAddr 28 (Go.Operand.tmp 20) 0, type := 0, pos := "law.go:209", after := #[{ on := 62, ground := Go.Ground.guard }], guard := some (62, true) }) (v := ?v63_73) (by kernel_rfl) (tab_ns hT) (tab_free 9223372036854775807 hT (by kernel_rfl) (by kernel_rfl)) (tab_rdy 9223372036854775807 hT (by kernel_rfl) (by kernel_rfl) (by kernel_rfl)) (fun _ _ _ h => h) (Or.inl ⟨by kernel_rfl, ?hy63_73⟩) (by assumption) ?rest63_73
  case hy63_73 => (intro w9 hSw; clear hSw; go_simp; try with_reducible rfl)
  try simp only [Act.put, List.setIfInBounds_toArray, List.set_cons_zero, List.set_cons_succ, List.getElem_toArray, List.getElem_cons_zero, List.getElem_cons_succ]
  refine wpAnyH_take (i := 64) (oi := { dst := some 161, op := Go.Op.load 22 (Go.Operand.tmp 160), type := 22, pos := "law.go:209", after := #[{ on := 63, ground := Go.Ground.data }, { on := 62, ground := Go.Ground.guard }], guard := some (62, true) }) (v := ?v64_74) (by kernel_rfl) (tab_ns hT) (tab_free 18446744073709551615 hT (by kernel_rfl) (by kernel_rfl)) (tab_rdy 18446744073709551615 hT (by kernel_rfl) (by kernel_rfl) (by kernel_rfl)) (fun _ _ _ h => h) (Or.inl ⟨by kernel_rfl, ?hy64_74⟩) (by assumption) ?rest64_74
  case hy64_74 => (intro w9 hSw; obtain ⟨ma1, ma2, ma3, ma4⟩ := hSw; obtain ⟨y0, y1, y2, _, _, _⟩ := Mbx.cells ma1; obtain ⟨z0, z1, z2, _, _, _⟩ := Mbx.cells ma2; obtain ⟨p0, p1, _, _⟩ := Tbx.cells ma3; obtain ⟨p2, p3, _, _⟩ := Tbx.cells ma4; go_simp; try with_reducible rfl)
  try simp only [Act.put, List.setIfInBounds_toArray, List.set_cons_zero, List.set_cons_succ, List.getElem_toArray, List.getElem_cons_zero, List.getElem_cons_succ]
  refine wpAnyH_take (i := 65) (oi := { dst := some 162, op := Go.Op.call { callee := Go.Callee.builtin Go.Builtin.len, args := #[Go.Operand.tmp 161], argTypes := #[22] }, type := 3, pos := "law.go:209", after := #[{ on := 64, ground := Go.Ground.data }, { on := 62, ground := Go.Ground.guard }], guard := some (62, true) }) (v := ?v65_75) (by kernel_rfl) (tab_ns hT) (tab_free 36893488147419103231 hT (by kernel_rfl) (by kernel_rfl)) (tab_rdy 36893488147419103231 hT (by kernel_rfl) (by kernel_rfl) (by kernel_rfl)) (fun _ _ _ h => h) (Or.inl ⟨by kernel_rfl, ?hy65_75⟩) (by assumption) ?rest65_75
  case hy65_75 => (intro w9 hSw; obtain ⟨ma1, ma2, ma3, ma4⟩ := hSw; obtain ⟨y0, y1, y2, _, _, _⟩ := Mbx.cells ma1; obtain ⟨z0, z1, z2, _, _, _⟩ := Mbx.cells ma2; obtain ⟨p0, p1, _, _⟩ := Tbx.cells ma3; obtain ⟨p2, p3, _, _⟩ := Tbx.cells ma4; go_simp; try with_reducible rfl)
  try simp only [Act.put, List.setIfInBounds_toArray, List.set_cons_zero, List.set_cons_succ, List.getElem_toArray, List.getElem_cons_zero, List.getElem_cons_succ]
  refine wpAnyH_take (i := 66) (oi := { dst := some 163, op := Go.Op.binOp Go.BinOp.eql 3 (Go.Operand.tmp 162) (Go.Operand.const (Go.Value.int Go.IntKind.i64 0)) 3, type := 4, pos := "law.go:209", after := #[{ on := 65, ground := Go.Ground.data }, { on := 62, ground := Go.Ground.guard }], guard := some (62, true) }) (v := ?v66_76) (by kernel_rfl) (tab_ns hT) (tab_free 73786976294838206463 hT (by kernel_rfl) (by kernel_rfl)) (tab_rdy 73786976294838206463 hT (by kernel_rfl) (by kernel_rfl) (by kernel_rfl)) (fun _ _ _ h => h) (Or.inl ⟨by kernel_rfl, ?hy66_76⟩) (by assumption) ?rest66_76
  case hy66_76 => (intro w9 hSw; clear hSw; go_simp; try with_reducible rfl)
  try simp only [Act.put, List.setIfInBounds_toArray, List.set_cons_zero, List.set_cons_succ, List.getElem_toArray, List.getElem_cons_zero, List.getElem_cons_succ]
  refine wpAnyH_take (i := 67) (oi := { dst := some 164, op := Go.Op.pick (Go.Operand.tmp 159) (Go.Operand.tmp 163) (Go.Operand.const (Go.Value.bool false)), type := 4, pos := "law.go:209", after := #[{ on := 62, ground := Go.Ground.data }, { on := 66, ground := Go.Ground.data }], guard := none }) (v := ?v67_77) (by kernel_rfl) (tab_ns hT) (tab_free 147573952589676412927 hT (by kernel_rfl) (by kernel_rfl)) (tab_rdy 147573952589676412927 hT (by kernel_rfl) (by kernel_rfl) (by kernel_rfl)) (fun _ _ _ h => h) (Or.inl ⟨by kernel_rfl, ?hy67_77⟩) (by assumption) ?rest67_77
  case hy67_77 => (intro w9 hSw; clear hSw; go_simp; try with_reducible rfl)
  try simp only [Act.put, List.setIfInBounds_toArray, List.set_cons_zero, List.set_cons_succ, List.getElem_toArray, List.getElem_cons_zero, List.getElem_cons_succ]
  refine wpAnyH_take (i := 68) (oi := { dst := some 165, op := Go.Op.move (Go.Operand.tmp 164), type := 4, pos := "law.go:209", after := #[{ on := 67, ground := Go.Ground.data }, { on := 62, ground := Go.Ground.chain }], guard := none }) (v := ?v68_78) (by kernel_rfl) (tab_ns hT) (tab_free 295147905179352825855 hT (by kernel_rfl) (by kernel_rfl)) (tab_rdy 295147905179352825855 hT (by kernel_rfl) (by kernel_rfl) (by kernel_rfl)) (fun _ _ _ h => h) (Or.inl ⟨by kernel_rfl, ?hy68_78⟩) (by assumption) ?rest68_78
  case hy68_78 => (intro w9 hSw; clear hSw; go_simp; try with_reducible rfl)
  try simp only [Act.put, List.setIfInBounds_toArray, List.set_cons_zero, List.set_cons_succ, List.getElem_toArray, List.getElem_cons_zero, List.getElem_cons_succ]
  refine wpAnyH_take (i := 69) (oi := { dst := some 166, op := Go.Op.move (Go.Operand.tmp 27), type := 30, pos := "law.go:209", after := #[{ on := 68, ground := Go.Ground.guard }], guard := some (68, true) }) (v := ?v69_79) (by kernel_rfl) (tab_ns hT) (tab_free 590295810358705651711 hT (by kernel_rfl) (by kernel_rfl)) (tab_rdy 590295810358705651711 hT (by kernel_rfl) (by kernel_rfl) (by kernel_rfl)) (fun _ _ _ h => h) (Or.inl ⟨by kernel_rfl, ?hy69_79⟩) (by assumption) ?rest69_79
  case hy69_79 => (intro w9 hSw; clear hSw; go_simp; try with_reducible rfl)
  try simp only [Act.put, List.setIfInBounds_toArray, List.set_cons_zero, List.set_cons_succ, List.getElem_toArray, List.getElem_cons_zero, List.getElem_cons_succ]
  refine wpAnyH_ready (rs := [70]) (tab_ready 1180591620717411303423 hT (by kernel_rfl) (by kernel_rfl) (by kernel_rfl)) (by simp) ?_
  refine AllReadyH.con1 (o := { dst := some 167, op := Go.Op.call { callee := Go.Callee.value (Go.Operand.func 12), args := #[Go.Operand.tmp 166], argTypes := #[30] }, type := 3, pos := "law.go:209", after := #[{ on := 69, ground := Go.Ground.data }, { on := 68, ground := Go.Ground.chain }, { on := 68, ground := Go.Ground.guard }], guard := some (68, true) }) (by kernel_rfl) (by kernel_rfl) (fun K hK => ?_) AllReadyH.nil
  go_simp
  with_reducible refine (wnum_any 10 _).mono ?_
  rintro e9 k22 ⟨rfl, hb⟩
  replace T2 := T2.on hb
  replace T8 := T8.on hb
  replace Fd9 := Fd9.on hb
  replace Fe9 := Fe9.on hb
  replace T9 := T9.on hb
  replace T10 := T10.on hb
  replace FE := FE.on hb
  replace FD := FD.on hb
  replace bz := bz.trans (hb.mono bz.size)
  clear hb
  clear hS; refine hK.out _ _ ⟨T2, T8, T9, T10⟩ (fun hS => ?_); clear hK K
  try simp only [Act.put, List.setIfInBounds_toArray, List.set_cons_zero, List.set_cons_succ, List.getElem_toArray, List.getElem_cons_zero, List.getElem_cons_succ]
  refine wpAnyH_take (i := 71) (oi := { dst := some 168, op := Go.Op.binOp Go.BinOp.eql 3 (Go.Operand.tmp 167) (Go.Operand.const (Go.Value.int Go.IntKind.i64 10)) 3, type := 4, pos := "law.go:209", after := #[{ on := 70, ground := Go.Ground.data }, { on := 68, ground := Go.Ground.guard }], guard := some (68, true) }) (v := ?v71_80) (by kernel_rfl) (tab_ns hT) (tab_free 2361183241434822606847 hT (by kernel_rfl) (by kernel_rfl)) (tab_rdy 2361183241434822606847 hT (by kernel_rfl) (by kernel_rfl) (by kernel_rfl)) (fun _ _ _ h => h) (Or.inl ⟨by kernel_rfl, ?hy71_80⟩) (by assumption) ?rest71_80
  case hy71_80 => (intro w9 hSw; clear hSw; go_simp; try with_reducible rfl)
  try simp only [Act.put, List.setIfInBounds_toArray, List.set_cons_zero, List.set_cons_succ, List.getElem_toArray, List.getElem_cons_zero, List.getElem_cons_succ]
  refine wpAnyH_take (i := 72) (oi := { dst := some 169, op := Go.Op.pick (Go.Operand.tmp 165) (Go.Operand.tmp 168) (Go.Operand.const (Go.Value.bool false)), type := 4, pos := "law.go:209", after := #[{ on := 68, ground := Go.Ground.data }, { on := 71, ground := Go.Ground.data }], guard := none }) (v := ?v72_81) (by kernel_rfl) (tab_ns hT) (tab_free 4722366482869645213695 hT (by kernel_rfl) (by kernel_rfl)) (tab_rdy 4722366482869645213695 hT (by kernel_rfl) (by kernel_rfl) (by kernel_rfl)) (fun _ _ _ h => h) (Or.inl ⟨by kernel_rfl, ?hy72_81⟩) (by assumption) ?rest72_81
  case hy72_81 => (intro w9 hSw; clear hSw; go_simp; try with_reducible rfl)
  try simp only [Act.put, List.setIfInBounds_toArray, List.set_cons_zero, List.set_cons_succ, List.getElem_toArray, List.getElem_cons_zero, List.getElem_cons_succ]
  refine wpAnyH_take (i := 73) (oi := { dst := some 170, op := Go.Op.move (Go.Operand.tmp 169), type := 4, pos := "law.go:209", after := #[{ on := 72, ground := Go.Ground.data }, { on := 70, ground := Go.Ground.chain }], guard := none }) (v := ?v73_82) (by kernel_rfl) (tab_ns hT) (tab_free 9444732965739290427391 hT (by kernel_rfl) (by kernel_rfl)) (tab_rdy 9444732965739290427391 hT (by kernel_rfl) (by kernel_rfl) (by kernel_rfl)) (fun _ _ _ h => h) (Or.inl ⟨by kernel_rfl, ?hy73_82⟩) (by assumption) ?rest73_82
  case hy73_82 => (intro w9 hSw; clear hSw; go_simp; try with_reducible rfl)
  try simp only [Act.put, List.setIfInBounds_toArray, List.set_cons_zero, List.set_cons_succ, List.getElem_toArray, List.getElem_cons_zero, List.getElem_cons_succ]
  refine wpAnyH_take (i := 74) (oi := { dst := some 171, op := Go.Op.move (Go.Operand.tmp 31), type := 30, pos := "law.go:209", after := #[{ on := 73, ground := Go.Ground.guard }], guard := some (73, true) }) (v := ?v74_83) (by kernel_rfl) (tab_ns hT) (tab_free 18889465931478580854783 hT (by kernel_rfl) (by kernel_rfl)) (tab_rdy 18889465931478580854783 hT (by kernel_rfl) (by kernel_rfl) (by kernel_rfl)) (fun _ _ _ h => h) (Or.inl ⟨by kernel_rfl, ?hy74_83⟩) (by assumption) ?rest74_83
  case hy74_83 => (intro w9 hSw; clear hSw; go_simp; try with_reducible rfl)
  try simp only [Act.put, List.setIfInBounds_toArray, List.set_cons_zero, List.set_cons_succ, List.getElem_toArray, List.getElem_cons_zero, List.getElem_cons_succ]
  refine wpAnyH_ready (rs := [75]) (tab_ready 37778931862957161709567 hT (by kernel_rfl) (by kernel_rfl) (by kernel_rfl)) (by simp) ?_
  refine AllReadyH.con1 (o := { dst := some 172, op := Go.Op.call { callee := Go.Callee.value (Go.Operand.func 12), args := #[Go.Operand.tmp 171], argTypes := #[30] }, type := 3, pos := "law.go:209", after := #[{ on := 74, ground := Go.Ground.data }, { on := 73, ground := Go.Ground.chain }, { on := 73, ground := Go.Ground.guard }], guard := some (73, true) }) (by kernel_rfl) (by kernel_rfl) (fun K hK => ?_) AllReadyH.nil
  go_simp
  with_reducible refine (wnum_any 2 _).mono ?_
  rintro e9 k23 ⟨rfl, hb⟩
  replace T2 := T2.on hb
  replace T8 := T8.on hb
  replace Fd9 := Fd9.on hb
  replace Fe9 := Fe9.on hb
  replace T9 := T9.on hb
  replace T10 := T10.on hb
  replace FE := FE.on hb
  replace FD := FD.on hb
  replace bz := bz.trans (hb.mono bz.size)
  clear hb
  clear hS; refine hK.out _ _ ⟨T2, T8, T9, T10⟩ (fun hS => ?_); clear hK K
  try simp only [Act.put, List.setIfInBounds_toArray, List.set_cons_zero, List.set_cons_succ, List.getElem_toArray, List.getElem_cons_zero, List.getElem_cons_succ]
  refine wpAnyH_take (i := 76) (oi := { dst := some 173, op := Go.Op.binOp Go.BinOp.eql 3 (Go.Operand.tmp 172) (Go.Operand.const (Go.Value.int Go.IntKind.i64 2)) 3, type := 4, pos := "law.go:209", after := #[{ on := 75, ground := Go.Ground.data }, { on := 73, ground := Go.Ground.guard }], guard := some (73, true) }) (v := ?v76_84) (by kernel_rfl) (tab_ns hT) (tab_free 75557863725914323419135 hT (by kernel_rfl) (by kernel_rfl)) (tab_rdy 75557863725914323419135 hT (by kernel_rfl) (by kernel_rfl) (by kernel_rfl)) (fun _ _ _ h => h) (Or.inl ⟨by kernel_rfl, ?hy76_84⟩) (by assumption) ?rest76_84
  case hy76_84 => (intro w9 hSw; clear hSw; go_simp; try with_reducible rfl)
  try simp only [Act.put, List.setIfInBounds_toArray, List.set_cons_zero, List.set_cons_succ, List.getElem_toArray, List.getElem_cons_zero, List.getElem_cons_succ]
  refine wpAnyH_take (i := 77) (oi := { dst := some 174, op := Go.Op.pick (Go.Operand.tmp 170) (Go.Operand.tmp 173) (Go.Operand.const (Go.Value.bool false)), type := 4, pos := "law.go:209", after := #[{ on := 73, ground := Go.Ground.data }, { on := 76, ground := Go.Ground.data }], guard := none }) (v := ?v77_85) (by kernel_rfl) (tab_ns hT) (tab_free 151115727451828646838271 hT (by kernel_rfl) (by kernel_rfl)) (tab_rdy 151115727451828646838271 hT (by kernel_rfl) (by kernel_rfl) (by kernel_rfl)) (fun _ _ _ h => h) (Or.inl ⟨by kernel_rfl, ?hy77_85⟩) (by assumption) ?rest77_85
  case hy77_85 => (intro w9 hSw; clear hSw; go_simp; try with_reducible rfl)
  try simp only [Act.put, List.setIfInBounds_toArray, List.set_cons_zero, List.set_cons_succ, List.getElem_toArray, List.getElem_cons_zero, List.getElem_cons_succ]
  refine wpAnyH_take (i := 78) (oi := { dst := some 175, op := Go.Op.move (Go.Operand.tmp 174), type := 4, pos := "law.go:209", after := #[{ on := 77, ground := Go.Ground.data }, { on := 75, ground := Go.Ground.chain }], guard := none }) (v := ?v78_86) (by kernel_rfl) (tab_ns hT) (tab_free 302231454903657293676543 hT (by kernel_rfl) (by kernel_rfl)) (tab_rdy 302231454903657293676543 hT (by kernel_rfl) (by kernel_rfl) (by kernel_rfl)) (fun _ _ _ h => h) (Or.inl ⟨by kernel_rfl, ?hy78_86⟩) (by assumption) ?rest78_86
  case hy78_86 => (intro w9 hSw; clear hSw; go_simp; try with_reducible rfl)
  try simp only [Act.put, List.setIfInBounds_toArray, List.set_cons_zero, List.set_cons_succ, List.getElem_toArray, List.getElem_cons_zero, List.getElem_cons_succ]
  refine wpAnyH_ready (rs := [79]) (tab_ready 604462909807314587353087 hT (by kernel_rfl) (by kernel_rfl) (by kernel_rfl)) (by simp) ?_
  refine AllReadyH.con1 (o := { dst := some 176, op := Go.Op.call { callee := Go.Callee.value (Go.Operand.func 8), args := #[], argTypes := #[] }, type := 4, pos := "law.go:209", after := #[{ on := 78, ground := Go.Ground.chain }, { on := 78, ground := Go.Ground.guard }], guard := some (78, true) }) (by kernel_rfl) (by kernel_rfl) (fun K hK => ?_) AllReadyH.nil
  go_simp
  with_reducible refine (pk _).mono ?_
  rintro e9 k24 ⟨rfl, hb⟩
  replace T2 := T2.on hb
  replace T8 := T8.on hb
  replace Fd9 := Fd9.on hb
  replace Fe9 := Fe9.on hb
  replace T9 := T9.on hb
  replace T10 := T10.on hb
  replace FE := FE.on hb
  replace FD := FD.on hb
  replace bz := bz.trans (hb.mono bz.size)
  clear hb
  clear hS; refine hK.out _ _ ⟨T2, T8, T9, T10⟩ (fun hS => ?_); clear hK K
  try simp only [Act.put, List.setIfInBounds_toArray, List.set_cons_zero, List.set_cons_succ, List.getElem_toArray, List.getElem_cons_zero, List.getElem_cons_succ]
  refine wpAnyH_take (i := 80) (oi := { dst := some 177, op := Go.Op.pick (Go.Operand.tmp 175) (Go.Operand.tmp 176) (Go.Operand.const (Go.Value.bool false)), type := 4, pos := "law.go:209", after := #[{ on := 78, ground := Go.Ground.data }, { on := 79, ground := Go.Ground.data }], guard := none }) (v := ?v80_87) (by kernel_rfl) (tab_ns hT) (tab_free 1208925819614629174706175 hT (by kernel_rfl) (by kernel_rfl)) (tab_rdy 1208925819614629174706175 hT (by kernel_rfl) (by kernel_rfl) (by kernel_rfl)) (fun _ _ _ h => h) (Or.inl ⟨by kernel_rfl, ?hy80_87⟩) (by assumption) ?rest80_87
  case hy80_87 => (intro w9 hSw; clear hSw; go_simp; try with_reducible rfl)
  try simp only [Act.put, List.setIfInBounds_toArray, List.set_cons_zero, List.set_cons_succ, List.getElem_toArray, List.getElem_cons_zero, List.getElem_cons_succ]
  refine wpAnyH_take (i := 81) (oi := { dst := some 0, op := Go.Op.assign (Go.Operand.tmp 177), type := 4, pos := "law.go:209", after := #[{ on := 80, ground := Go.Ground.data }, { on := 79, ground := Go.Ground.chain }, { on := 0, ground := Go.Ground.phase }, { on := 1, ground := Go.Ground.phase }, { on := 2, ground := Go.Ground.phase }, { on := 3, ground := Go.Ground.phase }, { on := 4, ground := Go.Ground.phase }, { on := 5, ground := Go.Ground.phase }, { on := 6, ground := Go.Ground.phase }, { on := 7, ground := Go.Ground.phase }, { on := 8, ground := Go.Ground.phase }, { on := 9, ground := Go.Ground.phase }, { on := 10, ground := Go.Ground.phase }, { on := 11, ground := Go.Ground.phase }, { on := 12, ground := Go.Ground.phase }, { on := 13, ground := Go.Ground.phase }, { on := 14, ground := Go.Ground.phase }, { on := 15, ground := Go.Ground.phase }, { on := 16, ground := Go.Ground.phase }, { on := 17, ground := Go.Ground.phase }, { on := 18, ground := Go.Ground.phase }, { on := 19, ground := Go.Ground.phase }, { on := 20, ground := Go.Ground.phase }, { on := 21, ground := Go.Ground.phase }, { on := 22, ground := Go.Ground.phase }, { on := 23, ground := Go.Ground.phase }, { on := 24, ground := Go.Ground.phase }, { on := 25, ground := Go.Ground.phase }, { on := 26, ground := Go.Ground.phase }, { on := 27, ground := Go.Ground.phase }, { on := 28, ground := Go.Ground.phase }, { on := 29, ground := Go.Ground.phase }, { on := 30, ground := Go.Ground.phase }, { on := 31, ground := Go.Ground.phase }, { on := 32, ground := Go.Ground.phase }, { on := 33, ground := Go.Ground.phase }, { on := 34, ground := Go.Ground.phase }, { on := 35, ground := Go.Ground.phase }, { on := 36, ground := Go.Ground.phase }, { on := 37, ground := Go.Ground.phase }, { on := 38, ground := Go.Ground.phase }, { on := 39, ground := Go.Ground.phase }, { on := 40, ground := Go.Ground.phase }, { on := 41, ground := Go.Ground.phase }, { on := 42, ground := Go.Ground.phase }, { on := 43, ground := Go.Ground.phase }, { on := 44, ground := Go.Ground.phase }, { on := 45, ground := Go.Ground.phase }, { on := 46, ground := Go.Ground.phase }, { on := 47, ground := Go.Ground.phase }, { on := 48, ground := Go.Ground.phase }, { on := 49, ground := Go.Ground.phase }, { on := 50, ground := Go.Ground.phase }, { on := 51, ground := Go.Ground.phase }, { on := 52, ground := Go.Ground.phase }, { on := 53, ground := Go.Ground.phase }, { on := 54, ground := Go.Ground.phase }, { on := 55, ground := Go.Ground.phase }, { on := 56, ground := Go.Ground.phase }, { on := 57, ground := Go.Ground.phase }, { on := 58, ground := Go.Ground.phase }, { on := 59, ground := Go.Ground.phase }, { on := 60, ground := Go.Ground.phase }, { on := 61, ground := Go.Ground.phase }, { on := 62, ground := Go.Ground.phase }, { on := 63, ground := Go.Ground.phase }, { on := 64, ground := Go.Ground.phase }, { on := 65, ground := Go.Ground.phase }, { on := 66, ground := Go.Ground.phase }, { on := 67, ground := Go.Ground.phase }, { on := 68, ground := Go.Ground.phase }, { on := 69, ground := Go.Ground.phase }, { on := 70, ground := Go.Ground.phase }, { on := 71, ground := Go.Ground.phase }, { on := 72, ground := Go.Ground.phase }, { on := 73, ground := Go.Ground.phase }, { on := 74, ground := Go.Ground.phase }, { on := 75, ground := Go.Ground.phase }, { on := 76, ground := Go.Ground.phase }, { on := 77, ground := Go.Ground.phase }, { on := 78, ground := Go.Ground.phase }, { on := 79, ground := Go.Ground.phase }, { on := 80, ground := Go.Ground.phase }], guard := none }) (v := ?v81_88) (by kernel_rfl) (tab_ns hT) (tab_free 2417851639229258349412351 hT (by kernel_rfl) (by kernel_rfl)) (tab_rdy 2417851639229258349412351 hT (by kernel_rfl) (by kernel_rfl) (by kernel_rfl)) (fun _ _ _ h => h) (Or.inl ⟨by kernel_rfl, ?hy81_88⟩) (by assumption) ?rest81_88
  case hy81_88 => (intro w9 hSw; clear hSw; go_simp; try with_reducible rfl)
  try simp only [Act.put, List.setIfInBounds_toArray, List.set_cons_zero, List.set_cons_succ, List.getElem_toArray, List.getElem_cons_zero, List.getElem_cons_succ]
  refine wpAnyH_done (tab_ready 4835703278458516698824703 hT (by kernel_rfl) (by kernel_rfl) (by kernel_rfl)) ?_ _
  go_wp2_with fail
  go_ret
  exact ⟨rfl, bz⟩
end Go.Proofs.Ytbaeabmmokgomaa
