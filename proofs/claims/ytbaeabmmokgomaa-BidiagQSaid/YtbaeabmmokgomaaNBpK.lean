/-
  Layer 11: the chapter's rows. (Written by wip/tools/gen_bpk.py.)
-/
import Derived.Test.YtbaeabmmokgomaaNBpD
import Derived.Test.YtbaeabmmokgomaaNP2
import Derived.Test.YtbaeabmmokgomaaNBpQ
import Derived.Test.YtbaeabmmokgomaaNB2
namespace Go.Proofs.Ytbaeabmmokgomaa
open Go.RowKit Go.Bw
set_option linter.unusedVariables false
set_option linter.unusedSimpArgs false
attribute [local go_sem] run_store_float
theorem fa_eq9 {x : Int} {W : Nat} (x0 : 0 ≤ x) (h : fa x = some W) : x = W := by
  unfold fa af at h
  split at h
  · cases h
  · have := Option.some.inj h; omega
theorem list_one9 {l : List Int} {x : Nat} (hl : l.length = 1) (hw : Wd l) (h : fa (D l 0) = some x) : l = [(x : Int)] := by
  obtain ⟨y, rfl⟩ := List.length_eq_one_iff.1 hl
  have := fa_eq9 (hw.at_ 0).1 h
  exact congrArg (fun z => [z]) this
theorem list_two9 {l : List Int} {x y : Nat} (hl : l.length = 2) (hw : Wd l) (h : fa (D l 0) = some x) (h2 : fa (D l 1) = some y) : l = [(x : Int), (y : Int)] := by
  rcases l with _ | ⟨a, _ | ⟨b, _ | ⟨c, r⟩⟩⟩
  · cases hl
  · cases hl
  · have q0 := fa_eq9 (hw.at_ 0).1 h
    have q1 := fa_eq9 (hw.at_ 1).1 h2
    have q0 : a = x := q0
    have q1 : b = y := q1
    rw [q0, q1]
  · simp at hl
theorem rl_none9 (w : World) : Rl w none 0 0 [] := (OwnR.nil w 0).rl (fun e h => by cases h)
theorem ev1 : mkB (bdX [4613937818241073152, 4616189618054758400] 2 1 0) = some 13840687554816376832 := by decide +kernel
theorem ev2 : mkB (bdX [4607182418800017408, 4611686018427387904, 0, 4613937818241073152] 2 2 0) = some 4607182418800017408 := by decide +kernel
theorem ev3 : mkT (bdX [4607182418800017408, 4611686018427387904, 0, 4613937818241073152] 2 2 0) = some 0 := by decide +kernel
theorem ev4 : mkB (bdX [4607182418800017408, 4611686018427387904, 0, 4613937818241073152] 2 2 1) = some 4613937818241073152 := by decide +kernel
/-- the second row's form -/
theorem row2 {Ls Ms : Nat → List Int} {d e : List Int} {hs gs : List Re} (K : BdK 2 2 2 Ls Ms d e hs gs) (h0 : Ls 0 = [4607182418800017408, 4611686018427387904, 0, 4613937818241073152]) : d = [4607182418800017408, 4613937818241073152] ∧ e = [4611686018427387904] := by
  have hl : 0 < hs.length := by rw [K.hl]; decide
  obtain ⟨_, h2, h3⟩ := K.hh 0 hs[0] (List.getElem?_eq_getElem hl)
  rw [h0, ev3] at h2
  rw [h0, h2] at h3
  have hM : SameF (Ms 0) [4607182418800017408, 4611686018427387904, 0, 4613937818241073152] := SameF.of h3.len (fun i hi => by
    rw [h3.len] at hi
    rw [h3.at_ i hi]
    unfold lT tg lP
    have e1 : eqA (some 0) (some 0) = true := by decide
    rw [e1]
    simp)
  have hS : Ls 1 = Ms 0 := K.still 0 (by omega) (by omega)
  refine ⟨list_two9 K.dl K.dw ?_ ?_, list_one9 K.el K.ew ?_⟩
  · rw [K.dd 0 (by omega), h0]; exact ev2
  · rw [K.dd 1 (by omega), hS, mkB_same (bdX_same hM 2 2 1)]; exact ev4
  · rw [K.ee 0 (by omega) (by omega), if_neg (by omega)]
    have h9 := hM.at_ 1
    exact h9.trans (by decide)
theorem row1 {Ls Ms : Nat → List Int} {d e : List Int} {hs gs : List Re} (K : BdK 2 1 1 Ls Ms d e hs gs) (h0 : Ls 0 = [4613937818241073152, 4616189618054758400]) : d = [13840687554816376832] ∧ e = [] := by
  refine ⟨list_one9 K.dl K.dw ?_, List.eq_nil_of_length_eq_zero K.el⟩
  rw [K.dd 0 (by omega), h0]; exact ev1
set_option maxRecDepth 100000 in
set_option maxHeartbeats 16000000 in
theorem known_any (w : World) : Calls Try.prog 8 #[] w (Ans w (.bool true)) := by
  have bz := Below.refl w.heap.size w
  go_enter Try.func8, Try.ntmps8
  replace bz := bz.alloc bz.size (.cells #[.float .f64 4613937818241073152, .float .f64 4616189618054758400] 49)
  have fb : FL (w.alloc (.cells #[.float .f64 4613937818241073152, .float .f64 4616189618054758400] 49)) (some ⟨w.heap.size, 0, none⟩) 2 2 [4613937818241073152, 4616189618054758400] := by have h9 := fl_built (W := w) (l := [4613937818241073152, 4616189618054758400]) (by intro x hx; simp at hx; omega) (by simp); exact h9
  have lb : w.heap.size < (w.alloc (.cells #[.float .f64 4613937818241073152, .float .f64 4616189618054758400] 49)).heap.size := by rw [World.size_alloc]; omega
  go_wp2_with fail
  with_reducible refine (wmat_any 2 1 _).mono ?_
  rintro e9 m1 ⟨rfl, hb⟩
  replace fb := fb.on hb
  replace bz := bz.trans (hb.mono bz.size)
  replace lb := Nat.lt_of_lt_of_le lb hb.size
  clear hb
  obtain ⟨hb1, eb1⟩ : ∃ x, w.heap.size = x := ⟨_, rfl⟩
  rw [eb1] at fb lb
  try simp only [eb1] at ⊢
  clear eb1
  have pr : Calls Try.prog 9 #[mV 2 1 (some ⟨hb1, 0, none⟩) 2 2] m1 (BdG m1 2 1 [4613937818241073152, 4616189618054758400]) := gReduce_yes (m := 2) (n := 1) fb rfl (by omega) (by omega) (by decide) (fun x e9 => by injection e9 with e9; subst e9; exact lb)
  have PR := Lib.hid pr
  clear pr fb lb
  go_wp2_with fail
  with_reducible refine PR.out.mono ?_
  rintro e9 w1 ⟨Ls, Ms, Ad1, cd1, d1, Ae1, ce1, e1, Ah1, ch1, hs1, Ag1, cg1, gs1, rfl, Fd1, Fe1, _, _, K, hL, hb⟩
  clear PR
  replace bz := bz.trans (hb.mono bz.size)
  clear hb
  obtain ⟨rfl, rfl⟩ := row1 K hL
  have hh := K.hl
  have hg := K.gl
  rw [hh, hg]
  clear hh hg K hL
  replace Fd1 : FL w1 Ad1 1 cd1 [13840687554816376832] := Fd1
  replace Fe1 : FL w1 Ae1 0 ce1 [] := Fe1
  have T1 := Blk.new w1 [.slice Ad1 1 cd1, .slice Ae1 0 ce1] 28
  obtain ⟨t1, et1⟩ : ∃ H, w1.heap.size = H := ⟨_, rfl⟩
  rw [et1] at T1
  have hbA := (Below.refl _ w1).alloc (Nat.le_refl _) (.cells #[.slice Ad1 1 cd1, .slice Ae1 0 ce1] 28)
  replace Fd1 := Fd1.on hbA
  replace Fe1 := Fe1.on hbA
  clear hbA
  replace bz := bz.alloc bz.size (.cells #[.slice Ad1 1 cd1, .slice Ae1 0 ce1] 28)
  go_upto_region 2 with fail
  try simp only [et1] at ⊢
  generalize w1.alloc (.cells #[.slice Ad1 1 cd1, .slice Ae1 0 ce1] 28) = V1 at Fd1 Fe1 T1 bz ⊢
  clear et1
  have hbA := (Below.refl _ V1).alloc (Nat.le_refl _) (.cells #[.float .f64 4607182418800017408, .float .f64 4611686018427387904, .float .f64 0, .float .f64 4613937818241073152] 49)
  replace Fd1 := Fd1.on hbA
  replace Fe1 := Fe1.on hbA
  replace T1 := T1.on hbA
  clear hbA
  replace bz := bz.alloc bz.size (.cells #[.float .f64 4607182418800017408, .float .f64 4611686018427387904, .float .f64 0, .float .f64 4613937818241073152] 49)
  have fb : FL (V1.alloc (.cells #[.float .f64 4607182418800017408, .float .f64 4611686018427387904, .float .f64 0, .float .f64 4613937818241073152] 49)) (some ⟨V1.heap.size, 0, none⟩) 4 4 [4607182418800017408, 4611686018427387904, 0, 4613937818241073152] := by have h9 := fl_built (W := V1) (l := [4607182418800017408, 4611686018427387904, 0, 4613937818241073152]) (by intro x hx; simp at hx; omega) (by simp); exact h9
  have lb : V1.heap.size < (V1.alloc (.cells #[.float .f64 4607182418800017408, .float .f64 4611686018427387904, .float .f64 0, .float .f64 4613937818241073152] 49)).heap.size := by rw [World.size_alloc]; omega
  go_wp2_with fail
  with_reducible refine (wmat_any 2 2 _).mono ?_
  rintro e9 m2 ⟨rfl, hb⟩
  replace Fd1 := Fd1.on hb
  replace Fe1 := Fe1.on hb
  replace T1 := T1.on hb
  replace fb := fb.on hb
  replace bz := bz.trans (hb.mono bz.size)
  replace lb := Nat.lt_of_lt_of_le lb hb.size
  clear hb
  obtain ⟨hb2, eb2⟩ : ∃ x, V1.heap.size = x := ⟨_, rfl⟩
  rw [eb2] at fb lb
  try simp only [eb2] at ⊢
  clear eb2
  have pr : Calls Try.prog 9 #[mV 2 2 (some ⟨hb2, 0, none⟩) 4 4] m2 (BdG m2 2 2 [4607182418800017408, 4611686018427387904, 0, 4613937818241073152]) := gReduce_yes (m := 2) (n := 2) fb rfl (by omega) (by omega) (by decide) (fun x e9 => by injection e9 with e9; subst e9; exact lb)
  have PR := Lib.hid pr
  clear pr fb lb
  go_wp2_with fail
  with_reducible refine PR.out.mono ?_
  rintro e9 w2 ⟨Ls, Ms, Ad2, cd2, d2, Ae2, ce2, e2, Ah2, ch2, hs2, Ag2, cg2, gs2, rfl, Fd2, Fe2, _, _, K, hL, hb⟩
  clear PR
  replace Fd1 := Fd1.on hb
  replace Fe1 := Fe1.on hb
  replace T1 := T1.on hb
  replace bz := bz.trans (hb.mono bz.size)
  clear hb
  obtain ⟨rfl, rfl⟩ := row2 K hL
  have hh := K.hl
  have hg := K.gl
  rw [hh, hg]
  clear hh hg K hL
  replace Fd2 : FL w2 Ad2 2 cd2 [4607182418800017408, 4613937818241073152] := Fd2
  replace Fe2 : FL w2 Ae2 1 ce2 [4611686018427387904] := Fe2
  have T2 := Blk.new w2 [.slice Ad2 2 cd2, .slice Ae2 1 ce2] 28
  obtain ⟨t2, et2⟩ : ∃ H, w2.heap.size = H := ⟨_, rfl⟩
  rw [et2] at T2
  have hbA := (Below.refl _ w2).alloc (Nat.le_refl _) (.cells #[.slice Ad2 2 cd2, .slice Ae2 1 ce2] 28)
  replace Fd1 := Fd1.on hbA
  replace Fe1 := Fe1.on hbA
  replace T1 := T1.on hbA
  replace Fd2 := Fd2.on hbA
  replace Fe2 := Fe2.on hbA
  clear hbA
  replace bz := bz.alloc bz.size (.cells #[.slice Ad2 2 cd2, .slice Ae2 1 ce2] 28)
  go_upto_region 3 with fail
  try simp only [et2] at ⊢
  generalize w2.alloc (.cells #[.slice Ad2 2 cd2, .slice Ae2 1 ce2] 28) = V2 at Fd1 Fe1 T1 Fd2 Fe2 T2 bz ⊢
  clear et2
  have hbA := (Below.refl _ V2).alloc (Nat.le_refl _) (.cells #[.float .f64 4607182418800017408, .float .f64 4611686018427387904] 49)
  replace Fd1 := Fd1.on hbA
  replace Fe1 := Fe1.on hbA
  replace T1 := T1.on hbA
  replace Fd2 := Fd2.on hbA
  replace Fe2 := Fe2.on hbA
  replace T2 := T2.on hbA
  clear hbA
  replace bz := bz.alloc bz.size (.cells #[.float .f64 4607182418800017408, .float .f64 4611686018427387904] 49)
  have fb : FL (V2.alloc (.cells #[.float .f64 4607182418800017408, .float .f64 4611686018427387904] 49)) (some ⟨V2.heap.size, 0, none⟩) 2 2 [4607182418800017408, 4611686018427387904] := by have h9 := fl_built (W := V2) (l := [4607182418800017408, 4611686018427387904]) (by intro x hx; simp at hx; omega) (by simp); exact h9
  have lb : V2.heap.size < (V2.alloc (.cells #[.float .f64 4607182418800017408, .float .f64 4611686018427387904] 49)).heap.size := by rw [World.size_alloc]; omega
  go_wp2_with fail
  with_reducible refine (wmat_any 1 2 _).mono ?_
  rintro e9 m3 ⟨rfl, hb⟩
  replace Fd1 := Fd1.on hb
  replace Fe1 := Fe1.on hb
  replace T1 := T1.on hb
  replace Fd2 := Fd2.on hb
  replace Fe2 := Fe2.on hb
  replace T2 := T2.on hb
  replace fb := fb.on hb
  replace bz := bz.trans (hb.mono bz.size)
  replace lb := Nat.lt_of_lt_of_le lb hb.size
  clear hb
  obtain ⟨hb3, eb3⟩ : ∃ x, V2.heap.size = x := ⟨_, rfl⟩
  rw [eb3] at fb lb
  try simp only [eb3] at ⊢
  clear eb3
  have pr : Calls Try.prog 9 #[mV 1 2 (some ⟨hb3, 0, none⟩) 2 2] m3 (BdN m3 8) := gReduce_no fb (by decide) (by decide)
  have PR := Lib.hid pr
  clear pr fb lb
  go_wp2_with fail
  with_reducible refine PR.out.mono ?_
  rintro e9 w3 ⟨rfl, hb⟩
  clear PR
  replace Fd1 := Fd1.on hb
  replace Fe1 := Fe1.on hb
  replace T1 := T1.on hb
  replace Fd2 := Fd2.on hb
  replace Fe2 := Fe2.on hb
  replace T2 := T2.on hb
  replace bz := bz.trans (hb.mono bz.size)
  clear hb
  have T3 := Blk.new w3 [.slice none 0 0, .slice none 0 0] 28
  obtain ⟨t3, et3⟩ : ∃ H, w3.heap.size = H := ⟨_, rfl⟩
  rw [et3] at T3
  have hbA := (Below.refl _ w3).alloc (Nat.le_refl _) (.cells #[.slice none 0 0, .slice none 0 0] 28)
  replace Fd1 := Fd1.on hbA
  replace Fe1 := Fe1.on hbA
  replace T1 := T1.on hbA
  replace Fd2 := Fd2.on hbA
  replace Fe2 := Fe2.on hbA
  replace T2 := T2.on hbA
  clear hbA
  replace bz := bz.alloc bz.size (.cells #[.slice none 0 0, .slice none 0 0] 28)
  go_upto_region 4 with fail
  try simp only [et3] at ⊢
  generalize w3.alloc (.cells #[.slice none 0 0, .slice none 0 0] 28) = V3 at Fd1 Fe1 T1 Fd2 Fe2 T2 T3 bz ⊢
  clear et3
  have pq : Calls Try.prog 17 #[.int .i64 2, .int .i64 0, .slice none 0 0] V3 (GqP V3 2 0 0 (fun L => ∃ Qs, TqL 2 0 0 [] Qs ∧ Qs 0 = L)) := gQ_yes (m := 2) (n := 0) (rl_none9 _) (by decide) (by omega) (by omega) rfl ⟨rfl, fun k r h => by simp at h⟩
  have PQ := Lib.hid pq
  clear pq
  go_wp2_with fail
  with_reducible refine PQ.out.mono ?_
  rintro e9 w4 ⟨A4, c4, L4, rfl, _, _, hb⟩
  clear PQ
  replace Fd1 := Fd1.on hb
  replace Fe1 := Fe1.on hb
  replace T1 := T1.on hb
  replace Fd2 := Fd2.on hb
  replace Fe2 := Fe2.on hb
  replace T2 := T2.on hb
  replace T3 := T3.on hb
  replace bz := bz.trans (hb.mono bz.size)
  clear hb
  have T4 := Blk.new w4 [.int .i64 2, .int .i64 0, .slice A4 0 c4] 24
  obtain ⟨t4, et4⟩ : ∃ H, w4.heap.size = H := ⟨_, rfl⟩
  rw [et4] at T4
  have hbA := (Below.refl _ w4).alloc (Nat.le_refl _) (.cells #[.int .i64 2, .int .i64 0, .slice A4 0 c4] 24)
  replace Fd1 := Fd1.on hbA
  replace Fe1 := Fe1.on hbA
  replace T1 := T1.on hbA
  replace Fd2 := Fd2.on hbA
  replace Fe2 := Fe2.on hbA
  replace T2 := T2.on hbA
  replace T3 := T3.on hbA
  clear hbA
  replace bz := bz.alloc bz.size (.cells #[.int .i64 2, .int .i64 0, .slice A4 0 c4] 24)
  go_upto_region 5 with fail
  try simp only [et4] at ⊢
  generalize w4.alloc (.cells #[.int .i64 2, .int .i64 0, .slice A4 0 c4] 24) = V4 at Fd1 Fe1 T1 Fd2 Fe2 T2 T3 T4 bz ⊢
  clear et4
  have pq : Calls Try.prog 21 #[.int .i64 0, .slice none 0 0] V4 (GqP V4 0 0 0 (fun L => ∃ Qs, Tq 0 0 0 [] Qs ∧ Qs 0 = L)) := gP_yes0 (rl_none9 _) (by decide) rfl ⟨rfl, fun k r h => by simp at h⟩
  have PQ := Lib.hid pq
  clear pq
  go_wp2_with fail
  with_reducible refine PQ.out.mono ?_
  rintro e9 w5 ⟨A5, c5, L5, rfl, _, _, hb⟩
  clear PQ
  replace Fd1 := Fd1.on hb
  replace Fe1 := Fe1.on hb
  replace T1 := T1.on hb
  replace Fd2 := Fd2.on hb
  replace Fe2 := Fe2.on hb
  replace T2 := T2.on hb
  replace T3 := T3.on hb
  replace T4 := T4.on hb
  replace bz := bz.trans (hb.mono bz.size)
  clear hb
  have T5 := Blk.new w5 [.int .i64 0, .int .i64 0, .slice A5 0 c5] 24
  obtain ⟨t5, et5⟩ : ∃ H, w5.heap.size = H := ⟨_, rfl⟩
  rw [et5] at T5
  have hbA := (Below.refl _ w5).alloc (Nat.le_refl _) (.cells #[.int .i64 0, .int .i64 0, .slice A5 0 c5] 24)
  replace Fd1 := Fd1.on hbA
  replace Fe1 := Fe1.on hbA
  replace T1 := T1.on hbA
  replace Fd2 := Fd2.on hbA
  replace Fe2 := Fe2.on hbA
  replace T2 := T2.on hbA
  replace T3 := T3.on hbA
  replace T4 := T4.on hbA
  clear hbA
  replace bz := bz.alloc bz.size (.cells #[.int .i64 0, .int .i64 0, .slice A5 0 c5] 24)
  go_upto_region 6 with fail
  try simp only [et5] at ⊢
  generalize w5.alloc (.cells #[.int .i64 0, .int .i64 0, .slice A5 0 c5] 24) = V5 at Fd1 Fe1 T1 Fd2 Fe2 T2 T3 T4 T5 bz ⊢
  clear et5
  skip
  go_wp2_with fail
  with_reducible refine (wnum_any 0 _).mono ?_
  rintro e9 n1 ⟨rfl, hb⟩
  replace Fd1 := Fd1.on hb
  replace Fe1 := Fe1.on hb
  replace T1 := T1.on hb
  replace Fd2 := Fd2.on hb
  replace Fe2 := Fe2.on hb
  replace T2 := T2.on hb
  replace T3 := T3.on hb
  replace T4 := T4.on hb
  replace T5 := T5.on hb
  replace bz := bz.trans (hb.mono bz.size)
  clear hb
  go_wp2_with fail
  with_reducible refine (wnum_any 0 _).mono ?_
  rintro e9 n2 ⟨rfl, hb⟩
  replace Fd1 := Fd1.on hb
  replace Fe1 := Fe1.on hb
  replace T1 := T1.on hb
  replace Fd2 := Fd2.on hb
  replace Fe2 := Fe2.on hb
  replace T2 := T2.on hb
  replace T3 := T3.on hb
  replace T4 := T4.on hb
  replace T5 := T5.on hb
  replace bz := bz.trans (hb.mono bz.size)
  clear hb
  go_wp2_with fail
  with_reducible refine (wnum_any 0 _).mono ?_
  rintro e9 n3 ⟨rfl, hb⟩
  replace Fd1 := Fd1.on hb
  replace Fe1 := Fe1.on hb
  replace T1 := T1.on hb
  replace Fd2 := Fd2.on hb
  replace Fe2 := Fe2.on hb
  replace T2 := T2.on hb
  replace T3 := T3.on hb
  replace T4 := T4.on hb
  replace T5 := T5.on hb
  replace bz := bz.trans (hb.mono bz.size)
  clear hb
  go_wp2_with fail
  with_reducible refine (wnum_any 0 _).mono ?_
  rintro e9 n4 ⟨rfl, hb⟩
  replace Fd1 := Fd1.on hb
  replace Fe1 := Fe1.on hb
  replace T1 := T1.on hb
  replace Fd2 := Fd2.on hb
  replace Fe2 := Fe2.on hb
  replace T2 := T2.on hb
  replace T3 := T3.on hb
  replace T4 := T4.on hb
  replace T5 := T5.on hb
  replace bz := bz.trans (hb.mono bz.size)
  clear hb
  obtain ⟨q0, q1, _, _⟩ := Tbx.cells T1
  have hbA := (Below.refl _ n4).alloc (Nat.le_refl _) (.cells #[.float .f64 13840687554816376832] 49)
  replace Fd1 := Fd1.on hbA
  replace Fe1 := Fe1.on hbA
  replace T1 := T1.on hbA
  replace Fd2 := Fd2.on hbA
  replace Fe2 := Fe2.on hbA
  replace T2 := T2.on hbA
  replace T3 := T3.on hbA
  replace T4 := T4.on hbA
  replace T5 := T5.on hbA
  clear hbA
  replace bz := bz.alloc bz.size (.cells #[.float .f64 13840687554816376832] 49)
  have fd : FL (n4.alloc (.cells #[.float .f64 13840687554816376832] 49)) (some ⟨n4.heap.size, 0, none⟩) 1 1 [13840687554816376832] := by have h9 := fl_built (W := n4) (l := [13840687554816376832]) (by intro x hx; simp at hx; omega) (by simp); exact h9
  have fe := FL.nil (n4.alloc (.cells #[.float .f64 13840687554816376832] 49))
  have ps : Hid (Calls Try.prog 14 #[tV Ad1 1 cd1 Ae1 0 ce1, tV (some ⟨n4.heap.size, 0, none⟩) 1 1 none 0 0] (n4.alloc (.cells #[.float .f64 13840687554816376832] 49)) (Ans (n4.alloc (.cells #[.float .f64 13840687554816376832] 49)) (.bool true))) := Lib.hid (by have h9 := wsameBi_any Fd1 Fe1 fd fe; rw [show (sameL [13840687554816376832] [13840687554816376832] && sameL [] []) = true by decide] at h9; exact h9)
  clear fd fe
  go_wp2_with fail
  clear q0 q1
  with_reducible refine ps.out.mono ?_
  rintro e9 s1 ⟨rfl, hb⟩
  clear ps
  replace Fd1 := Fd1.on hb
  replace Fe1 := Fe1.on hb
  replace T1 := T1.on hb
  replace Fd2 := Fd2.on hb
  replace Fe2 := Fe2.on hb
  replace T2 := T2.on hb
  replace T3 := T3.on hb
  replace T4 := T4.on hb
  replace T5 := T5.on hb
  replace bz := bz.trans (hb.mono bz.size)
  clear hb
  obtain ⟨q0, q1, _, _⟩ := Tbx.cells T2
  have hbA := (Below.refl _ s1).alloc (Nat.le_refl _) (.cells #[.float .f64 4607182418800017408, .float .f64 4613937818241073152] 49)
  replace Fd1 := Fd1.on hbA
  replace Fe1 := Fe1.on hbA
  replace T1 := T1.on hbA
  replace Fd2 := Fd2.on hbA
  replace Fe2 := Fe2.on hbA
  replace T2 := T2.on hbA
  replace T3 := T3.on hbA
  replace T4 := T4.on hbA
  replace T5 := T5.on hbA
  clear hbA
  replace bz := bz.alloc bz.size (.cells #[.float .f64 4607182418800017408, .float .f64 4613937818241073152] 49)
  have fd : FL (s1.alloc (.cells #[.float .f64 4607182418800017408, .float .f64 4613937818241073152] 49)) (some ⟨s1.heap.size, 0, none⟩) 2 2 [4607182418800017408, 4613937818241073152] := by have h9 := fl_built (W := s1) (l := [4607182418800017408, 4613937818241073152]) (by intro x hx; simp at hx; omega) (by simp); exact h9
  have hbA := (Below.refl _ (s1.alloc (.cells #[.float .f64 4607182418800017408, .float .f64 4613937818241073152] 49))).alloc (Nat.le_refl _) (.cells #[.float .f64 4611686018427387904] 49)
  replace Fd1 := Fd1.on hbA
  replace Fe1 := Fe1.on hbA
  replace T1 := T1.on hbA
  replace Fd2 := Fd2.on hbA
  replace Fe2 := Fe2.on hbA
  replace T2 := T2.on hbA
  replace T3 := T3.on hbA
  replace T4 := T4.on hbA
  replace T5 := T5.on hbA
  replace fd := fd.on hbA
  clear hbA
  replace bz := bz.alloc bz.size (.cells #[.float .f64 4611686018427387904] 49)
  have fe : FL ((s1.alloc (.cells #[.float .f64 4607182418800017408, .float .f64 4613937818241073152] 49)).alloc (.cells #[.float .f64 4611686018427387904] 49)) (some ⟨(s1.alloc (.cells #[.float .f64 4607182418800017408, .float .f64 4613937818241073152] 49)).heap.size, 0, none⟩) 1 1 [4611686018427387904] := by have h9 := fl_built (W := (s1.alloc (.cells #[.float .f64 4607182418800017408, .float .f64 4613937818241073152] 49))) (l := [4611686018427387904]) (by intro x hx; simp at hx; omega) (by simp); exact h9
  rw [World.size_alloc] at fe
  have ps : Hid (Calls Try.prog 14 #[tV Ad2 2 cd2 Ae2 1 ce2, tV (some ⟨s1.heap.size, 0, none⟩) 2 2 (some ⟨s1.heap.size + 1, 0, none⟩) 1 1] ((s1.alloc (.cells #[.float .f64 4607182418800017408, .float .f64 4613937818241073152] 49)).alloc (.cells #[.float .f64 4611686018427387904] 49)) (Ans ((s1.alloc (.cells #[.float .f64 4607182418800017408, .float .f64 4613937818241073152] 49)).alloc (.cells #[.float .f64 4611686018427387904] 49)) (.bool true))) := Lib.hid (by have h9 := wsameBi_any Fd2 Fe2 fd fe; rw [show (sameL [4607182418800017408, 4613937818241073152] [4607182418800017408, 4613937818241073152] && sameL [4611686018427387904] [4611686018427387904]) = true by decide] at h9; exact h9)
  clear fd fe
  go_wp2_with fail
  clear q0 q1
  with_reducible refine ps.out.mono ?_
  rintro e9 s2 ⟨rfl, hb⟩
  clear ps
  replace Fd1 := Fd1.on hb
  replace Fe1 := Fe1.on hb
  replace T1 := T1.on hb
  replace Fd2 := Fd2.on hb
  replace Fe2 := Fe2.on hb
  replace T2 := T2.on hb
  replace T3 := T3.on hb
  replace T4 := T4.on hb
  replace T5 := T5.on hb
  replace bz := bz.trans (hb.mono bz.size)
  clear hb
  go_wp2_with fail
  with_reducible refine (wnum_any 8 _).mono ?_
  rintro e9 n5 ⟨rfl, hb⟩
  replace Fd1 := Fd1.on hb
  replace Fe1 := Fe1.on hb
  replace T1 := T1.on hb
  replace Fd2 := Fd2.on hb
  replace Fe2 := Fe2.on hb
  replace T2 := T2.on hb
  replace T3 := T3.on hb
  replace T4 := T4.on hb
  replace T5 := T5.on hb
  replace bz := bz.trans (hb.mono bz.size)
  clear hb
  obtain ⟨y0, y1, y2, _, _, _⟩ := Mbx.cells T4
  obtain ⟨z0, z1, z2, _, _, _⟩ := Mbx.cells T5
  go_wp2_with fail
  go_ret
  exact ⟨rfl, bz⟩
end Go.Proofs.Ytbaeabmmokgomaa
