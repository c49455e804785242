/-
  Layer 10: the chapter's rows. (Written by wip/tools/gen_tdy.py.)
-/
import Derived.Test.YtaemkjcmjgefeaaTdS
import Derived.Test.YtaemkjcmjgefeaaTdX
namespace Go.Proofs.Ytaemkjcmjgefeaa
open Go.RowKit Go.Bw
set_option linter.unusedVariables false
set_option linter.unusedSimpArgs false
attribute [local go_sem] run_store_float
theorem af_eq {r W : Nat} (h : af r = some W) : r = W := by
  unfold af at h
  split at h
  · cases h
  · exact Option.some.inj h
theorem fa_eq {x : Int} {W : Nat} (x0 : 0 ≤ x) (h : fa x = some W) : x = W := by
  unfold fa at h
  have := af_eq h
  omega
theorem ev_b : tdB [4607182418800017408, 4613937818241073152, 4616189618054758400, 4613937818241073152, 0, 0, 4616189618054758400, 0, 0] 3 0 = some 13840687554816376832 := by decide +kernel
/-- the floats of a list, read -/
theorem fl_two {w : World} {A : Option Addr} {c : Nat} {l : List Int} {x y : Nat} (h : FL w A 2 c l) (hx : fa (D l 0) = some x) (hy : fa (D l 1) = some y) : ∃ ad, A = some ad ∧ w.cell? ad = some (.float .f64 x) ∧ w.cell? (ad.add 0) = some (.float .f64 x) ∧ w.cell? (ad.add 1) = some (.float .f64 y) ∧ w.cell? ⟨ad.block, ad.off + 1, none⟩ = some (.float .f64 y) := by
  obtain ⟨ad, e, _, h0⟩ := h.at_ (k := 0) (by omega)
  obtain ⟨ad2, e2, _, h1⟩ := h.at_ (k := 1) (by omega)
  rw [e] at e2
  injection e2 with e2
  subst e2
  have q0 : (D l 0).toNat = x := by rw [fa_eq (h.2.2.at_ 0).1 hx]; rfl
  have q1 : (D l 1).toNat = y := by rw [fa_eq (h.2.2.at_ 1).1 hy]; rfl
  rw [q0] at h0
  rw [q1] at h1
  subst e
  have h9 := h.head (by omega)
  rw [q0] at h9
  exact ⟨ad, rfl, h9, h0, h1, h1⟩
theorem fl_one {w : World} {A : Option Addr} {c : Nat} {l : List Int} {x : Nat} (h : FL w A 1 c l) (hx : fa (D l 0) = some x) : ∃ ad, A = some ad ∧ w.cell? ad = some (.float .f64 x) ∧ w.cell? (ad.add 0) = some (.float .f64 x) := by
  obtain ⟨ad, e, _, h0⟩ := h.at_ (k := 0) (by omega)
  have q0 : (D l 0).toNat = x := by rw [fa_eq (h.2.2.at_ 0).1 hx]; rfl
  rw [q0] at h0
  subst e
  have h9 := h.head (by omega)
  rw [q0] at h9
  exact ⟨ad, rfl, h9, h0⟩
theorem rl_none (w : World) : Rl w none 0 0 [] := (OwnR.nil w 0).rl (fun e h => by cases h)
set_option maxRecDepth 100000 in
set_option maxHeartbeats 16000000 in
theorem known_any (w : World) : Calls Try.prog 6 #[] w (Ans w (.bool true)) := by
  have bz := Below.refl w.heap.size w
  have o88 : (FloatKind.f64.format.order 4611686018427387904 4611686018427387904 == some .eq) = true := by decide
  have o96 : (FloatKind.f64.format.order 4613937818241073152 4613937818241073152 == some .eq) = true := by decide
  have o72 : (FloatKind.f64.format.order 4607182418800017408 4607182418800017408 == some .eq) = true := by decide
  have o90 : (FloatKind.f64.format.order 13840687554816376832 13840687554816376832 == some .eq) = true := by decide
  go_enter Try.func6, Try.ntmps6
  replace bz := bz.alloc bz.size (.cells #[.float .f64 4611686018427387904, .float .f64 4607182418800017408, .float .f64 4607182418800017408, .float .f64 4613937818241073152] 39)
  have fb : FL (w.alloc (.cells #[.float .f64 4611686018427387904, .float .f64 4607182418800017408, .float .f64 4607182418800017408, .float .f64 4613937818241073152] 39)) (some ⟨w.heap.size, 0, none⟩) 4 4 [4611686018427387904, 4607182418800017408, 4607182418800017408, 4613937818241073152] := by have h9 := fl_built (W := w) (l := [4611686018427387904, 4607182418800017408, 4607182418800017408, 4613937818241073152]) (by intro x hx; simp at hx; omega) (by simp); exact h9
  obtain ⟨V1, hV1⟩ : ∃ x, (w.alloc (.cells #[.float .f64 4611686018427387904, .float .f64 4607182418800017408, .float .f64 4607182418800017408, .float .f64 4613937818241073152] 39)) = x := ⟨_, rfl⟩
  have sz1 : w.heap.size = w.heap.size := rfl
  have pr : Calls Try.prog 8 #[mV 2 2 (some ⟨w.heap.size, 0, none⟩) 4 4] (w.alloc (.cells #[.float .f64 4611686018427387904, .float .f64 4607182418800017408, .float .f64 4607182418800017408, .float .f64 4613937818241073152] 39)) (GrP (w.alloc (.cells #[.float .f64 4611686018427387904, .float .f64 4607182418800017408, .float .f64 4607182418800017408, .float .f64 4613937818241073152] 39)) 2 [4611686018427387904, 4607182418800017408, 4607182418800017408, 4613937818241073152]) := gReduce_yes (n := 2) fb rfl (by omega) (by decide)
  have PR := Lib.hid pr
  clear pr fb hV1 sz1
  go_wp2_with fail
  with_reducible refine PR.out.mono ?_
  rintro e9 w1 ⟨Ls1, Ad1, cd1, d1, Ae1, ce1, e1, Ah1, ch1, hs1, rfl, Fd1, Fe1, Rh1, T1, hL1, hb⟩
  clear PR
  replace bz := bz.trans (hb.mono bz.size)
  clear hb
  have hd1 : d1.length = 2 := T1.dl
  have he1 : e1.length = 1 := T1.el
  have hh1 : hs1.length = 0 := T1.hl
  rw [hd1] at Fd1
  rw [he1] at Fe1
  rw [hd1, he1, hh1]
  clear hd1 he1 hh1 Rh1
  have x1 : fa (D d1 0) = some 4611686018427387904 := (T1.dd 0 (by omega)).trans (by show ma (Ls1 0) 2 0 0 = _; rw [hL1]; decide +kernel)
  have x2 : fa (D d1 1) = some 4613937818241073152 := (T1.dd 1 (by omega)).trans (by show ma (Ls1 0) 2 1 1 = _; rw [hL1]; decide +kernel)
  have x3 : fa (D e1 0) = some 4607182418800017408 := (T1.ee 0 (by omega)).trans (by show ma (Ls1 0) 2 1 0 = _; rw [hL1]; decide +kernel)
  have X1 := Lib.hid x1
  have X2 := Lib.hid x2
  have X3 := Lib.hid x3
  clear x1 x2 x3 T1 hL1
  have T1 := Blk.new w1 [.slice Ad1 2 cd1, .slice Ae1 1 ce1] 28
  obtain ⟨b1, eb1⟩ : ∃ H, w1.heap.size = H := ⟨_, rfl⟩
  rw [eb1] at T1
  have hbA := (Below.refl _ w1).alloc (Nat.le_refl _) (.cells #[.slice Ad1 2 cd1, .slice Ae1 1 ce1] 28)
  replace Fd1 := Fd1.on hbA
  replace Fe1 := Fe1.on hbA
  clear hbA
  replace bz := bz.alloc bz.size (.cells #[.slice Ad1 2 cd1, .slice Ae1 1 ce1] 28)
  go_upto_region 2 with fail
  try simp only [eb1] at ⊢
  generalize w1.alloc (.cells #[.slice Ad1 2 cd1, .slice Ae1 1 ce1] 28) = V1 at Fd1 Fe1 T1 bz ⊢
  clear eb1
  have hbA := (Below.refl _ V1).alloc (Nat.le_refl _) (.cells #[.float .f64 4607182418800017408, .float .f64 4613937818241073152, .float .f64 4616189618054758400, .float .f64 4613937818241073152, .float .f64 0, .float .f64 0, .float .f64 4616189618054758400, .float .f64 0, .float .f64 0] 39)
  replace Fd1 := Fd1.on hbA
  replace Fe1 := Fe1.on hbA
  replace T1 := T1.on hbA
  clear hbA
  replace bz := bz.alloc bz.size (.cells #[.float .f64 4607182418800017408, .float .f64 4613937818241073152, .float .f64 4616189618054758400, .float .f64 4613937818241073152, .float .f64 0, .float .f64 0, .float .f64 4616189618054758400, .float .f64 0, .float .f64 0] 39)
  have fb : FL (V1.alloc (.cells #[.float .f64 4607182418800017408, .float .f64 4613937818241073152, .float .f64 4616189618054758400, .float .f64 4613937818241073152, .float .f64 0, .float .f64 0, .float .f64 4616189618054758400, .float .f64 0, .float .f64 0] 39)) (some ⟨V1.heap.size, 0, none⟩) 9 9 [4607182418800017408, 4613937818241073152, 4616189618054758400, 4613937818241073152, 0, 0, 4616189618054758400, 0, 0] := by have h9 := fl_built (W := V1) (l := [4607182418800017408, 4613937818241073152, 4616189618054758400, 4613937818241073152, 0, 0, 4616189618054758400, 0, 0]) (by intro x hx; simp at hx; omega) (by simp); exact h9
  obtain ⟨V2, hV2⟩ : ∃ x, (V1.alloc (.cells #[.float .f64 4607182418800017408, .float .f64 4613937818241073152, .float .f64 4616189618054758400, .float .f64 4613937818241073152, .float .f64 0, .float .f64 0, .float .f64 4616189618054758400, .float .f64 0, .float .f64 0] 39)) = x := ⟨_, rfl⟩
  have sz2 : V1.heap.size = V1.heap.size := rfl
  have pr : Calls Try.prog 8 #[mV 3 3 (some ⟨V1.heap.size, 0, none⟩) 9 9] (V1.alloc (.cells #[.float .f64 4607182418800017408, .float .f64 4613937818241073152, .float .f64 4616189618054758400, .float .f64 4613937818241073152, .float .f64 0, .float .f64 0, .float .f64 4616189618054758400, .float .f64 0, .float .f64 0] 39)) (GrP (V1.alloc (.cells #[.float .f64 4607182418800017408, .float .f64 4613937818241073152, .float .f64 4616189618054758400, .float .f64 4613937818241073152, .float .f64 0, .float .f64 0, .float .f64 4616189618054758400, .float .f64 0, .float .f64 0] 39)) 3 [4607182418800017408, 4613937818241073152, 4616189618054758400, 4613937818241073152, 0, 0, 4616189618054758400, 0, 0]) := gReduce_yes (n := 3) fb rfl (by omega) (by decide)
  have PR := Lib.hid pr
  clear pr fb hV2 sz2
  go_wp2_with fail
  with_reducible refine PR.out.mono ?_
  rintro e9 w2 ⟨Ls2, Ad2, cd2, d2, Ae2, ce2, e2, Ah2, ch2, hs2, rfl, Fd2, Fe2, Rh2, T2, hL2, hb⟩
  clear PR
  replace Fd1 := Fd1.on hb
  replace Fe1 := Fe1.on hb
  replace T1 := T1.on hb
  replace bz := bz.trans (hb.mono bz.size)
  clear hb
  have hd2 : d2.length = 3 := T2.dl
  have he2 : e2.length = 2 := T2.el
  have hh2 : hs2.length = 1 := T2.hl
  rw [hd2] at Fd2
  rw [he2] at Fe2
  rw [hd2, he2, hh2]
  clear hd2 he2 hh2 Rh2
  have x1 : fa (D e2 0) = some 13840687554816376832 := by
    have h9 := T2.ee 0 (by omega)
    rw [if_pos (by omega), hL2] at h9
    exact h9.trans ev_b
  have x2 : fa (D d2 0) = some 4607182418800017408 := (T2.dd 0 (by omega)).trans (by show ma (Ls2 0) 3 0 0 = _; rw [hL2]; decide +kernel)
  have X4 := Lib.hid x1
  have X5 := Lib.hid x2
  clear x1 x2 T2 hL2
  have T2 := Blk.new w2 [.slice Ad2 3 cd2, .slice Ae2 2 ce2] 28
  obtain ⟨b2, eb2⟩ : ∃ H, w2.heap.size = H := ⟨_, rfl⟩
  rw [eb2] at T2
  have hbA := (Below.refl _ w2).alloc (Nat.le_refl _) (.cells #[.slice Ad2 3 cd2, .slice Ae2 2 ce2] 28)
  replace Fd1 := Fd1.on hbA
  replace Fe1 := Fe1.on hbA
  replace T1 := T1.on hbA
  replace Fd2 := Fd2.on hbA
  replace Fe2 := Fe2.on hbA
  clear hbA
  replace bz := bz.alloc bz.size (.cells #[.slice Ad2 3 cd2, .slice Ae2 2 ce2] 28)
  go_upto_region 3 with fail
  try simp only [eb2] at ⊢
  generalize w2.alloc (.cells #[.slice Ad2 3 cd2, .slice Ae2 2 ce2] 28) = V2 at Fd1 Fe1 T1 Fd2 Fe2 T2 bz ⊢
  clear eb2
  have pq : Calls Try.prog 15 #[.int .i64 2, .slice none 0 0] V2 (GqP V2 2 0 []) := gQ_yes (n := 2) (rl_none _) (by omega) rfl (fun j e h => by simp at h)
  have PQ := Lib.hid pq
  clear pq
  go_wp2_with fail
  with_reducible refine PQ.out.mono ?_
  rintro e9 w3 ⟨A3, c3, L3, Qs3, rfl, O3, T9, hL9, hb⟩
  clear PQ
  replace Fd1 := Fd1.on hb
  replace Fe1 := Fe1.on hb
  replace T1 := T1.on hb
  replace Fd2 := Fd2.on hb
  replace Fe2 := Fe2.on hb
  replace T2 := T2.on hb
  replace bz := bz.trans (hb.mono bz.size)
  clear hb
  have I3 : Is L3 (2 * 2) (oneF 2 2) := by rw [← hL9]; exact T9.top
  have F3 := O3.fl I3.wd
  rw [I3.len] at F3
  replace F3 : FL w3 A3 4 c3 L3 := F3
  have HI3 := Lib.hid I3
  clear I3 O3 T9 hL9
  have T3 := Blk.new w3 [.int .i64 2, .int .i64 2, .slice A3 4 c3] 24
  obtain ⟨b3, eb3⟩ : ∃ H, w3.heap.size = H := ⟨_, rfl⟩
  rw [eb3] at T3
  have hbA := (Below.refl _ w3).alloc (Nat.le_refl _) (.cells #[.int .i64 2, .int .i64 2, .slice A3 4 c3] 24)
  replace Fd1 := Fd1.on hbA
  replace Fe1 := Fe1.on hbA
  replace T1 := T1.on hbA
  replace Fd2 := Fd2.on hbA
  replace Fe2 := Fe2.on hbA
  replace T2 := T2.on hbA
  replace F3 := F3.on hbA
  clear hbA
  replace bz := bz.alloc bz.size (.cells #[.int .i64 2, .int .i64 2, .slice A3 4 c3] 24)
  go_upto_region 4 with fail
  try simp only [eb3] at ⊢
  generalize w3.alloc (.cells #[.int .i64 2, .int .i64 2, .slice A3 4 c3] 24) = V3 at Fd1 Fe1 T1 Fd2 Fe2 T2 F3 T3 bz ⊢
  clear eb3
  have pq : Calls Try.prog 15 #[.int .i64 0, .slice none 0 0] V3 (GqP V3 0 0 []) := gQ_yes (n := 0) (rl_none _) (by omega) rfl (fun j e h => by simp at h)
  have PQ := Lib.hid pq
  clear pq
  go_wp2_with fail
  with_reducible refine PQ.out.mono ?_
  rintro e9 w4 ⟨A4, c4, L4, Qs4, rfl, O4, T9, hL9, hb⟩
  clear PQ
  replace Fd1 := Fd1.on hb
  replace Fe1 := Fe1.on hb
  replace T1 := T1.on hb
  replace Fd2 := Fd2.on hb
  replace Fe2 := Fe2.on hb
  replace T2 := T2.on hb
  replace F3 := F3.on hb
  replace T3 := T3.on hb
  replace bz := bz.trans (hb.mono bz.size)
  clear hb
  have I4 : Is L4 (0 * 0) (oneF 0 0) := by rw [← hL9]; exact T9.top
  have F4 := O4.fl I4.wd
  rw [I4.len] at F4
  replace F4 : FL w4 A4 0 c4 L4 := F4
  have HI4 := Lib.hid I4
  clear I4 O4 T9 hL9
  have T4 := Blk.new w4 [.int .i64 0, .int .i64 0, .slice A4 0 c4] 24
  obtain ⟨b4, eb4⟩ : ∃ H, w4.heap.size = H := ⟨_, rfl⟩
  rw [eb4] at T4
  have hbA := (Below.refl _ w4).alloc (Nat.le_refl _) (.cells #[.int .i64 0, .int .i64 0, .slice A4 0 c4] 24)
  replace Fd1 := Fd1.on hbA
  replace Fe1 := Fe1.on hbA
  replace T1 := T1.on hbA
  replace Fd2 := Fd2.on hbA
  replace Fe2 := Fe2.on hbA
  replace T2 := T2.on hbA
  replace F3 := F3.on hbA
  replace T3 := T3.on hbA
  replace F4 := F4.on hbA
  clear hbA
  replace bz := bz.alloc bz.size (.cells #[.int .i64 0, .int .i64 0, .slice A4 0 c4] 24)
  go_upto_region 5 with fail
  try simp only [eb4] at ⊢
  generalize w4.alloc (.cells #[.int .i64 0, .int .i64 0, .slice A4 0 c4] 24) = V4 at Fd1 Fe1 T1 Fd2 Fe2 T2 F3 T3 F4 T4 bz ⊢
  clear eb4
  obtain ⟨ad1, rfl, c1, c2, c3, c3b⟩ := fl_two Fd1 X1.out X2.out
  obtain ⟨ad2, rfl, c4, c5⟩ := fl_one Fe1 X3.out
  obtain ⟨t0, t1, _, _⟩ := Tbx.cells T1
  obtain ⟨t2, t3, _, _⟩ := Tbx.cells T2
  obtain ⟨ad3, hA3, _, c6⟩ := Fe2.at_ (k := 0) (by omega)
  have q6 : (D e2 0).toNat = 13840687554816376832 := by rw [fa_eq (Fe2.2.2.at_ 0).1 X4.out]; rfl
  rw [q6] at c6
  subst hA3
  have c7 := Fe2.head (by omega)
  rw [q6] at c7
  obtain ⟨ad4, hA4, _, c8⟩ := Fd2.at_ (k := 0) (by omega)
  have q8 : (D d2 0).toNat = 4607182418800017408 := by rw [fa_eq (Fd2.2.2.at_ 0).1 X5.out]; rfl
  rw [q8] at c8
  subst hA4
  have c9 := Fd2.head (by omega)
  rw [q8] at c9
  clear q6 q8
  go_wp2_with fail
  clear c1 c2 c3 c3b c4 c5 c6 c7 c8 c9 t0 t1 t2 t3 Fd1 Fe1 Fd2 Fe2 T1 T2 X1 X2 X3 X4 X5
  have po : ∀ W, Calls Try.prog 21 #[.int .i64 2] W (MatQ W 2 2 4 (oneF 2 2)) := fun W => rOne_any 2 (by omega) W
  replace F3 := F3.drew
  replace T3 := T3.drew
  replace F4 := F4.drew
  replace T4 := T4.drew
  replace bz := bz.drew
  refine wp_region_held_drew (S := fun w9 : World => Mbx w9 b3 2 2 A3 4 c3 ∧ Mbx w9 b4 0 0 A4 0 c4) (by kernel_rfl) ⟨T3, T4⟩ (fun hS => ?_)
  generalize V4.drew = wl at hS F3 T3 F4 T4  bz ⊢
  refine wpAnyH_take (i := 0) (v := ?v0_1) rfl (by kernel_rfl) (by kernel_rfl) (by kernel_rfl) (fun _ _ _ h => h) (Or.inl ⟨by rfl, ?hy0_1⟩) (by assumption) ?rest0_1
  case hy0_1 => (intro w9 hSw; clear hSw; go_simp; try with_reducible rfl)
  try simp only [Act.put, List.setIfInBounds_toArray, List.set_cons_zero, List.set_cons_succ, List.getElem_toArray, List.getElem_cons_zero, List.getElem_cons_succ]
  refine wpAnyH_take (i := 1) (v := ?v1_2) rfl (by kernel_rfl) (by kernel_rfl) (by kernel_rfl) (fun _ _ _ h => h) (Or.inl ⟨by rfl, ?hy1_2⟩) (by assumption) ?rest1_2
  case hy1_2 => (intro w9 hSw; clear hSw; go_simp; try with_reducible rfl)
  try simp only [Act.put, List.setIfInBounds_toArray, List.set_cons_zero, List.set_cons_succ, List.getElem_toArray, List.getElem_cons_zero, List.getElem_cons_succ]
  refine wpAnyH_take (i := 2) (v := ?v2_3) rfl (by kernel_rfl) (by kernel_rfl) (by kernel_rfl) (fun _ _ _ h => h) (Or.inl ⟨by rfl, ?hy2_3⟩) (by assumption) ?rest2_3
  case hy2_3 => (intro w9 hSw; clear hSw; go_simp; try with_reducible rfl)
  try simp only [Act.put, List.setIfInBounds_toArray, List.set_cons_zero, List.set_cons_succ, List.getElem_toArray, List.getElem_cons_zero, List.getElem_cons_succ]
  refine wpAnyH_take (i := 3) (v := ?v3_4) rfl (by kernel_rfl) (by kernel_rfl) (by kernel_rfl) (fun _ _ _ h => h) (Or.inl ⟨by rfl, ?hy3_4⟩) (by assumption) ?rest3_4
  case hy3_4 => (intro w9 hSw; clear hSw; go_simp; try with_reducible rfl)
  try simp only [Act.put, List.setIfInBounds_toArray, List.set_cons_zero, List.set_cons_succ, List.getElem_toArray, List.getElem_cons_zero, List.getElem_cons_succ]
  refine wpAnyH_take (i := 4) (v := ?v4_5) rfl (by kernel_rfl) (by kernel_rfl) (by kernel_rfl) (fun _ _ _ h => h) (Or.inl ⟨by rfl, ?hy4_5⟩) (by assumption) ?rest4_5
  case hy4_5 => (intro w9 hSw; clear hSw; go_simp; try with_reducible rfl)
  try simp only [Act.put, List.setIfInBounds_toArray, List.set_cons_zero, List.set_cons_succ, List.getElem_toArray, List.getElem_cons_zero, List.getElem_cons_succ]
  refine wpAnyH_take (i := 5) (v := ?v5_6) rfl (by kernel_rfl) (by kernel_rfl) (by kernel_rfl) (fun _ _ _ h => h) (Or.inl ⟨by rfl, ?hy5_6⟩) (by assumption) ?rest5_6
  case hy5_6 => (intro w9 hSw; clear hSw; go_simp; try with_reducible rfl)
  try simp only [Act.put, List.setIfInBounds_toArray, List.set_cons_zero, List.set_cons_succ, List.getElem_toArray, List.getElem_cons_zero, List.getElem_cons_succ]
  refine wpAnyH_take (i := 6) (v := ?v6_7) rfl (by kernel_rfl) (by kernel_rfl) (by kernel_rfl) (fun _ _ _ h => h) (Or.inl ⟨by rfl, ?hy6_7⟩) (by assumption) ?rest6_7
  case hy6_7 => (intro w9 hSw; obtain ⟨ma1, ma2⟩ := hSw; obtain ⟨y0, y1, y2, _, _, _⟩ := Mbx.cells ma1; obtain ⟨u0, u1, u2, _, _, _⟩ := Mbx.cells ma2; go_simp; try with_reducible rfl)
  try simp only [Act.put, List.setIfInBounds_toArray, List.set_cons_zero, List.set_cons_succ, List.getElem_toArray, List.getElem_cons_zero, List.getElem_cons_succ]
  refine wpAnyH_ready (rs := [7]) (by kernel_rfl) (by simp) ?_
  refine AllReadyH.cons rfl (fun K hK => ?_) AllReadyH.nil
  go_simp
  with_reducible refine (po _).mono ?_
  rintro e9 w5 ⟨A5, c5, L5, rfl, O5, I5, hb⟩
  have F5 := O5.fl I5.wd
  rw [I5.len] at F5
  have HI5 := Lib.hid I5
  clear O5 I5
  replace F3 := F3.on hb
  replace T3 := T3.on hb
  replace F4 := F4.on hb
  replace T4 := T4.on hb
  replace bz := bz.trans (hb.mono bz.size)
  clear hb
  clear hS; refine hK.out _ _ ⟨T3, T4⟩ (fun hS => ?_); clear hK K
  try simp only [Act.put, List.setIfInBounds_toArray, List.set_cons_zero, List.set_cons_succ, List.getElem_toArray, List.getElem_cons_zero, List.getElem_cons_succ]
  refine wpAnyH_ready (rs := [8]) (by kernel_rfl) (by simp) ?_
  refine AllReadyH.cons rfl (fun K hK => ?_) AllReadyH.nil
  go_simp
  with_reducible refine (rSameM_any (R := 2) (C := 2) F3 F5 (fun k hk => (HI3.out.at_ k hk).trans (HI5.out.at_ k hk).symm)).mono ?_
  rintro e9 w6 ⟨rfl, hb⟩
  replace F3 := F3.on hb
  replace T3 := T3.on hb
  replace F4 := F4.on hb
  replace T4 := T4.on hb
  replace F5 := F5.on hb
  replace bz := bz.trans (hb.mono bz.size)
  clear hb
  clear hS; refine hK.out _ _ ⟨T3, T4⟩ (fun hS => ?_); clear hK K
  try simp only [Act.put, List.setIfInBounds_toArray, List.set_cons_zero, List.set_cons_succ, List.getElem_toArray, List.getElem_cons_zero, List.getElem_cons_succ]
  refine wpAnyH_take (i := 9) (v := ?v9_8) rfl (by kernel_rfl) (by kernel_rfl) (by kernel_rfl) (fun _ _ _ h => h) (Or.inl ⟨by rfl, ?hy9_8⟩) (by assumption) ?rest9_8
  case hy9_8 => (intro w9 hSw; clear hSw; go_simp; try with_reducible rfl)
  try simp only [Act.put, List.setIfInBounds_toArray, List.set_cons_zero, List.set_cons_succ, List.getElem_toArray, List.getElem_cons_zero, List.getElem_cons_succ]
  refine wpAnyH_take (i := 10) (v := ?v10_9) rfl (by kernel_rfl) (by kernel_rfl) (by kernel_rfl) (fun _ _ _ h => h) (Or.inl ⟨by rfl, ?hy10_9⟩) (by assumption) ?rest10_9
  case hy10_9 => (intro w9 hSw; clear hSw; go_simp; try with_reducible rfl)
  try simp only [Act.put, List.setIfInBounds_toArray, List.set_cons_zero, List.set_cons_succ, List.getElem_toArray, List.getElem_cons_zero, List.getElem_cons_succ]
  refine wpAnyH_take (i := 11) (v := ?v11_10) rfl (by kernel_rfl) (by kernel_rfl) (by kernel_rfl) (fun _ _ _ h => h) (Or.inl ⟨by rfl, ?hy11_10⟩) (by assumption) ?rest11_10
  case hy11_10 => (intro w9 hSw; clear hSw; go_simp; try with_reducible rfl)
  try simp only [Act.put, List.setIfInBounds_toArray, List.set_cons_zero, List.set_cons_succ, List.getElem_toArray, List.getElem_cons_zero, List.getElem_cons_succ]
  refine wpAnyH_take (i := 12) (v := ?v12_11) rfl (by kernel_rfl) (by kernel_rfl) (by kernel_rfl) (fun _ _ _ h => h) (Or.inl ⟨by rfl, ?hy12_11⟩) (by assumption) ?rest12_11
  case hy12_11 => (intro w9 hSw; clear hSw; go_simp; try with_reducible rfl)
  try simp only [Act.put, List.setIfInBounds_toArray, List.set_cons_zero, List.set_cons_succ, List.getElem_toArray, List.getElem_cons_zero, List.getElem_cons_succ]
  refine wpAnyH_take (i := 13) (v := ?v13_12) rfl (by kernel_rfl) (by kernel_rfl) (by kernel_rfl) (fun _ _ _ h => h) (Or.inl ⟨by rfl, ?hy13_12⟩) (by assumption) ?rest13_12
  case hy13_12 => (intro w9 hSw; clear hSw; go_simp; try with_reducible rfl)
  try simp only [Act.put, List.setIfInBounds_toArray, List.set_cons_zero, List.set_cons_succ, List.getElem_toArray, List.getElem_cons_zero, List.getElem_cons_succ]
  refine wpAnyH_take (i := 14) (v := ?v14_13) rfl (by kernel_rfl) (by kernel_rfl) (by kernel_rfl) (fun _ _ _ h => h) (Or.inl ⟨by rfl, ?hy14_13⟩) (by assumption) ?rest14_13
  case hy14_13 => (intro w9 hSw; clear hSw; go_simp; try with_reducible rfl)
  try simp only [Act.put, List.setIfInBounds_toArray, List.set_cons_zero, List.set_cons_succ, List.getElem_toArray, List.getElem_cons_zero, List.getElem_cons_succ]
  refine wpAnyH_take (i := 15) (v := ?v15_14) rfl (by kernel_rfl) (by kernel_rfl) (by kernel_rfl) (fun _ _ _ h => h) (Or.inl ⟨by rfl, ?hy15_14⟩) (by assumption) ?rest15_14
  case hy15_14 => (intro w9 hSw; obtain ⟨ma1, ma2⟩ := hSw; obtain ⟨y0, y1, y2, _, _, _⟩ := Mbx.cells ma1; obtain ⟨u0, u1, u2, _, _, _⟩ := Mbx.cells ma2; go_simp; try with_reducible rfl)
  try simp only [Act.put, List.setIfInBounds_toArray, List.set_cons_zero, List.set_cons_succ, List.getElem_toArray, List.getElem_cons_zero, List.getElem_cons_succ]
  refine wpAnyH_take (i := 16) (v := ?v16_15) rfl (by kernel_rfl) (by kernel_rfl) (by kernel_rfl) (fun _ _ _ h => h) (Or.inl ⟨by rfl, ?hy16_15⟩) (by assumption) ?rest16_15
  case hy16_15 => (intro w9 hSw; clear hSw; go_simp; try with_reducible rfl)
  try simp only [Act.put, List.setIfInBounds_toArray, List.set_cons_zero, List.set_cons_succ, List.getElem_toArray, List.getElem_cons_zero, List.getElem_cons_succ]
  refine wpAnyH_ready (rs := [17]) (by kernel_rfl) (by simp) ?_
  refine AllReadyH.cons rfl (fun K hK => ?_) AllReadyH.nil
  go_simp
  with_reducible refine (rSameM_any (R := 0) (C := 0) F4 (FL.nil _) (fun k hk => absurd hk (by omega))).mono ?_
  rintro e9 w7 ⟨rfl, hb⟩
  replace F3 := F3.on hb
  replace T3 := T3.on hb
  replace F4 := F4.on hb
  replace T4 := T4.on hb
  replace F5 := F5.on hb
  replace bz := bz.trans (hb.mono bz.size)
  clear hb
  clear hS; refine hK.out _ _ ⟨T3, T4⟩ (fun hS => ?_); clear hK K
  try simp only [Act.put, List.setIfInBounds_toArray, List.set_cons_zero, List.set_cons_succ, List.getElem_toArray, List.getElem_cons_zero, List.getElem_cons_succ]
  refine wpAnyH_take (i := 18) (v := ?v18_16) rfl (by kernel_rfl) (by kernel_rfl) (by kernel_rfl) (fun _ _ _ h => h) (Or.inl ⟨by rfl, ?hy18_16⟩) (by assumption) ?rest18_16
  case hy18_16 => (intro w9 hSw; clear hSw; go_simp; try with_reducible rfl)
  try simp only [Act.put, List.setIfInBounds_toArray, List.set_cons_zero, List.set_cons_succ, List.getElem_toArray, List.getElem_cons_zero, List.getElem_cons_succ]
  refine wpAnyH_take (i := 19) (v := ?v19_17) rfl (by kernel_rfl) (by kernel_rfl) (by kernel_rfl) (fun _ _ _ h => h) (Or.inl ⟨by rfl, ?hy19_17⟩) (by assumption) ?rest19_17
  case hy19_17 => (intro w9 hSw; clear hSw; go_simp; try with_reducible rfl)
  try simp only [Act.put, List.setIfInBounds_toArray, List.set_cons_zero, List.set_cons_succ, List.getElem_toArray, List.getElem_cons_zero, List.getElem_cons_succ]
  refine wpAnyH_done (by kernel_rfl) ?_ _
  go_wp2_with fail
  go_ret
  exact ⟨rfl, bz⟩
end Go.Proofs.Ytaemkjcmjgefeaa
