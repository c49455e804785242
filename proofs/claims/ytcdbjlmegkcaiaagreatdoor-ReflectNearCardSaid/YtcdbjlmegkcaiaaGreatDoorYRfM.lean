/-
  Layer 9: the chapter's rows, by the program. (Written by wip/tools/gen_rfm.py.)
-/
import Derived.Test.YtcdbjlmegkcaiaaGreatDoorYRfD
import Derived.Test.YtcdbjlmegkcaiaaGreatDoorYRfH
namespace Go.Proofs.YtcdbjlmegkcaiaaGreatDoor
open Go.RowKit Go.Bw
set_option linter.unusedVariables false
set_option linter.unusedSimpArgs false
attribute [local go_sem] run_store_float

theorem af_eq {r W : Nat} (h : af r = some W) : r = W := by
  unfold af at h
  split at h
  · cases h
  · exact Option.some.inj h
theorem fa_eq {x : Int} {W : Nat} (x0 : 0 ≤ x) (h : fa x = some W) : x = W := by
  unfold fa at h
  have := af_eq h
  omega
set_option maxHeartbeats 2000000 in
theorem gMake_none {A : Option Addr} {c : Nat} (w : World) : Calls Tryz.prog 6 #[.slice A 0 c] w (Ans w (.tuple #[rV none 0 0 0, .float .f64 0, .int .i64 2])) := by
  have bz := (Below.refl _ w).alloc (Nat.le_refl _) (.cells #[.slice none 0 0, .float .f64 0] 27)
  go_enter Tryz.func6, Tryz.ntmps6
  go_wp2_with fail
  refine bodyPost_ret (v := .tuple #[rV none 0 0 0, .float .f64 0, .int .i64 2]) (by simp [results, Tryz.results6, go_sem]) rfl ?_
  exact ⟨rfl, bz⟩
abbrev l34 : List Int := [4613937818241073152, 4616189618054758400]
theorem ev1 : mkT [4613937818241073152, 4616189618054758400] = some 4609884578576439706 := by decide +kernel
theorem ev2 : mkB [4613937818241073152, 4616189618054758400] = some 13840687554816376832 := by decide +kernel
theorem ev3 : mkV [4613937818241073152, 4616189618054758400] 1 = some 4602678819172646912 := by decide +kernel
theorem ev4 : mkT [4611686018427387904, 0] = some 0 := by decide +kernel
theorem ev5 : mkB [4611686018427387904, 0] = some 4611686018427387904 := by decide +kernel
theorem ev6 : mkT [4619567317775286272] = some 0 := by decide +kernel
theorem ev7 : mkB [4619567317775286272] = some 4619567317775286272 := by decide +kernel
set_option maxRecDepth 100000 in
theorem ev_left {v : List Int} (h0 : fa (GD v 0) = some 4607182418800017408) (h1 : fa (GD v 1) = some 4602678819172646912) : tg (lP (eqA (af 4609884578576439706) (some 0)) 0 2 0 (1 - 0)) (lF [4613937818241073152, 4616189618054758400] v 1 0 2 (af 4609884578576439706)) [4613937818241073152, 4616189618054758400] 1 0 = some 13840687554816376832 ∧ tg (lP (eqA (af 4609884578576439706) (some 0)) 0 2 0 (1 - 0)) (lF [4613937818241073152, 4616189618054758400] v 1 0 2 (af 4609884578576439706)) [4613937818241073152, 4616189618054758400] 1 1 = some 0 := by
  constructor
  · show (if lP (eqA (af 4609884578576439706) (some 0)) 0 2 0 (1 - 0) (0 / 1) (0 % 1) = true then aop .sub (fa (GD [4613937818241073152, 4616189618054758400] 0)) (aop .mul (fa (GD v 0)) (aop .mul (af 4609884578576439706) (aop .add (aop .add (some 0) (aop .mul (fa (GD v 0)) (fa (GD [4613937818241073152, 4616189618054758400] 0)))) (aop .mul (fa (GD v 1)) (fa (GD [4613937818241073152, 4616189618054758400] 1)))))) else fa (GD [4613937818241073152, 4616189618054758400] 0)) = _
    rw [h0, h1]
    decide +kernel
  · show (if lP (eqA (af 4609884578576439706) (some 0)) 0 2 0 (1 - 0) (1 / 1) (1 % 1) = true then aop .sub (fa (GD [4613937818241073152, 4616189618054758400] 1)) (aop .mul (fa (GD v 1)) (aop .mul (af 4609884578576439706) (aop .add (aop .add (some 0) (aop .mul (fa (GD v 0)) (fa (GD [4613937818241073152, 4616189618054758400] 0)))) (aop .mul (fa (GD v 1)) (fa (GD [4613937818241073152, 4616189618054758400] 1)))))) else fa (GD [4613937818241073152, 4616189618054758400] 1)) = _
    rw [h0, h1]
    decide +kernel
set_option maxRecDepth 100000 in
set_option maxHeartbeats 16000000 in
theorem known_any (w : World) : Calls Tryz.prog 4 #[] w (Ans w (.bool true)) := by
  have o1 : (FloatKind.f64.format.order 13840687554816376832 13840687554816376832 != some .eq) = false := by decide
  have o2 : (FloatKind.f64.format.order 4611686018427387904 4611686018427387904 != some .eq) = false := by decide
  have o3 : (FloatKind.f64.format.order 4619567317775286272 4619567317775286272 != some .eq) = false := by decide
  have o4 : (FloatKind.f64.format.order 4609884578576439706 4609884578576439706 != some .eq) = false := by decide
  have o5 : (FloatKind.f64.format.order 0 0 != some .eq) = false := by decide
  have o6 : (FloatKind.f64.format.order 4602678819172646912 4602678819172646912 != some .eq) = false := by decide
  have o7 : (FloatKind.f64.format.order 13840687554816376832 13840687554816376832 == some .eq) = true := by decide
  have o8 : (FloatKind.f64.format.order 0 0 == some .eq) = true := by decide
  have bz := Below.refl w.heap.size w
  go_enter Tryz.func4, Tryz.ntmps4
  replace bz := bz.alloc bz.size (.cells #[.float .f64 4613937818241073152, .float .f64 4616189618054758400] 25)
  have fb : FL (w.alloc (.cells #[.float .f64 4613937818241073152, .float .f64 4616189618054758400] 25)) (some ⟨w.heap.size, 0, none⟩) 2 2 [4613937818241073152, 4616189618054758400] := by have h9 := fl_built (W := w) (l := [4613937818241073152, 4616189618054758400]) (by intro x hx; simp at hx; omega) (by simp); exact h9
  go_wp2_with fail
  with_reducible refine (gMake_any fb (by omega) (by omega)).mono ?_
  rintro e w0 ⟨g0, t0, b0, v0, rfl, R0, hg0, I0, ht0, hb0, _, _, hb⟩
  replace bz := bz.trans (hb.mono bz.size)
  clear hb
  clear fb
  obtain rfl := af_eq (ht0.trans ev1)
  obtain rfl := af_eq (hb0.trans ev2)
  clear ht0 hb0
  have hv0 : fa (GD v0 0) = some 4607182418800017408 := I0.at_ 0 (by omega)
  have hv1 : fa (GD v0 1) = some 4602678819172646912 := (I0.at_ 1 (by omega)).trans ev3
  have hI0 := Lib.hid I0
  clear I0
  have e1 : GD v0 1 = 4602678819172646912 := fa_eq (hI0.out.wd.at_ 1).1 hv1
  have hl0 := hI0.out.len
  have B0 := GBlk.new w0 [.slice (some ⟨g0, 0, none⟩) 2 2, .float .f64 4609884578576439706] 27
  replace bz := bz.alloc bz.size (.cells #[.slice (some ⟨g0, 0, none⟩) 2 2, .float .f64 4609884578576439706] 27)
  replace R0 := R0.on ((Below.refl _ w0).alloc (Nat.le_refl _) (.cells #[.slice (some ⟨g0, 0, none⟩) 2 2, .float .f64 4609884578576439706] 27))
  replace bz := bz.alloc bz.size (.cells #[.float .f64 4611686018427387904, .float .f64 0] 25)
  replace R0 := R0.on ((Below.refl _ (w0.alloc (.cells #[.slice (some ⟨g0, 0, none⟩) 2 2, .float .f64 4609884578576439706] 27))).alloc (Nat.le_refl _) (.cells #[.float .f64 4611686018427387904, .float .f64 0] 25))
  replace B0 := B0.on ((Below.refl _ (w0.alloc (.cells #[.slice (some ⟨g0, 0, none⟩) 2 2, .float .f64 4609884578576439706] 27))).alloc (Nat.le_refl _) (.cells #[.float .f64 4611686018427387904, .float .f64 0] 25))
  have fb : FL ((w0.alloc (.cells #[.slice (some ⟨g0, 0, none⟩) 2 2, .float .f64 4609884578576439706] 27)).alloc (.cells #[.float .f64 4611686018427387904, .float .f64 0] 25)) (some ⟨w0.heap.size + 1, 0, none⟩) 2 2 [4611686018427387904, 0] := by have h9 := fl_built (W := (w0.alloc (.cells #[.slice (some ⟨g0, 0, none⟩) 2 2, .float .f64 4609884578576439706] 27))) (l := [4611686018427387904, 0]) (by intro x hx; simp at hx; omega) (by simp); rw [World.size_alloc] at h9; exact h9
  go_wp2_with fail
  with_reducible refine (gMake_any fb (by omega) (by omega)).mono ?_
  rintro e w1 ⟨g1, t1, b1, v1, rfl, R1, hg1, I1, ht1, hb1, _, _, hb⟩
  replace R0 := R0.on hb
  replace B0 := B0.on hb
  replace bz := bz.trans (hb.mono bz.size)
  clear hb
  clear fb
  obtain rfl := af_eq (ht1.trans ev4)
  obtain rfl := af_eq (hb1.trans ev5)
  clear ht1 hb1
  clear R1 I1 hg1
  have B1 := GBlk.new w1 [.slice (some ⟨g1, 0, none⟩) 2 2, .float .f64 0] 27
  replace bz := bz.alloc bz.size (.cells #[.slice (some ⟨g1, 0, none⟩) 2 2, .float .f64 0] 27)
  replace R0 := R0.on ((Below.refl _ w1).alloc (Nat.le_refl _) (.cells #[.slice (some ⟨g1, 0, none⟩) 2 2, .float .f64 0] 27))
  replace B0 := B0.on ((Below.refl _ w1).alloc (Nat.le_refl _) (.cells #[.slice (some ⟨g1, 0, none⟩) 2 2, .float .f64 0] 27))
  replace bz := bz.alloc bz.size (.cells #[.float .f64 4619567317775286272] 25)
  replace R0 := R0.on ((Below.refl _ (w1.alloc (.cells #[.slice (some ⟨g1, 0, none⟩) 2 2, .float .f64 0] 27))).alloc (Nat.le_refl _) (.cells #[.float .f64 4619567317775286272] 25))
  replace B0 := B0.on ((Below.refl _ (w1.alloc (.cells #[.slice (some ⟨g1, 0, none⟩) 2 2, .float .f64 0] 27))).alloc (Nat.le_refl _) (.cells #[.float .f64 4619567317775286272] 25))
  replace B1 := B1.on ((Below.refl _ (w1.alloc (.cells #[.slice (some ⟨g1, 0, none⟩) 2 2, .float .f64 0] 27))).alloc (Nat.le_refl _) (.cells #[.float .f64 4619567317775286272] 25))
  have fb : FL ((w1.alloc (.cells #[.slice (some ⟨g1, 0, none⟩) 2 2, .float .f64 0] 27)).alloc (.cells #[.float .f64 4619567317775286272] 25)) (some ⟨w1.heap.size + 1, 0, none⟩) 1 1 [4619567317775286272] := by have h9 := fl_built (W := (w1.alloc (.cells #[.slice (some ⟨g1, 0, none⟩) 2 2, .float .f64 0] 27))) (l := [4619567317775286272]) (by intro x hx; simp at hx; omega) (by simp); rw [World.size_alloc] at h9; exact h9
  go_wp2_with fail
  with_reducible refine (gMake_any fb (by omega) (by omega)).mono ?_
  rintro e w2 ⟨g2, t2, b2, v2, rfl, R2, hg2, I2, ht2, hb2, _, _, hb⟩
  replace R0 := R0.on hb
  replace B0 := B0.on hb
  replace B1 := B1.on hb
  replace bz := bz.trans (hb.mono bz.size)
  clear hb
  clear fb
  obtain rfl := af_eq (ht2.trans ev6)
  obtain rfl := af_eq (hb2.trans ev7)
  clear ht2 hb2
  clear R2 I2 hg2
  have B2 := GBlk.new w2 [.slice (some ⟨g2, 0, none⟩) 1 1, .float .f64 0] 27
  replace bz := bz.alloc bz.size (.cells #[.slice (some ⟨g2, 0, none⟩) 1 1, .float .f64 0] 27)
  replace R0 := R0.on ((Below.refl _ w2).alloc (Nat.le_refl _) (.cells #[.slice (some ⟨g2, 0, none⟩) 1 1, .float .f64 0] 27))
  replace B0 := B0.on ((Below.refl _ w2).alloc (Nat.le_refl _) (.cells #[.slice (some ⟨g2, 0, none⟩) 1 1, .float .f64 0] 27))
  replace B1 := B1.on ((Below.refl _ w2).alloc (Nat.le_refl _) (.cells #[.slice (some ⟨g2, 0, none⟩) 1 1, .float .f64 0] 27))
  go_wp2_with fail
  with_reducible refine (gMake_none _).mono ?_
  rintro e w3 ⟨rfl, hb⟩
  replace R0 := R0.on hb
  replace B0 := B0.on hb
  replace B1 := B1.on hb
  replace B2 := B2.on hb
  replace bz := bz.trans (hb.mono bz.size)
  clear hb
  replace bz := bz.alloc bz.size (.cells #[.slice none 0 0, .float .f64 0] 27)
  replace R0 := R0.on ((Below.refl _ w3).alloc (Nat.le_refl _) (.cells #[.slice none 0 0, .float .f64 0] 27))
  replace B0 := B0.on ((Below.refl _ w3).alloc (Nat.le_refl _) (.cells #[.slice none 0 0, .float .f64 0] 27))
  replace B1 := B1.on ((Below.refl _ w3).alloc (Nat.le_refl _) (.cells #[.slice none 0 0, .float .f64 0] 27))
  replace B2 := B2.on ((Below.refl _ w3).alloc (Nat.le_refl _) (.cells #[.slice none 0 0, .float .f64 0] 27))
  obtain ⟨p0, p1, _, _⟩ := Rbx.cells B0
  obtain ⟨q0, q1, _, _⟩ := Rbx.cells B1
  obtain ⟨s0, s1, _, _⟩ := Rbx.cells B2
  have c1 := (R0.at_ (k := 1) (by rw [hl0]; omega)).1
  rw [e1] at c1
  replace bz := bz.alloc bz.size (.cells #[.float .f64 4613937818241073152, .float .f64 4616189618054758400] 25)
  replace R0 := R0.on ((Below.refl _ (w3.alloc (.cells #[.slice none 0 0, .float .f64 0] 27))).alloc (Nat.le_refl _) (.cells #[.float .f64 4613937818241073152, .float .f64 4616189618054758400] 25))
  replace B0 := B0.on ((Below.refl _ (w3.alloc (.cells #[.slice none 0 0, .float .f64 0] 27))).alloc (Nat.le_refl _) (.cells #[.float .f64 4613937818241073152, .float .f64 4616189618054758400] 25))
  replace B1 := B1.on ((Below.refl _ (w3.alloc (.cells #[.slice none 0 0, .float .f64 0] 27))).alloc (Nat.le_refl _) (.cells #[.float .f64 4613937818241073152, .float .f64 4616189618054758400] 25))
  replace B2 := B2.on ((Below.refl _ (w3.alloc (.cells #[.slice none 0 0, .float .f64 0] 27))).alloc (Nat.le_refl _) (.cells #[.float .f64 4613937818241073152, .float .f64 4616189618054758400] 25))
  have fb : FL ((w3.alloc (.cells #[.slice none 0 0, .float .f64 0] 27)).alloc (.cells #[.float .f64 4613937818241073152, .float .f64 4616189618054758400] 25)) (some ⟨w3.heap.size + 1, 0, none⟩) 2 2 [4613937818241073152, 4616189618054758400] := by have h9 := fl_built (W := (w3.alloc (.cells #[.slice none 0 0, .float .f64 0] 27))) (l := [4613937818241073152, 4616189618054758400]) (by intro x hx; simp at hx; omega) (by simp); rw [World.size_alloc] at h9; exact h9
  obtain ⟨p5, p6, _, _⟩ := Rbx.cells B0
  have hfv : FL ((w3.alloc (.cells #[.slice none 0 0, .float .f64 0] 27)).alloc (.cells #[.float .f64 4613937818241073152, .float .f64 4616189618054758400] 25)) (some ⟨g0, 0, none⟩) 2 2 v0 := by have h9 := R0.fl hI0.out.wd (by rw [hl0]; unfold maxLen; omega); rw [hl0] at h9; exact h9
  have hg00 : g0 < ((w3.alloc (.cells #[.slice none 0 0, .float .f64 0] 27)).alloc (.cells #[.float .f64 4613937818241073152, .float .f64 4616189618054758400] 25)).heap.size := R0.lt
  have pl : Calls Tryz.prog 7 #[mV 2 1 (some ⟨w3.heap.size + 1, 0, none⟩) 2 2, .int .i64 0, .int .i64 0, rV (some ⟨g0, 0, none⟩) 2 2 4609884578576439706] ((w3.alloc (.cells #[.slice none 0 0, .float .f64 0] 27)).alloc (.cells #[.float .f64 4613937818241073152, .float .f64 4616189618054758400] 25)) (MatP ((w3.alloc (.cells #[.slice none 0 0, .float .f64 0] 27)).alloc (.cells #[.float .f64 4613937818241073152, .float .f64 4616189618054758400] 25)) 2 1 2 (tg (lP (eqA (af 4609884578576439706) (some 0)) 0 2 0 (1 - 0)) (lF [4613937818241073152, 4616189618054758400] v0 1 0 2 (af 4609884578576439706)) [4613937818241073152, 4616189618054758400] 1)) := gLeft_yes (M := 2) (q := 1) (n := 2) (p := 0) (f := 0) fb hfv (by omega) (by omega) (by omega) (by omega) (by omega) (by omega) (by omega) (fun a e => by injection e with e; subst e; exact hg00)
  clear fb hfv hg00
  have PL := Lib.hid pl
  clear pl
  go_wp2_with fail
  with_reducible refine (PL.out).mono ?_
  rintro e w9 ⟨g9, cap, L9, rfl, O9, I9, hb⟩
  replace bz := bz.trans (hb.mono bz.size)
  clear hb
  obtain ⟨x0, x1⟩ := ev_left hv0 hv1
  have hL0 := (I9.at_ 0 (by omega)).trans x0
  have hL1 := (I9.at_ 1 (by omega)).trans x1
  have y0 : GD L9 0 = 13840687554816376832 := fa_eq (I9.wd.at_ 0).1 hL0
  have y1 : GD L9 1 = 0 := fa_eq (I9.wd.at_ 1).1 hL1
  have hl9 := I9.len
  clear p5 p6 p0 p1 q0 q1 s0 s1 c1 x0 x1 hL0 hL1 hv0 hv1 I9 PL e1 hI0 hl0
  have O10 := O9.alloc_ (.cells #[.int .i64 2, .int .i64 1, .slice (some ⟨g9, 0, none⟩) 2 cap] 32)
  obtain ⟨c0, _⟩ := O10.at' (k := 0) (by rw [hl9]; omega)
  obtain ⟨c1, _⟩ := O10.at' (k := 1) (by rw [hl9]; omega)
  rw [y0] at c0
  rw [y1] at c1
  have hcap := O10.ge
  rw [hl9] at hcap
  clear O9 O10
  replace bz := bz.alloc bz.size (.cells #[.int .i64 2, .int .i64 1, .slice (some ⟨g9, 0, none⟩) 2 cap] 32)
  go_wp2_with fail
  go_ret
  exact ⟨rfl, bz⟩
end Go.Proofs.YtcdbjlmegkcaiaaGreatDoor
