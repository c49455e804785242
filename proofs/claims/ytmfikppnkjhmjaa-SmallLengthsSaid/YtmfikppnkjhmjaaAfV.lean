/-
  Layer 6: the chapter's rows, by what the program's functions are to answer. (Written by wip/tools/gen_afv.py.)
-/
import Derived.Test.YtmfikppnkjhmjaaAfQ
namespace Go.Proofs.Ytmfikppnkjhmjaa
open Go Go.RowKit Go.Bw
set_option linter.unusedVariables false
set_option linter.unusedSimpArgs false
theorem af_eq {r W : Nat} (h : af r = some W) : r = W := by
  unfold af at h
  split at h
  · cases h
  · exact Option.some.inj h
set_option maxRecDepth 1000000 in
set_option maxHeartbeats 16000000 in
theorem k_Copysign (w : World) : Calls Try.prog 29 #[.float .f64 0, .float .f64 13830554455654793216] w fun e w' => e = .returned (.float .f64 9223372036854775808) ∧ w = w' := by
  have h9 := run_float64frombits 9223372036854775808
  have h8 := run_float64bits 0
  have h7 := run_float64bits 13830554455654793216
  have h6 : bits .andNot .u64 0 9223372036854775808 = 0 := by decide
  have h5 : bits .and .u64 13830554455654793216 9223372036854775808 = 9223372036854775808 := by decide
  have h4 : bits .or .u64 0 9223372036854775808 = 9223372036854775808 := by decide
  go_enter Try.func29, Try.ntmps29
  go_wp2_with fail
  go_ret
  exact ⟨rfl, rfl⟩

theorem ev1_0 : (givA (af 4613937818241073152) (af 4616189618054758400)).1 = some 4603579539098121012 := by decide +kernel
theorem ev1_1 : (givA (af 4613937818241073152) (af 4616189618054758400)).2.1 = some 4605380978949069210 := by decide +kernel
theorem ev1_2 : (givA (af 4613937818241073152) (af 4616189618054758400)).2.2 = some 4617315517961601024 := by decide +kernel
theorem ev2_0 : (givA (af 4617315517961601024) (af 0)).1 = some 4607182418800017408 := by decide +kernel
theorem ev2_1 : (givA (af 4617315517961601024) (af 0)).2.1 = some 0 := by decide +kernel
theorem ev2_2 : (givA (af 4617315517961601024) (af 0)).2.2 = some 4617315517961601024 := by decide +kernel
theorem ev3_0 : (givA (af 0) (af 4611686018427387904)).1 = some 0 := by decide +kernel
theorem ev3_1 : (givA (af 0) (af 4611686018427387904)).2.1 = some 4607182418800017408 := by decide +kernel
theorem ev3_2 : (givA (af 0) (af 4611686018427387904)).2.2 = some 4611686018427387904 := by decide +kernel
theorem ev4_0 : (eigA (af 4611686018427387904) (af 0) (af 4607182418800017408)).1 = some 4611686018427387904 := by decide +kernel
theorem ev4_1 : (eigA (af 4611686018427387904) (af 0) (af 4607182418800017408)).2.1 = some 4607182418800017408 := by decide +kernel
theorem ev4_2 : (eigA (af 4611686018427387904) (af 0) (af 4607182418800017408)).2.2.1 = some 13830554455654793216 := by decide +kernel
theorem ev4_3 : (eigA (af 4611686018427387904) (af 0) (af 4607182418800017408)).2.2.2 = some 9223372036854775808 := by decide +kernel
theorem ev5_0 : (singA (af 4613937818241073152) (af 0) (af 4616189618054758400)).1 = some 4613937818241073152 := by decide +kernel
theorem ev5_1 : (singA (af 4613937818241073152) (af 0) (af 4616189618054758400)).2 = some 4616189618054758400 := by decide +kernel
theorem ev6_0 : (singA (af 0) (af 4611686018427387904) (af 0)).1 = some 0 := by decide +kernel
theorem ev6_1 : (singA (af 0) (af 4611686018427387904) (af 0)).2 = some 4611686018427387904 := by decide +kernel
theorem ev_h1 : hypA (af 4613937818241073152) (af 4616189618054758400) = some 4617315517961601024 := by decide +kernel
theorem ev_h2 : hypA (af 0) (af 9223372036854775808) = some 0 := by decide +kernel
theorem ev_n1 : nrmA [4607182418800017408, 4611686018427387904, 4611686018427387904] = some 4613937818241073152 := by decide +kernel
theorem ev_n2 : nrmA [] = some 0 := by decide +kernel

set_option maxRecDepth 100000 in
set_option maxHeartbeats 8000000 in
theorem known_any (cH : ConHypot) (cN : ConNorm) (cG : ConGivens) (cE : ConEigen) (cS : ConSingular) : ConKnown := fun w => by
  have dr := Dr.refl w
  go_enter Try.func13, Try.ntmps13
  go_wp2_with fail
  with_reducible refine (cG (by omega : (4613937818241073152 : Nat) ≤ 18446744073709551615) (by omega : (4616189618054758400 : Nat) ≤ 18446744073709551615) _).mono ?_
  rintro e v1 ⟨r1_0, r1_1, r1_2, rfl, ⟨hr1_0, hr1_1, hr1_2⟩, _, _, _, dd⟩
  replace dr := dr.trans dd
  clear dd
  obtain rfl := af_eq (hr1_0.trans ev1_0)
  clear hr1_0
  obtain rfl := af_eq (hr1_1.trans ev1_1)
  clear hr1_1
  obtain rfl := af_eq (hr1_2.trans ev1_2)
  clear hr1_2
  go_wp2_with fail
  with_reducible refine (cG (by omega : (4617315517961601024 : Nat) ≤ 18446744073709551615) (by omega : (0 : Nat) ≤ 18446744073709551615) _).mono ?_
  rintro e v2 ⟨r2_0, r2_1, r2_2, rfl, ⟨hr2_0, hr2_1, hr2_2⟩, _, _, _, dd⟩
  replace dr := dr.trans dd
  clear dd
  obtain rfl := af_eq (hr2_0.trans ev2_0)
  clear hr2_0
  obtain rfl := af_eq (hr2_1.trans ev2_1)
  clear hr2_1
  obtain rfl := af_eq (hr2_2.trans ev2_2)
  clear hr2_2
  go_wp2_with fail
  with_reducible refine (cG (by omega : (0 : Nat) ≤ 18446744073709551615) (by omega : (4611686018427387904 : Nat) ≤ 18446744073709551615) _).mono ?_
  rintro e v3 ⟨r3_0, r3_1, r3_2, rfl, ⟨hr3_0, hr3_1, hr3_2⟩, _, _, _, dd⟩
  replace dr := dr.trans dd
  clear dd
  obtain rfl := af_eq (hr3_0.trans ev3_0)
  clear hr3_0
  obtain rfl := af_eq (hr3_1.trans ev3_1)
  clear hr3_1
  obtain rfl := af_eq (hr3_2.trans ev3_2)
  clear hr3_2
  go_wp2_with fail
  with_reducible refine (cE (by omega : (4611686018427387904 : Nat) ≤ 18446744073709551615) (by omega : (0 : Nat) ≤ 18446744073709551615) (by omega : (4607182418800017408 : Nat) ≤ 18446744073709551615) _).mono ?_
  rintro e v4 ⟨r4_0, r4_1, r4_2, r4_3, rfl, ⟨hr4_0, hr4_1, hr4_2, hr4_3⟩, ⟨_, _, _, _⟩, dd⟩
  replace dr := dr.trans dd
  clear dd
  obtain rfl := af_eq (hr4_0.trans ev4_0)
  clear hr4_0
  obtain rfl := af_eq (hr4_1.trans ev4_1)
  clear hr4_1
  obtain rfl := af_eq (hr4_2.trans ev4_2)
  clear hr4_2
  obtain rfl := af_eq (hr4_3.trans ev4_3)
  clear hr4_3
  go_wp2_with fail
  with_reducible refine (cS (by omega : (4613937818241073152 : Nat) ≤ 18446744073709551615) (by omega : (0 : Nat) ≤ 18446744073709551615) (by omega : (4616189618054758400 : Nat) ≤ 18446744073709551615) _).mono ?_
  rintro e v5 ⟨r5_0, r5_1, rfl, ⟨hr5_0, hr5_1⟩, _, _, dd⟩
  replace dr := dr.trans dd
  clear dd
  obtain rfl := af_eq (hr5_0.trans ev5_0)
  clear hr5_0
  obtain rfl := af_eq (hr5_1.trans ev5_1)
  clear hr5_1
  go_wp2_with fail
  with_reducible refine (cS (by omega : (0 : Nat) ≤ 18446744073709551615) (by omega : (4611686018427387904 : Nat) ≤ 18446744073709551615) (by omega : (0 : Nat) ≤ 18446744073709551615) _).mono ?_
  rintro e v6 ⟨r6_0, r6_1, rfl, ⟨hr6_0, hr6_1⟩, _, _, dd⟩
  replace dr := dr.trans dd
  clear dd
  obtain rfl := af_eq (hr6_0.trans ev6_0)
  clear hr6_0
  obtain rfl := af_eq (hr6_1.trans ev6_1)
  clear hr6_1
  go_wp2_with fail
  with_reducible refine (cH (x := 4613937818241073152) (y := 4616189618054758400) (by omega) (by omega) _).mono ?_
  rintro e v_h1 ⟨r_h1, rfl, h_h1, _, dd⟩
  replace dr := dr.trans dd
  clear dd
  obtain rfl := af_eq (h_h1.trans ev_h1)
  clear h_h1
  have o1 : (FloatKind.f64.format.order 4617315517961601024 4617315517961601024 == some .eq) = true := by decide
  go_wp2_with fail
  with_reducible refine (k_Copysign _).mono ?_
  rintro e vc ⟨rfl, rfl⟩
  go_wp2_with fail
  with_reducible refine (cH (x := 0) (y := 9223372036854775808) (by omega) (by omega) _).mono ?_
  rintro e v_h2 ⟨r_h2, rfl, h_h2, _, dd⟩
  replace dr := dr.trans dd
  clear dd
  obtain rfl := af_eq (h_h2.trans ev_h2)
  clear h_h2
  have o2 : (FloatKind.f64.format.order 0 0 == some .eq) = true := by decide
  go_wp2_with fail
  have fb : FL (v_h2.alloc (.cells #[.float .f64 4607182418800017408, .float .f64 4611686018427387904, .float .f64 4611686018427387904] 22)) (some ⟨v_h2.heap.size, 0, none⟩) 3 3 [4607182418800017408, 4611686018427387904, 4611686018427387904] := fl_built (W := v_h2) (l := [4607182418800017408, 4611686018427387904, 4611686018427387904]) (fun x hx => by simp only [List.mem_cons, List.not_mem_nil, or_false] at hx; omega) (by decide)
  with_reducible refine (cN fb).mono ?_
  rintro e v_n1 ⟨r_n1, rfl, h_n1, _, dd⟩
  have K := ((dr.below w.heap.size).alloc (by rw [dr.size]; exact Nat.le_refl _) _).trans (dd.below w.heap.size)
  clear dd dr
  obtain rfl := af_eq (h_n1.trans ev_n1)
  clear h_n1 fb
  have o3 : (FloatKind.f64.format.order 4613937818241073152 4613937818241073152 == some .eq) = true := by decide
  go_wp2_with fail
  with_reducible refine (cN (FL.nil _)).mono ?_
  rintro e v_n2 ⟨r_n2, rfl, h_n2, _, dd⟩
  replace K := K.trans (dd.below w.heap.size)
  clear dd
  obtain rfl := af_eq (h_n2.trans ev_n2)
  clear h_n2
  have o4 : (FloatKind.f64.format.order 4605380978949069210 4603579539098121012 == some .gt) = true := by decide
  have o5 : (FloatKind.f64.format.order 4603579539098121012 4603489467105573601 == some .gt) = true := by decide
  have o6 : (FloatKind.f64.format.order 4607182418800017408 4607182418800017408 == some .eq) = true := by decide
  have o7 : (FloatKind.f64.format.order 4611686018427387904 4611686018427387904 == some .eq) = true := by decide
  have o8 : (FloatKind.f64.format.order 13830554455654793216 13830554455654793216 == some .eq) = true := by decide
  have o9 : (FloatKind.f64.format.order 9223372036854775808 0 == some .eq) = true := by decide
  have o10 : (FloatKind.f64.format.order 4616189618054758400 4616189618054758400 == some .eq) = true := by decide
  go_wp2_with fail
  with_reducible refine (rSame_any (x := 4617315517961601024) (y := 4617315517961601024) (by omega) (by omega) rfl _).mono ?_
  rintro e u ⟨rfl, rfl⟩
  go_wp2_with fail
  go_ret
  exact ⟨rfl, K⟩
end Go.Proofs.Ytmfikppnkjhmjaa
