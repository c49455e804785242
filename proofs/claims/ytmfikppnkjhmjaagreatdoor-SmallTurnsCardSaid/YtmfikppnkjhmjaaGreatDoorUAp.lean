/-
  Layer 6: what the program's functions are to answer, and known().
-/
import Derived.Test.YtmfikppnkjhmjaaGreatDoorUAa
import Derived.Test.YtmfikppnkjhmjaaGreatDoorUAm
import Derived.Test.YtmfikppnkjhmjaaGreatDoorTNB1
import Derived.Deep.DeepCutAuto
import Derived.Below
namespace Go.Proofs.YtmfikppnkjhmjaaGreatDoor
open Go Go.RowKit
set_option linter.unusedVariables false
set_option linter.unusedSimpArgs false

end Go.Proofs.YtmfikppnkjhmjaaGreatDoor
namespace Go.Proofs.YtmfikppnkjhmjaaGreatDoor
open Go Go.RowKit
set_option linter.unusedVariables false
set_option linter.unusedSimpArgs false

/-- two floats are handed back -/
def FA2 (p : Option Nat × Option Nat) (w : World) (e : Ending) (w' : World) : Prop := ∃ a b, e = .returned (.tuple #[.float .f64 a, .float .f64 b]) ∧ (af a = p.1 ∧ af b = p.2) ∧ a ≤ 18446744073709551615 ∧ b ≤ 18446744073709551615 ∧ Dr w w'
def hyp1A (p q : Option Nat) : Option Nat := aop .mul p (rootA (aop .quo q p))
def sgA (lo hi ga : Option Nat) : Option Nat × Option Nat :=
  let s := aop .add (some 4607182418800017408) (aop .quo lo hi)
  let t := aop .quo (aop .sub hi lo) hi
  let v := aop .mul (aop .quo ga hi) (aop .quo ga hi)
  let c := asq (aop .add (aop .mul s s) v)
  let d := asq (aop .add (aop .mul t t) v)
  let k := aop .quo (some 4611686018427387904) (aop .add c d)
  (aop .mul lo k, aop .quo hi k)
def sbA (lo hi ga v : Option Nat) : Option Nat × Option Nat :=
  let s := aop .add (some 4607182418800017408) (aop .quo lo hi)
  let t := aop .quo (aop .sub hi lo) hi
  let p := aop .mul s v
  let q := aop .mul t v
  let a := asq (aop .add (some 4607182418800017408) (aop .mul p p))
  let b := asq (aop .add (some 4607182418800017408) (aop .mul q q))
  let c := aop .quo (some 4607182418800017408) (aop .add a b)
  let w := aop .mul (aop .mul lo c) v
  (aop .add w w, aop .quo ga (aop .add c c))
def sing2A (lo hi ga : Option Nat) : Option Nat × Option Nat :=
  if eqA lo (some 0) then (if eqA hi (some 0) then (some 0, ga) else (some 0, if gtA ga hi then hyp1A ga hi else hyp1A hi ga))
  else if ltA ga hi then sgA lo hi ga
  else if eqA (aop .quo hi ga) (some 0) then (aop .quo (aop .mul lo hi) ga, ga) else sbA lo hi ga (aop .quo hi ga)
def singA (f g h : Option Nat) : Option Nat × Option Nat :=
  if ltA (absA h) (absA f) then sing2A (absA h) (absA f) (absA g) else sing2A (absA f) (absA h) (absA g)

end Go.Proofs.YtmfikppnkjhmjaaGreatDoor
namespace Go.Proofs.YtmfikppnkjhmjaaGreatDoor
open Go Go.RowKit
set_option linter.unusedVariables false
set_option linter.unusedSimpArgs false

/-- four floats are handed back -/
def FA4 (p : Option Nat × Option Nat × Option Nat × Option Nat) (w : World) (e : Ending) (w' : World) : Prop := ∃ a b c d, e = .returned (.tuple #[.float .f64 a, .float .f64 b, .float .f64 c, .float .f64 d]) ∧ (af a = p.1 ∧ af b = p.2.1 ∧ af c = p.2.2.1 ∧ af d = p.2.2.2) ∧ (a ≤ 18446744073709551615 ∧ b ≤ 18446744073709551615 ∧ c ≤ 18446744073709551615 ∧ d ≤ 18446744073709551615) ∧ Dr w w'
def rtA (ad ab : Option Nat) : Option Nat := if gtA ad ab then hyp1A ad ab else if ltA ad ab then hyp1A ab ad else aop .mul ab (asq (some 4611686018427387904))
def yA (x hi lo b : Option Nat) : Option Nat := aop .sub (aop .mul (aop .quo hi x) lo) (aop .mul (aop .quo b x) b)
/-- the eigenvalues, and whether the first one is below 0 -/
def xyA (sm rt hi lo b : Option Nat) : Option Nat × Option Nat × Int :=
  if ltA sm (some 0) then (aop .mul (some 4602678819172646912) (aop .sub sm rt), yA (aop .mul (some 4602678819172646912) (aop .sub sm rt)) hi lo b, -1)
  else if gtA sm (some 0) then (aop .mul (some 4602678819172646912) (aop .add sm rt), yA (aop .mul (some 4602678819172646912) (aop .add sm rt)) hi lo b, 1)
  else (aop .mul (some 4602678819172646912) rt, aop .mul (some 13826050856027422720) rt, 1)
def csA (df rt : Option Nat) : Option Nat × Int := if geA df (some 0) then (aop .add df rt, 1) else (aop .sub df rt, -1)
def snA (cs ab tb : Option Nat) : Option Nat × Option Nat :=
  if gtA (absA cs) ab then (aop .mul (aop .quo (negA tb) cs) (aop .quo (some 4607182418800017408) (rootA (aop .quo (negA tb) cs))), aop .quo (some 4607182418800017408) (rootA (aop .quo (negA tb) cs)))
  else if eqA ab (some 0) then (some 4607182418800017408, some 0)
  else (aop .quo (some 4607182418800017408) (rootA (aop .quo (negA cs) tb)), aop .mul (aop .quo (negA cs) tb) (aop .quo (some 4607182418800017408) (rootA (aop .quo (negA cs) tb))))
def hiA (a c : Option Nat) : Option Nat × Option Nat := if gtA (absA a) (absA c) then (a, c) else (c, a)
def eig2A (sm df tb hi lo b : Option Nat) : Option Nat × Option Nat × Option Nat × Option Nat :=
  let rt := rtA (absA df) (absA tb)
  let x := xyA sm rt hi lo b
  let c := csA df rt
  let v := snA c.1 (absA tb) tb
  if x.2.2 = c.2 then (x.1, x.2.1, negA v.2, v.1) else (x.1, x.2.1, v.1, v.2)
def eigA (a b c : Option Nat) : Option Nat × Option Nat × Option Nat × Option Nat := eig2A (aop .add a c) (aop .sub a c) (aop .add b b) (hiA a c).1 (hiA a c).2 b

end Go.Proofs.YtmfikppnkjhmjaaGreatDoor
namespace Go.Proofs.YtmfikppnkjhmjaaGreatDoor
open Go Go.RowKit Go.Bw
set_option linter.unusedVariables false
set_option linter.unusedSimpArgs false

/-- x's size, y's sign -/
def sgnW (x y : Nat) : Nat := x % 9223372036854775808 + y / 9223372036854775808 * 9223372036854775808
def sgnA (a : Option Nat) (y : Nat) : Option Nat := a.map (sgnW · y)
theorem sgn_bd {x y : Nat} (hy : y ≤ 18446744073709551615) : sgnW x y ≤ 18446744073709551615 := by unfold sgnW; omega
theorem sgn_isA {x y : Nat} (hy : y ≤ 18446744073709551615) : af (sgnW x y) = sgnA (af x) y := by
  have e : isN (sgnW x y) = isN x := by
    unfold isN sgnW
    exact decide_eq_decide.2 (by constructor <;> intro h <;> omega)
  cases h : isN x
  · rw [h] at e
    rw [af_some e, af_some h]; rfl
  · rw [h] at e
    rw [af_none e, af_none h]; rfl
theorem or_sgn {x y : Nat} (hy : y ≤ 18446744073709551615) : bits .or .u64 ((x % 9223372036854775808 : Nat) : Int) ((y / 9223372036854775808 * 9223372036854775808 : Nat) : Int) = (sgnW x y : Nat) := by
  unfold sgnW
  have : y / 9223372036854775808 = 0 ∨ y / 9223372036854775808 = 1 := by omega
  rcases this with e | e <;> rw [e]
  · rw [Nat.zero_mul, Nat.add_zero]
    rw [u64_or _ _ (by omega) (by omega) (by omega) (by omega)]
    simp
    omega
  · have := or_sign ((x % 9223372036854775808 : Nat) : Int) (by omega) (by omega)
    rw [Nat.one_mul]
    rw [show ((9223372036854775808 : Nat) : Int) = 9223372036854775808 from rfl, this]
    omega
end Go.Proofs.YtmfikppnkjhmjaaGreatDoor
namespace Go.Proofs.YtmfikppnkjhmjaaGreatDoor
open Go Go.RowKit Go.Bw
set_option linter.unusedVariables false
set_option linter.unusedSimpArgs false

abbrev ConHypot : Prop := ∀ {x y : Nat}, x ≤ 18446744073709551615 → y ≤ 18446744073709551615 → ∀ w : World, Calls Tryz.prog 7 #[.float .f64 x, .float .f64 y] w (FA (hypA (af x) (af y)) w)
abbrev ConKnown : Prop := ∀ w : World, Calls Tryz.prog 5 #[] w fun e w' => e = .returned (.bool true) ∧ Below w.heap.size w w'
theorem Dr.below {w w' : World} (h : Dr w w') (B : Nat) : Below B w w' := by
  obtain ⟨n, rfl⟩ := h
  exact ⟨rfl, rfl, rfl, Nat.le_refl _, fun _ _ => rfl⟩
theorem Dr.size {w w' : World} (h : Dr w w') : w'.heap.size = w.heap.size := by
  obtain ⟨n, rfl⟩ := h
  rfl
theorem below_of {w v w' : World} (h : Dr w v) (hb : Below v.heap.size v w') : Below w.heap.size w w' := (h.below _).trans (h.size ▸ hb)
theorem ne_is (x : Nat) (hx : x ≤ 18446744073709551615) : (FloatKind.f64.format.order x x != some .eq) = isN x := by
  cases h : isN x
  · rw [← aord_is hx hx, af_some h]
    have : eqA (some x) (some x) = true := by
      unfold eqA
      by_cases hi : x % 9223372036854775808 = 9218868437227405312
      · have : x = 9218868437227405312 ∨ x = 18442240474082181120 := by omega
        rcases this with rfl | rfl <;> decide
      · have hf : fin (x : Int) = true := by
          have := notN_le h
          unfold fin mag; simp; omega
        have := (order_lt x x hx hx hf hf).2.2
        have e : aord (some x) (some x) = FloatKind.f64.format.order x x := rfl
        rw [e, this]
        exact decide_eq_true rfl
    unfold eqA at this
    revert this
    generalize aord (some x) (some x) = o
    intro this
    rw [eq_of_beq this]
    rfl
  · exact order_self_is hx h

end Go.Proofs.YtmfikppnkjhmjaaGreatDoor
namespace Go.Proofs.YtmfikppnkjhmjaaGreatDoor
open Go Go.RowKit Go.Bw
set_option linter.unusedVariables false
set_option linter.unusedSimpArgs false

abbrev ConNorm : Prop := ∀ {A : Option Addr} {len c : Nat} {l : List Int} {w : World}, FL w A len c l → Calls Tryz.prog 19 #[.slice A len c] w (FA (nrmA l) w)
abbrev ConGivens : Prop := ∀ {x y : Nat}, x ≤ 18446744073709551615 → y ≤ 18446744073709551615 → ∀ w : World, Calls Tryz.prog 6 #[.float .f64 x, .float .f64 y] w (FA3 (givA (af x) (af y)) w)
def turnA (c s x y : Option Nat) : Option Nat × Option Nat := (aop .add (aop .mul c x) (aop .mul s y), aop .sub (aop .mul c y) (aop .mul s x))
abbrev ConEigen : Prop := ∀ {x y z : Nat}, x ≤ 18446744073709551615 → y ≤ 18446744073709551615 → z ≤ 18446744073709551615 → ∀ w : World, Calls Tryz.prog 21 #[.float .f64 x, .float .f64 y, .float .f64 z] w (FA4 (eigA (af x) (af y) (af z)) w)
abbrev ConSingular : Prop := ∀ {x y z : Nat}, x ≤ 18446744073709551615 → y ≤ 18446744073709551615 → z ≤ 18446744073709551615 → ∀ w : World, Calls Tryz.prog 22 #[.float .f64 x, .float .f64 y, .float .f64 z] w (FA2 (singA (af x) (af y) (af z)) w)

end Go.Proofs.YtmfikppnkjhmjaaGreatDoor
namespace Go.Proofs.YtmfikppnkjhmjaaGreatDoor
open Go Go.RowKit Go.Bw
set_option linter.unusedVariables false
set_option linter.unusedSimpArgs false
theorem af_eq {r W : Nat} (h : af r = some W) : r = W := by
  unfold af at h
  split at h
  · cases h
  · exact Option.some.inj h
set_option maxRecDepth 1000000 in
set_option maxHeartbeats 16000000 in
theorem k_Copysign (w : World) : Calls Tryz.prog 23 #[.float .f64 0, .float .f64 13830554455654793216] w fun e w' => e = .returned (.float .f64 9223372036854775808) ∧ w = w' := by
  have h9 := run_float64frombitsG 9223372036854775808
  have h8 := run_float64bitsG 0
  have h7 := run_float64bitsG 13830554455654793216
  have h6 : bits .andNot .u64 0 9223372036854775808 = 0 := by decide
  have h5 : bits .and .u64 13830554455654793216 9223372036854775808 = 9223372036854775808 := by decide
  have h4 : bits .or .u64 0 9223372036854775808 = 9223372036854775808 := by decide
  go_enter Tryz.func23, Tryz.ntmps23
  go_wp2_with fail
  go_ret
  exact ⟨rfl, rfl⟩

theorem ev1_0 : (givA (af 4613937818241073152) (af 4616189618054758400)).1 = some 4603579539098121012 := by decide +kernel
theorem ev1_1 : (givA (af 4613937818241073152) (af 4616189618054758400)).2.1 = some 4605380978949069210 := by decide +kernel
theorem ev1_2 : (givA (af 4613937818241073152) (af 4616189618054758400)).2.2 = some 4617315517961601024 := by decide +kernel
theorem ev2_0 : (givA (af 4617315517961601024) (af 0)).1 = some 4607182418800017408 := by decide +kernel
theorem ev2_1 : (givA (af 4617315517961601024) (af 0)).2.1 = some 0 := by decide +kernel
theorem ev2_2 : (givA (af 4617315517961601024) (af 0)).2.2 = some 4617315517961601024 := by decide +kernel
theorem ev3_0 : (givA (af 0) (af 4611686018427387904)).1 = some 0 := by decide +kernel
theorem ev3_1 : (givA (af 0) (af 4611686018427387904)).2.1 = some 4607182418800017408 := by decide +kernel
theorem ev3_2 : (givA (af 0) (af 4611686018427387904)).2.2 = some 4611686018427387904 := by decide +kernel
theorem ev4_0 : (eigA (af 4611686018427387904) (af 0) (af 4607182418800017408)).1 = some 4611686018427387904 := by decide +kernel
theorem ev4_1 : (eigA (af 4611686018427387904) (af 0) (af 4607182418800017408)).2.1 = some 4607182418800017408 := by decide +kernel
theorem ev4_2 : (eigA (af 4611686018427387904) (af 0) (af 4607182418800017408)).2.2.1 = some 13830554455654793216 := by decide +kernel
theorem ev4_3 : (eigA (af 4611686018427387904) (af 0) (af 4607182418800017408)).2.2.2 = some 9223372036854775808 := by decide +kernel
theorem ev5_0 : (singA (af 4613937818241073152) (af 0) (af 4616189618054758400)).1 = some 4613937818241073152 := by decide +kernel
theorem ev5_1 : (singA (af 4613937818241073152) (af 0) (af 4616189618054758400)).2 = some 4616189618054758400 := by decide +kernel
theorem ev6_0 : (singA (af 0) (af 4611686018427387904) (af 0)).1 = some 0 := by decide +kernel
theorem ev6_1 : (singA (af 0) (af 4611686018427387904) (af 0)).2 = some 4611686018427387904 := by decide +kernel
theorem ev_h1 : hypA (af 4613937818241073152) (af 4616189618054758400) = some 4617315517961601024 := by decide +kernel
theorem ev_h2 : hypA (af 0) (af 9223372036854775808) = some 0 := by decide +kernel
theorem ev_n1 : nrmA [4607182418800017408, 4611686018427387904, 4611686018427387904] = some 4613937818241073152 := by decide +kernel
theorem ev_n2 : nrmA [] = some 0 := by decide +kernel

set_option maxRecDepth 100000 in
set_option maxHeartbeats 8000000 in
theorem known_any (cH : ConHypot) (cN : ConNorm) (cG : ConGivens) (cE : ConEigen) (cS : ConSingular) : ConKnown := fun w => by
  have dr := Dr.refl w
  go_enter Tryz.func5, Tryz.ntmps5
  go_wp2_with fail
  with_reducible refine (cG (by omega : (4613937818241073152 : Nat) ≤ 18446744073709551615) (by omega : (4616189618054758400 : Nat) ≤ 18446744073709551615) _).mono ?_
  rintro e v1 ⟨r1_0, r1_1, r1_2, rfl, ⟨hr1_0, hr1_1, hr1_2⟩, _, _, _, dd⟩
  replace dr := dr.trans dd
  clear dd
  obtain rfl := af_eq (hr1_0.trans ev1_0)
  clear hr1_0
  obtain rfl := af_eq (hr1_1.trans ev1_1)
  clear hr1_1
  obtain rfl := af_eq (hr1_2.trans ev1_2)
  clear hr1_2
  go_wp2_with fail
  with_reducible refine (cG (by omega : (4617315517961601024 : Nat) ≤ 18446744073709551615) (by omega : (0 : Nat) ≤ 18446744073709551615) _).mono ?_
  rintro e v2 ⟨r2_0, r2_1, r2_2, rfl, ⟨hr2_0, hr2_1, hr2_2⟩, _, _, _, dd⟩
  replace dr := dr.trans dd
  clear dd
  obtain rfl := af_eq (hr2_0.trans ev2_0)
  clear hr2_0
  obtain rfl := af_eq (hr2_1.trans ev2_1)
  clear hr2_1
  obtain rfl := af_eq (hr2_2.trans ev2_2)
  clear hr2_2
  go_wp2_with fail
  with_reducible refine (cG (by omega : (0 : Nat) ≤ 18446744073709551615) (by omega : (4611686018427387904 : Nat) ≤ 18446744073709551615) _).mono ?_
  rintro e v3 ⟨r3_0, r3_1, r3_2, rfl, ⟨hr3_0, hr3_1, hr3_2⟩, _, _, _, dd⟩
  replace dr := dr.trans dd
  clear dd
  obtain rfl := af_eq (hr3_0.trans ev3_0)
  clear hr3_0
  obtain rfl := af_eq (hr3_1.trans ev3_1)
  clear hr3_1
  obtain rfl := af_eq (hr3_2.trans ev3_2)
  clear hr3_2
  go_wp2_with fail
  with_reducible refine (cE (by omega : (4611686018427387904 : Nat) ≤ 18446744073709551615) (by omega : (0 : Nat) ≤ 18446744073709551615) (by omega : (4607182418800017408 : Nat) ≤ 18446744073709551615) _).mono ?_
  rintro e v4 ⟨r4_0, r4_1, r4_2, r4_3, rfl, ⟨hr4_0, hr4_1, hr4_2, hr4_3⟩, ⟨_, _, _, _⟩, dd⟩
  replace dr := dr.trans dd
  clear dd
  obtain rfl := af_eq (hr4_0.trans ev4_0)
  clear hr4_0
  obtain rfl := af_eq (hr4_1.trans ev4_1)
  clear hr4_1
  obtain rfl := af_eq (hr4_2.trans ev4_2)
  clear hr4_2
  obtain rfl := af_eq (hr4_3.trans ev4_3)
  clear hr4_3
  go_wp2_with fail
  with_reducible refine (cS (by omega : (4613937818241073152 : Nat) ≤ 18446744073709551615) (by omega : (0 : Nat) ≤ 18446744073709551615) (by omega : (4616189618054758400 : Nat) ≤ 18446744073709551615) _).mono ?_
  rintro e v5 ⟨r5_0, r5_1, rfl, ⟨hr5_0, hr5_1⟩, _, _, dd⟩
  replace dr := dr.trans dd
  clear dd
  obtain rfl := af_eq (hr5_0.trans ev5_0)
  clear hr5_0
  obtain rfl := af_eq (hr5_1.trans ev5_1)
  clear hr5_1
  go_wp2_with fail
  with_reducible refine (cS (by omega : (0 : Nat) ≤ 18446744073709551615) (by omega : (4611686018427387904 : Nat) ≤ 18446744073709551615) (by omega : (0 : Nat) ≤ 18446744073709551615) _).mono ?_
  rintro e v6 ⟨r6_0, r6_1, rfl, ⟨hr6_0, hr6_1⟩, _, _, dd⟩
  replace dr := dr.trans dd
  clear dd
  obtain rfl := af_eq (hr6_0.trans ev6_0)
  clear hr6_0
  obtain rfl := af_eq (hr6_1.trans ev6_1)
  clear hr6_1
  go_wp2_with fail
  with_reducible refine (cH (x := 4613937818241073152) (y := 4616189618054758400) (by omega) (by omega) _).mono ?_
  rintro e v_h1 ⟨r_h1, rfl, h_h1, _, dd⟩
  replace dr := dr.trans dd
  clear dd
  obtain rfl := af_eq (h_h1.trans ev_h1)
  clear h_h1
  have o1 : (FloatKind.f64.format.order 4617315517961601024 4617315517961601024 == some .eq) = true := by decide
  go_wp2_with fail
  with_reducible refine (k_Copysign _).mono ?_
  rintro e vc ⟨rfl, rfl⟩
  go_wp2_with fail
  with_reducible refine (cH (x := 0) (y := 9223372036854775808) (by omega) (by omega) _).mono ?_
  rintro e v_h2 ⟨r_h2, rfl, h_h2, _, dd⟩
  replace dr := dr.trans dd
  clear dd
  obtain rfl := af_eq (h_h2.trans ev_h2)
  clear h_h2
  have o2 : (FloatKind.f64.format.order 0 0 == some .eq) = true := by decide
  go_wp2_with fail
  have fb : FL (v_h2.alloc (.cells #[.float .f64 4607182418800017408, .float .f64 4611686018427387904, .float .f64 4611686018427387904] 22)) (some ⟨v_h2.heap.size, 0, none⟩) 3 3 [4607182418800017408, 4611686018427387904, 4611686018427387904] := fl_built (W := v_h2) (l := [4607182418800017408, 4611686018427387904, 4611686018427387904]) (fun x hx => by simp only [List.mem_cons, List.not_mem_nil, or_false] at hx; omega) (by decide)
  with_reducible refine (cN fb).mono ?_
  rintro e v_n1 ⟨r_n1, rfl, h_n1, _, dd⟩
  have K := ((dr.below w.heap.size).alloc (by rw [dr.size]; exact Nat.le_refl _) _).trans (dd.below w.heap.size)
  clear dd dr
  obtain rfl := af_eq (h_n1.trans ev_n1)
  clear h_n1 fb
  have o3 : (FloatKind.f64.format.order 4613937818241073152 4613937818241073152 == some .eq) = true := by decide
  go_wp2_with fail
  with_reducible refine (cN (FL.nil _)).mono ?_
  rintro e v_n2 ⟨r_n2, rfl, h_n2, _, dd⟩
  replace K := K.trans (dd.below w.heap.size)
  clear dd
  obtain rfl := af_eq (h_n2.trans ev_n2)
  clear h_n2
  have o4 : (FloatKind.f64.format.order 4605380978949069210 4603579539098121012 == some .gt) = true := by decide
  have o5 : (FloatKind.f64.format.order 4603579539098121012 4603489467105573601 == some .gt) = true := by decide
  have o6 : (FloatKind.f64.format.order 4607182418800017408 4607182418800017408 == some .eq) = true := by decide
  have o7 : (FloatKind.f64.format.order 4611686018427387904 4611686018427387904 == some .eq) = true := by decide
  have o8 : (FloatKind.f64.format.order 13830554455654793216 13830554455654793216 == some .eq) = true := by decide
  have o9 : (FloatKind.f64.format.order 9223372036854775808 0 == some .eq) = true := by decide
  have o10 : (FloatKind.f64.format.order 4616189618054758400 4616189618054758400 == some .eq) = true := by decide
  go_wp2_with fail
  with_reducible refine (rSame_any (x := 4617315517961601024) (y := 4617315517961601024) (by omega) (by omega) rfl _).mono ?_
  rintro e u ⟨rfl, rfl⟩
  go_wp2_with fail
  go_ret
  exact ⟨rfl, K⟩
end Go.Proofs.YtmfikppnkjhmjaaGreatDoor
