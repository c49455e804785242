/-
  Layer 6, walks: the program's sizes, signs, lengths of a right angle, and what turns. (Written by wip/tools/gen_afg.py.)
-/
import Derived.Test.YtbaeabmmokgomaaMJRAfQ
namespace Go.Proofs.Ytbaeabmmokgomaa
open Go Go.RowKit Go.Bw
set_option linter.unusedVariables false
set_option linter.unusedSimpArgs false
def hyp1A (p q : Option Nat) : Option Nat := aop .mul p (rootA (aop .quo q p))

set_option maxHeartbeats 400000 in
theorem gAbs_any {x : Nat} (hx : x ≤ 18446744073709551615) (w : World) : Calls Try.prog 77 #[.float .f64 x] w (FP (absA (af x)) w) := by
  have hb := run_float64bits x
  have hf := run_float64frombits (x % 9223372036854775808 : Nat)
  rw [Int.toNat_natCast] at hf
  have e1 : bits .andNot .u64 (x : Int) 9223372036854775808 = ((x % 9223372036854775808 : Nat) : Int) := by
    rw [andnot_sign _ (by omega) (by omega)]; unfold mag; omega
  have H9 := Lib.hid (abs_is x)
  have b9 : x % 9223372036854775808 ≤ 18446744073709551615 := by omega
  generalize x % 9223372036854775808 = y at *
  go_enter Try.func77, Try.ntmps77
  go_wp2_with fail
  go_ret
  exact ⟨_, rfl, H9.out, b9, rfl⟩

theorem and_sgn {y : Nat} (hy : y ≤ 18446744073709551615) : bits .and .u64 (y : Int) 9223372036854775808 = ((y / 9223372036854775808 * 9223372036854775808 : Nat) : Int) := by
  rw [u64_and _ _ (by omega) (by omega) (by omega) (by omega)]
  rw [Int.toNat_natCast, show (9223372036854775808 : Int).toNat = 9223372036854775808 by decide, and_sign_nat y (by omega)]
  have h2 : y / 9223372036854775808 % 2 = y / 9223372036854775808 := by omega
  rw [h2]
set_option maxHeartbeats 400000 in
theorem gCopysign_any {x y : Nat} (hx : x ≤ 18446744073709551615) (hy : y ≤ 18446744073709551615) (w : World) : Calls Try.prog 79 #[.float .f64 x, .float .f64 y] w (FP (sgnA (af x) y) w) := by
  have hb := run_float64bits x
  have hb2 := run_float64bits y
  have hf := run_float64frombits (sgnW x y : Nat)
  rw [Int.toNat_natCast] at hf
  have e1 : bits .andNot .u64 (x : Int) 9223372036854775808 = ((x % 9223372036854775808 : Nat) : Int) := by
    rw [andnot_sign _ (by omega) (by omega)]; unfold mag; omega
  have e2 := and_sgn hy
  have e3 := or_sgn (x := x) hy
  have h9 := Lib.hid (sgn_isA (x := x) hy)
  have b9 := sgn_bd (x := x) hy
  generalize sgnW x y = z at *
  generalize x % 9223372036854775808 = p at *
  generalize y / 9223372036854775808 * 9223372036854775808 = q at *
  go_enter Try.func79, Try.ntmps79
  go_wp2_with fail
  go_ret
  exact ⟨_, rfl, h9.out, b9, rfl⟩
theorem gSign_any : ConSign := by
  intro x y hx hy w
  go_enter Try.func53, Try.ntmps53
  go_wp2_with fail
  with_reducible refine (gCopysign_any hx hy _).mono ?_
  rintro e w1 ⟨r, rfl, h, b, rfl⟩
  have H := Lib.hid h
  clear h
  go_wp2_with fail
  go_ret
  exact ⟨_, rfl, H.out, b, rfl⟩

set_option maxHeartbeats 2000000 in
theorem gslant_any {t : Nat} (ht : t ≤ 18446744073709551615) (w : World) :
    Calls Try.prog 99 #[.float .f64 t] w (FA (rootA (af t)) w) := by
  have dr := Dr.refl w
  have b0 : 0 ≤ 18446744073709551615 := by omega
  have bI : 4607182418800017408 ≤ 18446744073709551615 := by omega
  go_enter Try.func99, Try.ntmps99
  obtain ⟨r1, w1, e1, d1, h1, b1⟩ := run_mul (P := Try.prog) 49 (x := t) (y := t) ht ht w
  have H1 := Lib.hid h1
  clear h1
  replace dr := dr.trans d1
  clear d1
  obtain ⟨r2, w2, e2, d2, h2, b2⟩ := run_add (P := Try.prog) 49 (x := 4607182418800017408) (y := r1) bI b1 w1
  have H2 := Lib.hid h2
  clear h2
  replace dr := dr.trans d2
  clear d2
  go_wp2_with fail
  with_reducible refine (sqrt_any b2 _).mono ?_
  rintro e w3 ⟨r3, rfl, h3, b3, d3⟩
  have H3 := Lib.hid h3
  clear h3
  replace dr := dr.trans d3
  clear d3
  go_wp2_with fail
  go_ret
  refine ⟨_, rfl, ?_, b3, dr⟩
  unfold rootA
  rw [← af_one, ← H1.out, ← H2.out, ← H3.out]

set_option maxHeartbeats 2000000 in
theorem glength_any {p q : Nat} (hp : p ≤ 18446744073709551615) (hq : q ≤ 18446744073709551615) (w : World) :
    Calls Try.prog 81 #[.float .f64 p, .float .f64 q] w (FA (hyp1A (af p) (af q)) w) := by
  have dr := Dr.refl w
  have b0 : 0 ≤ 18446744073709551615 := by omega
  have bI : 4607182418800017408 ≤ 18446744073709551615 := by omega
  go_enter Try.func81, Try.ntmps81
  obtain ⟨r1, w1, e1, d1, h1, b1⟩ := run_quo (P := Try.prog) 49 (x := q) (y := p) hq hp w
  have H1 := Lib.hid h1
  clear h1
  replace dr := dr.trans d1
  clear d1
  go_wp2_with fail
  with_reducible refine (gslant_any b1 _).mono ?_
  rintro e w2 ⟨r2, rfl, h2, b2, d2⟩
  have H2 := Lib.hid h2
  clear h2
  replace dr := dr.trans d2
  clear d2
  obtain ⟨r3, w3, e3, d3, h3, b3⟩ := run_mul (P := Try.prog) 49 (x := p) (y := r2) hp b2 w2
  have H3 := Lib.hid h3
  clear h3
  replace dr := dr.trans d3
  clear d3
  go_wp2_with fail
  go_ret
  refine ⟨_, rfl, ?_, b3, dr⟩
  unfold hyp1A
  rw [← H1.out, ← H2.out, ← H3.out]

set_option maxHeartbeats 400000 in
theorem gordered_yes {p q : Nat} (hp : p ≤ 18446744073709551615) (hq : q ≤ 18446744073709551615) (h : (FloatKind.f64.format.order q p == some .gt) = true) (w : World) :
    Calls Try.prog 80 #[.float .f64 p, .float .f64 q] w fun e w' => e = .returned (.tuple #[.float .f64 q, .float .f64 p]) ∧ w = w' := by
  go_enter Try.func80, Try.ntmps80
  go_wp2_with fail
  go_ret2
  exact ⟨rfl, rfl⟩

set_option maxHeartbeats 400000 in
theorem gordered_no {p q : Nat} (hp : p ≤ 18446744073709551615) (hq : q ≤ 18446744073709551615) (h : (FloatKind.f64.format.order q p == some .gt) = false) (w : World) :
    Calls Try.prog 80 #[.float .f64 p, .float .f64 q] w fun e w' => e = .returned (.tuple #[.float .f64 p, .float .f64 q]) ∧ w = w' := by
  go_enter Try.func80, Try.ntmps80
  go_wp2_with fail
  go_ret2
  exact ⟨rfl, rfl⟩

end Go.Proofs.Ytbaeabmmokgomaa
