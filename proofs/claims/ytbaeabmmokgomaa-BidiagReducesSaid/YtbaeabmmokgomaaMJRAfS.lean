/-
  Layer 6, walks: a size with another one's sign, by the reference.
-/
import Derived.Test.YtbaeabmmokgomaaMJRAfK
import Derived.Test.YtbaeabmmokgomaaMJBitsA
namespace Go.Proofs.Ytbaeabmmokgomaa
open Go Go.RowKit Go.Bw
set_option linter.unusedVariables false
set_option linter.unusedSimpArgs false

/-- x's size, y's sign -/
def sgnW (x y : Nat) : Nat := x % 9223372036854775808 + y / 9223372036854775808 * 9223372036854775808
def sgnA (a : Option Nat) (y : Nat) : Option Nat := a.map (sgnW · y)
theorem sgn_bd {x y : Nat} (hy : y ≤ 18446744073709551615) : sgnW x y ≤ 18446744073709551615 := by unfold sgnW; omega
theorem sgn_isA {x y : Nat} (hy : y ≤ 18446744073709551615) : af (sgnW x y) = sgnA (af x) y := by
  have e : isN (sgnW x y) = isN x := by
    unfold isN sgnW
    exact decide_eq_decide.2 (by constructor <;> intro h <;> omega)
  cases h : isN x
  · rw [h] at e
    rw [af_some e, af_some h]; rfl
  · rw [h] at e
    rw [af_none e, af_none h]; rfl
theorem or_sgn {x y : Nat} (hy : y ≤ 18446744073709551615) : bits .or .u64 ((x % 9223372036854775808 : Nat) : Int) ((y / 9223372036854775808 * 9223372036854775808 : Nat) : Int) = (sgnW x y : Nat) := by
  unfold sgnW
  have : y / 9223372036854775808 = 0 ∨ y / 9223372036854775808 = 1 := by omega
  rcases this with e | e <;> rw [e]
  · rw [Nat.zero_mul, Nat.add_zero]
    rw [u64_or _ _ (by omega) (by omega) (by omega) (by omega)]
    simp
    omega
  · have := or_sign ((x % 9223372036854775808 : Nat) : Int) (by omega) (by omega)
    rw [Nat.one_mul]
    rw [show ((9223372036854775808 : Nat) : Int) = 9223372036854775808 from rfl, this]
    omega
set_option maxHeartbeats 400000 in
theorem rSign_any {x y : Nat} (hx : x ≤ 18446744073709551615) (hy : y ≤ 18446744073709551615) (w : World) : Calls Try.prog 70 #[.float .f64 x, .float .f64 y] w (FP (sgnA (af x) y) w) := by
  have hb := run_float64bits x
  have hb2 := run_float64bits y
  have hf := run_float64frombits (sgnW x y : Nat)
  rw [Int.toNat_natCast] at hf
  have e1 : IntKind.u64.wrap ((x : Int) * 2) / 2 = ((x % 9223372036854775808 : Nat) : Int) := by rw [IntKind.wrap_u64]; omega
  have e2 : IntKind.u64.wrap ((y : Int) / 9223372036854775808 * 9223372036854775808) = ((y / 9223372036854775808 * 9223372036854775808 : Nat) : Int) := by rw [IntKind.wrap_u64]; omega
  have e3 := or_sgn (x := x) hy
  have h9 := Lib.hid (sgn_isA (x := x) hy)
  have b9 := sgn_bd (x := x) hy
  generalize sgnW x y = z at *
  generalize x % 9223372036854775808 = p at *
  generalize y / 9223372036854775808 * 9223372036854775808 = q at *
  go_enter Try.func70, Try.ntmps70
  go_wp2_with fail
  go_ret
  exact ⟨_, rfl, h9.out, b9, rfl⟩
end Go.Proofs.Ytbaeabmmokgomaa
