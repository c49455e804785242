/-
  Layer 6, walks: roots, sizes, floats that are the same, lengths of two: by the reference.
-/
import Derived.Test.YtbaeabmmokgomaaMJAfA
import Derived.WalkSpells
import Derived.WalkLawsBesides
import Derived.Deep.QuietTactic
import Derived.BigQuiet
import Derived.Lib.Hide
import Derived.Handy
namespace Go.Proofs.Ytbaeabmmokgomaa
open Go Go.RowKit
set_option linter.unusedVariables false
set_option linter.unusedSimpArgs false

theorem run_float64bits (n : Nat) (w : World) : (callFunc 94 #[.float .f64 n]).run Try.prog w = .ok (.value (.int .u64 (n : Int))) w := by
  rw [run_callFunc_extern (e := Extern.MathFloatBits.float64bits) Try.func94 (by kernel_rfl) (by kernel_rfl) (by kernel_rfl) (by kernel_rfl)]; rfl
theorem run_float64frombits (x : Int) (w : World) : (callFunc 50 #[.int .u64 x]).run Try.prog w = .ok (.value (.float .f64 x.toNat)) w := by
  rw [run_callFunc_extern (e := Extern.MathFloatBits.float64frombits) Try.func50 (by kernel_rfl) (by kernel_rfl) (by kernel_rfl) (by kernel_rfl)]; rfl
/-- a float is handed back that is so far f; no more than draws -/
def FP (f : Option Nat) (w : World) (e : Ending) (w' : World) : Prop := ∃ r, e = .returned (.float .f64 r) ∧ af r = f ∧ r ≤ 18446744073709551615 ∧ w = w'
def FA (f : Option Nat) (w : World) (e : Ending) (w' : World) : Prop := ∃ r, e = .returned (.float .f64 r) ∧ af r = f ∧ r ≤ 18446744073709551615 ∧ Dr w w'
theorem ext_sqrt (y : Nat) : Extern.MathSqrt.sqrt #[.float .f64 y] = (match FloatKind.f64.format.sqrt y with
    | some r => pure (.float .f64 r)
    | none => do pure (.float .f64 (← choose (.nanBits .f64 y y)))) := rfl
theorem run_root {x : Nat} (hx : x ≤ 18446744073709551615) (W : World) :
    ∃ r W', (callFunc 98 #[.float .f64 x]).run Try.prog W = .ok (.value (.float .f64 r)) W' ∧ Dr W W' ∧ af r = asq (af x) ∧ r ≤ 18446744073709551615 := by
  rw [asq_is hx]
  rw [run_callFunc_extern (e := Extern.MathSqrt.sqrt) Try.func98 (by kernel_rfl) (by kernel_rfl) (by kernel_rfl) (by kernel_rfl), ext_sqrt]
  cases h : Ieee.double.sqrt x with
  | some r =>
    have h2 : FloatKind.f64.format.sqrt x = some r := h
    rw [h2]
    have hlt : r < 2 ^ Ieee.double.width := Ieee.Format.sqrt_lt Ieee.double h
    rw [show (2 : Nat) ^ Ieee.double.width = 18446744073709551616 by decide] at hlt
    exact ⟨r, W, rfl, Dr.refl W, af_some (root_notN h), by omega⟩
  | none =>
    have h2 : FloatKind.f64.format.sqrt x = none := h
    rw [h2]
    have hp := pick_nan x x W
    refine ⟨pick (.nanBits .f64 x x) W, W.drew, ?_, ⟨1, rfl⟩, af_none hp.2, hp.1⟩
    simp [run_choose_drew, Question.forced, pick, Result.andThen]

set_option maxHeartbeats 400000 in
theorem sqrt_any {x : Nat} (hx : x ≤ 18446744073709551615) (w : World) : Calls Try.prog 78 #[.float .f64 x] w (FA (asq (af x)) w) := by
  obtain ⟨r, w1, e1, d1, h1, b1⟩ := run_root hx w
  have H1 := Lib.hid h1
  clear h1
  go_enter Try.func78, Try.ntmps78
  go_wp2_with fail
  go_ret
  exact ⟨r, rfl, H1.out, b1, d1⟩

set_option maxHeartbeats 400000 in
theorem rAbs_any {x : Nat} (hx : x ≤ 18446744073709551615) (w : World) : Calls Try.prog 95 #[.float .f64 x] w (FP (absA (af x)) w) := by
  have hb := run_float64bits x
  have hf := run_float64frombits (x % 9223372036854775808 : Nat)
  have e1 : IntKind.u64.wrap ((x : Int) * 2) / 2 = ((x % 9223372036854775808 : Nat) : Int) := by rw [IntKind.wrap_u64]; omega
  have h9 := abs_is x
  rw [Int.toNat_natCast] at hf
  have H9 := Lib.hid h9
  have b9 : x % 9223372036854775808 ≤ 18446744073709551615 := by omega
  generalize x % 9223372036854775808 = y at *
  clear h9
  go_enter Try.func95, Try.ntmps95
  go_wp2_with fail
  go_ret
  exact ⟨_, rfl, H9.out, b9, rfl⟩

end Go.Proofs.Ytbaeabmmokgomaa
