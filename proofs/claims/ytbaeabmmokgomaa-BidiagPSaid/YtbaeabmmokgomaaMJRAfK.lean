/-
  Layer 6: what lengths and rotations come to, so far as all NaNs are one.
-/
import Derived.Test.YtbaeabmmokgomaaMJRAfB
namespace Go.Proofs.Ytbaeabmmokgomaa
open Go Go.RowKit
set_option linter.unusedVariables false
set_option linter.unusedSimpArgs false

/-- sqrt(1 + t * t) -/
def rootA (t : Option Nat) : Option Nat := asq (aop .add (some 4607182418800017408) (aop .mul t t))
def hyp2A (p q : Option Nat) : Option Nat := if eqA p (some 0) then p else aop .mul p (rootA (aop .quo q p))
def hypA (a b : Option Nat) : Option Nat := if gtA (absA b) (absA a) then hyp2A (absA b) (absA a) else hyp2A (absA a) (absA b)
theorem af_zero : af 0 = some 0 := by decide
theorem af_one : af 4607182418800017408 = some 4607182418800017408 := by decide
theorem af_two : af 4611686018427387904 = some 4611686018427387904 := by decide
theorem af_half : af 4602678819172646912 = some 4602678819172646912 := by decide
theorem af_mhalf : af 13826050856027422720 = some 13826050856027422720 := by decide
/-- three floats are handed back -/
def FA3 (p : Option Nat × Option Nat × Option Nat) (w : World) (e : Ending) (w' : World) : Prop := ∃ a b c, e = .returned (.tuple #[.float .f64 a, .float .f64 b, .float .f64 c]) ∧ (af a = p.1 ∧ af b = p.2.1 ∧ af c = p.2.2) ∧ a ≤ 18446744073709551615 ∧ b ≤ 18446744073709551615 ∧ c ≤ 18446744073709551615 ∧ Dr w w'
def rot1A (t f : Option Nat) : Option Nat × Option Nat × Option Nat := (aop .quo (some 4607182418800017408) (rootA t), aop .mul (aop .quo (some 4607182418800017408) (rootA t)) t, aop .mul f (rootA t))
def givA (f g : Option Nat) : Option Nat × Option Nat × Option Nat :=
  if eqA g (some 0) then (some 4607182418800017408, some 0, f) else if eqA f (some 0) then (some 0, some 4607182418800017408, g) else
  if gtA (absA f) (absA g) then rot1A (aop .quo g f) f else ((rot1A (aop .quo f g) g).2.1, (rot1A (aop .quo f g) g).1, (rot1A (aop .quo f g) g).2.2)
end Go.Proofs.Ytbaeabmmokgomaa
