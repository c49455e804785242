/-
  Layer 6: what the program's functions are to answer (each is shown of the landed code in a text of its own), and the law of lengths by it.
-/
import Derived.Test.YtbaeabmmokgomaaMJRAfC
import Derived.Test.YtbaeabmmokgomaaMJRAfS
import Derived.Test.YtbaeabmmokgomaaMJGuF
import Derived.Below
namespace Go.Proofs.Ytbaeabmmokgomaa
open Go Go.RowKit Go.Bw
set_option linter.unusedVariables false
set_option linter.unusedSimpArgs false

abbrev ConHypot : Prop := ∀ {x y : Nat}, x ≤ 18446744073709551615 → y ≤ 18446744073709551615 → ∀ w : World, Calls Try.prog 54 #[.float .f64 x, .float .f64 y] w (FA (hypA (af x) (af y)) w)
abbrev ConSign : Prop := ∀ {x y : Nat}, x ≤ 18446744073709551615 → y ≤ 18446744073709551615 → ∀ w : World, Calls Try.prog 53 #[.float .f64 x, .float .f64 y] w (FP (sgnA (af x) y) w)
theorem Dr.below {w w' : World} (h : Dr w w') (B : Nat) : Below B w w' := by
  obtain ⟨n, rfl⟩ := h
  exact ⟨rfl, rfl, rfl, Nat.le_refl _, fun _ _ => rfl⟩
theorem Dr.size {w w' : World} (h : Dr w w') : w'.heap.size = w.heap.size := by
  obtain ⟨n, rfl⟩ := h
  rfl
theorem below_of {w v w' : World} (h : Dr w v) (hb : Below v.heap.size v w') : Below w.heap.size w w' := (h.below _).trans (h.size ▸ hb)
theorem notN_le {x : Nat} (h : isN x = false) : x % 9223372036854775808 ≤ 9218868437227405312 := by
  unfold isN at h
  have := of_decide_eq_false h
  omega
theorem ne_is (x : Nat) (hx : x ≤ 18446744073709551615) : (FloatKind.f64.format.order x x != some .eq) = isN x := by
  cases h : isN x
  · rw [← aord_is hx hx, af_some h]
    have : eqA (some x) (some x) = true := by
      unfold eqA
      by_cases hi : x % 9223372036854775808 = 9218868437227405312
      · have : x = 9218868437227405312 ∨ x = 18442240474082181120 := by omega
        rcases this with rfl | rfl <;> decide
      · have hf : fin (x : Int) = true := by
          have := notN_le h
          unfold fin mag; simp; omega
        have := (order_lt x x hx hx hf hf).2.2
        have e : aord (some x) (some x) = FloatKind.f64.format.order x x := rfl
        rw [e, this]
        exact decide_eq_true rfl
    unfold eqA at this
    revert this
    generalize aord (some x) (some x) = o
    intro this
    rw [eq_of_beq this]
    rfl
  · exact order_self_is hx h

end Go.Proofs.Ytbaeabmmokgomaa
