/-
  Layer 2, plain mathematics of a square root by halves.
-/
import Derived.Test.YtigphbjgodfhpaaDoorNatA
namespace Go.Proofs.YtigphbjgodfhpaaDoor
set_option linter.unusedVariables false

/-- s is v's root, r what is left -/
def IsRoot (v s r : Int) : Prop := v = s * s + r ∧ 0 ≤ s ∧ 0 ≤ r ∧ r ≤ 2 * s

section
variable {v P a lo s r : Int}
/-- of the upper half -/
theorem root_upper (hP : 1 ≤ P) (hv : v = a * (P * P) + lo) (hlo0 : 0 ≤ lo) (hlo1 : lo < P * P) (ha : P * P ≤ a) (h : IsRoot a s r) :
    P ≤ s ∧ a ≤ v ∧ lo ≤ v ∧ s ≤ v ∧ r ≤ v ∧ r * P ≤ v ∧ s * P ≤ v ∧ P * P ≤ v ∧ lo / P ≤ v ∧ 0 ≤ lo / P ∧ lo / P < P ∧ 0 ≤ lo % P ∧ lo % P < P ∧ lo = lo / P * P + lo % P := by
  obtain ⟨h1, h2, h3, h4⟩ := h
  have hPP : 1 ≤ P * P := by
    have := Int.mul_le_mul_of_nonneg_left hP (show 0 ≤ P by omega); omega
  have haP : a * 1 ≤ a * (P * P) := Int.mul_le_mul_of_nonneg_left hPP (by omega)
  have hs0 : P ≤ s := by
    rcases (show P ≤ s ∨ s + 1 ≤ P by omega) with h | h
    · exact h
    · have a1 : (s + 1) * (s + 1) ≤ P * P := Int.mul_le_mul h h (by omega) (by omega)
      have e : (s + 1) * (s + 1) = s * s + 2 * s + 1 := by grind
      omega
  have hss : s * 1 ≤ s * s := Int.mul_le_mul_of_nonneg_left (by omega) h2
  have hrP : r * P ≤ a * (P * P) := by
    have b1 : r * P ≤ a * P := Int.mul_le_mul_of_nonneg_right (by omega) (by omega)
    have b2 : a * P * 1 ≤ a * P * P := Int.mul_le_mul_of_nonneg_left hP (Int.mul_nonneg (by omega) (by omega))
    have e : a * P * P = a * (P * P) := by grind
    omega
  have hsP : s * P ≤ a * (P * P) := by
    have b1 : s * P ≤ a * P := Int.mul_le_mul_of_nonneg_right (by omega) (by omega)
    have b2 : a * P * 1 ≤ a * P * P := Int.mul_le_mul_of_nonneg_left hP (Int.mul_nonneg (by omega) (by omega))
    have e : a * P * P = a * (P * P) := by grind
    omega
  have d1 := Int.mul_ediv_add_emod lo P
  have d2 := Int.emod_nonneg lo (show P ≠ 0 by omega)
  have d3 := Int.emod_lt_of_pos lo (show 0 < P by omega)
  have d4 : 0 ≤ lo / P := Int.ediv_nonneg hlo0 (by omega)
  have d5 : lo / P < P := Int.ediv_lt_of_lt_mul (by omega) hlo1
  have d6 : lo / P ≤ lo := Int.ediv_le_self _ hlo0
  refine ⟨hs0, by omega, by omega, by omega, by omega, by omega, by omega, by omega, by omega, d4, d5, d2, d3, ?_⟩
  have : P * (lo / P) = lo / P * P := Int.mul_comm _ _
  omega
/-- of both halves -/
theorem root_both {Q R lh ll : Int} (hP : 1 ≤ P) (hv : v = a * (P * P) + (lh * P + ll)) (h : IsRoot a s r) (hs : P ≤ s) (h0 : 0 ≤ lh) (h1 : lh < P) (h2 : 0 ≤ ll) (h3 : ll < P)
    (hQ : r * P + lh = Q * (s * 2) + R) (hQ0 : 0 ≤ Q) (hR0 : 0 ≤ R) (hR : R < s * 2) :
    Q ≤ P ∧ R * P + ll - Q * Q = v - (s * P + Q) * (s * P + Q) ∧ (Q * Q ≤ R * P + ll → IsRoot v (s * P + Q) (R * P + ll - Q * Q)) ∧
      (R * P + ll < Q * Q → 1 ≤ s * P + Q ∧ IsRoot v (s * P + Q - 1) (R * P + ll + ((s * P + Q - 1) * 2 + 1) - Q * Q) ∧ Q * Q ≤ R * P + ll + ((s * P + Q - 1) * 2 + 1)) := by
  obtain ⟨g1, g2, g3, g4⟩ := h
  have hQP : Q ≤ P := by
    rcases (show Q ≤ P ∨ P + 1 ≤ Q by omega) with h | h
    · exact h
    · have b1 : (P + 1) * (s * 2) ≤ Q * (s * 2) := Int.mul_le_mul_of_nonneg_right h (by omega)
      have b2 : r * P ≤ 2 * s * P := Int.mul_le_mul_of_nonneg_right g4 (by omega)
      have e : (P + 1) * (s * 2) = 2 * s * P + 2 * s := by grind
      omega
  have hD : R * P + ll - Q * Q = v - (s * P + Q) * (s * P + Q) := by
    have e1 : R = r * P + lh - Q * (s * 2) := by omega
    rw [hv, g1, e1]; grind
  have hsP : P * P ≤ s * P := Int.mul_le_mul_of_nonneg_right hs (by omega)
  have hQQ : Q * Q ≤ P * P := Int.mul_le_mul hQP hQP hQ0 (by omega)
  have hRP : R * P ≤ (s * 2 - 1) * P := Int.mul_le_mul_of_nonneg_right (by omega) (by omega)
  have e2 : (s * 2 - 1) * P = 2 * (s * P) - P := by grind
  have hRP0 : 0 ≤ R * P := Int.mul_nonneg hR0 (by omega)
  have hQQ0 : 0 ≤ Q * Q := Int.mul_nonneg hQ0 hQ0
  have hPP : 1 ≤ P * P := by
    have := Int.mul_le_mul_of_nonneg_left hP (show 0 ≤ P by omega); omega
  refine ⟨hQP, hD, fun h => ⟨by omega, by omega, by omega, by omega⟩, fun h => ⟨by omega, ⟨?_, by omega, by omega, by omega⟩, by omega⟩⟩
  have e3 : (s * P + Q - 1) * (s * P + Q - 1) = (s * P + Q) * (s * P + Q) - 2 * (s * P + Q) + 1 := by grind
  omega
end
end Go.Proofs.YtigphbjgodfhpaaDoor
