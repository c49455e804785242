/-
  Layer 2, plain mathematics of a division of two words by one (Knuth's), digit by digit of 32 bits.
-/
import Derived.Test.YtigphbjgodfhpaaDoorNatS
namespace Go.Proofs.YtigphbjgodfhpaaDoor
open Go
set_option linter.unusedVariables false

/-- q is the quotient's digit -/
def Dig (u u1 y q : Int) : Prop := 0 ≤ q ∧ q < 4294967296 ∧ q * y ≤ 4294967296 * u + u1 ∧ 4294967296 * u + u1 < q * y + y

section
variable {u u1 y yn1 yn0 q r : Int}
theorem dig_start (hy : y = yn1 * 4294967296 + yn0) (h1 : 2147483648 ≤ yn1) (h2 : yn1 < 4294967296) (h3 : 0 ≤ yn0) (h4 : yn0 < 4294967296) (hu0 : 0 ≤ u) (hu : u < y) (hu1 : 0 ≤ u1) (hu2 : u1 < 4294967296) :
    0 ≤ u / yn1 ∧ u / yn1 ≤ 4294967297 ∧ 0 ≤ u % yn1 ∧ u % yn1 < 4294967296 ∧ u / yn1 * yn1 + u % yn1 = u ∧ 4294967296 * u + u1 < u / yn1 * y + y := by
  have e := Int.mul_ediv_add_emod u yn1
  have m0 := Int.emod_nonneg u (show yn1 ≠ 0 by omega)
  have m1 := Int.emod_lt_of_pos u (show 0 < yn1 by omega)
  have q0 : 0 ≤ u / yn1 := Int.ediv_nonneg hu0 (by omega)
  generalize u / yn1 = q at *
  generalize u % yn1 = r at *
  refine ⟨q0, ?_, m0, by omega, by grind, ?_⟩
  · rcases (show q ≤ 4294967297 ∨ 4294967298 ≤ q by omega) with h | h
    · exact h
    · have : 0 ≤ yn1 * (q - 4294967298) := Int.mul_nonneg (by omega) (by omega)
      have e2 : yn1 * (q - 4294967298) = yn1 * q - yn1 * 4294967298 := by grind
      omega
  · have a : 0 ≤ (q * yn1 + yn1 - 1 - u) * 4294967296 := by
      have : yn1 * q = q * yn1 := Int.mul_comm _ _
      exact Int.mul_nonneg (by omega) (by omega)
    have b : 0 ≤ (q + 1) * yn0 := Int.mul_nonneg (by omega) h3
    have e3 : q * y + y = (q * yn1 + yn1) * 4294967296 + (q + 1) * yn0 := by rw [hy]; grind
    omega
theorem dig_more (hy : y = yn1 * 4294967296 + yn0) (h1 : 2147483648 ≤ yn1) (h3 : 0 ≤ yn0) (hu : u < y) (hu2 : u1 < 4294967296) (hq : q * yn1 + r = u)
    (h : 4294967296 ≤ q ∨ 4294967296 * r + u1 < q * yn0) (hq0 : 0 ≤ q) : 4294967296 * u + u1 < q * y ∧ (q - 1) * yn1 + (r + yn1) = u := by
  refine ⟨?_, by grind⟩
  rcases h with h | h
  · have a : 0 ≤ (q - 4294967296) * y := Int.mul_nonneg (by omega) (by omega)
    have e : (q - 4294967296) * y = q * y - 4294967296 * y := by grind
    omega
  · have e : q * y = q * yn1 * 4294967296 + q * yn0 := by rw [hy]; grind
    omega
theorem dig_pos (h : 4294967296 * u + u1 < q * y) (hu : 0 ≤ u) (hu1 : 0 ≤ u1) (hy : 0 < y) (hq : 0 ≤ q) : 1 ≤ q := by
  rcases (show q = 0 ∨ 1 ≤ q by omega) with h2 | h2
  · subst h2; omega
  · exact h2
theorem dig_exit (hy : y = yn1 * 4294967296 + yn0) (hq : q * yn1 + r = u) (hq0 : 0 ≤ q) (hq1 : q < 4294967296) (h : q * yn0 ≤ 4294967296 * r + u1) (hlt : 4294967296 * u + u1 < q * y + y) : Dig u u1 y q := by
  have e : q * y = q * yn1 * 4294967296 + q * yn0 := by rw [hy]; grind
  exact ⟨hq0, hq1, by omega, hlt⟩
theorem dig_break (hy : y = yn1 * 4294967296 + yn0) (h1 : 2147483648 ≤ yn1) (h3 : 0 ≤ yn0) (h4 : yn0 < 4294967296) (hu : u < y) (hu1 : 0 ≤ u1) (hu2 : u1 < 4294967296) (hq : q * yn1 + r = u) (hq0 : 0 ≤ q) (hq1 : q ≤ 4294967296) (hr : 4294967296 ≤ r)
    (hlt : 4294967296 * u + u1 < q * y + y) : Dig u u1 y q := by
  have a : 0 ≤ (4294967296 - q) * yn0 := Int.mul_nonneg (by omega) h3
  have e1 : (4294967296 - q) * yn0 = 4294967296 * yn0 - q * yn0 := by grind
  have e : q * y = q * yn1 * 4294967296 + q * yn0 := by rw [hy]; grind
  have le : q * y ≤ 4294967296 * u + u1 := by omega
  refine ⟨hq0, ?_, le, hlt⟩
  rcases (show q < 4294967296 ∨ q = 4294967296 by omega) with h | h
  · exact h
  · subst h; omega
theorem dig_unique {q' : Int} (h : Dig u u1 y q) (h' : Dig u u1 y q') (hy : 0 < y) : q = q' := by
  obtain ⟨_, _, a, b⟩ := h
  obtain ⟨_, _, c, d⟩ := h'
  rcases Int.lt_trichotomy q q' with g | g | g
  · have : 0 ≤ (q' - q - 1) * y := Int.mul_nonneg (by omega) (by omega)
    have e : (q' - q - 1) * y = q' * y - q * y - y := by grind
    omega
  · exact g
  · have : 0 ≤ (q - q' - 1) * y := Int.mul_nonneg (by omega) (by omega)
    have e : (q - q' - 1) * y = q * y - q' * y - y := by grind
    omega
end

/-- both digits, put together; s: how far all was shifted -/
theorem dig_both {hi lo y0 y P u un10 u1 u0 q1 q0 : Int} (hP : 0 < P) (hy : y = y0 * P) (hN : (hi * 18446744073709551616 + lo) * P = u * 18446744073709551616 + un10) (h10 : un10 = u1 * 4294967296 + u0)
    (d1 : Dig u u1 y q1) (d0 : Dig (4294967296 * u + u1 - q1 * y) u0 y q0) :
    ∃ r, 4294967296 * (4294967296 * u + u1 - q1 * y) + u0 - q0 * y = r * P ∧ 0 ≤ r ∧ r < y0 ∧ hi * 18446744073709551616 + lo = (q1 * 4294967296 + q0) * y0 + r := by
  obtain ⟨_, _, a, b⟩ := d1
  obtain ⟨_, _, c, d⟩ := d0
  have e : 4294967296 * (4294967296 * u + u1 - q1 * y) + u0 - q0 * y = (hi * 18446744073709551616 + lo - (q1 * 4294967296 + q0) * y0) * P := by
    have : (hi * 18446744073709551616 + lo - (q1 * 4294967296 + q0) * y0) * P = (hi * 18446744073709551616 + lo) * P - (q1 * 4294967296 + q0) * (y0 * P) := by grind
    rw [this, hN, ← hy, h10]; grind
  refine ⟨hi * 18446744073709551616 + lo - (q1 * 4294967296 + q0) * y0, e, ?_, ?_, by omega⟩
  · rcases (show 0 ≤ hi * 18446744073709551616 + lo - (q1 * 4294967296 + q0) * y0 ∨ hi * 18446744073709551616 + lo - (q1 * 4294967296 + q0) * y0 ≤ -1 by omega) with h | h
    · exact h
    · have := Int.mul_le_mul_of_nonneg_right h (Int.le_of_lt hP)
      omega
  · generalize hi * 18446744073709551616 + lo - (q1 * 4294967296 + q0) * y0 = r at *
    rcases (show r < y0 ∨ y0 ≤ r by omega) with h | h
    · exact h
    · have := Int.mul_le_mul_of_nonneg_right h (Int.le_of_lt hP)
      omega
end Go.Proofs.YtigphbjgodfhpaaDoor
