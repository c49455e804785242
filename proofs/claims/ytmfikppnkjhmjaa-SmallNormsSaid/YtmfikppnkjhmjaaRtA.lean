/-
  Layer 6, plain mathematics over the rationals: a rotation's c and s.
-/
namespace Go.Rt
set_option linter.unusedVariables false
theorem le_mul {a b c d : Rat} (h : a ≤ b) (k : c ≤ d) (hb : 0 ≤ a) (hc : 0 ≤ c) : a * c ≤ b * d :=
  Rat.le_trans (Rat.mul_le_mul_of_nonneg_right h hc) (Rat.mul_le_mul_of_nonneg_left k (Rat.le_trans hb h))
/-- a rotation's c and s are nearly of length 1, whatever each operation's error, up to 2^-52 of it and 2^-60 beside it, is -/
theorem rot_upper {T v w Q c s : Rat} (hT0 : 0 ≤ T) (hT1 : T ≤ 1 + 1/1125899906842624)
    (hv2 : T * T * (1 - 1/4503599627370496) - 1/1152921504606846976 ≤ v)
    (hw2 : (1 + v) * (1 - 1/4503599627370496) - 1/1152921504606846976 ≤ w)
    (hq2 : w * ((1 - 1/4503599627370496) * (1 - 1/4503599627370496)) ≤ Q * Q) (hQ : 0 < Q) (hQ2 : Q ≤ 2)
    (hc1 : c * Q ≤ 1 + 1/4503599627370496 + 1/1152921504606846976) (hc : 0 < c)
    (hs1 : s ≤ c * T * (1 + 1/4503599627370496) + 1/1152921504606846976) (hs : 0 ≤ s) : c * c + s * s ≤ 1 + 1/562949953421312 := by
  have hS0 : 0 ≤ T * T := Rat.mul_nonneg hT0 hT0
  have hS1 : T * T ≤ 1 + 1/281474976710656 := by
    have := le_mul hT1 hT1 hT0 hT0
    grind
  have hcQ : 0 ≤ c * Q := Rat.mul_nonneg (Rat.le_of_lt hc) (Rat.le_of_lt hQ)
  have c2 := le_mul hc1 hc1 hcQ hcQ
  have hcT : 0 ≤ c * T := Rat.mul_nonneg (Rat.le_of_lt hc) hT0
  have s1 : s * Q ≤ (1 + 1/4503599627370496 + 1/1152921504606846976) * (1 + 1/4503599627370496) * T + 2 * 1/1152921504606846976 := by
    have a1 := Rat.mul_le_mul_of_nonneg_right hs1 (Rat.le_of_lt hQ)
    have a2 := Rat.mul_le_mul_of_nonneg_right hc1 hT0
    grind
  have hsQ : 0 ≤ s * Q := Rat.mul_nonneg hs (Rat.le_of_lt hQ)
  have s2 := le_mul s1 s1 hsQ hsQ
  have hX : 0 ≤ c * c + s * s := by
    have := Rat.mul_nonneg (Rat.le_of_lt hc) (Rat.le_of_lt hc)
    have := Rat.mul_nonneg hs hs
    grind
  -- what w and Q Q are at least
  obtain ⟨S, hS⟩ : ∃ S, T * T = S := ⟨_, rfl⟩
  have e1 : (1 + S * (1 - 1/4503599627370496) - 1/1152921504606846976) * (1 - 1/4503599627370496) - 1/1152921504606846976 ≤ w := by
    rw [hS] at hv2
    grind
  have e2 : ((1 + S * (1 - 1/4503599627370496) - 1/1152921504606846976) * (1 - 1/4503599627370496) - 1/1152921504606846976) * ((1 - 1/4503599627370496) * (1 - 1/4503599627370496)) ≤ Q * Q := by
    grind
  have e3 := Rat.mul_le_mul_of_nonneg_left e2 hX
  have e4 : (c * c + s * s) * (Q * Q) ≤ (1 + 1/4503599627370496 + 1/1152921504606846976) * (1 + 1/4503599627370496 + 1/1152921504606846976) + ((1 + 1/4503599627370496 + 1/1152921504606846976) * (1 + 1/4503599627370496)) * ((1 + 1/4503599627370496 + 1/1152921504606846976) * (1 + 1/4503599627370496)) * S + 16 * 1/1152921504606846976 := by
    rw [← hS]
    grind
  have hS0' : 0 ≤ S := by rw [← hS]; exact hS0
  have hS1' : S ≤ 1 + 1/281474976710656 := by rw [← hS]; exact hS1
  refine Rat.le_of_mul_le_mul_right (c := ((1 + S * (1 - 1/4503599627370496) - 1/1152921504606846976) * (1 - 1/4503599627370496) - 1/1152921504606846976) * ((1 - 1/4503599627370496) * (1 - 1/4503599627370496))) (Rat.le_trans e3 (Rat.le_trans e4 ?_)) ?_
  · grind
  · grind
theorem rot_lower {T v w Q c s : Rat} (hT0 : 0 ≤ T) (hT1 : T ≤ 1 + 1/1125899906842624)
    (hv1 : v ≤ T * T * (1 + 1/4503599627370496) + 1/1152921504606846976)
    (hw1 : w ≤ (1 + v) * (1 + 1/4503599627370496) + 1/1152921504606846976)
    (hq1 : Q * Q ≤ w * ((1 + 1/4503599627370496) * (1 + 1/4503599627370496))) (hQ : 0 < Q) (hQ2 : Q ≤ 2)
    (hc2 : 1 - 1/4503599627370496 - 1/1152921504606846976 ≤ c * Q) (hc : 0 < c)
    (hs2 : c * T * (1 - 1/4503599627370496) - 1/1152921504606846976 ≤ s) (hs : 0 ≤ s) : 1 - 1/562949953421312 ≤ c * c + s * s := by
  have hS0 : 0 ≤ T * T := Rat.mul_nonneg hT0 hT0
  have hS1 : T * T ≤ 1 + 1/281474976710656 := by
    have := le_mul hT1 hT1 hT0 hT0
    grind
  have c2 := le_mul hc2 hc2 (by grind) (by grind)
  have s1 : (1 - 1/4503599627370496 - 1/1152921504606846976) * (1 - 1/4503599627370496) * T ≤ s * Q + 2 * 1/1152921504606846976 := by
    have a1 := Rat.mul_le_mul_of_nonneg_right hs2 (Rat.le_of_lt hQ)
    have a2 := Rat.mul_le_mul_of_nonneg_right hc2 hT0
    grind
  have hl : 0 ≤ (1 - 1/4503599627370496 - 1/1152921504606846976) * (1 - 1/4503599627370496) * T := Rat.mul_nonneg (by grind) hT0
  have s2 := le_mul s1 s1 hl hl
  have hX : 0 ≤ c * c + s * s := by
    have := Rat.mul_nonneg (Rat.le_of_lt hc) (Rat.le_of_lt hc)
    have := Rat.mul_nonneg hs hs
    grind
  obtain ⟨S, hS⟩ : ∃ S, T * T = S := ⟨_, rfl⟩
  have e1 : w ≤ (1 + S * (1 + 1/4503599627370496) + 1/1152921504606846976) * (1 + 1/4503599627370496) + 1/1152921504606846976 := by
    rw [hS] at hv1
    grind
  have e2 : Q * Q ≤ ((1 + S * (1 + 1/4503599627370496) + 1/1152921504606846976) * (1 + 1/4503599627370496) + 1/1152921504606846976) * ((1 + 1/4503599627370496) * (1 + 1/4503599627370496)) := by
    grind
  have e3 := Rat.mul_le_mul_of_nonneg_left e2 hX
  have hS0' : 0 ≤ S := by rw [← hS]; exact hS0
  have hS1' : S ≤ 1 + 1/281474976710656 := by rw [← hS]; exact hS1
  have hU : s * Q ≤ 3 ∨ 3 < s * Q := by grind
  rcases hU with hU | hU
  · have e4 : (1 - 1/4503599627370496 - 1/1152921504606846976) * (1 - 1/4503599627370496 - 1/1152921504606846976) + ((1 - 1/4503599627370496 - 1/1152921504606846976) * (1 - 1/4503599627370496)) * ((1 - 1/4503599627370496 - 1/1152921504606846976) * (1 - 1/4503599627370496)) * S - 16 * 1/1152921504606846976 ≤ (c * c + s * s) * (Q * Q) := by
      have eX : (c * c + s * s) * (Q * Q) = c * Q * (c * Q) + s * Q * (s * Q) := by grind
      rw [eX, ← hS]
      clear e3 e2 e1 eX hq1 hs2 hc2
      generalize s * Q = U at *
      generalize c * Q * (c * Q) = W at *
      grind
    refine Rat.le_of_mul_le_mul_right (c := ((1 + S * (1 + 1/4503599627370496) + 1/1152921504606846976) * (1 + 1/4503599627370496) + 1/1152921504606846976) * ((1 + 1/4503599627370496) * (1 + 1/4503599627370496))) (Rat.le_trans (Rat.le_trans ?_ e4) e3) ?_
    · grind
    · grind
  · have big := le_mul (Rat.le_of_lt hU) (Rat.le_of_lt hU) (by grind) (by grind)
    have q4 := le_mul hQ2 hQ2 (Rat.le_of_lt hQ) (Rat.le_of_lt hQ)
    have hss : 0 ≤ s * s := Rat.mul_nonneg hs hs
    have cc : 0 ≤ c * c := Rat.mul_nonneg (Rat.le_of_lt hc) (Rat.le_of_lt hc)
    have b2 := Rat.mul_le_mul_of_nonneg_left q4 hss
    grind
end Go.Rt
