/-
  Layer 6, plain mathematics: a length, and the same of words times 2^k.
-/
import Derived.Test.YtmfikppnkjhmjaaRtG
namespace Go.Bw
open Go Go.Rt
set_option linter.unusedVariables false
set_option linter.unusedSimpArgs false
theorem div_zero {z : Nat} (hz : z < 9218868437227405312) (z0 : dg z ≠ 0) : Ieee.double.div 0 z = some 0 := by
  have hq : Ieee.double.div 0 z = ((Ieee.double.read 0).quotient 54 (Ieee.double.read z)).map Ieee.double.write := rfl
  have ez : z % 9223372036854775808 = z := Nat.mod_eq_of_lt (by omega)
  have sz : (z / 9223372036854775808 % 2 == 1) = false := by simp; omega
  have rz := read_word z (by rw [ez]; exact hz)
  rw [ez, sz] at rz
  rw [hq, rz, read_word 0 (by decide), show (0 / 9223372036854775808 % 2 == 1) = false by decide, show dg (0 % 9223372036854775808) = 0 by decide, quot_any _ _ _ _ _ _ z0]
  rw [Nat.zero_shiftLeft, Nat.zero_div, Nat.zero_mod]
  show some (Ieee.double.nearest false 0 _) = some 0
  unfold Ieee.Format.nearest
  rw [if_pos rfl, double_word]
  rfl
/-- sqrt(1 + (q / p)^2), of words of no sign -/
theorem root_of {p q : Nat} (hp : p < 9218868437227405312) (hq : q < 9218868437227405312) (p0 : dg p ≠ 0) (h : fvm q ≤ fvm p) :
    ∃ t v w Q, Ieee.double.div q p = some t ∧ Ieee.double.mul t t = some v ∧ Ieee.double.add oneW v = some w ∧ Ieee.double.sqrt w = some Q ∧ finN t ∧ Q < 9218868437227405312 ∧ fvm Q ≤ 2 ∧ 1/2 ≤ fvm Q := by
  have ep : p % 9223372036854775808 = p := Nat.mod_eq_of_lt (by omega)
  have eq : q % 9223372036854775808 = q := Nat.mod_eq_of_lt (by omega)
  by_cases q0 : dg q = 0
  · have : q = 0 := by unfold dg at q0; split at q0 <;> omega
    subst this
    refine ⟨0, 0, oneW, oneW, div_zero hp p0, by decide, by decide +kernel, by decide +kernel, by unfold finN; decide, by decide, ?_, ?_⟩
    · rw [fvm_one]; grind
    · rw [fvm_one]; grind
  · obtain ⟨t, v, w, Q, c, s, h1, h2, h3, h4, -, -, h5, -, -, h6, -, -, h7, h8, -⟩ := rot (f := p) (g := q) (fin_of_lt hp) (fin_of_lt hq) (by rw [ep]; exact p0) (by rw [eq]; exact q0) h
    exact ⟨t, v, w, Q, h1, h2, h3, h4, h5, h6, h7, h8⟩
theorem two_split {a b c : Int} {n : Rat} (hc : c = a + b) (h : (2 : Rat) ^ b = n) : (2 : Rat) ^ c = 2 ^ a * n := by rw [hc, two_add, h]
/-- a length's size -/
theorem len_val {p Q : Nat} (hp : finN p) (hQ : finN Q) (h1 : (2 : Rat) ^ (-400 : Int) ≤ fvm p) (h2 : fvm p ≤ 2 ^ (400 : Int)) (h3 : 1/2 ≤ fvm Q) (h4 : fvm Q ≤ 2) :
    ∃ r, Ieee.double.mul p Q = some r ∧ finN r ∧ (2 : Rat) ^ (-402 : Int) ≤ fvm r ∧ fvm r ≤ 2 ^ (402 : Int) ∧ (p / 9223372036854775808 % 2 = Q / 9223372036854775808 % 2 → r < 9223372036854775808) ∧ (2 : Rat) ^ (-401 : Int) ≤ fvm p * fvm Q ∧ fvm p * fvm Q ≤ 2 ^ (401 : Int) := by
  have a0 := two_pos (-410)
  have e1 : (2 : Rat) ^ (-400 : Int) = 2 ^ (-410 : Int) * 1024 := two_split (b := 10) (by decide) (by decide)
  have e2 : (2 : Rat) ^ (-401 : Int) = 2 ^ (-410 : Int) * 512 := two_split (b := 9) (by decide) (by decide)
  have e3 : (2 : Rat) ^ (-402 : Int) = 2 ^ (-410 : Int) * 256 := two_split (b := 8) (by decide) (by decide)
  have e4 := two_le (show (-1075 : Int) ≤ -410 by decide)
  have b0 := two_pos 400
  have e5 : (2 : Rat) ^ (401 : Int) = 2 ^ (400 : Int) * 2 := two_split (b := 1) (by decide) (by decide)
  have e6 : (2 : Rat) ^ (402 : Int) = 2 ^ (400 : Int) * 4 := two_split (b := 2) (by decide) (by decide)
  have e7 : (2 : Rat) ^ (410 : Int) = 2 ^ (400 : Int) * 1024 := two_split (b := 10) (by decide) (by decide)
  have e8 := two_le (show (410 : Int) ≤ 1023 by decide)
  have e9 := two_le (show (-410 : Int) ≤ 400 by decide)
  have P0 := fvm_nonneg p
  have Q0 := fvm_nonneg Q
  have m1 := le_mul h1 h3 (by grind) (by grind)
  have m2 := le_mul h2 h4 P0 Q0
  rw [e1] at m1
  rw [e2, e3, e5, e6]
  generalize (2 : Rat) ^ (-410 : Int) = A at *
  generalize (2 : Rat) ^ (400 : Int) = B at *
  obtain ⟨r, hr, rf, rs, r1, r2⟩ := mul_val hp hQ (by grind)
  refine ⟨r, hr, rf, ?_, ?_, rs, ?_, ?_⟩
  · clear e5 e6 e7 e8 r1; grind
  · clear e1 e2 e3 r2; grind
  · clear e5 e6 e7 e8 r1; grind
  · clear e1 e2 e3 r2; grind
/-- a length of words times 2^k is the length times 2^k -/
theorem len_shw {p Q r : Nat} {k : Int} (hp : finN p) (hQ : finN Q) (h1 : (2 : Rat) ^ (-400 : Int) ≤ fvm p) (h2 : fvm p ≤ 2 ^ (400 : Int)) (h3 : 1/2 ≤ fvm Q) (h4 : fvm Q ≤ 2) (hr : Ieee.double.mul p Q = some r) (hr64 : r ≤ 18446744073709551615) (k0 : -99 ≤ k) (k1 : k ≤ 99) :
    Ieee.double.mul (shw p k) Q = some (shw r k) ∧ Ieee.double.mul r (twoW k) = some (shw r k) := by
  obtain ⟨r', hr', rf, l1, l2, -, l3, l4⟩ := len_val hp hQ h1 h2 h3 h4
  rw [hr] at hr'
  obtain rfl := Option.some.inj hr'
  have b1 := two_le (show (-900 : Int) ≤ -402 by decide)
  have b2 := two_le (show (402 : Int) ≤ 900 by decide)
  have b3 := two_le (show (-900 : Int) ≤ -400 by decide)
  have b4 := two_le (show (400 : Int) ≤ 900 by decide)
  refine ⟨?_, mul_two hr64 (Rat.le_trans b1 l1) (Rat.le_trans l2 b2) rf (by omega) (by omega)⟩
  have sp := stays_of (p := k) hp (Rat.le_trans b3 h1) (Rat.le_trans h2 b4) (by omega) (by omega)
  have c1 := two_le k0
  have c2 := two_le k1
  have n1 := le_mul l3 c1 (Rat.le_of_lt (two_pos _)) (Rat.le_of_lt (two_pos _))
  have n2 := le_mul l4 c2 (Rat.mul_nonneg (fvm_nonneg p) (fvm_nonneg Q)) (Rat.le_of_lt (two_pos _))
  rw [← two_add] at n1 n2
  have d1 := two_le (show (-1022 : Int) ≤ -401 + -99 by decide)
  have d2 := two_le (show (-1022 : Int) ≤ -401 by decide)
  have d3 : (2 : Rat) ^ ((401 : Int) + 99) < 2 ^ (1023 : Int) := by
    rw [show (1023 : Int) = 401 + 99 + 523 by decide, two_add (401 + 99) 523]
    have e := two_le (show (1 : Int) ≤ 523 by decide)
    have e2 : (2 : Rat) ^ (1 : Int) = 2 := by decide
    have q := two_pos ((401 : Int) + 99)
    have := Rat.mul_le_mul_of_nonneg_left e (Rat.le_of_lt q)
    grind
  have d4 := two_le (show (401 : Int) ≤ 401 + 99 by decide)
  rw [mul_shw sp hQ (by grind) (by grind) (by grind) (by grind), hr]
  rfl
end Go.Bw
