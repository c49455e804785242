/-
  Layer 6, plain mathematics: a float times 1, times 2^p; from a value to its place.
-/
import Derived.Test.YtmfikppnkjhmjaaRtF
namespace Go.Bw
open Go Go.Rt
set_option linter.unusedVariables false
set_option linter.unusedSimpArgs false
/-- what is read is written -/
theorem write_back {y : Nat} (hy : y ≤ 18446744073709551615) (hf : finN y) : Ieee.double.nearest (y / 9223372036854775808 % 2 == 1) (dg (y % 9223372036854775808)) (-1074 + (pl (y % 9223372036854775808) : Nat)) = y := by
  unfold finN at hf
  have hy2 : y / 9223372036854775808 = 0 ∨ y / 9223372036854775808 = 1 := by omega
  obtain ⟨m, hm⟩ : ∃ m, y % 9223372036854775808 = m := ⟨_, rfl⟩
  have hmb : m < 9218868437227405312 := by omega
  obtain ⟨sg, hsg⟩ : ∃ sg, (y / 9223372036854775808 % 2 == 1) = sg := ⟨_, rfl⟩
  have hys : (y : Int) = signW sg m := by
    unfold signW
    rw [← hsg]
    rcases hy2 with e | e <;> rw [e]
    · rw [if_neg (by decide)]; omega
    · rw [if_pos (by decide)]; omega
  rw [hsg, hm]
  by_cases h0 : dg m = 0
  · have m0 : m = 0 := by unfold dg at h0; split at h0 <;> omega
    rw [h0]
    have : (Ieee.double.nearest sg 0 (-1074 + (pl m : Nat)) : Int) = signW sg 0 := by
      unfold Ieee.Format.nearest
      rw [if_pos rfl, double_word]
      unfold signW
      cases sg <;> rfl
    rw [m0] at hys
    have e : ((0 : Nat) : Int) = 0 := rfl
    rw [e] at hys
    omega
  · have h := nearest_is sg (dg m) (-1074 + (pl m : Nat)) h0
    by_cases c : m < 4503599627370496
    · have hd : dg m = m := by unfold dg; rw [if_pos c]
      have hp : pl m = 0 := by unfold pl; rw [if_pos c]
      rw [hd] at h0
      have hl : m.log2 ≤ 51 := by
        have : m.log2 < 52 := (Nat.log2_lt h0).2 (by omega)
        omega
      rw [hd, hp] at h ⊢
      rw [show max (-1074 + ((0 : Nat) : Int) + (m.log2 : Int) - 52) (-1074) = -1074 by omega, if_pos (by decide)] at h
      have e2 : (m : Int) * 2 ^ (-((-1074 : Int) - (-1074 + ((0 : Nat) : Int)))).toNat = m := by
        show (m : Int) * 2 ^ 0 = m
        omega
      rw [e2] at h
      unfold inf at h
      rw [show min ((-1074 + 1074) * 4503599627370496 + (m : Int)) 9218868437227405312 = (m : Int) by omega] at h
      omega
    · obtain ⟨d, hd⟩ : ∃ d, dg m = d := ⟨_, rfl⟩
      have hd' : d = 4503599627370496 + m % 4503599627370496 := by rw [← hd]; unfold dg; rw [if_neg c]
      have hp : pl m = m / 4503599627370496 - 1 := by unfold pl; rw [if_neg c]
      have hl : d.log2 = 52 := by
        have a : d.log2 < 53 := (Nat.log2_lt (by omega)).2 (by omega)
        have b : ¬ d.log2 < 52 := fun c => by
          have := (Nat.log2_lt (by omega)).1 c
          omega
        omega
      rw [hd, hl] at h
      rw [hd]
      rw [show max (-1074 + (pl m : Int) + ((52 : Nat) : Int) - 52) (-1074) = -1074 + (pl m : Int) by omega, if_pos (by omega)] at h
      rw [show (-(-1074 + (pl m : Int) - (-1074 + (pl m : Int)))).toNat = 0 by omega, Int.pow_zero, Int.mul_one] at h
      unfold inf at h
      rw [show min ((-1074 + (pl m : Int) + 1074) * 4503599627370496 + (d : Int)) 9218868437227405312 = (m : Int) by omega] at h
      omega
theorem prod_num (s t : Bool) (m n : Nat) (i j : Int) : (Ieee.Datum.number s m i).product (.number t n j) = some (.number (s ^^ t) (m * n) (i + j)) := rfl
theorem mul_one {y : Nat} (hy : y ≤ 18446744073709551615) (hf : finN y) : Ieee.double.mul oneW y = some y := by
  unfold Ieee.Format.mul
  rw [read_word oneW (by decide), read_word y hf]
  have e : (Ieee.Datum.number (oneW / 9223372036854775808 % 2 == 1) (dg (oneW % 9223372036854775808)) (-1074 + (pl (oneW % 9223372036854775808) : Nat))).product (.number (y / 9223372036854775808 % 2 == 1) (dg (y % 9223372036854775808)) (-1074 + (pl (y % 9223372036854775808) : Nat))) = some (.number (y / 9223372036854775808 % 2 == 1) (dg (y % 9223372036854775808) * 2 ^ 52) (-1074 + (pl (y % 9223372036854775808) : Nat) - ((52 : Nat) : Int))) := by
    rw [show (oneW / 9223372036854775808 % 2 == 1) = false by decide, show dg (oneW % 9223372036854775808) = 2 ^ 52 by decide, show pl (oneW % 9223372036854775808) = 1022 by decide]
    rw [prod_num, Bool.false_xor, Nat.mul_comm]
    congr 2
    omega
  rw [e]
  show some (Ieee.double.nearest _ _ _) = some y
  by_cases h0 : dg (y % 9223372036854775808) = 0
  · rw [h0]
    have w := write_back hy hf
    rw [h0] at w
    conv => rhs; rw [← w]
    unfold Ieee.Format.nearest
    rw [if_pos (by decide), if_pos rfl]
  · rw [nearest_shift _ _ 52 _ h0, write_back hy hf]
theorem mul_comm' (y z : Nat) (hy : finN y) (hz : finN z) : Ieee.double.mul y z = Ieee.double.mul z y := by
  unfold Ieee.Format.mul
  rw [read_word y hy, read_word z hz]
  rw [prod_num, prod_num, Bool.xor_comm, Nat.mul_comm, Int.add_comm]
/-- 2^p -/
def twoW (p : Int) : Nat := shw oneW p
theorem one_stays {p : Int} (h0 : -1000 ≤ p) (h1 : p ≤ 1000) : Stays oneW p := by
  unfold Stays
  rw [show oneW % 9223372036854775808 / 4503599627370496 = 1023 by decide]
  omega
/-- where a float of some size lies -/
theorem field_of {y : Nat} {a b : Int} (hf : finN y) (ha : -1000 ≤ a) (hb0 : -1000 ≤ b) (hb : b ≤ 1000) (h1 : (2 : Rat) ^ a ≤ fvm y) (h2 : fvm y ≤ 2 ^ b) : a + 1023 ≤ ((y % 9223372036854775808 / 4503599627370496 : Nat) : Int) ∧ ((y % 9223372036854775808 / 4503599627370496 : Nat) : Int) ≤ b + 1023 := by
  unfold finN at hf
  unfold fvm at h1 h2
  generalize y % 9223372036854775808 = m at *
  have hd : dg m < 2 ^ 53 := by unfold dg; split <;> omega
  have hdR : (dg m : Rat) < ((2 ^ 53 : Nat) : Rat) := by exact_mod_cast hd
  have u := Rat.mul_lt_mul_of_pos_right hdR (two_pos ((-1074 : Int) + (pl m : Nat)))
  rw [nat_cast_pow2] at u
  constructor
  · refine Int.not_lt.1 fun hc => ?_
    have hp : (pl m : Int) + 1075 ≤ a + 1074 + 1022 ∨ (pl m = 0) := by unfold pl; split <;> omega
    have l := two_le (show ((53 : Nat) : Int) + (-1074 + (pl m : Nat)) ≤ a by
      unfold pl at hp ⊢
      split <;> omega)
    grind
  · refine Int.not_lt.1 fun hc => ?_
    have hd2 : 2 ^ 52 ≤ dg m := by unfold dg; split <;> omega
    have hd2R : ((2 ^ 52 : Nat) : Rat) ≤ (dg m : Rat) := by exact_mod_cast hd2
    have v := Rat.mul_le_mul_of_nonneg_right hd2R (Rat.le_of_lt (two_pos ((-1074 : Int) + (pl m : Nat))))
    rw [nat_cast_pow2] at v
    have l := two_le (show b + 1 ≤ ((52 : Nat) : Int) + (-1074 + (pl m : Nat)) by
      unfold pl
      split <;> omega)
    rw [two_add b 1] at l
    have e : (2 : Rat) ^ (1 : Int) = 2 := by decide
    have := two_pos b
    grind
theorem stays_of {y : Nat} {p : Int} (hf : finN y) (h1 : (2 : Rat) ^ (-900 : Int) ≤ fvm y) (h2 : fvm y ≤ 2 ^ (900 : Int)) (p0 : -100 ≤ p) (p1 : p ≤ 100) : Stays y p := by
  have := field_of hf (by omega) (by omega) (by omega) h1 h2
  unfold Stays
  omega
/-- times 2^p -/
theorem mul_two {y : Nat} {p : Int} (hy : y ≤ 18446744073709551615) (h1 : (2 : Rat) ^ (-900 : Int) ≤ fvm y) (h2 : fvm y ≤ 2 ^ (900 : Int)) (hf : finN y) (p0 : -100 ≤ p) (p1 : p ≤ 100) : Ieee.double.mul y (twoW p) = some (shw y p) := by
  have os := one_stays (p := p) (by omega) (by omega)
  have of := (shw_facts os).2.2.2.2.2.2
  unfold twoW
  rw [mul_comm' y _ hf of]
  have e1 : fvm oneW * fvm y = fvm y := by rw [fvm_one]; grind
  have b1 := two_le (show (-1022 : Int) ≤ -900 by decide)
  have b2 := two_le (show (901 : Int) ≤ 1023 by decide)
  have b3 := two_le (show (900 : Int) ≤ 901 by decide)
  have c1 := two_le p0
  have c2 := two_le p1
  have n1 := le_mul h1 c1 (Rat.le_of_lt (two_pos _)) (Rat.le_of_lt (two_pos _))
  have n2 := le_mul h2 c2 (fvm_nonneg y) (Rat.le_of_lt (two_pos _))
  rw [← two_add] at n1 n2
  have d1 := two_le (show (-1022 : Int) ≤ -900 + -100 by decide)
  have d2 : (2 : Rat) ^ ((900 : Int) + 100) < 2 ^ (1023 : Int) := by
    rw [show (1023 : Int) = 900 + 100 + 23 by decide, two_add (900 + 100) 23]
    have e : (2 : Rat) ^ (23 : Int) = 8388608 := by decide
    have := two_pos ((900 : Int) + 100)
    grind
  have d3 : (2 : Rat) ^ (900 : Int) < 2 ^ (1023 : Int) := by
    rw [show (1023 : Int) = 900 + 123 by decide, two_add 900 123]
    have e := two_le (show (1 : Int) ≤ 123 by decide)
    have e2 : (2 : Rat) ^ (1 : Int) = 2 := by decide
    have := two_pos (900 : Int)
    have := Rat.mul_le_mul_of_nonneg_left e (Rat.le_of_lt this)
    grind
  rw [mul_shw os hf (by rw [e1]; grind) (by rw [e1]; grind) (by rw [e1]; grind) (by rw [e1]; grind), mul_one hy hf]
  rfl
end Go.Bw
