/-
  Plain facts on words of 64 bits: masks, the sign's bit, a word's field, fraction and class.
-/
import Derived.WalkKit
namespace Go.Bw
open Go
set_option linter.unusedVariables false

theorem wraps_u64 (n : Int) (h₀ : 0 ≤ n) (h₁ : n < 2 ^ 64) : IntKind.u64.wrap n = n := by
  rw [IntKind.wrap_u64]; omega

theorem and_mask (i : Nat) (hi : i ≤ 64) (x : Int) (h0 : 0 ≤ x) (h1 : x ≤ 18446744073709551615) : bits .and .u64 x (2 ^ i - 1) = x % 2 ^ i :=
  bits_mask .u64 64 (by decide) wraps_u64 i hi x h0 (by omega)

theorem and_field (x : Int) (h0 : 0 ≤ x) (h1 : x ≤ 18446744073709551615) : bits .and .u64 x 2047 = x % 2048 := by
  simpa using and_mask 11 (by omega) x h0 h1
theorem and_fraction (x : Int) (h0 : 0 ≤ x) (h1 : x ≤ 18446744073709551615) : bits .and .u64 x 4503599627370495 = x % 4503599627370496 := by
  simpa using and_mask 52 (by omega) x h0 h1
theorem and_15 (x : Int) (h0 : 0 ≤ x) (h1 : x ≤ 18446744073709551615) : bits .and .u64 x 15 = x % 16 := by
  simpa using and_mask 4 (by omega) x h0 h1
theorem and_1 (x : Int) (h0 : 0 ≤ x) (h1 : x ≤ 18446744073709551615) : bits .and .u64 x 1 = x % 2 := by
  simpa using and_mask 1 (by omega) x h0 h1

theorem and_sign_nat (a : Nat) (ha : a < 18446744073709551616) : a &&& 9223372036854775808 = a / 9223372036854775808 % 2 * 9223372036854775808 := by
  have h := and_bit_var 64 a 63 (by decide)
  simpa using h

theorem and_sign (x : Int) (h0 : 0 ≤ x) (h1 : x ≤ 18446744073709551615) :
    bits .and .u64 x 9223372036854775808 = if 9223372036854775808 ≤ x then 9223372036854775808 else 0 := by
  obtain ⟨a, rfl⟩ := Int.eq_ofNat_of_zero_le h0
  have h := bits_and_u64_nat a 9223372036854775808 (by omega) (by omega)
  rw [and_sign_nat a (by omega)] at h
  rw [show ((9223372036854775808 : Int)) = ((9223372036854775808 : Nat) : Int) from rfl, h]
  split <;> omega

theorem xor_low (c : Nat) (hc : c < 2 ^ 63) : c ^^^ 2 ^ 63 = 2 ^ 63 + c := by
  have h := Nat.two_pow_add_eq_or_of_lt hc 1
  rw [Nat.mul_one] at h
  rw [h]
  apply Nat.eq_of_testBit_eq
  intro i
  rw [Nat.testBit_xor, Nat.testBit_or, Nat.testBit_two_pow]
  by_cases e : 63 = i
  · subst e; rw [Nat.testBit_lt_two_pow hc]; rfl
  · simp [e]

theorem xor_sign_nat (a : Nat) (ha : a < 18446744073709551616) : a ^^^ 9223372036854775808 = if 9223372036854775808 ≤ a then a - 9223372036854775808 else a + 9223372036854775808 := by
  by_cases c : 9223372036854775808 ≤ a
  · rw [if_pos c]
    have h := xor_low (a - 9223372036854775808) (by omega)
    have e : 2 ^ 63 + (a - 9223372036854775808) = a := by omega
    rw [e] at h
    have h2 : a ^^^ 2 ^ 63 = (a - 9223372036854775808) ^^^ 2 ^ 63 ^^^ 2 ^ 63 := by rw [h]
    rw [Nat.xor_assoc, Nat.xor_self, Nat.xor_zero] at h2
    exact h2
  · rw [if_neg c]
    have h := xor_low a (by omega)
    have e : 2 ^ 63 + a = a + 9223372036854775808 := by omega
    rw [e] at h
    exact h

theorem xor_sign (x : Int) (h0 : 0 ≤ x) (h1 : x ≤ 18446744073709551615) :
    bits .xor .u64 x 9223372036854775808 = if 9223372036854775808 ≤ x then x - 9223372036854775808 else x + 9223372036854775808 := by
  obtain ⟨a, rfl⟩ := Int.eq_ofNat_of_zero_le h0
  have h := bits_xor_u64_nat a 9223372036854775808 (by omega) (by omega)
  rw [xor_sign_nat a (by omega)] at h
  rw [show ((9223372036854775808 : Int)) = ((9223372036854775808 : Nat) : Int) from rfl, h]
  split <;> split <;> omega

theorem or_hidden (f : Int) (h0 : 0 ≤ f) (h1 : f < 4503599627370496) : bits .or .u64 4503599627370496 f = 4503599627370496 + f :=
  bits_join .u64 64 (by decide) wraps_u64 52 4503599627370496 f (by decide) (by decide) (by decide) h0 (by omega) (by omega)

theorem or_comm (a b : Int) : bits .or .u64 a b = bits .or .u64 b a := by
  show IntKind.u64.wrap ((BitVec.ofInt 64 a ||| BitVec.ofInt 64 b).toNat : Int) = IntKind.u64.wrap ((BitVec.ofInt 64 b ||| BitVec.ofInt 64 a).toNat : Int)
  rw [BitVec.or_comm]

theorem sign_or (f : Int) (h0 : 0 ≤ f) (h1 : f < 9223372036854775808) : bits .or .u64 9223372036854775808 f = 9223372036854775808 + f :=
  bits_join .u64 64 (by decide) wraps_u64 63 9223372036854775808 f (by decide) (by decide) (by decide) h0 (by omega) (by omega)
theorem or_sign (f : Int) (h0 : 0 ≤ f) (h1 : f < 9223372036854775808) : bits .or .u64 f 9223372036854775808 = 9223372036854775808 + f := by
  rw [or_comm]; exact sign_or f h0 h1

/-- a nibble put behind others -/
theorem or_nibble (x d : Int) (hx : 0 ≤ x) (h16 : x % 16 = 0) (h1 : x ≤ 18446744073709551615) (h0 : 0 ≤ d) (hd : d < 16) : bits .or .u64 x d = x + d :=
  bits_join .u64 64 (by decide) wraps_u64 4 x d hx (by simpa using h16) (by omega) h0 (by simpa using hd) (by omega)

/-! ### a word's parts -/
def fld (x : Int) : Int := x / 4503599627370496 % 2048
def frc (x : Int) : Int := x % 4503599627370496
def cls (x : Int) : Int :=
  if fld x = 2047 then (if frc x = 0 then 4 else 5) else if fld x = 0 then (if frc x = 0 then 1 else 2) else 3
def nan : Int := 9221120237041090560
def one (x : Int) : Int := if cls x = 5 then nan else x
def flip (x : Int) : Int := if 9223372036854775808 ≤ x then x - 9223372036854775808 else x + 9223372036854775808
def negate (x : Int) : Int := if cls x = 5 then nan else flip x
/-- the word without its sign -/
def mag (x : Int) : Int := x % 9223372036854775808
def inf : Int := 9218868437227405312

theorem fld_bd (x : Int) : 0 ≤ fld x ∧ fld x ≤ 2047 := by unfold fld; omega
theorem frc_bd (x : Int) : 0 ≤ frc x ∧ frc x ≤ 4503599627370495 := by unfold frc; omega
theorem cls_bd (x : Int) : 1 ≤ cls x ∧ cls x ≤ 5 := by unfold cls; repeat' split <;> omega
theorem flip_bd (x : Int) (h0 : 0 ≤ x) (h1 : x ≤ 18446744073709551615) : 0 ≤ flip x ∧ flip x ≤ 18446744073709551615 := by
  unfold flip; split <;> omega
theorem fld_flip (x : Int) (h0 : 0 ≤ x) (h1 : x ≤ 18446744073709551615) : fld (flip x) = fld x := by
  unfold fld flip; split <;> omega
theorem frc_flip (x : Int) (h0 : 0 ≤ x) (h1 : x ≤ 18446744073709551615) : frc (flip x) = frc x := by
  unfold frc flip; split <;> omega
theorem cls_flip (x : Int) (h0 : 0 ≤ x) (h1 : x ≤ 18446744073709551615) : cls (flip x) = cls x := by
  unfold cls; rw [fld_flip x h0 h1, frc_flip x h0 h1]
theorem one_flip (x : Int) (h0 : 0 ≤ x) (h1 : x ≤ 18446744073709551615) : one (flip x) = negate x := by
  unfold one negate; rw [cls_flip x h0 h1]
theorem mag_eq (x : Int) (h0 : 0 ≤ x) (h1 : x ≤ 18446744073709551615) : mag x = fld x * 4503599627370496 + frc x := by
  unfold mag fld frc; omega
theorem one_bd (x : Int) (h0 : 0 ≤ x) (h1 : x ≤ 18446744073709551615) : 0 ≤ one x ∧ one x ≤ 18446744073709551615 := by
  unfold one nan; split <;> omega
theorem cls_one (x : Int) : cls (one x) = cls x := by
  unfold one; split
  · rename_i h; rw [h]; decide
  · rfl

/-- what the model's operations say of field and fraction -/
theorem field_op (x : Int) (h0 : 0 ≤ x) (h1 : x ≤ 18446744073709551615) : bits .and .u64 (x / 4503599627370496) 2047 = fld x :=
  and_field _ (by omega) (by omega)
theorem fraction_op (x : Int) (h0 : 0 ≤ x) (h1 : x ≤ 18446744073709551615) : bits .and .u64 x 4503599627370495 = frc x :=
  and_fraction x h0 h1
theorem sign_op (x : Int) (h0 : 0 ≤ x) (h1 : x ≤ 18446744073709551615) : (bits .and .u64 x 9223372036854775808 != 0) = decide (9223372036854775808 ≤ x) := by
  rw [and_sign x h0 h1]; split <;> simp [*]
theorem andnot_sign (x : Int) (h0 : 0 ≤ x) (h1 : x ≤ 18446744073709551615) : bits .andNot .u64 x 9223372036854775808 = mag x := by
  rw [u64_andNot x 9223372036854775808 h0 (by omega) (by decide) (by decide)]
  obtain ⟨a, rfl⟩ := Int.eq_ofNat_of_zero_le h0
  have e : (18446744073709551615 : Nat) - (9223372036854775808 : Int).toNat = 2 ^ 63 - 1 := by decide
  rw [e, Nat.and_two_pow_sub_one_eq_mod]
  unfold mag
  simp
end Go.Bw
