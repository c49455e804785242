/-
  Layer 6, plain mathematics: what a float is worth, as a rational; how near the machine's rounding is.
-/
import Derived.Test.YtmfikppnkjhmjaaGuF
import Derived.Test.YtmfikppnkjhmjaaRtA
namespace Go.Bw
open Go Go.Rt
set_option linter.unusedVariables false
set_option linter.unusedSimpArgs false

/-- the size of a finite float -/
def fvm (y : Nat) : Rat := (dg (y % 9223372036854775808) : Rat) * 2 ^ ((-1074 : Int) + (pl (y % 9223372036854775808) : Nat))
theorem two_add (a b : Int) : (2 : Rat) ^ (a + b) = 2 ^ a * 2 ^ b := Rat.zpow_add (by decide) a b
theorem two_pos (a : Int) : (0 : Rat) < 2 ^ a := Rat.zpow_pos (by decide)
theorem two_nat (n : Nat) : (2 : Rat) ^ (n : Int) = ((2 ^ n : Nat) : Rat) := by rw [Rat.zpow_natCast, Rat.natCast_pow]; rfl
theorem two_le {a b : Int} (h : a ≤ b) : (2 : Rat) ^ a ≤ 2 ^ b := by
  obtain ⟨k, hk⟩ : ∃ k : Nat, b = a + k := ⟨(b - a).toNat, by omega⟩
  rw [hk, two_add, two_nat]
  have h1 : (1 : Rat) ≤ ((2 ^ k : Nat) : Rat) := by
    have := Nat.two_pow_pos k
    exact_mod_cast this
  have := Rat.mul_le_mul_of_nonneg_left h1 (Rat.le_of_lt (two_pos a))
  grind
theorem fvm_nonneg (y : Nat) : 0 ≤ fvm y := Rat.mul_nonneg (by exact_mod_cast Nat.zero_le _) (Rat.le_of_lt (two_pos _))
/-- a word put together of digits and a place -/
theorem fvm_word {r K : Nat} {L : Int} (hL : -1074 ≤ L) (hK : K ≤ 9007199254740992) (hn : 4503599627370496 ≤ K ∨ L = -1074) (hr : ((r % 9223372036854775808 : Nat) : Int) = (L + 1074) * 4503599627370496 + K) : fvm r = (K : Rat) * 2 ^ L := by
  unfold fvm
  generalize r % 9223372036854775808 = m at *
  obtain ⟨j, hj⟩ : ∃ j : Nat, L = -1074 + j := ⟨(L + 1074).toNat, by omega⟩
  subst hj
  by_cases h1 : K = 9007199254740992
  · have hd : dg m = 4503599627370496 := by unfold dg; split <;> omega
    have hp : pl m = j + 1 := by unfold pl; split <;> omega
    rw [hd, hp, h1]
    rw [show (-1074 : Int) + ((j + 1 : Nat) : Int) = (-1074 + (j : Int)) + 1 by omega, two_add (-1074 + (j : Int)) 1]
    have : (2 : Rat) ^ (1 : Int) = 2 := by decide
    rw [this]
    grind
  · by_cases h2 : 4503599627370496 ≤ K
    · have hd : dg m = K := by unfold dg; split <;> omega
      have hp : pl m = j := by unfold pl; split <;> omega
      rw [hd, hp]
    · have hj0 : j = 0 := by omega
      subst hj0
      have hd : dg m = K := by unfold dg; split <;> omega
      have hp : pl m = 0 := by unfold pl; split <;> omega
      rw [hd, hp]
/-- the machine's rounding is near -/
theorem near_val (neg : Bool) (M : Nat) (e : Int) (hM : M ≠ 0) (hv : (M : Rat) * 2 ^ e < 2 ^ (1023 : Int)) :
    Ieee.double.nearest neg M e % 9223372036854775808 < 9218868437227405312 ∧ fvm (Ieee.double.nearest neg M e) ≤ (M : Rat) * 2 ^ e * (1 + 1/9007199254740992) + 2 ^ (-1075 : Int) ∧ (M : Rat) * 2 ^ e * (1 - 1/9007199254740992) - 2 ^ (-1075 : Int) ≤ fvm (Ieee.double.nearest neg M e) := by
  have h := nearest_is neg M e hM
  obtain ⟨L, hL⟩ : ∃ L, max (e + (M.log2 : Int) - 52) (-1074) = L := ⟨_, rfl⟩
  rw [hL] at h
  generalize Ieee.double.nearest neg M e = r at *
  have lo : 2 ^ M.log2 ≤ M := Nat.log2_self_le hM
  have hi : M < 2 ^ (M.log2 + 1) := Nat.lt_log2_self
  -- the digits kept
  obtain ⟨K, hK, hw⟩ : ∃ K : Nat, (2 * (K : Rat) ≤ 2 * ((M : Rat) * 2 ^ (e - L)) + 1 ∧ 2 * ((M : Rat) * 2 ^ (e - L)) ≤ 2 * (K : Rat) + 1) ∧ (r : Int) = signW neg (min ((L + 1074) * 4503599627370496 + K) inf) ∧ K ≤ 9007199254740992 ∧ (4503599627370496 ≤ K ∨ L = -1074) := by
    by_cases c : L - e ≤ 0
    · rw [if_pos c] at h
      obtain ⟨d, hd⟩ : ∃ d : Nat, (-(L - e)).toNat = d := ⟨_, rfl⟩
      have hde : e - L = (d : Int) := by omega
      have hd52 : d + M.log2 ≤ 52 := by omega
      have hpd := Nat.two_pow_pos d
      have hcast : (M : Int) * 2 ^ d = ((M * 2 ^ d : Nat) : Int) := by push_cast; rfl
      rw [hd, hcast] at h
      refine ⟨M * 2 ^ d, ?_, h, ?_, ?_⟩
      · have : (M : Rat) * 2 ^ (e - L) = ((M * 2 ^ d : Nat) : Rat) := by rw [hde, two_nat, Rat.natCast_mul]
        rw [this]
        constructor <;> grind
      · have h1 := Nat.mul_lt_mul_of_pos_right hi hpd
        rw [← Nat.pow_add] at h1
        have h2 := Nat.pow_le_pow_right (show 0 < 2 by decide) (show M.log2 + 1 + d ≤ 53 by omega)
        omega
      · by_cases hL2 : L = -1074
        · exact .inr hL2
        · left
          have h1 := Nat.mul_le_mul_right (2 ^ d) lo
          rw [← Nat.pow_add, show M.log2 + d = 52 by omega] at h1
          omega
    · rw [if_neg c] at h
      obtain ⟨d, hd⟩ : ∃ d : Nat, (L - e).toNat = d := ⟨_, rfl⟩
      have hde : e - L = -(d : Int) := by omega
      have hpd := Nat.two_pow_pos d
      have hY : (M : Rat) * 2 ^ (e - L) * ((2 ^ d : Nat) : Rat) = (M : Rat) := by
        rw [hde, ← two_nat, Rat.mul_assoc, ← two_add, show -(d : Int) + (d : Int) = 0 by omega]
        have : (2 : Rat) ^ (0 : Int) = 1 := by decide
        rw [this]; grind
      have hpdR : (0 : Rat) < ((2 ^ d : Nat) : Rat) := by exact_mod_cast hpd
      rw [hd] at h
      obtain ⟨q, hq⟩ : ∃ q, M / 2 ^ d = q := ⟨_, rfl⟩
      obtain ⟨t, ht⟩ : ∃ t, M % 2 ^ d = t := ⟨_, rfl⟩
      have hdm := Nat.div_add_mod M (2 ^ d)
      rw [hq, ht] at hdm
      rw [hq, ht] at h
      have hq53 : q < 9007199254740992 := by
        rw [← hq]
        refine (Nat.div_lt_iff_lt_mul hpd).2 ?_
        have h2 : 2 ^ (M.log2 + 1) ≤ 2 ^ (53 + d) := Nat.pow_le_pow_right (by decide) (by omega)
        rw [Nat.pow_add 2 53 d] at h2
        omega
      have hq52 : 4503599627370496 ≤ q ∨ L = -1074 := by
        by_cases hL2 : L = -1074
        · exact .inr hL2
        · left
          rw [← hq]
          refine (Nat.le_div_iff_mul_le hpd).2 ?_
          have h2 : 2 ^ M.log2 = 2 ^ (52 + d) := by congr 1; omega
          rw [Nat.pow_add 2 52 d] at h2
          omega
      generalize (M : Rat) * 2 ^ (e - L) = Y at *
      have key : ∀ K : Nat, 2 * (K * 2 ^ d) ≤ 2 * M + 2 ^ d → 2 * M ≤ 2 * (K * 2 ^ d) + 2 ^ d → (2 * (K : Rat) ≤ 2 * Y + 1 ∧ 2 * Y ≤ 2 * (K : Rat) + 1) := fun K a b => by
        have a' : (2 : Rat) * ((K : Rat) * ((2 ^ d : Nat) : Rat)) ≤ 2 * (M : Rat) + ((2 ^ d : Nat) : Rat) := by exact_mod_cast a
        have b' : (2 : Rat) * (M : Rat) ≤ 2 * ((K : Rat) * ((2 ^ d : Nat) : Rat)) + ((2 ^ d : Nat) : Rat) := by exact_mod_cast b
        generalize ((2 ^ d : Nat) : Rat) = P at *
        constructor
        · refine Rat.le_of_mul_le_mul_right (c := P) ?_ hpdR
          grind
        · refine Rat.le_of_mul_le_mul_right (c := P) ?_ hpdR
          grind
      have hmul : 2 ^ d * q = q * 2 ^ d := Nat.mul_comm _ _
      by_cases up : 2 ^ d < 2 * t ∨ (2 ^ d = 2 * t ∧ q % 2 = 1)
      · rw [if_pos up] at h
        refine ⟨q + 1, key (q + 1) ?_ ?_, ?_, by omega, by omega⟩
        · rw [Nat.add_mul]; omega
        · rw [Nat.add_mul]
          have := Nat.mod_lt M hpd
          omega
        · rw [h]; push_cast; rfl
      · rw [if_neg up] at h
        refine ⟨q, key q ?_ ?_, ?_, by omega, hq52⟩
        · omega
        · omega
        · rw [h, Int.add_zero]
  obtain ⟨hw, hK2, hK3⟩ := hw
  have hL970 : L ≤ 970 := by
    refine Int.not_lt.1 fun hc => ?_
    have h3 : (2 : Rat) ^ (M.log2 : Int) ≤ (M : Rat) := by rw [two_nat]; exact_mod_cast lo
    have h4 := Rat.mul_le_mul_of_nonneg_right h3 (Rat.le_of_lt (two_pos e))
    rw [← two_add] at h4
    have h5 := two_le (show (1023 : Int) ≤ (M.log2 : Int) + e by omega)
    grind
  have hr : ((r % 9223372036854775808 : Nat) : Int) = (L + 1074) * 4503599627370496 + K := by
    unfold signW inf at hw
    cases neg
    · rw [if_neg (by decide)] at hw; omega
    · rw [if_pos rfl] at hw; omega
  refine ⟨by omega, ?_⟩
  rw [fvm_word (by omega) hK2 hK3 hr]
  -- back to the place e
  have hp := two_pos L
  have he : (M : Rat) * 2 ^ (e - L) * 2 ^ L = (M : Rat) * 2 ^ e := by
    rw [Rat.mul_assoc, ← two_add, show e - L + L = e by omega]
  have h2L : (2 : Rat) ^ L = 2 * 2 ^ (L - 1) := by
    have := two_add (L - 1) 1
    rw [show L - 1 + 1 = L by omega] at this
    have h2 : (2 : Rat) ^ (1 : Int) = 2 := by decide
    rw [this, h2]; grind
  have k1 := Rat.mul_le_mul_of_nonneg_right hK.1 (Rat.le_of_lt hp)
  have k2 := Rat.mul_le_mul_of_nonneg_right hK.2 (Rat.le_of_lt hp)
  have hpp := two_pos (L - 1)
  have hq := two_pos (-1075)
  have bnd : (2 : Rat) ^ (L - 1) ≤ (M : Rat) * 2 ^ e * (1/9007199254740992) + 2 ^ (-1075 : Int) := by
    have hMe : 0 ≤ (M : Rat) * 2 ^ e := Rat.mul_nonneg (by exact_mod_cast Nat.zero_le M) (Rat.le_of_lt (two_pos e))
    by_cases c : L = -1074
    · rw [c]
      have : (2 : Rat) ^ ((-1074 : Int) - 1) = 2 ^ (-1075 : Int) := rfl
      rw [this]; grind
    · have hLe : L = e + (M.log2 : Int) - 52 := by omega
      have h3 : (2 : Rat) ^ (M.log2 : Int) ≤ (M : Rat) := by rw [two_nat]; exact_mod_cast lo
      have h4 := Rat.mul_le_mul_of_nonneg_right h3 (Rat.le_of_lt (two_pos e))
      have h5 : (2 : Rat) ^ (M.log2 : Int) * 2 ^ e = 2 ^ (L - 1) * 9007199254740992 := by
        rw [← two_add, show (M.log2 : Int) + e = (L - 1) + 53 by omega, two_add (L - 1) 53]
        have : (2 : Rat) ^ (53 : Int) = 9007199254740992 := by decide
        rw [this]
      grind
  constructor <;> grind
end Go.Bw
