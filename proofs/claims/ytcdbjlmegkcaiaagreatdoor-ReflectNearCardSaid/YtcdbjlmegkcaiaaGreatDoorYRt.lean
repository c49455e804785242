/-
  Plain mathematics: roots, quotients, lengths.
-/
import Derived.Test.YtcdbjlmegkcaiaaGreatDoorYGu
namespace Go.Rt
set_option linter.unusedVariables false
theorem le_mul {a b c d : Rat} (h : a ≤ b) (k : c ≤ d) (hb : 0 ≤ a) (hc : 0 ≤ c) : a * c ≤ b * d :=
  Rat.le_trans (Rat.mul_le_mul_of_nonneg_right h hc) (Rat.mul_le_mul_of_nonneg_left k (Rat.le_trans hb h))
/-- a rotation's c and s are nearly of length 1, whatever each operation's error, up to 2^-52 of it and 2^-60 beside it, is -/
theorem rot_upper {T v w Q c s : Rat} (hT0 : 0 ≤ T) (hT1 : T ≤ 1 + 1/1125899906842624)
    (hv2 : T * T * (1 - 1/4503599627370496) - 1/1152921504606846976 ≤ v)
    (hw2 : (1 + v) * (1 - 1/4503599627370496) - 1/1152921504606846976 ≤ w)
    (hq2 : w * ((1 - 1/4503599627370496) * (1 - 1/4503599627370496)) ≤ Q * Q) (hQ : 0 < Q) (hQ2 : Q ≤ 2)
    (hc1 : c * Q ≤ 1 + 1/4503599627370496 + 1/1152921504606846976) (hc : 0 < c)
    (hs1 : s ≤ c * T * (1 + 1/4503599627370496) + 1/1152921504606846976) (hs : 0 ≤ s) : c * c + s * s ≤ 1 + 1/562949953421312 := by
  have hS0 : 0 ≤ T * T := Rat.mul_nonneg hT0 hT0
  have hS1 : T * T ≤ 1 + 1/281474976710656 := by
    have := le_mul hT1 hT1 hT0 hT0
    grind
  have hcQ : 0 ≤ c * Q := Rat.mul_nonneg (Rat.le_of_lt hc) (Rat.le_of_lt hQ)
  have c2 := le_mul hc1 hc1 hcQ hcQ
  have hcT : 0 ≤ c * T := Rat.mul_nonneg (Rat.le_of_lt hc) hT0
  have s1 : s * Q ≤ (1 + 1/4503599627370496 + 1/1152921504606846976) * (1 + 1/4503599627370496) * T + 2 * 1/1152921504606846976 := by
    have a1 := Rat.mul_le_mul_of_nonneg_right hs1 (Rat.le_of_lt hQ)
    have a2 := Rat.mul_le_mul_of_nonneg_right hc1 hT0
    grind
  have hsQ : 0 ≤ s * Q := Rat.mul_nonneg hs (Rat.le_of_lt hQ)
  have s2 := le_mul s1 s1 hsQ hsQ
  have hX : 0 ≤ c * c + s * s := by
    have := Rat.mul_nonneg (Rat.le_of_lt hc) (Rat.le_of_lt hc)
    have := Rat.mul_nonneg hs hs
    grind
  -- what w and Q Q are at least
  obtain ⟨S, hS⟩ : ∃ S, T * T = S := ⟨_, rfl⟩
  have e1 : (1 + S * (1 - 1/4503599627370496) - 1/1152921504606846976) * (1 - 1/4503599627370496) - 1/1152921504606846976 ≤ w := by
    rw [hS] at hv2
    grind
  have e2 : ((1 + S * (1 - 1/4503599627370496) - 1/1152921504606846976) * (1 - 1/4503599627370496) - 1/1152921504606846976) * ((1 - 1/4503599627370496) * (1 - 1/4503599627370496)) ≤ Q * Q := by
    grind
  have e3 := Rat.mul_le_mul_of_nonneg_left e2 hX
  have e4 : (c * c + s * s) * (Q * Q) ≤ (1 + 1/4503599627370496 + 1/1152921504606846976) * (1 + 1/4503599627370496 + 1/1152921504606846976) + ((1 + 1/4503599627370496 + 1/1152921504606846976) * (1 + 1/4503599627370496)) * ((1 + 1/4503599627370496 + 1/1152921504606846976) * (1 + 1/4503599627370496)) * S + 16 * 1/1152921504606846976 := by
    rw [← hS]
    grind
  have hS0' : 0 ≤ S := by rw [← hS]; exact hS0
  have hS1' : S ≤ 1 + 1/281474976710656 := by rw [← hS]; exact hS1
  refine Rat.le_of_mul_le_mul_right (c := ((1 + S * (1 - 1/4503599627370496) - 1/1152921504606846976) * (1 - 1/4503599627370496) - 1/1152921504606846976) * ((1 - 1/4503599627370496) * (1 - 1/4503599627370496))) (Rat.le_trans e3 (Rat.le_trans e4 ?_)) ?_
  · grind
  · grind
theorem rot_lower {T v w Q c s : Rat} (hT0 : 0 ≤ T) (hT1 : T ≤ 1 + 1/1125899906842624)
    (hv1 : v ≤ T * T * (1 + 1/4503599627370496) + 1/1152921504606846976)
    (hw1 : w ≤ (1 + v) * (1 + 1/4503599627370496) + 1/1152921504606846976)
    (hq1 : Q * Q ≤ w * ((1 + 1/4503599627370496) * (1 + 1/4503599627370496))) (hQ : 0 < Q) (hQ2 : Q ≤ 2)
    (hc2 : 1 - 1/4503599627370496 - 1/1152921504606846976 ≤ c * Q) (hc : 0 < c)
    (hs2 : c * T * (1 - 1/4503599627370496) - 1/1152921504606846976 ≤ s) (hs : 0 ≤ s) : 1 - 1/562949953421312 ≤ c * c + s * s := by
  have hS0 : 0 ≤ T * T := Rat.mul_nonneg hT0 hT0
  have hS1 : T * T ≤ 1 + 1/281474976710656 := by
    have := le_mul hT1 hT1 hT0 hT0
    grind
  have c2 := le_mul hc2 hc2 (by grind) (by grind)
  have s1 : (1 - 1/4503599627370496 - 1/1152921504606846976) * (1 - 1/4503599627370496) * T ≤ s * Q + 2 * 1/1152921504606846976 := by
    have a1 := Rat.mul_le_mul_of_nonneg_right hs2 (Rat.le_of_lt hQ)
    have a2 := Rat.mul_le_mul_of_nonneg_right hc2 hT0
    grind
  have hl : 0 ≤ (1 - 1/4503599627370496 - 1/1152921504606846976) * (1 - 1/4503599627370496) * T := Rat.mul_nonneg (by grind) hT0
  have s2 := le_mul s1 s1 hl hl
  have hX : 0 ≤ c * c + s * s := by
    have := Rat.mul_nonneg (Rat.le_of_lt hc) (Rat.le_of_lt hc)
    have := Rat.mul_nonneg hs hs
    grind
  obtain ⟨S, hS⟩ : ∃ S, T * T = S := ⟨_, rfl⟩
  have e1 : w ≤ (1 + S * (1 + 1/4503599627370496) + 1/1152921504606846976) * (1 + 1/4503599627370496) + 1/1152921504606846976 := by
    rw [hS] at hv1
    grind
  have e2 : Q * Q ≤ ((1 + S * (1 + 1/4503599627370496) + 1/1152921504606846976) * (1 + 1/4503599627370496) + 1/1152921504606846976) * ((1 + 1/4503599627370496) * (1 + 1/4503599627370496)) := by
    grind
  have e3 := Rat.mul_le_mul_of_nonneg_left e2 hX
  have hS0' : 0 ≤ S := by rw [← hS]; exact hS0
  have hS1' : S ≤ 1 + 1/281474976710656 := by rw [← hS]; exact hS1
  have hU : s * Q ≤ 3 ∨ 3 < s * Q := by grind
  rcases hU with hU | hU
  · have e4 : (1 - 1/4503599627370496 - 1/1152921504606846976) * (1 - 1/4503599627370496 - 1/1152921504606846976) + ((1 - 1/4503599627370496 - 1/1152921504606846976) * (1 - 1/4503599627370496)) * ((1 - 1/4503599627370496 - 1/1152921504606846976) * (1 - 1/4503599627370496)) * S - 16 * 1/1152921504606846976 ≤ (c * c + s * s) * (Q * Q) := by
      have eX : (c * c + s * s) * (Q * Q) = c * Q * (c * Q) + s * Q * (s * Q) := by grind
      rw [eX, ← hS]
      clear e3 e2 e1 eX hq1 hs2 hc2
      generalize s * Q = U at *
      generalize c * Q * (c * Q) = W at *
      grind
    refine Rat.le_of_mul_le_mul_right (c := ((1 + S * (1 + 1/4503599627370496) + 1/1152921504606846976) * (1 + 1/4503599627370496) + 1/1152921504606846976) * ((1 + 1/4503599627370496) * (1 + 1/4503599627370496))) (Rat.le_trans (Rat.le_trans ?_ e4) e3) ?_
    · grind
    · grind
  · have big := le_mul (Rat.le_of_lt hU) (Rat.le_of_lt hU) (by grind) (by grind)
    have q4 := le_mul hQ2 hQ2 (Rat.le_of_lt hQ) (Rat.le_of_lt hQ)
    have hss : 0 ≤ s * s := Rat.mul_nonneg hs hs
    have cc : 0 ≤ c * c := Rat.mul_nonneg (Rat.le_of_lt hc) (Rat.le_of_lt hc)
    have b2 := Rat.mul_le_mul_of_nonneg_left q4 hss
    grind
end Go.Rt
namespace Go.Bw
open Go Go.Rt
set_option linter.unusedVariables false
set_option linter.unusedSimpArgs false

/-- the size of a finite float -/
def fvm (y : Nat) : Rat := (dg (y % 9223372036854775808) : Rat) * 2 ^ ((-1074 : Int) + (pl (y % 9223372036854775808) : Nat))
theorem two_add (a b : Int) : (2 : Rat) ^ (a + b) = 2 ^ a * 2 ^ b := Rat.zpow_add (by decide) a b
theorem two_pos (a : Int) : (0 : Rat) < 2 ^ a := Rat.zpow_pos (by decide)
theorem two_nat (n : Nat) : (2 : Rat) ^ (n : Int) = ((2 ^ n : Nat) : Rat) := by rw [Rat.zpow_natCast, Rat.natCast_pow]; rfl
theorem two_le {a b : Int} (h : a ≤ b) : (2 : Rat) ^ a ≤ 2 ^ b := by
  obtain ⟨k, hk⟩ : ∃ k : Nat, b = a + k := ⟨(b - a).toNat, by omega⟩
  rw [hk, two_add, two_nat]
  have h1 : (1 : Rat) ≤ ((2 ^ k : Nat) : Rat) := by
    have := Nat.two_pow_pos k
    exact_mod_cast this
  have := Rat.mul_le_mul_of_nonneg_left h1 (Rat.le_of_lt (two_pos a))
  grind
theorem fvm_nonneg (y : Nat) : 0 ≤ fvm y := Rat.mul_nonneg (by exact_mod_cast Nat.zero_le _) (Rat.le_of_lt (two_pos _))
/-- a word put together of digits and a place -/
theorem fvm_word {r K : Nat} {L : Int} (hL : -1074 ≤ L) (hK : K ≤ 9007199254740992) (hn : 4503599627370496 ≤ K ∨ L = -1074) (hr : ((r % 9223372036854775808 : Nat) : Int) = (L + 1074) * 4503599627370496 + K) : fvm r = (K : Rat) * 2 ^ L := by
  unfold fvm
  generalize r % 9223372036854775808 = m at *
  obtain ⟨j, hj⟩ : ∃ j : Nat, L = -1074 + j := ⟨(L + 1074).toNat, by omega⟩
  subst hj
  by_cases h1 : K = 9007199254740992
  · have hd : dg m = 4503599627370496 := by unfold dg; split <;> omega
    have hp : pl m = j + 1 := by unfold pl; split <;> omega
    rw [hd, hp, h1]
    rw [show (-1074 : Int) + ((j + 1 : Nat) : Int) = (-1074 + (j : Int)) + 1 by omega, two_add (-1074 + (j : Int)) 1]
    have : (2 : Rat) ^ (1 : Int) = 2 := by decide
    rw [this]
    grind
  · by_cases h2 : 4503599627370496 ≤ K
    · have hd : dg m = K := by unfold dg; split <;> omega
      have hp : pl m = j := by unfold pl; split <;> omega
      rw [hd, hp]
    · have hj0 : j = 0 := by omega
      subst hj0
      have hd : dg m = K := by unfold dg; split <;> omega
      have hp : pl m = 0 := by unfold pl; split <;> omega
      rw [hd, hp]
/-- the machine's rounding is near -/
theorem near_val (neg : Bool) (M : Nat) (e : Int) (hM : M ≠ 0) (hv : (M : Rat) * 2 ^ e < 2 ^ (1023 : Int)) :
    Ieee.double.nearest neg M e % 9223372036854775808 < 9218868437227405312 ∧ fvm (Ieee.double.nearest neg M e) ≤ (M : Rat) * 2 ^ e * (1 + 1/9007199254740992) + 2 ^ (-1075 : Int) ∧ (M : Rat) * 2 ^ e * (1 - 1/9007199254740992) - 2 ^ (-1075 : Int) ≤ fvm (Ieee.double.nearest neg M e) := by
  have h := Gnearest_is neg M e hM
  obtain ⟨L, hL⟩ : ∃ L, max (e + (M.log2 : Int) - 52) (-1074) = L := ⟨_, rfl⟩
  rw [hL] at h
  generalize Ieee.double.nearest neg M e = r at *
  have lo : 2 ^ M.log2 ≤ M := Nat.log2_self_le hM
  have hi : M < 2 ^ (M.log2 + 1) := Nat.lt_log2_self
  -- the digits kept
  obtain ⟨K, hK, hw⟩ : ∃ K : Nat, (2 * (K : Rat) ≤ 2 * ((M : Rat) * 2 ^ (e - L)) + 1 ∧ 2 * ((M : Rat) * 2 ^ (e - L)) ≤ 2 * (K : Rat) + 1) ∧ (r : Int) = GsignW neg (min ((L + 1074) * 4503599627370496 + K) inf) ∧ K ≤ 9007199254740992 ∧ (4503599627370496 ≤ K ∨ L = -1074) := by
    by_cases c : L - e ≤ 0
    · rw [if_pos c] at h
      obtain ⟨d, hd⟩ : ∃ d : Nat, (-(L - e)).toNat = d := ⟨_, rfl⟩
      have hde : e - L = (d : Int) := by omega
      have hd52 : d + M.log2 ≤ 52 := by omega
      have hpd := Nat.two_pow_pos d
      have hcast : (M : Int) * 2 ^ d = ((M * 2 ^ d : Nat) : Int) := by push_cast; rfl
      rw [hd, hcast] at h
      refine ⟨M * 2 ^ d, ?_, h, ?_, ?_⟩
      · have : (M : Rat) * 2 ^ (e - L) = ((M * 2 ^ d : Nat) : Rat) := by rw [hde, two_nat, Rat.natCast_mul]
        rw [this]
        constructor <;> grind
      · have h1 := Nat.mul_lt_mul_of_pos_right hi hpd
        rw [← Nat.pow_add] at h1
        have h2 := Nat.pow_le_pow_right (show 0 < 2 by decide) (show M.log2 + 1 + d ≤ 53 by omega)
        omega
      · by_cases hL2 : L = -1074
        · exact .inr hL2
        · left
          have h1 := Nat.mul_le_mul_right (2 ^ d) lo
          rw [← Nat.pow_add, show M.log2 + d = 52 by omega] at h1
          omega
    · rw [if_neg c] at h
      obtain ⟨d, hd⟩ : ∃ d : Nat, (L - e).toNat = d := ⟨_, rfl⟩
      have hde : e - L = -(d : Int) := by omega
      have hpd := Nat.two_pow_pos d
      have hY : (M : Rat) * 2 ^ (e - L) * ((2 ^ d : Nat) : Rat) = (M : Rat) := by
        rw [hde, ← two_nat, Rat.mul_assoc, ← two_add, show -(d : Int) + (d : Int) = 0 by omega]
        have : (2 : Rat) ^ (0 : Int) = 1 := by decide
        rw [this]; grind
      have hpdR : (0 : Rat) < ((2 ^ d : Nat) : Rat) := by exact_mod_cast hpd
      rw [hd] at h
      obtain ⟨q, hq⟩ : ∃ q, M / 2 ^ d = q := ⟨_, rfl⟩
      obtain ⟨t, ht⟩ : ∃ t, M % 2 ^ d = t := ⟨_, rfl⟩
      have hdm := Nat.div_add_mod M (2 ^ d)
      rw [hq, ht] at hdm
      rw [hq, ht] at h
      have hq53 : q < 9007199254740992 := by
        rw [← hq]
        refine (Nat.div_lt_iff_lt_mul hpd).2 ?_
        have h2 : 2 ^ (M.log2 + 1) ≤ 2 ^ (53 + d) := Nat.pow_le_pow_right (by decide) (by omega)
        rw [Nat.pow_add 2 53 d] at h2
        omega
      have hq52 : 4503599627370496 ≤ q ∨ L = -1074 := by
        by_cases hL2 : L = -1074
        · exact .inr hL2
        · left
          rw [← hq]
          refine (Nat.le_div_iff_mul_le hpd).2 ?_
          have h2 : 2 ^ M.log2 = 2 ^ (52 + d) := by congr 1; omega
          rw [Nat.pow_add 2 52 d] at h2
          omega
      generalize (M : Rat) * 2 ^ (e - L) = Y at *
      have key : ∀ K : Nat, 2 * (K * 2 ^ d) ≤ 2 * M + 2 ^ d → 2 * M ≤ 2 * (K * 2 ^ d) + 2 ^ d → (2 * (K : Rat) ≤ 2 * Y + 1 ∧ 2 * Y ≤ 2 * (K : Rat) + 1) := fun K a b => by
        have a' : (2 : Rat) * ((K : Rat) * ((2 ^ d : Nat) : Rat)) ≤ 2 * (M : Rat) + ((2 ^ d : Nat) : Rat) := by exact_mod_cast a
        have b' : (2 : Rat) * (M : Rat) ≤ 2 * ((K : Rat) * ((2 ^ d : Nat) : Rat)) + ((2 ^ d : Nat) : Rat) := by exact_mod_cast b
        generalize ((2 ^ d : Nat) : Rat) = P at *
        constructor
        · refine Rat.le_of_mul_le_mul_right (c := P) ?_ hpdR
          grind
        · refine Rat.le_of_mul_le_mul_right (c := P) ?_ hpdR
          grind
      have hmul : 2 ^ d * q = q * 2 ^ d := Nat.mul_comm _ _
      by_cases up : 2 ^ d < 2 * t ∨ (2 ^ d = 2 * t ∧ q % 2 = 1)
      · rw [if_pos up] at h
        refine ⟨q + 1, key (q + 1) ?_ ?_, ?_, by omega, by omega⟩
        · rw [Nat.add_mul]; omega
        · rw [Nat.add_mul]
          have := Nat.mod_lt M hpd
          omega
        · rw [h]; push_cast; rfl
      · rw [if_neg up] at h
        refine ⟨q, key q ?_ ?_, ?_, by omega, hq52⟩
        · omega
        · omega
        · rw [h, Int.add_zero]
  obtain ⟨hw, hK2, hK3⟩ := hw
  have hL970 : L ≤ 970 := by
    refine Int.not_lt.1 fun hc => ?_
    have h3 : (2 : Rat) ^ (M.log2 : Int) ≤ (M : Rat) := by rw [two_nat]; exact_mod_cast lo
    have h4 := Rat.mul_le_mul_of_nonneg_right h3 (Rat.le_of_lt (two_pos e))
    rw [← two_add] at h4
    have h5 := two_le (show (1023 : Int) ≤ (M.log2 : Int) + e by omega)
    grind
  have hr : ((r % 9223372036854775808 : Nat) : Int) = (L + 1074) * 4503599627370496 + K := by
    unfold GsignW inf at hw
    cases neg
    · rw [if_neg (by decide)] at hw; omega
    · rw [if_pos rfl] at hw; omega
  refine ⟨by omega, ?_⟩
  rw [fvm_word (by omega) hK2 hK3 hr]
  -- back to the place e
  have hp := two_pos L
  have he : (M : Rat) * 2 ^ (e - L) * 2 ^ L = (M : Rat) * 2 ^ e := by
    rw [Rat.mul_assoc, ← two_add, show e - L + L = e by omega]
  have h2L : (2 : Rat) ^ L = 2 * 2 ^ (L - 1) := by
    have := two_add (L - 1) 1
    rw [show L - 1 + 1 = L by omega] at this
    have h2 : (2 : Rat) ^ (1 : Int) = 2 := by decide
    rw [this, h2]; grind
  have k1 := Rat.mul_le_mul_of_nonneg_right hK.1 (Rat.le_of_lt hp)
  have k2 := Rat.mul_le_mul_of_nonneg_right hK.2 (Rat.le_of_lt hp)
  have hpp := two_pos (L - 1)
  have hq := two_pos (-1075)
  have bnd : (2 : Rat) ^ (L - 1) ≤ (M : Rat) * 2 ^ e * (1/9007199254740992) + 2 ^ (-1075 : Int) := by
    have hMe : 0 ≤ (M : Rat) * 2 ^ e := Rat.mul_nonneg (by exact_mod_cast Nat.zero_le M) (Rat.le_of_lt (two_pos e))
    by_cases c : L = -1074
    · rw [c]
      have : (2 : Rat) ^ ((-1074 : Int) - 1) = 2 ^ (-1075 : Int) := rfl
      rw [this]; grind
    · have hLe : L = e + (M.log2 : Int) - 52 := by omega
      have h3 : (2 : Rat) ^ (M.log2 : Int) ≤ (M : Rat) := by rw [two_nat]; exact_mod_cast lo
      have h4 := Rat.mul_le_mul_of_nonneg_right h3 (Rat.le_of_lt (two_pos e))
      have h5 : (2 : Rat) ^ (M.log2 : Int) * 2 ^ e = 2 ^ (L - 1) * 9007199254740992 := by
        rw [← two_add, show (M.log2 : Int) + e = (L - 1) + 53 by omega, two_add (L - 1) 53]
        have : (2 : Rat) ^ (53 : Int) = 9007199254740992 := by decide
        rw [this]
      grind
  constructor <;> grind
end Go.Bw
namespace Go.Bw
open Go Go.Rt
set_option linter.unusedVariables false
set_option linter.unusedSimpArgs false

/-- finite -/
def finN (y : Nat) : Prop := y % 9223372036854775808 < 9218868437227405312
theorem dg_zero : dg 0 = 0 := by decide
theorem fvm_zero {y : Nat} (h : y % 9223372036854775808 = 0) : fvm y = 0 := by
  unfold fvm
  rw [h, dg_zero]
  have : ((0 : Nat) : Rat) = 0 := by decide
  rw [this]; grind
theorem near_zero (neg : Bool) (e : Int) : Ieee.double.nearest neg 0 e % 9223372036854775808 = 0 := by
  unfold Ieee.Format.nearest
  rw [if_pos rfl, Gdouble_word]
  cases neg <;> rfl
/-- what the machine rounds, at any digits -/
theorem near_all (neg : Bool) (M : Nat) (e : Int) (hv : (M : Rat) * 2 ^ e < 2 ^ (1023 : Int)) :
    finN (Ieee.double.nearest neg M e) ∧ fvm (Ieee.double.nearest neg M e) ≤ (M : Rat) * 2 ^ e * (1 + 1/9007199254740992) + 2 ^ (-1075 : Int) ∧ (M : Rat) * 2 ^ e * (1 - 1/9007199254740992) - 2 ^ (-1075 : Int) ≤ fvm (Ieee.double.nearest neg M e) := by
  by_cases hM : M = 0
  · subst hM
    rw [fvm_zero (near_zero neg e)]
    have := two_pos (-1075)
    have h0 : ((0 : Nat) : Rat) = 0 := by decide
    rw [h0]
    refine ⟨by unfold finN; rw [near_zero]; decide, ?_⟩
    constructor <;> grind
  · exact near_val neg M e hM hv
/-- of no sign -/
theorem near_pos (M : Nat) (e : Int) : Ieee.double.nearest false M e < 9223372036854775808 := by
  by_cases hM : M = 0
  · subst hM
    unfold Ieee.Format.nearest
    rw [if_pos rfl, Gdouble_word]
    decide
  · have h := Gnearest_is false M e hM
    unfold GsignW inf at h
    rw [if_neg (by decide)] at h
    omega
theorem mul_val {y z : Nat} (hy : finN y) (hz : finN z) (hv : fvm y * fvm z < 2 ^ (1023 : Int)) :
    ∃ r, Ieee.double.mul y z = some r ∧ finN r ∧ (y / 9223372036854775808 % 2 = z / 9223372036854775808 % 2 → r < 9223372036854775808) ∧ fvm r ≤ fvm y * fvm z * (1 + 1/9007199254740992) + 2 ^ (-1075 : Int) ∧ fvm y * fvm z * (1 - 1/9007199254740992) - 2 ^ (-1075 : Int) ≤ fvm r := by
  have e : ((dg (y % 9223372036854775808) * dg (z % 9223372036854775808) : Nat) : Rat) * 2 ^ ((-1074 : Int) + (pl (y % 9223372036854775808) : Nat) + (-1074 + (pl (z % 9223372036854775808) : Nat))) = fvm y * fvm z := by
    unfold fvm
    rw [two_add, Rat.natCast_mul]
    grind
  have h : Ieee.double.mul y z = some (Ieee.double.nearest ((y / 9223372036854775808 % 2 == 1) ^^ (z / 9223372036854775808 % 2 == 1)) (dg (y % 9223372036854775808) * dg (z % 9223372036854775808)) (-1074 + (pl (y % 9223372036854775808) : Nat) + (-1074 + (pl (z % 9223372036854775808) : Nat)))) := by
    unfold Ieee.Format.mul
    rw [read_word y hy, read_word z hz]
    rfl
  have := near_all ((y / 9223372036854775808 % 2 == 1) ^^ (z / 9223372036854775808 % 2 == 1)) (dg (y % 9223372036854775808) * dg (z % 9223372036854775808)) (-1074 + (pl (y % 9223372036854775808) : Nat) + (-1074 + (pl (z % 9223372036854775808) : Nat))) (by rw [e]; exact hv)
  rw [e] at this
  refine ⟨_, h, this.1, fun hs => ?_, this.2⟩
  rw [hs, Bool.xor_self]
  exact near_pos _ _
theorem nat_place (m : Nat) {i b : Int} (hb : b ≤ i) : ((m * 2 ^ (i - b).toNat : Nat) : Rat) * 2 ^ b = (m : Rat) * 2 ^ i := by
  rw [Rat.natCast_mul, ← two_nat, Rat.mul_assoc, ← two_add]
  congr 2
  omega
/-- a sum of two that are not below 0 -/
theorem add_val {y z : Nat} (hy : y < 9218868437227405312) (hz : z < 9218868437227405312) (hv : fvm y + fvm z < 2 ^ (1023 : Int)) :
    ∃ r, Ieee.double.add y z = some r ∧ finN r ∧ r < 9223372036854775808 ∧ fvm r ≤ (fvm y + fvm z) * (1 + 1/9007199254740992) + 2 ^ (-1075 : Int) ∧ (fvm y + fvm z) * (1 - 1/9007199254740992) - 2 ^ (-1075 : Int) ≤ fvm r := by
  have ey : y % 9223372036854775808 = y := Nat.mod_eq_of_lt (by omega)
  have ez : z % 9223372036854775808 = z := Nat.mod_eq_of_lt (by omega)
  have sy : (y / 9223372036854775808 % 2 == 1) = false := by simp; omega
  have sz : (z / 9223372036854775808 % 2 == 1) = false := by simp; omega
  have ry := read_word y (by rw [ey]; exact hy)
  have rz := read_word z (by rw [ez]; exact hz)
  rw [ey, sy] at ry
  rw [ez, sz] at rz
  have fy : fvm y = (dg y : Rat) * 2 ^ ((-1074 : Int) + (pl y : Nat)) := by unfold fvm; rw [ey]
  have fz : fvm z = (dg z : Rat) * 2 ^ ((-1074 : Int) + (pl z : Nat)) := by unfold fvm; rw [ez]
  generalize hi : (-1074 : Int) + (pl y : Nat) = i at *
  generalize hj : (-1074 : Int) + (pl z : Nat) = j at *
  obtain ⟨b, hb⟩ : ∃ b, min i j = b := ⟨_, rfl⟩
  have hs : (Ieee.Datum.number false (dg y) i).sum (.number false (dg z) j) = some (.number (if ((dg y * 2 ^ (i - b).toNat + dg z * 2 ^ (j - b).toNat : Nat) : Int) = 0 then false && false else ((dg y * 2 ^ (i - b).toNat + dg z * 2 ^ (j - b).toNat : Nat) : Int) < 0) (dg y * 2 ^ (i - b).toNat + dg z * 2 ^ (j - b).toNat) b) := by
    unfold Ieee.Datum.sum
    simp only [hb, signed_is]
    simp only [if_neg (show ¬ (false = true) by decide), ← Int.natCast_add, Int.natAbs_natCast]
  have e : ((dg y * 2 ^ (i - b).toNat + dg z * 2 ^ (j - b).toNat : Nat) : Rat) * 2 ^ b = fvm y + fvm z := by
    rw [fy, fz, ← nat_place (dg y) (show b ≤ i by omega), ← nat_place (dg z) (show b ≤ j by omega), Rat.natCast_add]
    grind
  have sg0 : (if ((dg y * 2 ^ (i - b).toNat + dg z * 2 ^ (j - b).toNat : Nat) : Int) = 0 then (false && false : Bool) else decide (((dg y * 2 ^ (i - b).toNat + dg z * 2 ^ (j - b).toNat : Nat) : Int) < 0)) = false := by
    split
    · rfl
    · exact decide_eq_false (by omega)
  rw [sg0] at hs
  have h : Ieee.double.add y z = some (Ieee.double.nearest false (dg y * 2 ^ (i - b).toNat + dg z * 2 ^ (j - b).toNat) b) := by
    unfold Ieee.Format.add
    rw [ry, rz, hs]
    rfl
  have := near_all false (dg y * 2 ^ (i - b).toNat + dg z * 2 ^ (j - b).toNat) b (by rw [e]; exact hv)
  rw [e] at this
  exact ⟨_, h, this.1, near_pos _ _, this.2⟩
end Go.Bw
namespace Go.Bw
open Go Go.Rt
set_option linter.unusedVariables false
set_option linter.unusedSimpArgs false

def IsR (N s : Nat) : Prop := s * s ≤ N ∧ N < (s + 1) * (s + 1)
theorem rootFrom_is (n : Nat) : ∀ (todo root : Nat), root * root ≤ n → n < (root + 2 ^ todo) * (root + 2 ^ todo) → IsR n (Ieee.Datum.rootFrom n todo root)
  | 0, root, h1, h2 => by
    unfold Ieee.Datum.rootFrom
    exact ⟨h1, by simpa using h2⟩
  | todo + 1, root, h1, h2 => by
    unfold Ieee.Datum.rootFrom
    rw [Nat.one_shiftLeft]
    simp only
    split
    · rename_i h
      refine rootFrom_is n todo _ h ?_
      rw [Nat.add_assoc, show 2 ^ todo + 2 ^ todo = 2 ^ (todo + 1) by rw [Nat.pow_succ]; omega]
      exact h2
    · rename_i h
      exact rootFrom_is n todo _ h1 (by omega)
/-- the whole root -/
def isq (n : Nat) : Nat := Ieee.Datum.rootFrom n (n.log2 / 2 + 1) 0
theorem isq_is (n : Nat) : IsR n (isq n) := by
  refine rootFrom_is n _ 0 (by omega) ?_
  rw [Nat.zero_add, ← Nat.pow_add]
  exact Nat.lt_of_lt_of_le Nat.lt_log2_self (Nat.pow_le_pow_right (by omega) (by omega))
theorem isq_ge {n k : Nat} (h : k * k ≤ n) : k ≤ isq n := by
  rcases Nat.lt_or_ge (isq n) k with g | g
  · have := Nat.mul_le_mul (show isq n + 1 ≤ k from g) (show isq n + 1 ≤ k from g)
    have := (isq_is n).2
    omega
  · exact g
theorem isq_53 {n : Nat} (h : 2 ^ 106 ≤ n) : 9007199254740992 ≤ isq n := isq_ge (by omega)

theorem nat_cast_pow2 (k : Nat) (e : Int) : ((2 ^ k : Nat) : Rat) * 2 ^ e = 2 ^ ((k : Int) + e) := by rw [← two_nat, ← two_add]
theorem quot_any (s t : Bool) (m n : Nat) (i j : Int) (hn : n ≠ 0) : (Ieee.Datum.number s m i).quotient 54 (.number t n j) = some (.number (s ^^ t) (2 * (m <<< (54 + n.log2 - m.log2) / n) + (m <<< (54 + n.log2 - m.log2) % n != 0).toNat) (i - j - ((54 + n.log2 - m.log2 : Nat) : Int) - 1)) := by
  unfold Ieee.Datum.quotient
  simp only [if_neg hn]
/-- the digits of a quotient: a half more, where anything is left -/
theorem quot_near {m n k : Nat} {i : Int} (hm : m ≠ 0) (hn : n ≠ 0) (hk : 9007199254740992 * n ≤ m * 2 ^ k) :
    ((2 * (m * 2 ^ k / n) + (m * 2 ^ k % n != 0).toNat : Nat) : Rat) * 2 ^ (i - k - 1) * (n : Rat) ≤ (m : Rat) * 2 ^ i * (1 + 1/18014398509481984) ∧ (m : Rat) * 2 ^ i * (1 - 1/18014398509481984) ≤ ((2 * (m * 2 ^ k / n) + (m * 2 ^ k % n != 0).toNat : Nat) : Rat) * 2 ^ (i - k - 1) * (n : Rat) := by
  obtain ⟨q, hq⟩ : ∃ q, m * 2 ^ k / n = q := ⟨_, rfl⟩
  obtain ⟨t, ht⟩ : ∃ t, m * 2 ^ k % n = t := ⟨_, rfl⟩
  have hdm := Nat.div_add_mod (m * 2 ^ k) n
  have htn := Nat.mod_lt (m * 2 ^ k) (show 0 < n by omega)
  rw [hq, ht] at hdm
  rw [ht] at htn
  rw [hq, ht]
  obtain ⟨N, hN⟩ : ∃ N, m * 2 ^ k = N := ⟨_, rfl⟩
  rw [hN] at hdm hk
  have e1 : (m : Rat) * 2 ^ i = (N : Rat) * 2 * 2 ^ (i - k - 1) := by
    rw [← hN, Rat.natCast_mul, ← two_nat]
    have h2 : (2 : Rat) ^ i = 2 ^ (k : Int) * (2 * 2 ^ (i - k - 1)) := by
      have a := two_add 1 (i - k - 1)
      have b : (2 : Rat) ^ (1 : Int) = 2 := by decide
      rw [b] at a
      rw [← a, ← two_add]
      congr 1
      omega
    rw [h2]
    grind
  rw [e1]
  have hp := two_pos (i - k - 1)
  generalize (2 : Rat) ^ (i - k - 1) = P at *
  have hkR : (9007199254740992 : Rat) * (n : Rat) ≤ (N : Rat) := by exact_mod_cast hk
  have hdR : (n : Rat) * (q : Rat) + (t : Rat) = (N : Rat) := by exact_mod_cast hdm
  have htR : (t : Rat) ≤ (n : Rat) := by exact_mod_cast (Nat.le_of_lt htn)
  have ht0 : (0 : Rat) ≤ (t : Rat) := by exact_mod_cast Nat.zero_le t
  have main : ((2 * q + (t != 0).toNat : Nat) : Rat) * (n : Rat) ≤ (N : Rat) * 2 * (1 + 1/18014398509481984) ∧ (N : Rat) * 2 * (1 - 1/18014398509481984) ≤ ((2 * q + (t != 0).toNat : Nat) : Rat) * (n : Rat) := by
    by_cases h0 : t = 0
    · subst h0
      have e : ((2 * q + ((0 : Nat) != 0).toNat : Nat) : Rat) = 2 * (q : Rat) := by simp [Rat.natCast_mul]
      rw [e]
      have z : ((0 : Nat) : Rat) = 0 := by decide
      rw [z] at hdR
      constructor <;> grind
    · have hb : (t != 0) = true := bne_iff_ne.2 h0
      have e : ((2 * q + (t != 0).toNat : Nat) : Rat) = 2 * (q : Rat) + 1 := by rw [hb]; simp [Rat.natCast_add, Rat.natCast_mul]
      rw [e]
      constructor <;> grind
  obtain ⟨m1, m2⟩ := main
  have k1 := Rat.mul_le_mul_of_nonneg_right m1 (Rat.le_of_lt hp)
  have k2 := Rat.mul_le_mul_of_nonneg_right m2 (Rat.le_of_lt hp)
  constructor <;> grind
theorem div_val {y z : Nat} (hy : finN y) (hz : finN z) (hy0 : dg (y % 9223372036854775808) ≠ 0) (hz0 : dg (z % 9223372036854775808) ≠ 0) (hv : fvm y * 2 < 2 ^ (1023 : Int) * fvm z) :
    ∃ r, Ieee.double.div y z = some r ∧ finN r ∧ (y / 9223372036854775808 % 2 = z / 9223372036854775808 % 2 → r < 9223372036854775808) ∧ fvm r * fvm z ≤ fvm y * (1 + 1/4503599627370496) + 2 ^ (-1075 : Int) * fvm z ∧ fvm y * (1 - 1/4503599627370496) - 2 ^ (-1075 : Int) * fvm z ≤ fvm r * fvm z := by
  have hq : Ieee.double.div y z = ((Ieee.double.read y).quotient 54 (Ieee.double.read z)).map Ieee.double.write := rfl
  have sgn : y / 9223372036854775808 % 2 = z / 9223372036854775808 % 2 → ((y / 9223372036854775808 % 2 == 1) ^^ (z / 9223372036854775808 % 2 == 1)) = false := fun e => by rw [e, Bool.xor_self]
  rw [read_word y hy, read_word z hz] at hq
  have fy : fvm y = (dg (y % 9223372036854775808) : Rat) * 2 ^ ((-1074 : Int) + (pl (y % 9223372036854775808) : Nat)) := rfl
  have fz : fvm z = (dg (z % 9223372036854775808) : Rat) * 2 ^ ((-1074 : Int) + (pl (z % 9223372036854775808) : Nat)) := rfl
  generalize (y / 9223372036854775808 % 2 == 1) = sy at *
  generalize (z / 9223372036854775808 % 2 == 1) = sz at *
  generalize dg (y % 9223372036854775808) = m at *
  generalize dg (z % 9223372036854775808) = n at *
  generalize (-1074 : Int) + (pl (y % 9223372036854775808) : Nat) = i at *
  generalize (-1074 : Int) + (pl (z % 9223372036854775808) : Nat) = j at *
  rw [quot_any sy sz m n i j hz0] at hq
  obtain ⟨k, hk⟩ : ∃ k, 54 + n.log2 - m.log2 = k := ⟨_, rfl⟩
  rw [hk, Nat.shiftLeft_eq] at hq
  simp only [Option.map_some] at hq
  have h' : Ieee.double.div y z = some (Ieee.double.nearest (sy ^^ sz) (2 * (m * 2 ^ k / n) + (m * 2 ^ k % n != 0).toNat) (i - j - (k : Int) - 1)) := hq
  have enough : 9007199254740992 * n ≤ m * 2 ^ k := by
    have hbit : 2 ^ m.log2 ≤ m := Nat.log2_self_le hy0
    have hbn : n < 2 ^ (n.log2 + 1) := Nat.lt_log2_self
    have a1 : 2 ^ (54 + n.log2) ≤ m * 2 ^ k := by
      refine Nat.le_trans (Nat.pow_le_pow_right (by omega) (show 54 + n.log2 ≤ m.log2 + k by omega)) ?_
      rw [Nat.pow_add]
      exact Nat.mul_le_mul_right _ hbit
    have a2 : 9007199254740992 * n ≤ 2 ^ (54 + n.log2) := by
      rw [show 54 + n.log2 = 53 + (n.log2 + 1) by omega, Nat.pow_add]
      exact Nat.mul_le_mul_left _ (Nat.le_of_lt hbn)
    exact Nat.le_trans a2 a1
  have qn := quot_near (i := i) hy0 hz0 enough
  rw [fy, fz] at hv ⊢
  have e1 : (2 : Rat) ^ (i - j - (k : Int) - 1) * 2 ^ j = 2 ^ (i - (k : Int) - 1) := by rw [← two_add]; congr 1; omega
  have hpj := two_pos j
  have hpn : (0 : Rat) < (n : Rat) := by exact_mod_cast (Nat.pos_of_ne_zero hz0)
  have hz9' : (0 : Rat) < (n : Rat) * 2 ^ j := Rat.mul_pos hpn hpj
  have hz9 := Rat.le_of_lt hz9'
  have e2 : ((2 * (m * 2 ^ k / n) + (m * 2 ^ k % n != 0).toNat : Nat) : Rat) * 2 ^ (i - j - (k : Int) - 1) * ((n : Rat) * 2 ^ j) = ((2 * (m * 2 ^ k / n) + (m * 2 ^ k % n != 0).toNat : Nat) : Rat) * 2 ^ (i - (k : Int) - 1) * (n : Rat) := by
    rw [← e1]; grind
  have hF : (0 : Rat) ≤ (m : Rat) * 2 ^ i := Rat.mul_nonneg (by exact_mod_cast Nat.zero_le m) (Rat.le_of_lt (two_pos i))
  have near := near_all (sy ^^ sz) (2 * (m * 2 ^ k / n) + (m * 2 ^ k % n != 0).toNat) (i - j - (k : Int) - 1) (by
    generalize ((2 * (m * 2 ^ k / n) + (m * 2 ^ k % n != 0).toNat : Nat) : Rat) * 2 ^ (i - j - (k : Int) - 1) = V at *
    generalize ((2 * (m * 2 ^ k / n) + (m * 2 ^ k % n != 0).toNat : Nat) : Rat) * 2 ^ (i - (k : Int) - 1) * (n : Rat) = U at *
    generalize (n : Rat) * 2 ^ j = Z at *
    generalize (m : Rat) * 2 ^ i = Y at *
    generalize (2 : Rat) ^ (1023 : Int) = B at *
    refine Rat.not_le.1 fun hc => ?_
    have := Rat.mul_le_mul_of_nonneg_right hc hz9
    grind)
  refine ⟨_, h', near.1, fun es => by rw [sgn es]; exact near_pos _ _, ?_⟩
  have near := near.2
  generalize Ieee.double.nearest (sy ^^ sz) (2 * (m * 2 ^ k / n) + (m * 2 ^ k % n != 0).toNat) (i - j - (k : Int) - 1) = r at *
  have a1 := Rat.mul_le_mul_of_nonneg_right near.1 hz9
  have a2 := Rat.mul_le_mul_of_nonneg_right near.2 hz9
  clear hv
  generalize ((2 * (m * 2 ^ k / n) + (m * 2 ^ k % n != 0).toNat : Nat) : Rat) * 2 ^ (i - j - (k : Int) - 1) = V at *
  generalize ((2 * (m * 2 ^ k / n) + (m * 2 ^ k % n != 0).toNat : Nat) : Rat) * 2 ^ (i - (k : Int) - 1) * (n : Rat) = U at *
  generalize (n : Rat) * 2 ^ j = Z at *
  generalize (m : Rat) * 2 ^ i = Y at *
  constructor <;> grind
end Go.Bw
namespace Go.Bw
open Go Go.Rt
theorem root_num (m : Nat) (i : Int) (m0 : m ≠ 0) : ∃ k : Nat, (Ieee.Datum.number false m i).root 54 = some (.number false (2 * isq (m * 2 ^ k) + (isq (m * 2 ^ k) * isq (m * 2 ^ k) != m * 2 ^ k).toNat) ((i - (k : Int)) / 2 - 1)) ∧ (i - (k : Int)) % 2 = 0 ∧ 106 ≤ m.log2 + k := by
  refine ⟨2 * 54 - m.log2 + ((i - ((2 * 54 - m.log2 : Nat) : Int)) % 2).toNat, ?_, by omega, by omega⟩
  unfold Ieee.Datum.root
  simp only [if_neg m0]
  rw [Nat.shiftLeft_eq]
  rfl
theorem root_near {N s : Nat} (h : IsR N s) (hs : 9007199254740992 ≤ s) :
    (((2 * s + (s * s != N).toNat : Nat) : Rat) * ((2 * s + (s * s != N).toNat : Nat) : Rat) ≤ 4 * (N : Rat) * (1 + 1/9007199254740992)) ∧ (4 * (N : Rat) * (1 - 1/9007199254740992) ≤ ((2 * s + (s * s != N).toNat : Nat) : Rat) * ((2 * s + (s * s != N).toNat : Nat) : Rat)) := by
  obtain ⟨h1, h2⟩ := h
  have r1 : (s : Rat) * (s : Rat) ≤ (N : Rat) := by exact_mod_cast h1
  have r2 : (N : Rat) + 1 ≤ ((s : Rat) + 1) * ((s : Rat) + 1) := by exact_mod_cast h2
  have rs : (9007199254740992 : Rat) ≤ (s : Rat) := by exact_mod_cast hs
  have hs0 : (0 : Rat) ≤ (s : Rat) := by exact_mod_cast Nat.zero_le s
  have rss := Rat.mul_le_mul_of_nonneg_right rs hs0
  by_cases he : s * s = N
  · have hb : (s * s != N) = false := by simp [he]
    have e : ((2 * s + (s * s != N).toNat : Nat) : Rat) = 2 * (s : Rat) := by rw [hb]; simp [Rat.natCast_mul]
    have eN : (s : Rat) * (s : Rat) = (N : Rat) := by exact_mod_cast he
    rw [e]
    constructor <;> grind
  · have hb : (s * s != N) = true := bne_iff_ne.2 he
    have e : ((2 * s + (s * s != N).toNat : Nat) : Rat) = 2 * (s : Rat) + 1 := by rw [hb]; simp [Rat.natCast_add, Rat.natCast_mul]
    have lt : s * s + 1 ≤ N := by omega
    have r3 : (s : Rat) * (s : Rat) + 1 ≤ (N : Rat) := by exact_mod_cast lt
    rw [e]
    constructor <;> grind
theorem sqrt_val {y : Nat} (hy : y < 9218868437227405312) (hy0 : dg y ≠ 0) (h1 : 1/2 ≤ fvm y) (hv : fvm y < 2 ^ (1023 : Int)) :
    ∃ r, Ieee.double.sqrt y = some r ∧ finN r ∧ r < 9223372036854775808 ∧ fvm r * fvm r ≤ fvm y * ((1 + 1/4503599627370496) * (1 + 1/4503599627370496)) ∧ fvm y * ((1 - 1/4503599627370496) * (1 - 1/4503599627370496)) ≤ fvm r * fvm r ∧ 0 < fvm r := by
  have ey : y % 9223372036854775808 = y := Nat.mod_eq_of_lt (by omega)
  have sy : (y / 9223372036854775808 % 2 == 1) = false := by simp; omega
  have ry := read_word y (by rw [ey]; exact hy)
  rw [ey, sy] at ry
  have fy : fvm y = (dg y : Rat) * 2 ^ ((-1074 : Int) + (pl y : Nat)) := by unfold fvm; rw [ey]
  have hq : Ieee.double.sqrt y = ((Ieee.double.read y).root 54).map Ieee.double.write := rfl
  rw [ry] at hq
  generalize dg y = m at *
  generalize (-1074 : Int) + (pl y : Nat) = i at *
  obtain ⟨k, hk, hpar, hlog⟩ := root_num m i hy0
  rw [hk] at hq
  simp only [Option.map_some] at hq
  have hbit : 2 ^ m.log2 ≤ m := Nat.log2_self_le hy0
  have enough : 9007199254740992 ≤ isq (m * 2 ^ k) := by
    refine isq_53 ?_
    refine Nat.le_trans (Nat.pow_le_pow_right (by omega) hlog) ?_
    rw [Nat.pow_add]
    exact Nat.mul_le_mul_right _ hbit
  have hR := isq_is (m * 2 ^ k)
  have rn := root_near hR enough
  obtain ⟨z, hz⟩ : ∃ z, 2 * isq (m * 2 ^ k) + (isq (m * 2 ^ k) * isq (m * 2 ^ k) != m * 2 ^ k).toNat = z := ⟨_, rfl⟩
  rw [hz] at rn hq
  have h' : Ieee.double.sqrt y = some (Ieee.double.nearest false z ((i - (k : Int)) / 2 - 1)) := hq
  obtain ⟨p, hp⟩ : ∃ p : Int, (i - (k : Int)) / 2 - 1 = p := ⟨_, rfl⟩
  rw [hp] at h'
  have hi : i = (k : Int) + (p + p + 2) := by omega
  have e1 : fvm y = 4 * ((m * 2 ^ k : Nat) : Rat) * (2 ^ p * 2 ^ p) := by
    rw [fy, hi, two_add, two_add (p + p) 2, two_add p p, two_nat, Rat.natCast_mul]
    have : (2 : Rat) ^ (2 : Int) = 4 := by decide
    rw [this]; grind
  have hpp := two_pos p
  have hsq : 0 ≤ (2 : Rat) ^ p * 2 ^ p := Rat.le_of_lt (Rat.mul_pos hpp hpp)
  have k1 := Rat.mul_le_mul_of_nonneg_right rn.1 hsq
  have k2 := Rat.mul_le_mul_of_nonneg_right rn.2 hsq
  have hz0 : (0 : Rat) ≤ (z : Rat) := by exact_mod_cast Nat.zero_le z
  have hV0 : 0 ≤ (z : Rat) * 2 ^ p := Rat.mul_nonneg hz0 (Rat.le_of_lt hpp)
  have e2 : (z : Rat) * (z : Rat) * (2 ^ p * 2 ^ p) = ((z : Rat) * 2 ^ p) * ((z : Rat) * 2 ^ p) := by grind
  rw [e2] at k1 k2
  rw [e1] at h1 hv ⊢
  have big : (4 : Rat) ≤ 2 ^ (1023 : Int) := by
    have a := two_le (show (2 : Int) ≤ 1023 by decide)
    have b : (2 : Rat) ^ (2 : Int) = 4 := by decide
    rw [b] at a; exact a
  have near := near_all false z p (by
    generalize ((m * 2 ^ k : Nat) : Rat) = N at *
    generalize (2 : Rat) ^ p * 2 ^ p = P at *
    generalize (z : Rat) * 2 ^ p = V at *
    generalize (2 : Rat) ^ (1023 : Int) = B at *
    refine Rat.not_le.1 fun hc => ?_
    have b1 := le_mul hc hc (by grind) (by grind)
    have b2 := le_mul big (Rat.le_refl (a := B)) (by grind) (by grind)
    grind)
  refine ⟨_, h', near.1, near_pos _ _, ?_⟩
  have near := near.2
  clear hv big
  have hr0 := fvm_nonneg (Ieee.double.nearest false z p)
  generalize Ieee.double.nearest false z p = r at *
  generalize ((m * 2 ^ k : Nat) : Rat) = N at *
  generalize (2 : Rat) ^ p * 2 ^ p = P at *
  generalize (z : Rat) * 2 ^ p = V at *
  obtain ⟨Wd, hW⟩ : ∃ Wd, 4 * N * P = Wd := ⟨_, rfl⟩
  have k1' : V * V ≤ Wd * (1 + 1/9007199254740992) := by rw [← hW]; grind
  have k2' : Wd * (1 - 1/9007199254740992) ≤ V * V := by rw [← hW]; grind
  rw [hW] at h1 ⊢
  have hV1 : (1 : Rat)/2 ≤ V := by
    refine Rat.not_lt.1 fun hlt => ?_
    have := le_mul (Rat.le_of_lt hlt) (Rat.le_of_lt hlt) hV0 hV0
    grind
  have tiny : (2 : Rat) ^ (-1075 : Int) ≤ 1/1152921504606846976 := by
    have a := two_le (show (-1075 : Int) ≤ -60 by decide)
    have b : (2 : Rat) ^ (-60 : Int) = 1/1152921504606846976 := by decide +kernel
    rw [b] at a; exact a
  have tp := two_pos (-1075)
  have q1 : fvm r ≤ V * (1 + 1/9007199254740992 + 1/576460752303423488) := by grind
  have q2 : V * (1 - 1/9007199254740992 - 1/576460752303423488) ≤ fvm r := by grind
  have l0 : 0 ≤ V * (1 - 1/9007199254740992 - 1/576460752303423488) := Rat.mul_nonneg hV0 (by grind)
  have s1 := le_mul q1 q1 hr0 hr0
  have s2 := le_mul q2 q2 l0 l0
  refine ⟨?_, ?_, ?_⟩
  · grind
  · grind
  · grind
end Go.Bw
namespace Go.Bw
open Go Go.Rt
set_option linter.unusedVariables false
set_option linter.unusedSimpArgs false
theorem tiny : (2 : Rat) ^ (-1075 : Int) ≤ 1/2305843009213693952 := by
  have a := two_le (show (-1075 : Int) ≤ -61 by decide)
  have b : (2 : Rat) ^ (-61 : Int) = 1/2305843009213693952 := by decide +kernel
  rw [b] at a; exact a
theorem big : (1024 : Rat) ≤ 2 ^ (1023 : Int) := by
  have a := two_le (show (10 : Int) ≤ 1023 by decide)
  have b : (2 : Rat) ^ (10 : Int) = 1024 := by decide
  rw [b] at a; exact a
theorem fvm_pos {y : Nat} (h : dg (y % 9223372036854775808) ≠ 0) : 0 < fvm y := Rat.mul_pos (by exact_mod_cast Nat.pos_of_ne_zero h) (two_pos _)
theorem dg_of_pos {y : Nat} (h : 0 < fvm y) : dg (y % 9223372036854775808) ≠ 0 := fun e => by
  unfold fvm at h
  rw [e] at h
  have : ((0 : Nat) : Rat) = 0 := by decide
  rw [this] at h
  grind
abbrev oneW : Nat := 4607182418800017408
theorem fvm_one : fvm oneW = 1 := by
  unfold fvm
  rw [show dg (oneW % 9223372036854775808) = 2 ^ 52 by decide, show pl (oneW % 9223372036854775808) = 1022 by decide, ← two_nat, ← two_add]
  decide
theorem one_fin : oneW < 9218868437227405312 := by decide
theorem lt_of_fin {r : Nat} (h : finN r) (h2 : r < 9223372036854775808) : r < 9218868437227405312 := by unfold finN at h; omega
theorem fin_of_lt {r : Nat} (h : r < 9218868437227405312) : finN r := by unfold finN; omega
theorem rot {f g : Nat} (hf : finN f) (hg : finN g) (f0 : dg (f % 9223372036854775808) ≠ 0) (g0 : dg (g % 9223372036854775808) ≠ 0) (h : fvm g ≤ fvm f) :
    ∃ t v w Q c s, Ieee.double.div g f = some t ∧ Ieee.double.mul t t = some v ∧ Ieee.double.add oneW v = some w ∧ Ieee.double.sqrt w = some Q ∧ Ieee.double.div oneW Q = some c ∧ Ieee.double.mul c t = some s ∧
      finN t ∧ v < 9218868437227405312 ∧ w < 9218868437227405312 ∧ Q < 9218868437227405312 ∧ c < 9218868437227405312 ∧ finN s ∧
      fvm Q ≤ 2 ∧ 1/2 ≤ fvm Q ∧ fvm c * fvm c + fvm s * fvm s ≤ 1 + 1/562949953421312 ∧ 1 - 1/562949953421312 ≤ fvm c * fvm c + fvm s * fvm s := by
  have tn := tiny
  have bg := big
  have tp := two_pos (-1075)
  have F0 := fvm_pos f0
  have G0 := fvm_pos g0
  obtain ⟨t, ht, tf, -, t1, t2⟩ := div_val hg hf g0 f0 (by
    have := Rat.mul_le_mul_of_nonneg_right bg (Rat.le_of_lt F0)
    grind)
  have T0 := fvm_nonneg t
  have T1 : fvm t ≤ 1 + 1/1125899906842624 := by
    refine Rat.le_of_mul_le_mul_right (c := fvm f) ?_ F0
    have := Rat.mul_le_mul_of_nonneg_right tn (Rat.le_of_lt F0)
    grind
  have TT := le_mul T1 T1 T0 T0
  have TT0 : 0 ≤ fvm t * fvm t := Rat.mul_nonneg T0 T0
  obtain ⟨v, hv, vf, vs, v1, v2⟩ := mul_val tf tf (by grind)
  have vl := lt_of_fin vf (vs rfl)
  have V0 := fvm_nonneg v
  obtain ⟨w, hw, wf, ws, w1, w2⟩ := add_val one_fin vl (by rw [fvm_one]; grind)
  rw [fvm_one] at w1 w2
  have wl := lt_of_fin wf ws
  have W1 : 1/2 ≤ fvm w := by grind
  have W2 : fvm w ≤ 3 := by grind
  have w0 : dg w ≠ 0 := by
    have := dg_of_pos (y := w) (by grind)
    rwa [Nat.mod_eq_of_lt ws] at this
  obtain ⟨Q, hQ, Qf, Qs, q1, q2, q3⟩ := sqrt_val wl w0 W1 (by grind)
  have Ql := lt_of_fin Qf Qs
  have Q2 : fvm Q ≤ 2 := by
    refine Rat.not_lt.1 fun hc => ?_
    have := le_mul (Rat.le_of_lt hc) (Rat.le_of_lt hc) (by grind) (by grind)
    grind
  have Q1 : 1/2 ≤ fvm Q := by
    refine Rat.not_lt.1 fun hc => ?_
    have := le_mul (Rat.le_of_lt hc) (Rat.le_of_lt hc) (Rat.le_of_lt q3) (Rat.le_of_lt q3)
    grind
  obtain ⟨c, hc, cf, cs, c1, c2⟩ := div_val (y := oneW) (z := Q) (fin_of_lt one_fin) Qf (by decide) (dg_of_pos q3) (by
    rw [fvm_one]
    have := Rat.mul_le_mul_of_nonneg_right bg (Rat.le_of_lt q3)
    grind)
  rw [fvm_one] at c1 c2
  have tQ := Rat.mul_le_mul_of_nonneg_right tn (Rat.le_of_lt q3)
  have cl := lt_of_fin cf (cs (by rw [Nat.div_eq_of_lt Qs]; decide))
  have C0 := fvm_nonneg c
  have cq1 : fvm c * fvm Q ≤ 1 + 1/4503599627370496 + 1/1152921504606846976 := by grind
  have cq2 : 1 - 1/4503599627370496 - 1/1152921504606846976 ≤ fvm c * fvm Q := by grind
  have C1 : fvm c ≤ 3 := by
    have := Rat.mul_le_mul_of_nonneg_left Q1 C0
    grind
  have Cp : 0 < fvm c := by
    refine Rat.not_le.1 fun hc => ?_
    have : fvm c = 0 := Rat.le_antisymm hc C0
    rw [this] at cq2
    grind
  have CT := le_mul C1 T1 C0 T0
  have CT0 : 0 ≤ fvm c * fvm t := Rat.mul_nonneg C0 T0
  obtain ⟨s, hs, sf, -, s1, s2⟩ := mul_val cf tf (by grind)
  have S0 := fvm_nonneg s
  refine ⟨t, v, w, Q, c, s, ht, hv, hw, hQ, hc, hs, tf, vl, wl, Ql, cl, sf, Q2, Q1, ?_, ?_⟩
  · have a2 : fvm t * fvm t * (1 - 1/4503599627370496) - 1/1152921504606846976 ≤ fvm v := by clear w1 w2 q1 q2 cq1 cq2 s1 s2 t1 t2; grind
    have a3 : (1 + fvm v) * (1 - 1/4503599627370496) - 1/1152921504606846976 ≤ fvm w := by clear v1 v2 w1 q1 q2 cq1 cq2 s1 s2 t1 t2; grind
    have a4 : fvm s ≤ fvm c * fvm t * (1 + 1/4503599627370496) + 1/1152921504606846976 := by clear v1 v2 w1 w2 q1 q2 cq1 cq2 s2 t1 t2; grind
    exact rot_upper T0 T1 (v := fvm v) (w := fvm w) (Q := fvm Q) a2 a3 q2 q3 Q2 cq1 Cp a4 S0
  · have a2 : fvm v ≤ fvm t * fvm t * (1 + 1/4503599627370496) + 1/1152921504606846976 := by clear w1 w2 q1 q2 cq1 cq2 s1 s2 t1 t2; grind
    have a3 : fvm w ≤ (1 + fvm v) * (1 + 1/4503599627370496) + 1/1152921504606846976 := by clear v1 v2 w2 q1 q2 cq1 cq2 s1 s2 t1 t2; grind
    have a4 : fvm c * fvm t * (1 - 1/4503599627370496) - 1/1152921504606846976 ≤ fvm s := by clear v1 v2 w1 w2 q1 q2 cq1 cq2 s1 t1 t2; grind
    exact rot_lower T0 T1 (v := fvm v) (w := fvm w) (Q := fvm Q) a2 a3 q1 q3 Q2 cq2 Cp a4 S0
end Go.Bw
