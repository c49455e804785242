/-
  Layer 3, plain mathematics, part four: the machine's sums, differences and products are the exact ones, rounded, but for a zero's sign.
-/
import Derived.Test.YtcdbjlmegkcaiaaGreatDoorYDyX
import Derived.Test.YtcdbjlmegkcaiaaGreatDoorYDyR
import Derived.Test.YtcdbjlmegkcaiaaGreatDoorZNB4
import Derived.Laws.FloatArith
namespace Go.Proofs.YtcdbjlmegkcaiaaGreatDoor
open Go Go.RowKit Go.Bw
set_option linter.unusedVariables false
set_option linter.unusedSimpArgs false

theorem log2_shift (M k : Nat) (h : M ≠ 0) : (M * 2 ^ k).log2 = M.log2 + k := by
  have hp := Nat.two_pow_pos k
  have h2 : M * 2 ^ k ≠ 0 := Nat.mul_ne_zero h (by omega)
  rw [Nat.log2_eq_iff h2]
  have a1 : 2 ^ M.log2 ≤ M := Nat.log2_self_le h
  have a2 : M < 2 ^ (M.log2 + 1) := Nat.lt_log2_self
  constructor
  · rw [Nat.pow_add]
    exact Nat.mul_le_mul_right _ a1
  · rw [show M.log2 + k + 1 = M.log2 + 1 + k by omega, Nat.pow_add 2 (M.log2 + 1) k]
    exact Nat.mul_lt_mul_of_pos_right a2 hp
/-- the machine's rounding looks at the number alone -/
theorem nearest_shift (neg : Bool) (M k : Nat) (e : Int) (hM : M ≠ 0) : Ieee.double.nearest neg (M * 2 ^ k) (e - k) = Ieee.double.nearest neg M e := by
  have hp := Nat.two_pow_pos k
  have h2 : M * 2 ^ k ≠ 0 := Nat.mul_ne_zero hM (by omega)
  apply Int.ofNat_inj.1
  rw [nearest_is neg _ _ h2, nearest_is neg _ _ hM, log2_shift M k hM]
  rw [show e - (k : Int) + ((M.log2 + k : Nat) : Int) - 52 = e + (M.log2 : Int) - 52 by omega]
  generalize max (e + (M.log2 : Int) - 52) (-1074) = L
  congr 3
  by_cases c1 : L - (e - (k : Int)) ≤ 0
  · rw [if_pos c1, if_pos (show L - e ≤ 0 by omega)]
    rw [show (-(L - e)).toNat = k + (-(L - (e - (k : Int)))).toNat by omega, Int.pow_add]
    push_cast
    rw [Int.mul_assoc]
  · rw [if_neg c1]
    by_cases c2 : L - e ≤ 0
    · rw [if_pos c2]
      obtain ⟨d, hd⟩ : ∃ d : Nat, (L - (e - (k : Int))).toNat = d := ⟨_, rfl⟩
      obtain ⟨j, hj⟩ : ∃ j : Nat, (-(L - e)).toNat = j := ⟨_, rfl⟩
      have hk : k = j + d := by omega
      have hpd := Nat.two_pow_pos d
      rw [hd, hj, hk, Nat.pow_add, ← Nat.mul_assoc, Nat.mul_div_cancel _ hpd, Nat.mul_mod_left]
      rw [if_neg (by rintro (h | h); omega; omega)]
      push_cast
      omega
    · rw [if_neg c2]
      obtain ⟨d, hd⟩ : ∃ d : Nat, (L - e).toNat = d := ⟨_, rfl⟩
      rw [hd, show (L - (e - (k : Int))).toNat = d + k by omega, Nat.pow_add, Nat.mul_div_mul_right _ _ hp, Nat.mul_mod_mul_right]
      congr 1
      generalize M % 2 ^ d = r
      generalize M / 2 ^ d = v
      generalize 2 ^ d = P
      generalize 2 ^ k = K at *
      have e1 : (P * K < 2 * (r * K)) ↔ (P < 2 * r) := by
        rw [← Nat.mul_assoc]
        exact ⟨fun h => Nat.lt_of_mul_lt_mul_right h, fun h => Nat.mul_lt_mul_of_pos_right h hp⟩
      have e2 : (P * K = 2 * (r * K)) ↔ (P = 2 * r) := by
        rw [← Nat.mul_assoc]
        exact ⟨fun h => Nat.eq_of_mul_eq_mul_right hp h, fun h => by rw [h]⟩
      simp only [e1, e2]
theorem word_small (z : Bool) (M : Nat) (e : Int) : Ieee.double.nearest z M e % 9223372036854775808 ≤ 9218868437227405312 := by
  unfold Ieee.Format.nearest
  split
  · cases z <;> decide
  · simp only [double_word, double_inf]
    split <;> omega
theorem order_same (z : Bool) (M : Nat) (e : Int) : (Ieee.double.order (Ieee.double.nearest z M e) (Ieee.double.nearest z M e) == some .eq) = true := by
  have h := order_self (Ieee.double.nearest z M e)
  have h2 := word_small z M e
  rw [decide_eq_false (by omega)] at h
  simpa using h
/-- a number rounded, and its rounded form, are equal floats -/
theorem order_fw (z z' : Bool) (M : Nat) (e : Int) (h : M ≠ 0 → z' = z) : (Ieee.double.order (fw (nfl z M e)) (Ieee.double.nearest z' M e) == some .eq) = true := by
  by_cases h0 : M = 0
  · subst h0
    rw [show ((0 : Nat) : Int) = 0 from rfl, nfl_zero, fw_zero]
    unfold Ieee.Format.nearest
    rw [if_pos rfl]
    cases z' <;> decide
  · rw [h h0]
    have hf : fw (nfl z M e) = Ieee.double.nearest z M e := by
      rw [nfl_pos (by omega), Int.toNat_natCast]
      show Ieee.double.nearest z (odd M) (e + tz M) = _
      obtain ⟨o1, o2⟩ := odd_is (n := M) h0
      have := nearest_shift z (odd M) (tz M) (e + tz M) (by omega)
      rw [← o2, show e + (tz M : Int) - (tz M : Int) = e by omega] at this
      exact this.symm
    rw [hf]
    exact order_same z M e
/-- the place of a finite word -/
def rexp (y : Int) : Int := if cls y = 3 then fld y - 1075 else -1074
/-- a finite word's number -/
def wN (y : Nat) : Nf := nfl (pneg (y : Int)) (pman (y : Int)) (pexp (y : Int))
theorem pman_nat (y : Nat) : ∃ m : Nat, pman (y : Int) = m ∧ m < 9007199254740992 := by
  have hf := frc_bd (y : Int)
  refine ⟨(pman (y : Int)).toNat, ?_, ?_⟩ <;> (unfold pman; split <;> omega)
theorem wN_read (y : Nat) (hc : cls (y : Int) ≤ 3) : wN y = nfl (pneg (y : Int)) (pman (y : Int)) (rexp (y : Int)) := by
  unfold wN pexp rexp
  by_cases h3 : cls (y : Int) = 3
  · rw [if_neg (by omega), if_neg (by omega), if_pos h3]
  · rw [if_neg h3]
    by_cases h1 : cls (y : Int) = 1
    · have : pman (y : Int) = 0 := by
        unfold pman
        rw [if_neg h3]
        have hr := frc_bd (y : Int)
        unfold cls at h1
        repeat' split at h1
        all_goals omega
      rw [this, nfl_zero, nfl_zero]
    · have hb := cls_bd (y : Int)
      rw [if_neg h1, if_pos (by omega)]
theorem read_is (y : Nat) (hn : y ≤ 18446744073709551615) (hc : cls (y : Int) ≤ 3) : Ieee.double.read y = .number (pneg (y : Int)) (pman (y : Int)).toNat (rexp (y : Int)) := by
  obtain ⟨e1, e2, e3⟩ := read_rungs
  have hs : (y / 9223372036854775808 % 2 == 1) = pneg (y : Int) := by
    unfold pneg
    rw [Bool.eq_iff_iff, beq_iff_eq, decide_eq_true_iff]
    omega
  unfold Ieee.Format.read
  simp only [e1, e2, e3, hs, double_least]
  unfold pman rexp
  by_cases a : y % 9223372036854775808 < 4503599627370496
  · have h3 : ¬ cls (y : Int) = 3 := by
      unfold cls fld frc
      repeat' split
      all_goals omega
    rw [if_pos a, if_neg h3, if_neg h3]
    congr 1
    unfold frc
    omega
  · by_cases b : y % 9223372036854775808 < 9218868437227405312
    · have h3 : cls (y : Int) = 3 := by
        unfold cls fld frc
        repeat' split
        all_goals omega
      rw [if_neg a, if_pos b, if_pos h3, if_pos h3]
      unfold frc fld
      congr 1 <;> omega
    · exfalso
      unfold cls fld frc at hc
      repeat' split at hc
      all_goals omega
theorem signed_eq (s : Bool) (m k : Nat) : Ieee.signed s m k = (if s then -(m : Int) else m) * 2 ^ k := by
  unfold Ieee.signed
  rw [Nat.shiftLeft_eq]
  cases s <;> simp [Int.neg_mul]
/-- a sum as the machine writes it -/
theorem total_nf (s t : Bool) (m n : Nat) (i j : Int) :
    sumN (nfl s m i) (nfl t n j) = nfl (decide (Ieee.signed s m (i - min i j).toNat + Ieee.signed t n (j - min i j).toNat < 0)) ((Ieee.signed s m (i - min i j).toNat + Ieee.signed t n (j - min i j).toNat).natAbs : Nat) (min i j) := by
  unfold nfl
  rw [← sumN_of (p := min i j) (by omega) (by omega), signed_eq, signed_eq]
  congr 1
  generalize (if s = true then -(m : Int) else m) * 2 ^ (i - min i j).toNat + (if t = true then -(n : Int) else n) * 2 ^ (j - min i j).toNat = T
  by_cases h : T < 0
  · rw [decide_eq_true h]; simp; omega
  · rw [decide_eq_false h]; simp; omega
theorem sum_datum (s t : Bool) (m n : Nat) (i j : Int) :
    ∃ r, ((Ieee.Datum.number s m i).sum (.number t n j)).map Ieee.double.write = some r ∧ (Ieee.double.order (fw (sumN (nfl s m i) (nfl t n j))) r == some .eq) = true := by
  refine ⟨_, rfl, ?_⟩
  rw [total_nf]
  refine order_fw _ _ _ _ (fun h => ?_)
  generalize Ieee.signed s m (i - min i j).toNat + Ieee.signed t n (j - min i j).toNat = T at *
  rw [if_neg (by omega)]
theorem product_datum (s t : Bool) (m n : Nat) (i j : Int) :
    ∃ r, ((Ieee.Datum.number s m i).product (.number t n j)).map Ieee.double.write = some r ∧ (Ieee.double.order (fw (mulN (nfl s m i) (nfl t n j))) r == some .eq) = true := by
  refine ⟨_, rfl, ?_⟩
  have e : mulN (nfl s m i) (nfl t n j) = nfl (s ^^ t) ((m * n : Nat) : Int) (i + j) := by
    unfold nfl
    rw [← mulN_of]
    congr 1
    cases s <;> cases t <;> simp [Int.neg_mul, Int.mul_neg]
  rw [e]
  exact order_fw _ _ _ _ (fun _ => rfl)
section
variable (y z : Nat) (hn : y ≤ 18446744073709551615) (hc : cls (y : Int) ≤ 3) (hn2 : z ≤ 18446744073709551615) (hc2 : cls (z : Int) ≤ 3)
include hn hc hn2 hc2
theorem mach_add : ∃ r, floatBits .add .f64 y z = some r ∧ (FloatKind.f64.format.order (fw (sumN (wN y) (wN z))) r == some .eq) = true := by
  obtain ⟨m, hm, _⟩ := pman_nat y
  obtain ⟨n, hm2, _⟩ := pman_nat z
  show ∃ r, Ieee.double.add y z = some r ∧ (Ieee.double.order (fw (sumN (wN y) (wN z))) r == some .eq) = true
  unfold Ieee.Format.add
  rw [read_is y hn hc, read_is z hn2 hc2, wN_read y hc, wN_read z hc2, hm, hm2, Int.toNat_natCast, Int.toNat_natCast]
  exact sum_datum _ _ m n _ _
theorem mach_sub : ∃ r, floatBits .sub .f64 y z = some r ∧ (FloatKind.f64.format.order (fw (sumN (wN y) (negN (wN z)))) r == some .eq) = true := by
  obtain ⟨m, hm, _⟩ := pman_nat y
  obtain ⟨n, hm2, _⟩ := pman_nat z
  show ∃ r, Ieee.double.sub y z = some r ∧ (Ieee.double.order (fw (sumN (wN y) (negN (wN z)))) r == some .eq) = true
  unfold Ieee.Format.sub
  rw [read_is y hn hc, read_is z hn2 hc2, wN_read y hc, wN_read z hc2, hm, hm2, Int.toNat_natCast, Int.toNat_natCast, ← nfl_neg]
  exact sum_datum _ _ m n _ _
theorem mach_mul : ∃ r, floatBits .mul .f64 y z = some r ∧ (FloatKind.f64.format.order (fw (mulN (wN y) (wN z))) r == some .eq) = true := by
  obtain ⟨m, hm, _⟩ := pman_nat y
  obtain ⟨n, hm2, _⟩ := pman_nat z
  show ∃ r, Ieee.double.mul y z = some r ∧ (Ieee.double.order (fw (mulN (wN y) (wN z))) r == some .eq) = true
  unfold Ieee.Format.mul
  rw [read_is y hn hc, read_is z hn2 hc2, wN_read y hc, wN_read z hc2, hm, hm2, Int.toNat_natCast, Int.toNat_natCast]
  exact product_datum _ _ m n _ _
end
theorem wN_in (y : Nat) (hc : cls (y : Int) ≤ 3) : (wN y).In (-1074) 1024 := by
  obtain ⟨m, hm, hlt⟩ := pman_nat y
  have hf := fld_bd (y : Int)
  have hr : -1074 ≤ rexp (y : Int) ∧ rexp (y : Int) ≤ 971 := by
    unfold rexp
    split
    · rename_i h3
      have : fld (y : Int) ≠ 2047 ∧ fld (y : Int) ≠ 0 := by
        unfold cls at h3
        repeat' split at h3
        all_goals omega
      omega
    · omega
  rw [wN_read y hc, hm]
  refine (nfl_in (e := rexp (y : Int)) (q := rexp (y : Int) + 53) (by omega) (by omega) ?_).mono (by omega) (by omega)
  rw [show (rexp (y : Int) + 53 - rexp (y : Int)).toNat = 53 by omega]
  have : (2 : Int) ^ 53 = 9007199254740992 := by decide
  omega
theorem wN_ok (y : Nat) : (wN y).Ok := nfl_ok _ _ _
end Go.Proofs.YtcdbjlmegkcaiaaGreatDoor
