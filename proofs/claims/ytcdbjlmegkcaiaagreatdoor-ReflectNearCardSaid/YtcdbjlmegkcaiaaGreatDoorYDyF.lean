/-
  Layer 3, plain mathematics, part three: the machine's rounding is the rounding of layer 1.
-/
import Derived.Test.YtcdbjlmegkcaiaaGreatDoorZNB1
import Derived.Test.YtcdbjlmegkcaiaaGreatDoorYDyA
import Ieee.Arith
namespace Go.Bw
open Go
set_option linter.unusedVariables false

theorem cut_even (neg : Bool) (n drop : Nat) : Ieee.Toward.even.cut neg n drop = n / 2 ^ drop + (if 2 ^ drop < 2 * (n % 2 ^ drop) ∨ (2 ^ drop = 2 * (n % 2 ^ drop) ∧ n / 2 ^ drop % 2 = 1) then 1 else 0) := by
  unfold Ieee.Toward.cut
  simp only [Nat.one_shiftLeft]
  have tb : ∀ (P : Prop) [Decidable P], (decide P).toNat = if P then 1 else 0 := by intro P _; by_cases h : P <;> simp [h]
  by_cases h : drop ≤ n.log2 + 2
  · rw [Nat.min_eq_left h]
    congr 1
    by_cases a : 2 ^ drop < 2 * (n % 2 ^ drop)
    · simp [a]
    · by_cases b : 2 ^ drop = 2 * (n % 2 ^ drop)
      · by_cases c : n / 2 ^ drop % 2 = 1
        · have e1 : (2 ^ drop == 2 * (n % 2 ^ drop)) = true := by simpa using b
          have e2 : (n / 2 ^ drop % 2 == 1) = true := by simpa using c
          rw [e1, e2, if_pos (.inr ⟨b, c⟩)]
          simp [a]
        · have e2 : (n / 2 ^ drop % 2 == 1) = false := by simpa using c
          rw [e2, if_neg (by rintro (h | h); exact a h; exact c h.2)]
          simp [a]
      · have e1 : (2 ^ drop == 2 * (n % 2 ^ drop)) = false := by simpa using b
        rw [e1, if_neg (by rintro (h | h); exact a h; exact b h.1)]
        simp [a]
  · rw [Nat.min_eq_right (by omega)]
    have hn : n < 2 ^ (n.log2 + 1) := Nat.lt_log2_self
    have h1 : 2 ^ (n.log2 + 2) = 2 * 2 ^ (n.log2 + 1) := by rw [Nat.pow_succ _ (n.log2 + 1)]; omega
    have h2 : 2 ^ (n.log2 + 2) ≤ 2 ^ drop := Nat.pow_le_pow_right (by decide) (by omega)
    rw [Nat.div_eq_of_lt (show n < 2 ^ (n.log2 + 2) by omega), Nat.mod_eq_of_lt (show n < 2 ^ (n.log2 + 2) by omega), Nat.div_eq_of_lt (show n < 2 ^ drop by omega), Nat.mod_eq_of_lt (show n < 2 ^ drop by omega)]
    rw [if_neg (by rintro (h | h); omega; omega)]
    have e1 : (2 ^ (n.log2 + 2) == 2 * n) = false := by simp; omega
    rw [e1]
    have e2 : ¬ 2 ^ (n.log2 + 2) < 2 * n := by omega
    simp [e2]

theorem double_word (neg : Bool) (r : Nat) : Ieee.double.word neg r = if neg then 9223372036854775808 + r else r := rfl
theorem double_least : Ieee.double.leastPlace = -1074 := by decide
theorem double_inf : Ieee.double.infRung = 9218868437227405312 := by decide
theorem double_binade : Ieee.double.binade = 4503599627370496 := by decide

/-- the machine's rounding, in powers -/
theorem nearest_is (neg : Bool) (M : Nat) (e : Int) (hM : M ≠ 0) :
    (Ieee.double.nearest neg M e : Int) = signW neg (min ((max (e + M.log2 - 52) (-1074) + 1074) * 4503599627370496 +
      (if max (e + M.log2 - 52) (-1074) - e ≤ 0 then (M : Int) * 2 ^ (-(max (e + M.log2 - 52) (-1074) - e)).toNat
       else ((M / 2 ^ (max (e + M.log2 - 52) (-1074) - e).toNat : Nat) : Int) + (if 2 ^ (max (e + M.log2 - 52) (-1074) - e).toNat < 2 * (M % 2 ^ (max (e + M.log2 - 52) (-1074) - e).toNat) ∨
         (2 ^ (max (e + M.log2 - 52) (-1074) - e).toNat = 2 * (M % 2 ^ (max (e + M.log2 - 52) (-1074) - e).toNat) ∧ M / 2 ^ (max (e + M.log2 - 52) (-1074) - e).toNat % 2 = 1) then 1 else 0))) inf) := by
  unfold Ieee.Format.nearest
  rw [if_neg hM]
  simp only [double_word, double_least, double_inf, double_binade, show (Ieee.double.fractionBits : Int) = 52 from rfl]
  have hl : -1074 ≤ max (e + (M.log2 : Int) - 52) (-1074) := Int.le_max_right _ _
  generalize max (e + (M.log2 : Int) - 52) (-1074) = L at *
  rw [cut_even]
  have key : ((min ((L - -1074).toNat * 4503599627370496 + (M <<< (e - L).toNat / 2 ^ (L - e).toNat + (if 2 ^ (L - e).toNat < 2 * (M <<< (e - L).toNat % 2 ^ (L - e).toNat) ∨ 2 ^ (L - e).toNat = 2 * (M <<< (e - L).toNat % 2 ^ (L - e).toNat) ∧ M <<< (e - L).toNat / 2 ^ (L - e).toNat % 2 = 1 then 1 else 0))) 9218868437227405312 : Nat) : Int) =
      min ((L + 1074) * 4503599627370496 + (if L - e ≤ 0 then (M : Int) * 2 ^ (-(L - e)).toNat else ((M / 2 ^ (L - e).toNat : Nat) : Int) + (if 2 ^ (L - e).toNat < 2 * (M % 2 ^ (L - e).toNat) ∨ (2 ^ (L - e).toNat = 2 * (M % 2 ^ (L - e).toNat) ∧ M / 2 ^ (L - e).toNat % 2 = 1) then 1 else 0))) inf := by
    by_cases c : L - e ≤ 0
    · rw [if_pos c, show (L - e).toNat = 0 by omega, Nat.pow_zero, Nat.div_one, Nat.mod_one, if_neg (by omega), Nat.shiftLeft_eq, Nat.add_zero, show (-(L - e)).toNat = (e - L).toNat by omega]
      have hk : ((M * 2 ^ (e - L).toNat : Nat) : Int) = (M : Int) * 2 ^ (e - L).toNat := by push_cast; rfl
      rw [← hk]
      generalize M * 2 ^ (e - L).toNat = K at *
      unfold inf
      omega
    · rw [if_neg c, show (e - L).toNat = 0 by omega, Nat.shiftLeft_zero]
      split
      · generalize M / 2 ^ (L - e).toNat = K at *
        unfold inf
        omega
      · generalize M / 2 ^ (L - e).toNat = K at *
        unfold inf
        omega
  unfold signW
  cases neg
  · simpa using key
  · simp only [if_true]
    rw [← key]
    rfl

/-- the highest bits, and whether anything stands below them, are enough -/
theorem nearest_rnd (neg : Bool) (M k : Nat) (e : Int) (hM : M ≠ 0) (hT : M / 2 ^ k < 18446744073709551616) (hk : k = 0 ∨ 9223372036854775808 ≤ M / 2 ^ k) :
    (Ieee.double.nearest neg M e : Int) = signW neg (rnd ((M / 2 ^ k : Nat) : Int) (e + k) (decide (M % 2 ^ k ≠ 0))) := by
  rw [nearest_is neg M e hM]
  congr 1
  have hp := Nat.two_pow_pos k
  have hT0 : M / 2 ^ k ≠ 0 := by
    rcases hk with h | h
    · subst h; simpa using hM
    · omega
  have hL : M.log2 + 1 = Lib.bitLen (M / 2 ^ k) + k := by
    have s := bl_spec _ hT
    have s2 := s.2 hT0
    have a1 : 2 ^ M.log2 ≤ M := Nat.log2_self_le hM
    have a2 : M < 2 ^ (M.log2 + 1) := Nat.lt_log2_self
    generalize Lib.bitLen (M / 2 ^ k) = B at *
    have b1 : 2 ^ (B - 1 + k) ≤ M := by
      rw [Nat.pow_add]
      exact Nat.le_trans (Nat.mul_le_mul_right _ s2.2) (Nat.div_mul_le_self M (2 ^ k))
    have b2 : M < 2 ^ (B + k) := by
      rw [Nat.pow_add]
      exact (Nat.div_lt_iff_lt_mul hp).1 s.1
    have c1 : M.log2 < B + k := (Nat.pow_lt_pow_iff_right (by decide : 1 < 2)).1 (Nat.lt_of_le_of_lt a1 b2)
    have c2 : B - 1 + k < M.log2 + 1 := (Nat.pow_lt_pow_iff_right (by decide : 1 < 2)).1 (Nat.lt_of_le_of_lt b1 a2)
    omega
  have hTi : ¬ ((M / 2 ^ k : Nat) : Int) = 0 := fun h => hT0 (Int.natCast_eq_zero.1 h)
  unfold rnd
  rw [if_neg hTi]
  have hE : rE ((M / 2 ^ k : Nat) : Int) (e + k) = max (e + M.log2 - 52) (-1074) := by
    unfold rE bl
    rw [Int.toNat_natCast]
    omega
  rw [hE]
  have hd0 : max (e + (M.log2 : Int) - 52) (-1074) - e ≥ M.log2 - 52 := by omega
  have h63 : k = 0 ∨ 63 + k ≤ M.log2 := by
    rcases hk with h | h
    · exact .inl h
    · right
      have s := bl_spec _ hT
      generalize Lib.bitLen (M / 2 ^ k) = B at *
      rcases Nat.lt_or_ge B 64 with g | g
      · have := Nat.pow_le_pow_right (show 0 < 2 by decide) (show B ≤ 63 by omega)
        omega
      · omega
  generalize max (e + (M.log2 : Int) - 52) (-1074) = L at *
  congr 2
  unfold rW
  rcases h63 with h | h
  · subst h
    have z : M % 2 ^ 0 = 0 := by rw [Nat.pow_zero, Nat.mod_one]
    rw [z, Nat.pow_zero, Nat.div_one, show L - (e + ((0 : Nat) : Int)) = L - e by omega]
    by_cases c : L - e ≤ 0
    · rw [if_pos c, if_pos c]
    · rw [if_neg c, if_neg c]
      unfold rUp
      obtain ⟨d, hd⟩ : ∃ d : Nat, (L - e).toNat = d := ⟨_, rfl⟩
      rw [hd]
      have e1 : (M : Int) / 2 ^ d = ((M / 2 ^ d : Nat) : Int) := by push_cast; rfl
      have e2 : (M : Int) % 2 ^ d = ((M % 2 ^ d : Nat) : Int) := by push_cast; rfl
      have e3 : (2 : Int) ^ d = ((2 ^ d : Nat) : Int) := by push_cast; rfl
      rw [e1, e2, e3]
      congr 1
      simp only [decide_not, decide_true, Bool.not_true, Bool.false_or]
      generalize 2 ^ d = P
      generalize M % P = u
      generalize M / P = v
      by_cases a : P < 2 * u
      · rw [if_pos (.inl a), decide_eq_true (show ((P : Nat) : Int) < 2 * (u : Int) by omega)]; rfl
      · rw [decide_eq_false (show ¬ ((P : Nat) : Int) < 2 * (u : Int) by omega)]
        by_cases b : P = 2 * u ∧ v % 2 = 1
        · rw [if_pos (.inr b), decide_eq_true (show 2 * (u : Int) = (P : Int) by omega), decide_eq_true (show (v : Int) % 2 = 1 by omega)]; rfl
        · rw [if_neg (by rintro (h | h); exact a h; exact b h)]
          by_cases b2 : P = 2 * u
          · rw [decide_eq_false (show ¬ (v : Int) % 2 = 1 by have : ¬ v % 2 = 1 := fun h => b ⟨b2, h⟩; omega)]; simp
          · rw [decide_eq_false (show ¬ 2 * (u : Int) = (P : Int) by omega)]; simp
  · rw [if_neg (show ¬ L - e ≤ 0 by omega), if_neg (show ¬ L - (e + (k : Int)) ≤ 0 by omega)]
    obtain ⟨d, hd⟩ : ∃ d : Nat, (L - (e + (k : Int))).toNat = d := ⟨_, rfl⟩
    rw [show (L - e).toNat = k + d by omega, hd]
    have hd1 : 1 ≤ d := by omega
    unfold rUp
    have q1 : M / 2 ^ (k + d) = M / 2 ^ k / 2 ^ d := by rw [Nat.pow_add, Nat.div_div_eq_div_mul]
    have q2 : M % 2 ^ (k + d) = (M / 2 ^ k % 2 ^ d) * 2 ^ k + M % 2 ^ k := by
      rw [Nat.pow_add, Nat.mod_mul, Nat.mul_comm (2 ^ k), Nat.add_comm]
    have e1 : (((M / 2 ^ k : Nat) : Int)) / 2 ^ d = ((M / 2 ^ k / 2 ^ d : Nat) : Int) := by push_cast; rfl
    have e2 : (((M / 2 ^ k : Nat) : Int)) % 2 ^ d = ((M / 2 ^ k % 2 ^ d : Nat) : Int) := by push_cast; rfl
    have e3 : (2 : Int) ^ d = ((2 ^ d : Nat) : Int) := by push_cast; rfl
    rw [q1, q2, hd, e1, e2, e3]
    congr 1
    have hr : M % 2 ^ k < 2 ^ k := Nat.mod_lt _ hp
    obtain ⟨f, rfl⟩ : ∃ f, d = f + 1 := ⟨d - 1, by omega⟩
    have hu : M / 2 ^ k % 2 ^ (f + 1) < 2 ^ (f + 1) := Nat.mod_lt _ (Nat.two_pow_pos _)
    rw [Nat.pow_add 2 k (f + 1)]
    have hP : 2 ^ (f + 1) = 2 * 2 ^ f := by rw [Nat.pow_succ]; omega
    rw [hP] at hu ⊢
    generalize M / 2 ^ k / (2 * 2 ^ f) = v
    generalize M / 2 ^ k % (2 * 2 ^ f) = u at *
    generalize M % 2 ^ k = r at *
    generalize 2 ^ f = F at *
    generalize 2 ^ k = K at *
    have t1 : ∀ x y : Nat, x < y → x * K + K ≤ y * K := fun x y h => by
      have := Nat.mul_le_mul_right K (show x + 1 ≤ y from h)
      rw [Nat.add_mul, Nat.one_mul] at this
      exact this
    have cm : K * (2 * F) = 2 * (F * K) := by rw [Nat.mul_comm K, Nat.mul_assoc]
    rw [cm]
    rcases Nat.lt_trichotomy u F with g | g | g
    · have := t1 u F g
      rw [if_neg (by rintro (h | h); omega; omega), decide_eq_false (show ¬ ((2 * F : Nat) : Int) < 2 * (u : Int) by omega), decide_eq_false (show ¬ 2 * (u : Int) = ((2 * F : Nat) : Int) by omega)]
      simp
    · subst g
      rw [decide_eq_false (show ¬ ((2 * u : Nat) : Int) < 2 * (u : Int) by omega), decide_eq_true (show 2 * (u : Int) = ((2 * u : Nat) : Int) by omega)]
      by_cases z : r = 0
      · subst z
        by_cases c : v % 2 = 1
        · rw [if_pos (.inr ⟨by omega, c⟩), decide_eq_true (show (v : Int) % 2 = 1 by omega)]; simp
        · rw [if_neg (by rintro (h | h); omega; omega), decide_eq_false (show ¬ (v : Int) % 2 = 1 by omega)]; simp
      · rw [if_pos (.inl (by omega))]
        simp [z]
    · have := t1 F u g
      rw [if_pos (.inl (by omega)), decide_eq_true (show ((2 * F : Nat) : Int) < 2 * (u : Int) by omega)]
      simp
end Go.Bw
