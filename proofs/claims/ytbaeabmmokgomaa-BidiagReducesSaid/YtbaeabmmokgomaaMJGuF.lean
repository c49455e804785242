/-
  Layer 5, plain mathematics: floats held against each other by their words; a float's half and double.
-/
import Derived.Test.YtbaeabmmokgomaaMJGuA
import Ieee.Arith
namespace Go.Bw
open Go
set_option linter.unusedVariables false
set_option linter.unusedSimpArgs false

def signW (neg : Bool) (m : Int) : Int := if neg then 9223372036854775808 + m else m
theorem cut_even (neg : Bool) (n drop : Nat) : Ieee.Toward.even.cut neg n drop = n / 2 ^ drop + (if 2 ^ drop < 2 * (n % 2 ^ drop) ∨ (2 ^ drop = 2 * (n % 2 ^ drop) ∧ n / 2 ^ drop % 2 = 1) then 1 else 0) := by
  unfold Ieee.Toward.cut
  simp only [Nat.one_shiftLeft]
  have tb : ∀ (P : Prop) [Decidable P], (decide P).toNat = if P then 1 else 0 := by intro P _; by_cases h : P <;> simp [h]
  by_cases h : drop ≤ n.log2 + 2
  · rw [Nat.min_eq_left h]
    congr 1
    by_cases a : 2 ^ drop < 2 * (n % 2 ^ drop)
    · simp [a]
    · by_cases b : 2 ^ drop = 2 * (n % 2 ^ drop)
      · by_cases c : n / 2 ^ drop % 2 = 1
        · have e1 : (2 ^ drop == 2 * (n % 2 ^ drop)) = true := by simpa using b
          have e2 : (n / 2 ^ drop % 2 == 1) = true := by simpa using c
          rw [e1, e2, if_pos (.inr ⟨b, c⟩)]
          simp [a]
        · have e2 : (n / 2 ^ drop % 2 == 1) = false := by simpa using c
          rw [e2, if_neg (by rintro (h | h); exact a h; exact c h.2)]
          simp [a]
      · have e1 : (2 ^ drop == 2 * (n % 2 ^ drop)) = false := by simpa using b
        rw [e1, if_neg (by rintro (h | h); exact a h; exact b h.1)]
        simp [a]
  · rw [Nat.min_eq_right (by omega)]
    have hn : n < 2 ^ (n.log2 + 1) := Nat.lt_log2_self
    have h1 : 2 ^ (n.log2 + 2) = 2 * 2 ^ (n.log2 + 1) := by rw [Nat.pow_succ _ (n.log2 + 1)]; omega
    have h2 : 2 ^ (n.log2 + 2) ≤ 2 ^ drop := Nat.pow_le_pow_right (by decide) (by omega)
    rw [Nat.div_eq_of_lt (show n < 2 ^ (n.log2 + 2) by omega), Nat.mod_eq_of_lt (show n < 2 ^ (n.log2 + 2) by omega), Nat.div_eq_of_lt (show n < 2 ^ drop by omega), Nat.mod_eq_of_lt (show n < 2 ^ drop by omega)]
    rw [if_neg (by rintro (h | h); omega; omega)]
    have e1 : (2 ^ (n.log2 + 2) == 2 * n) = false := by simp; omega
    rw [e1]
    have e2 : ¬ 2 ^ (n.log2 + 2) < 2 * n := by omega
    simp [e2]

theorem double_word (neg : Bool) (r : Nat) : Ieee.double.word neg r = if neg then 9223372036854775808 + r else r := rfl
theorem double_least : Ieee.double.leastPlace = -1074 := by decide
theorem double_inf : Ieee.double.infRung = 9218868437227405312 := by decide
theorem double_binade : Ieee.double.binade = 4503599627370496 := by decide

/-- the machine's rounding, in powers -/
theorem nearest_is (neg : Bool) (M : Nat) (e : Int) (hM : M ≠ 0) :
    (Ieee.double.nearest neg M e : Int) = signW neg (min ((max (e + M.log2 - 52) (-1074) + 1074) * 4503599627370496 +
      (if max (e + M.log2 - 52) (-1074) - e ≤ 0 then (M : Int) * 2 ^ (-(max (e + M.log2 - 52) (-1074) - e)).toNat
       else ((M / 2 ^ (max (e + M.log2 - 52) (-1074) - e).toNat : Nat) : Int) + (if 2 ^ (max (e + M.log2 - 52) (-1074) - e).toNat < 2 * (M % 2 ^ (max (e + M.log2 - 52) (-1074) - e).toNat) ∨
         (2 ^ (max (e + M.log2 - 52) (-1074) - e).toNat = 2 * (M % 2 ^ (max (e + M.log2 - 52) (-1074) - e).toNat) ∧ M / 2 ^ (max (e + M.log2 - 52) (-1074) - e).toNat % 2 = 1) then 1 else 0))) inf) := by
  unfold Ieee.Format.nearest
  rw [if_neg hM]
  simp only [double_word, double_least, double_inf, double_binade, show (Ieee.double.fractionBits : Int) = 52 from rfl]
  have hl : -1074 ≤ max (e + (M.log2 : Int) - 52) (-1074) := Int.le_max_right _ _
  generalize max (e + (M.log2 : Int) - 52) (-1074) = L at *
  rw [cut_even]
  have key : ((min ((L - -1074).toNat * 4503599627370496 + (M <<< (e - L).toNat / 2 ^ (L - e).toNat + (if 2 ^ (L - e).toNat < 2 * (M <<< (e - L).toNat % 2 ^ (L - e).toNat) ∨ 2 ^ (L - e).toNat = 2 * (M <<< (e - L).toNat % 2 ^ (L - e).toNat) ∧ M <<< (e - L).toNat / 2 ^ (L - e).toNat % 2 = 1 then 1 else 0))) 9218868437227405312 : Nat) : Int) =
      min ((L + 1074) * 4503599627370496 + (if L - e ≤ 0 then (M : Int) * 2 ^ (-(L - e)).toNat else ((M / 2 ^ (L - e).toNat : Nat) : Int) + (if 2 ^ (L - e).toNat < 2 * (M % 2 ^ (L - e).toNat) ∨ (2 ^ (L - e).toNat = 2 * (M % 2 ^ (L - e).toNat) ∧ M / 2 ^ (L - e).toNat % 2 = 1) then 1 else 0))) inf := by
    by_cases c : L - e ≤ 0
    · rw [if_pos c, show (L - e).toNat = 0 by omega, Nat.pow_zero, Nat.div_one, Nat.mod_one, if_neg (by omega), Nat.shiftLeft_eq, Nat.add_zero, show (-(L - e)).toNat = (e - L).toNat by omega]
      have hk : ((M * 2 ^ (e - L).toNat : Nat) : Int) = (M : Int) * 2 ^ (e - L).toNat := by push_cast; rfl
      rw [← hk]
      generalize M * 2 ^ (e - L).toNat = K at *
      unfold inf
      omega
    · rw [if_neg c, show (e - L).toNat = 0 by omega, Nat.shiftLeft_zero]
      split
      · generalize M / 2 ^ (L - e).toNat = K at *
        unfold inf
        omega
      · generalize M / 2 ^ (L - e).toNat = K at *
        unfold inf
        omega
  unfold signW
  cases neg
  · simpa using key
  · simp only [if_true]
    rw [← key]
    rfl

theorem log2_shift (M k : Nat) (h : M ≠ 0) : (M * 2 ^ k).log2 = M.log2 + k := by
  have hp := Nat.two_pow_pos k
  have h2 : M * 2 ^ k ≠ 0 := Nat.mul_ne_zero h (by omega)
  rw [Nat.log2_eq_iff h2]
  have a1 : 2 ^ M.log2 ≤ M := Nat.log2_self_le h
  have a2 : M < 2 ^ (M.log2 + 1) := Nat.lt_log2_self
  constructor
  · rw [Nat.pow_add]
    exact Nat.mul_le_mul_right _ a1
  · rw [show M.log2 + k + 1 = M.log2 + 1 + k by omega, Nat.pow_add 2 (M.log2 + 1) k]
    exact Nat.mul_lt_mul_of_pos_right a2 hp
/-- the machine's rounding looks at the number alone -/
theorem nearest_shift (neg : Bool) (M k : Nat) (e : Int) (hM : M ≠ 0) : Ieee.double.nearest neg (M * 2 ^ k) (e - k) = Ieee.double.nearest neg M e := by
  have hp := Nat.two_pow_pos k
  have h2 : M * 2 ^ k ≠ 0 := Nat.mul_ne_zero hM (by omega)
  apply Int.ofNat_inj.1
  rw [nearest_is neg _ _ h2, nearest_is neg _ _ hM, log2_shift M k hM]
  rw [show e - (k : Int) + ((M.log2 + k : Nat) : Int) - 52 = e + (M.log2 : Int) - 52 by omega]
  generalize max (e + (M.log2 : Int) - 52) (-1074) = L
  congr 3
  by_cases c1 : L - (e - (k : Int)) ≤ 0
  · rw [if_pos c1, if_pos (show L - e ≤ 0 by omega)]
    rw [show (-(L - e)).toNat = k + (-(L - (e - (k : Int)))).toNat by omega, Int.pow_add]
    push_cast
    rw [Int.mul_assoc]
  · rw [if_neg c1]
    by_cases c2 : L - e ≤ 0
    · rw [if_pos c2]
      obtain ⟨d, hd⟩ : ∃ d : Nat, (L - (e - (k : Int))).toNat = d := ⟨_, rfl⟩
      obtain ⟨j, hj⟩ : ∃ j : Nat, (-(L - e)).toNat = j := ⟨_, rfl⟩
      have hk : k = j + d := by omega
      have hpd := Nat.two_pow_pos d
      rw [hd, hj, hk, Nat.pow_add, ← Nat.mul_assoc, Nat.mul_div_cancel _ hpd, Nat.mul_mod_left]
      rw [if_neg (by rintro (h | h); omega; omega)]
      push_cast
      omega
    · rw [if_neg c2]
      obtain ⟨d, hd⟩ : ∃ d : Nat, (L - e).toNat = d := ⟨_, rfl⟩
      rw [hd, show (L - (e - (k : Int))).toNat = d + k by omega, Nat.pow_add, Nat.mul_div_mul_right _ _ hp, Nat.mul_mod_mul_right]
      congr 1
      generalize M % 2 ^ d = r
      generalize M / 2 ^ d = v
      generalize 2 ^ d = P
      generalize 2 ^ k = K at *
      have e1 : (P * K < 2 * (r * K)) ↔ (P < 2 * r) := by
        rw [← Nat.mul_assoc]
        exact ⟨fun h => Nat.lt_of_mul_lt_mul_right h, fun h => Nat.mul_lt_mul_of_pos_right h hp⟩
      have e2 : (P * K = 2 * (r * K)) ↔ (P = 2 * r) := by
        rw [← Nat.mul_assoc]
        exact ⟨fun h => Nat.eq_of_mul_eq_mul_right hp h, fun h => by rw [h]⟩
      simp only [e1, e2]

/-- what stands for a word without its sign: the digits, and the place above the least -/
def dg (r : Nat) : Nat := if r < 4503599627370496 then r else 4503599627370496 + r % 4503599627370496
def pl (r : Nat) : Nat := if r < 4503599627370496 then 0 else r / 4503599627370496 - 1
theorem read_word (y : Nat) (hf : y % 9223372036854775808 < 9218868437227405312) : Ieee.double.read y = .number (y / 9223372036854775808 % 2 == 1) (dg (y % 9223372036854775808)) (-1074 + (pl (y % 9223372036854775808) : Nat)) := by
  have e : Ieee.double.signWeight = 9223372036854775808 ∧ Ieee.double.binade = 4503599627370496 ∧ Ieee.double.infRung = 9218868437227405312 := by decide
  obtain ⟨e1, e2, e3⟩ := e
  unfold Ieee.Format.read
  simp only [e1, e2, e3, double_least]
  unfold dg pl
  by_cases a : y % 9223372036854775808 < 4503599627370496
  · rw [if_pos a, if_pos a, if_pos a]; rfl
  · rw [if_neg a, if_pos hf, if_neg a, if_neg a]
/-- the number, in least floats -/
def vl (r : Nat) : Nat := dg r * 2 ^ pl r
theorem vl_mono {r s : Nat} (h : r < s) : vl r < vl s := by
  unfold vl dg pl
  by_cases a : s < 4503599627370496
  · rw [if_pos a, if_pos a, if_pos (by omega), if_pos (by omega)]; simpa using h
  · rw [if_neg a, if_neg a]
    have hs := Nat.two_pow_pos (s / 4503599627370496 - 1)
    by_cases b : r < 4503599627370496
    · rw [if_pos b, if_pos b]
      have : 4503599627370496 * 1 ≤ (4503599627370496 + s % 4503599627370496) * 2 ^ (s / 4503599627370496 - 1) := Nat.mul_le_mul (by omega) hs
      simpa using (by omega : r < _)
    · rw [if_neg b, if_neg b]
      by_cases c : r / 4503599627370496 = s / 4503599627370496
      · rw [c]
        exact Nat.mul_lt_mul_of_pos_right (by omega) hs
      · obtain ⟨k, hk⟩ : ∃ k, s / 4503599627370496 - 1 = (r / 4503599627370496 - 1) + 1 + k := ⟨s / 4503599627370496 - 1 - (r / 4503599627370496 - 1) - 1, by omega⟩
        have hr := Nat.two_pow_pos (r / 4503599627370496 - 1)
        have hkp := Nat.two_pow_pos k
        rw [hk, Nat.pow_add, Nat.pow_succ]
        calc (4503599627370496 + r % 4503599627370496) * 2 ^ (r / 4503599627370496 - 1) < 9007199254740992 * 2 ^ (r / 4503599627370496 - 1) := Nat.mul_lt_mul_of_pos_right (by omega) hr
          _ = 4503599627370496 * (2 ^ (r / 4503599627370496 - 1) * 2 * 1) := by omega
          _ ≤ (4503599627370496 + s % 4503599627370496) * (2 ^ (r / 4503599627370496 - 1) * 2 * 2 ^ k) := Nat.mul_le_mul (by omega) (Nat.mul_le_mul_left _ hkp)
theorem vl_le {r s : Nat} : vl r ≤ vl s ↔ r ≤ s := by
  constructor
  · intro h
    rcases Nat.lt_or_ge s r with g | g
    · have := vl_mono g; omega
    · exact g
  · intro h
    rcases Nat.lt_or_ge r s with g | g
    · exact Nat.le_of_lt (vl_mono g)
    · obtain rfl : r = s := by omega
      exact Nat.le_refl _
/-- a word as a number's rank: below 0 with the sign -/
def sm (x : Int) : Int := if 9223372036854775808 ≤ x then -mag x else mag x
/-- what it is worth, in least floats -/
def sv (y : Nat) : Int := if y / 9223372036854775808 % 2 == 1 then -(vl (y % 9223372036854775808) : Int) else vl (y % 9223372036854775808)
theorem vl_zero : vl 0 = 0 := by decide
theorem sv_cases (y : Nat) (hy : y ≤ 18446744073709551615) : (sv y = -(vl (y % 9223372036854775808) : Int) ∧ sm (y : Int) = -((y % 9223372036854775808 : Nat) : Int)) ∨ (sv y = (vl (y % 9223372036854775808) : Int) ∧ sm (y : Int) = ((y % 9223372036854775808 : Nat) : Int)) := by
  unfold sv sm mag
  by_cases c : 9223372036854775808 ≤ y
  · have e : (y / 9223372036854775808 % 2 == 1) = true := by simp; omega
    left
    rw [if_pos e, if_pos (show (9223372036854775808 : Int) ≤ (y : Int) by omega)]
    exact ⟨rfl, by omega⟩
  · have e : ¬ (y / 9223372036854775808 % 2 == 1) = true := by simp; omega
    right
    rw [if_neg e, if_neg (show ¬ (9223372036854775808 : Int) ≤ (y : Int) by omega)]
    exact ⟨rfl, by omega⟩
theorem sv_lt {y z : Nat} (hy : y ≤ 18446744073709551615) (hz : z ≤ 18446744073709551615) : sv y < sv z ↔ sm (y : Int) < sm (z : Int) := by
  have m : ∀ r s : Nat, (vl r < vl s ↔ r < s) := fun r s => by have := @vl_le s r; omega
  have z0 := vl_zero
  have h1 := m (y % 9223372036854775808) (z % 9223372036854775808)
  have h2 := m (z % 9223372036854775808) (y % 9223372036854775808)
  have h3 := m 0 (y % 9223372036854775808)
  have h4 := m 0 (z % 9223372036854775808)
  rw [z0] at h3 h4
  rcases sv_cases y hy with ⟨a1, a2⟩ | ⟨a1, a2⟩ <;> rcases sv_cases z hz with ⟨b1, b2⟩ | ⟨b1, b2⟩ <;> rw [a1, a2, b1, b2] <;> generalize vl (y % 9223372036854775808) = a at * <;> generalize vl (z % 9223372036854775808) = b at * <;> omega
theorem signed_is (s : Bool) (m k : Nat) : Ieee.signed s m k = (if s then -((m * 2 ^ k : Nat) : Int) else ((m * 2 ^ k : Nat) : Int)) := by
  unfold Ieee.signed
  rw [Nat.shiftLeft_eq]
theorem cmp_scale {a b : Int} {P : Int} (hP : 0 < P) : compare (a * P) (b * P) = compare a b := by
  have l : a * P < b * P ↔ a < b := ⟨fun h => Int.lt_of_mul_lt_mul_right h (Int.le_of_lt hP), fun h => Int.mul_lt_mul_of_pos_right h hP⟩
  have e : a * P = b * P ↔ a = b := ⟨fun h => Int.eq_of_mul_eq_mul_right (Int.ne_of_gt hP) h, fun h => by rw [h]⟩
  simp only [compare, compareOfLessAndEq, l, e]
theorem order_sv (y z : Nat) (hf : y % 9223372036854775808 < 9218868437227405312) (hg : z % 9223372036854775808 < 9218868437227405312) : Ieee.double.order y z = some (compare (sv y) (sv z)) := by
  unfold Ieee.Format.order
  rw [read_word y hf, read_word z hg]
  unfold Ieee.Datum.order
  dsimp only
  congr 1
  obtain ⟨i, hi⟩ : ∃ i, pl (y % 9223372036854775808) = i := ⟨_, rfl⟩
  obtain ⟨j, hj⟩ : ∃ j, pl (z % 9223372036854775808) = j := ⟨_, rfl⟩
  obtain ⟨b, hb⟩ : ∃ b : Nat, min i j = b := ⟨_, rfl⟩
  have e1 : (-1074 + (i : Int) - min (-1074 + (i : Int)) (-1074 + (j : Int))).toNat = i - b := by omega
  have e2 : (-1074 + (j : Int) - min (-1074 + (i : Int)) (-1074 + (j : Int))).toNat = j - b := by omega
  rw [hi, hj, e1, e2, signed_is, signed_is]
  have hP : (0 : Int) < 2 ^ b := Int.pow_pos (by decide)
  rw [← cmp_scale hP]
  unfold sv vl
  rw [hi, hj]
  have f : ∀ (d k : Nat), b ≤ k → ((d * 2 ^ (k - b) : Nat) : Int) * 2 ^ b = ((d * 2 ^ k : Nat) : Int) := fun d k hk => by
    rw [← pow_cast b, ← Int.natCast_mul, Nat.mul_assoc, ← Nat.pow_add, Nat.sub_add_cancel hk]
  have f1 := f (dg (y % 9223372036854775808)) i (by omega)
  have f2 := f (dg (z % 9223372036854775808)) j (by omega)
  congr 1
  · split
    · rw [Int.neg_mul, f1]
    · exact f1
  · split
    · rw [Int.neg_mul, f2]
    · exact f2
theorem order_lt (y z : Nat) (hy : y ≤ 18446744073709551615) (hz : z ≤ 18446744073709551615) (hf : fin (y : Int) = true) (hg : fin (z : Int) = true) :
    (FloatKind.f64.format.order y z == some .lt) = decide (sm (y : Int) < sm (z : Int)) ∧ (FloatKind.f64.format.order y z == some .gt) = decide (sm (z : Int) < sm (y : Int)) ∧ (FloatKind.f64.format.order y z == some .eq) = decide (sm (y : Int) = sm (z : Int)) := by
  unfold fin mag at hf hg
  simp at hf hg
  have h : FloatKind.f64.format.order y z = some (compare (sv y) (sv z)) := order_sv y z (by omega) (by omega)
  rw [h]
  have a := sv_lt hy hz
  have b := sv_lt hz hy
  simp only [compare, compareOfLessAndEq]
  by_cases c : sv y < sv z
  · have c2 := a.1 c
    rw [if_pos c]
    refine ⟨by simp; omega, by simp; omega, by simp; omega⟩
  · have c2 : ¬ sm (y : Int) < sm (z : Int) := fun h => c (a.2 h)
    rw [if_neg c]
    by_cases d : sv y = sv z
    · have d2 : ¬ sm (z : Int) < sm (y : Int) := fun h => by have := b.2 h; omega
      rw [if_pos d]
      refine ⟨by simp; omega, by simp; omega, by simp; omega⟩
    · have d2 : sm (z : Int) < sm (y : Int) := b.1 (by omega)
      rw [if_neg d]
      refine ⟨by simp; omega, by simp; omega, by simp; omega⟩
end Go.Bw
