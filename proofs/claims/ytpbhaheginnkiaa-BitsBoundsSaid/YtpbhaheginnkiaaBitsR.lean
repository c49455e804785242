/-
  Rounding, in plain numbers: what the program's cut and the reference's doubling and halving come to.
-/
import Derived.Test.YtpbhaheginnkiaaBitsA
import Derived.Lib.BitFns
namespace Go.Bw
open Go
set_option linter.unusedVariables false
set_option linter.unusedSectionVars false

/-- how many bits -/
def bl (man : Int) : Int := (Lib.bitLen man.toNat : Int)
/-- the place of the last bit -/
def rE (man exp : Int) : Int := max (exp + bl man - 53) (-1074)
/-- what stands above the cut, rounded; 'd' places are cut off -/
def rUp (man d : Int) (more : Bool) : Bool := decide (2 ^ d.toNat < 2 * (man % 2 ^ d.toNat)) || (decide (2 * (man % 2 ^ d.toNat) = 2 ^ d.toNat) && (more || decide (man / 2 ^ d.toNat % 2 = 1)))
def rW (man d : Int) (more : Bool) : Int := if d ≤ 0 then man * 2 ^ (-d).toNat else man / 2 ^ d.toNat + (if rUp man d more then 1 else 0)
def rnd (man exp : Int) (more : Bool) : Int := if man = 0 then 0 else min ((rE man exp + 1074) * 4503599627370496 + rW man (rE man exp - exp) more) inf

theorem aux_zero (f : Nat) : Lib.bitLenAux f 0 = 0 := by cases f <;> simp [Lib.bitLenAux]
theorem aux_spec : ∀ (f x : Nat), x < 2 ^ f → x < 2 ^ Lib.bitLenAux f x ∧ (x ≠ 0 → 1 ≤ Lib.bitLenAux f x ∧ 2 ^ (Lib.bitLenAux f x - 1) ≤ x)
  | 0, x, h => by
    have : x = 0 := by simpa using h
    subst this
    simp [Lib.bitLenAux]
  | f + 1, x, h => by
    by_cases h0 : x = 0
    · subst h0; simp [Lib.bitLenAux]
    · have ih := aux_spec f (x / 2) (by rw [Nat.pow_succ] at h; omega)
      have e : Lib.bitLenAux (f + 1) x = 1 + Lib.bitLenAux f (x / 2) := by rw [Lib.bitLenAux, if_neg h0]
      have hz : x / 2 = 0 → Lib.bitLenAux f (x / 2) = 0 := fun h => by rw [h]; exact aux_zero f
      rw [e]
      generalize Lib.bitLenAux f (x / 2) = b at ih hz
      refine ⟨?_, fun _ => ⟨by omega, ?_⟩⟩
      · rw [Nat.add_comm, Nat.pow_succ]; omega
      · rw [Nat.add_comm, Nat.add_sub_cancel]
        by_cases hx : x / 2 = 0
        · rw [hz hx]; omega
        · have := (ih.2 hx).2
          have h1 := (ih.2 hx).1
          have e3 : 2 ^ b = 2 ^ (b - 1) * 2 := by rw [← Nat.pow_succ]; congr 1; omega
          rw [e3]; omega
theorem bl_spec (n : Nat) (h : n < 18446744073709551616) : n < 2 ^ Lib.bitLen n ∧ (n ≠ 0 → 1 ≤ Lib.bitLen n ∧ 2 ^ (Lib.bitLen n - 1) ≤ n) := aux_spec 64 n h
theorem bl_le (n : Nat) (h : n < 18446744073709551616) : Lib.bitLen n ≤ 64 := Lib.bitLen_le n 64 (by decide) h

/-- the number of bits is told by two powers -/
theorem bl_uniq (n L : Nat) (h : n < 18446744073709551616) (a : n < 2 ^ L) (b : 2 ^ L ≤ 2 * n) : Lib.bitLen n = L := by
  have hp := Nat.two_pow_pos L
  have s := bl_spec n h
  have s2 := s.2 (by omega)
  generalize Lib.bitLen n = B at s s2
  rcases Nat.lt_trichotomy B L with c | c | c
  · exfalso
    have := Nat.pow_le_pow_right (show 0 < 2 by decide) (show B + 1 ≤ L from c)
    rw [Nat.pow_succ] at this
    omega
  · exact c
  · exfalso
    have := Nat.pow_le_pow_right (show 0 < 2 by decide) (show L ≤ B - 1 by omega)
    omega

theorem bl_shift (n k : Nat) (h0 : n ≠ 0) (h : n * 2 ^ k < 18446744073709551616) : Lib.bitLen (n * 2 ^ k) = Lib.bitLen n + k := by
  have hp := Nat.two_pow_pos k
  have hn : n < 18446744073709551616 := Nat.lt_of_le_of_lt (Nat.le_mul_of_pos_right n hp) h
  have s := bl_spec n hn
  have s2 := s.2 h0
  refine bl_uniq _ _ h ?_ ?_
  · rw [Nat.pow_add]; exact Nat.mul_lt_mul_of_pos_right s.1 hp
  · rw [Nat.pow_add, ← Nat.mul_assoc]
    refine Nat.mul_le_mul_right _ ?_
    have e3 : 2 ^ Lib.bitLen n = 2 ^ (Lib.bitLen n - 1) * 2 := by rw [← Nat.pow_succ]; congr 1; omega
    rw [e3]; omega

/-! ### the two powers and a cut number -/
theorem div_lt_53 (M j : Nat) (hM : M < 18446744073709551616) : M / 2 ^ j < 9007199254740992 ↔ Lib.bitLen M ≤ 53 + j := by
  have hp := Nat.two_pow_pos j
  rw [Nat.div_lt_iff_lt_mul hp, show (9007199254740992 : Nat) = 2 ^ 53 from rfl, ← Nat.pow_add]
  have s := bl_spec M hM
  constructor
  · intro h
    by_cases h0 : M = 0
    · subst h0; have : Lib.bitLen 0 = 0 := by decide
      omega
    · have s2 := s.2 h0
      rcases Nat.lt_or_ge (53 + j) (Lib.bitLen M) with c | c
      · exfalso
        have := Nat.pow_le_pow_right (show 0 < 2 by decide) (show 53 + j ≤ Lib.bitLen M - 1 by omega)
        omega
      · exact c
  · intro h
    exact Nat.lt_of_lt_of_le s.1 (Nat.pow_le_pow_right (by decide) h)
theorem div_ge_52 (M j : Nat) (hM : M < 18446744073709551616) : 4503599627370496 ≤ M / 2 ^ j ↔ 53 + j ≤ Lib.bitLen M := by
  have hp := Nat.two_pow_pos j
  rw [Nat.le_div_iff_mul_le hp, show (4503599627370496 : Nat) = 2 ^ 52 from rfl, ← Nat.pow_add]
  have s := bl_spec M hM
  constructor
  · intro h
    rcases Nat.lt_or_ge (Lib.bitLen M) (53 + j) with c | c
    · exfalso
      have := Nat.pow_le_pow_right (show 0 < 2 by decide) (show Lib.bitLen M ≤ 52 + j by omega)
      omega
    · exact c
  · intro h
    have h0 : M ≠ 0 := by
      intro e; subst e; have : Lib.bitLen 0 = 0 := by decide
      omega
    have s2 := s.2 h0
    exact Nat.le_trans (Nat.pow_le_pow_right (by decide) (by omega)) s2.2

/-! ### what a number is when it is halved j times: the last bit that went, and whether there was more -/
def hHalf (M j : Nat) : Bool := match j with
  | 0 => false
  | i + 1 => decide (M / 2 ^ i % 2 = 1)
def hRest (M j : Nat) (more : Bool) : Bool := match j with
  | 0 => more
  | i + 1 => more || decide (M % 2 ^ i ≠ 0)
theorem hRest_succ (M j : Nat) (more : Bool) : hRest M (j + 1) more = (hRest M j more || hHalf M j) := by
  cases j with
  | zero => simp [hRest, hHalf, Nat.mod_one]
  | succ i =>
    simp only [hRest, hHalf]
    rw [Bool.or_assoc]
    congr 1
    rw [Nat.pow_succ, Nat.mod_mul]
    have hp := Nat.two_pow_pos i
    have hm := Nat.mod_lt M hp
    rcases Nat.mod_two_eq_zero_or_one (M / 2 ^ i) with h | h
    · rw [h]; simp
    · rw [h]; simp
theorem rUp_nat (M j : Nat) (more : Bool) : rUp (M : Int) (j : Int) more = (decide (2 ^ j < 2 * (M % 2 ^ j)) || (decide (2 * (M % 2 ^ j) = 2 ^ j) && (more || decide (M / 2 ^ j % 2 = 1)))) := by
  have e1 : ((2 : Int) ^ ((j : Int).toNat) < 2 * ((M : Int) % 2 ^ ((j : Int).toNat))) ↔ (2 ^ j < 2 * (M % 2 ^ j)) := by rw [Int.toNat_natCast]; exact_mod_cast Iff.rfl
  have e2 : (2 * ((M : Int) % 2 ^ ((j : Int).toNat)) = (2 : Int) ^ ((j : Int).toNat)) ↔ (2 * (M % 2 ^ j) = 2 ^ j) := by rw [Int.toNat_natCast]; exact_mod_cast Iff.rfl
  have e3 : ((M : Int) / 2 ^ ((j : Int).toNat) % 2 = 1) ↔ (M / 2 ^ j % 2 = 1) := by rw [Int.toNat_natCast]; exact_mod_cast Iff.rfl
  unfold rUp
  simp only [e1, e2, e3]
theorem half_up (M j : Nat) (more : Bool) : (hHalf M j && (hRest M j more || decide (M / 2 ^ j % 2 = 1))) = rUp (M : Int) (j : Int) more := by
  rw [rUp_nat]
  cases j with
  | zero => simp [hHalf, Nat.mod_one]
  | succ i =>
    have hp := Nat.two_pow_pos i
    have hm := Nat.mod_lt M hp
    simp only [hHalf, hRest]
    have e4 : M % 2 ^ (i + 1) = M % 2 ^ i + 2 ^ i * (M / 2 ^ i % 2) := by rw [Nat.pow_succ, Nat.mod_mul]
    have e5 : 2 ^ (i + 1) = 2 * 2 ^ i := by rw [Nat.pow_succ]; omega
    rw [e4, e5]
    generalize M / (2 * 2 ^ i) % 2 = o
    generalize M % 2 ^ i = r at *
    generalize 2 ^ i = P at *
    rcases Nat.mod_two_eq_zero_or_one (M / P) with h | h
    · rw [h]
      rw [Bool.eq_iff_iff]; simp; omega
    · rw [h]
      rw [Bool.eq_iff_iff]
      cases more <;> simp <;> omega

/-! ### the end of the halving -/
theorem rE_of (man exp : Int) (k j M : Nat) (X : Int) (hman : 0 < man) (hM : M < 18446744073709551616) (hk : man * 2 ^ k = (M : Int)) (hX : exp = X + k)
    (a : M / 2 ^ j < 9007199254740992) (b : -1074 ≤ X + j) (c : j = 0 → 4503599627370496 ≤ M ∨ X ≤ -1074) (d : ∀ i, j = i + 1 → 9007199254740992 ≤ M / 2 ^ i ∨ X + i < -1074) : rE man exp = X + j := by
  obtain ⟨m, rfl⟩ := Int.eq_ofNat_of_zero_le (Int.le_of_lt hman)
  have hk' : m * 2 ^ k = M := by exact_mod_cast hk
  have hm0 : m ≠ 0 := by omega
  have hb : Lib.bitLen M = Lib.bitLen m + k := by rw [← hk']; exact bl_shift m k hm0 (by omega)
  have a' := (div_lt_53 M j hM).1 a
  unfold rE bl
  rw [Int.toNat_natCast]
  cases j with
  | zero =>
    rcases c rfl with h | h
    · have := (div_ge_52 M 0 hM).1 (by simpa using h)
      omega
    · omega
  | succ i =>
    rcases d i rfl with h | h
    · have : ¬ (M / 2 ^ i < 9007199254740992) := by omega
      rw [div_lt_53 M i hM] at this
      omega
    · omega

theorem rE_52 (man exp : Int) (k j M : Nat) (X : Int) (hman : 0 < man) (hM : M < 18446744073709551616) (hk : man * 2 ^ k = (M : Int)) (hX : exp = X + k)
    (hE : rE man exp = X + j) (h : M / 2 ^ j < 4503599627370496) : X + j = -1074 := by
  obtain ⟨m, rfl⟩ := Int.eq_ofNat_of_zero_le (Int.le_of_lt hman)
  have hk' : m * 2 ^ k = M := by exact_mod_cast hk
  have hm0 : m ≠ 0 := by omega
  have hb : Lib.bitLen M = Lib.bitLen m + k := by rw [← hk']; exact bl_shift m k hm0 (by omega)
  have a' : ¬ (4503599627370496 ≤ M / 2 ^ j) := by omega
  rw [div_ge_52 M j hM] at a'
  unfold rE bl at hE
  rw [Int.toNat_natCast] at hE
  omega

/-- the reference's last steps -/
def putM (man exp : Int) : Int := if man < 4503599627370496 then man else if 971 < exp then inf else (exp + 1075) * 4503599627370496 + man - 4503599627370496
theorem putM_eq (q E : Int) (h0 : 0 ≤ q) (h1 : q < 9007199254740992) (hE : -1074 ≤ E) (h2 : q < 4503599627370496 → E = -1074) : putM q E = min ((E + 1074) * 4503599627370496 + q) inf := by
  unfold putM inf
  by_cases c : q < 4503599627370496
  · rw [if_pos c, h2 c]; omega
  · rw [if_neg c]
    by_cases e : 971 < E
    · rw [if_pos e]; omega
    · rw [if_neg e]; omega
theorem putM_top (E : Int) (hE : -1074 ≤ E) : putM 4503599627370496 (E + 1) = min ((E + 1074) * 4503599627370496 + 9007199254740992) inf := by
  unfold putM inf
  rw [if_neg (by omega)]
  by_cases e : 971 < E + 1
  · rw [if_pos e]; omega
  · rw [if_neg e]; omega

/-- what is rounded, out of where the reference stands -/
theorem rW_of (man exp : Int) (k j M : Nat) (X : Int) (more : Bool) (hk : man * 2 ^ k = (M : Int)) (hX : exp = X + k) (hE : rE man exp = X + j) (hkj : k = 0 ∨ j = 0) :
    rW man (rE man exp - exp) more = ((M / 2 ^ j : Nat) : Int) + if rUp (M : Int) (j : Int) more then 1 else 0 := by
  rw [hE, hX, show X + (j : Int) - (X + k) = (j : Int) - k by omega]
  unfold rW
  by_cases hj : j = 0
  · subst hj
    rw [if_pos (by omega), show (-(((0 : Nat) : Int) - (k : Int))).toNat = k by omega, hk]
    have : rUp (M : Int) ((0 : Nat) : Int) more = false := by rw [rUp_nat]; simp [Nat.mod_one]
    rw [this]; simp
  · have hk0 : k = 0 := by omega
    subst hk0
    rw [if_neg (by omega)]
    have hm : man = (M : Int) := by simpa using hk
    rw [hm]
    simp

/-! ### the program's cut -/
def signW (neg : Bool) (m : Int) : Int := if neg then 9223372036854775808 + m else m
def joinM (whole exp : Int) : Int := min ((exp + 1074) * 4503599627370496 + whole) inf

theorem join_sum {whole exp : Int} (h0 : 0 ≤ whole) (h1 : whole ≤ 9007199254740992) (e0 : -1074 ≤ exp) (e1 : exp ≤ 2900) :
    0 ≤ (exp + 1074) * 4503599627370496 + whole ∧ (exp + 1074) * 4503599627370496 + whole ≤ 18446744073709551615 := by omega

theorem pow_pos_int (n : Nat) : (0 : Int) < 2 ^ n := Int.pow_pos (by decide)
theorem rW_nonneg (man d : Int) (more : Bool) (h : 0 ≤ man) : 0 ≤ rW man d more := by
  unfold rW
  split
  · exact Int.mul_nonneg h (Int.le_of_lt (pow_pos_int _))
  · have := Int.ediv_nonneg h (Int.le_of_lt (pow_pos_int d.toNat))
    split <;> omega
theorem rnd_inf (man exp : Int) (more : Bool) (h0 : 0 < man) (h : 973 ≤ rE man exp) : rnd man exp more = inf := by
  have := rW_nonneg man (rE man exp - exp) more (by omega)
  unfold rnd
  rw [if_neg (by omega)]
  unfold inf at *
  omega

theorem bl_bd (man : Int) (h0 : 0 < man) (h1 : man ≤ 18446744073709551615) : 1 ≤ bl man ∧ bl man ≤ 64 := by
  unfold bl
  have a := bl_le man.toNat (by omega)
  have b := (bl_spec man.toNat (by omega)).2 (by omega)
  omega

theorem up_lt (man : Int) (d : Nat) (h0 : 0 < man) (h1 : man ≤ 18446744073709551615) (h : bl man + d ≤ 53) : 0 ≤ man * 2 ^ d ∧ man * 2 ^ d ≤ 9007199254740991 := by
  obtain ⟨m, rfl⟩ := Int.eq_ofNat_of_zero_le (Int.le_of_lt h0)
  unfold bl at h
  rw [Int.toNat_natCast] at h
  have s := (bl_spec m (by omega)).1
  have hp := Nat.two_pow_pos d
  have : m * 2 ^ d < 2 ^ 53 := by
    refine Nat.lt_of_lt_of_le (Nat.mul_lt_mul_of_pos_right s hp) ?_
    rw [← Nat.pow_add]
    exact Nat.pow_le_pow_right (by decide) (by omega)
  have e : ((m : Int) * 2 ^ d) = ((m * 2 ^ d : Nat) : Int) := by simp
  rw [e]
  omega
theorem down_lt (man : Int) (d : Nat) (h0 : 0 < man) (h1 : man ≤ 18446744073709551615) (h : bl man ≤ 53 + d) : 0 ≤ man / 2 ^ d ∧ man / 2 ^ d ≤ 9007199254740991 := by
  obtain ⟨m, rfl⟩ := Int.eq_ofNat_of_zero_le (Int.le_of_lt h0)
  unfold bl at h
  rw [Int.toNat_natCast] at h
  have s := (div_lt_53 m d (by omega)).2 (by omega)
  have e : ((m : Int) / 2 ^ d) = ((m / 2 ^ d : Nat) : Int) := by simp
  rw [e]
  generalize m / 2 ^ d = q at s
  omega

section
variable (man exp f L E d : Int) (more : Bool) (h0 : 0 < man) (h1 : man ≤ 18446744073709551615) (hf : min (max exp (-2048)) 2048 = f) (hL : bl man = L) (hE : max (f + L - 52 - 1) (-1074) = E) (hd : E - f = d)
include h0 h1 hf hL hE hd

theorem cut_rE (h : exp ≤ 2048) (h' : -2048 ≤ exp) : rE man exp = E ∧ rE man exp - exp = d := by
  unfold rE; omega

theorem cut_up (d0 : d ≤ 0) : 0 ≤ man * 2 ^ (-d).toNat ∧ man * 2 ^ (-d).toNat ≤ 9007199254740991 ∧ joinM (man * 2 ^ (-d).toNat) E = rnd man exp more := by
  have b := up_lt man (-d).toNat h0 h1 (by omega)
  refine ⟨b.1, b.2, ?_⟩
  have hb := bl_bd man h0 h1
  by_cases c : exp ≤ 2048
  · have r := cut_rE man exp f L E d h0 h1 hf hL hE hd c (by omega)
    unfold rnd joinM
    rw [if_neg (by omega), r.1]
    rw [show rW man (E - exp) more = man * 2 ^ (-d).toNat by rw [← r.1, r.2]; unfold rW; rw [if_pos d0]]
  · rw [rnd_inf man exp more h0 (by unfold rE; omega)]
    unfold joinM inf
    omega

theorem cut_far (d0 : 64 < d) : joinM 0 E = rnd man exp more := by
  have hb := bl_bd man h0 h1
  have hE2 : E = -1074 := by omega
  have hr : rE man exp = -1074 := by unfold rE; omega
  have hd2 : 64 < rE man exp - exp := by omega
  unfold rnd joinM
  rw [if_neg (by omega), hr, hE2]
  rw [hr] at hd2
  generalize (-1074 - exp) = g at hd2
  have hz : rW man g more = 0 := by
    unfold rW
    rw [if_neg (by omega)]
    have hp : (2 : Int) ^ 65 ≤ 2 ^ g.toNat := by
      have := Nat.pow_le_pow_right (show 0 < 2 by decide) (show 65 ≤ g.toNat by omega)
      exact_mod_cast this
    have hlt : man < 2 ^ g.toNat := by
      have : (18446744073709551615 : Int) < 2 ^ 65 := by decide
      omega
    have h2 : 2 * man < 2 ^ g.toNat := by
      have : (2 * 18446744073709551615 : Int) < 2 ^ 65 := by decide
      omega
    have q : man / 2 ^ g.toNat = 0 := Int.ediv_eq_zero_of_lt (by omega) hlt
    have r : man % 2 ^ g.toNat = man := Int.emod_eq_of_lt (by omega) hlt
    have u : rUp man g more = false := by
      unfold rUp
      rw [r]
      rw [decide_eq_false (by omega), decide_eq_false (by omega)]
      rfl
    rw [q, u]; rfl
  rw [hz]

theorem cut_rest (d0 : 0 < d) (d1 : d ≤ 64) : man * 2 ^ (64 - d).toNat % 18446744073709551616 = (man % 2 ^ d.toNat) * 2 ^ (64 - d).toNat := by
  have e : (18446744073709551616 : Int) = 2 ^ d.toNat * 2 ^ (64 - d).toNat := by
    rw [← Int.pow_add, show d.toNat + (64 - d).toNat = 64 by omega]; decide
  rw [e, Int.mul_comm man, Int.mul_comm (2 ^ d.toNat), Int.mul_emod_mul_of_pos _ _ (pow_pos_int _), Int.mul_comm]

theorem cut_test (d0 : 0 < d) (d1 : d ≤ 64) :
    (decide (9223372036854775808 < man * 2 ^ (64 - d).toNat % 18446744073709551616) || (decide (man * 2 ^ (64 - d).toNat % 18446744073709551616 = 9223372036854775808) && (more || decide (man / 2 ^ d.toNat % 2 = 1)))) = rUp man d more := by
  rw [cut_rest man exp f L E d h0 h1 hf hL hE hd d0 d1]
  have e : (9223372036854775808 : Int) * 2 = 2 ^ d.toNat * 2 ^ (64 - d).toNat := by
    rw [← Int.pow_add, show d.toNat + (64 - d).toNat = 64 by omega]; decide
  have hp := pow_pos_int (64 - d).toNat
  unfold rUp
  generalize man % 2 ^ d.toNat = r
  have a1 : (9223372036854775808 < r * 2 ^ (64 - d).toNat) ↔ (2 ^ d.toNat < 2 * r) := by
    constructor
    · intro h
      refine Int.lt_of_mul_lt_mul_right (a := 2 ^ (64 - d).toNat) ?_ (Int.le_of_lt hp)
      rw [← e, Int.mul_assoc]; omega
    · intro h
      have := Int.mul_lt_mul_of_pos_right h hp
      rw [← e, Int.mul_assoc] at this; omega
  have a2 : (r * 2 ^ (64 - d).toNat = 9223372036854775808) ↔ (2 * r = 2 ^ d.toNat) := by
    constructor
    · intro h
      refine Int.eq_of_mul_eq_mul_right (Int.ne_of_gt hp) ?_
      rw [← e, Int.mul_assoc]; omega
    · intro h
      have := congrArg (fun z : Int => z * 2 ^ (64 - d).toNat) h
      rw [← e, Int.mul_assoc] at this; omega
  simp only [a1, a2]

theorem cut_mid (d0 : 0 < d) (d1 : d ≤ 64) : 0 ≤ man / 2 ^ d.toNat ∧ man / 2 ^ d.toNat ≤ 9007199254740991 ∧ joinM (man / 2 ^ d.toNat + if rUp man d more then 1 else 0) E = rnd man exp more := by
  have hb := bl_bd man h0 h1
  have b := down_lt man d.toNat h0 h1 (by omega)
  refine ⟨b.1, b.2, ?_⟩
  by_cases c : exp ≤ 2048
  · have r := cut_rE man exp f L E d h0 h1 hf hL hE hd c (by omega)
    unfold rnd joinM
    rw [if_neg (show ¬ man = 0 by omega), r.1]
    rw [show rW man (E - exp) more = man / 2 ^ d.toNat + if rUp man d more then 1 else 0 by rw [← r.1, r.2]; unfold rW; rw [if_neg (by omega)]]
  · rw [rnd_inf man exp more h0 (by unfold rE; omega)]
    unfold joinM inf
    split <;> omega
end

/-! ### the cut as functions -/
def sF (exp : Int) : Int := min (max exp (-2048)) 2048
def sE (man exp : Int) : Int := if man = 0 then -1074 else max (sF exp + bl man - 52 - 1) (-1074)
def sD (man exp : Int) : Int := sE man exp - sF exp
def sW (man exp : Int) : Int := if man = 0 then 0 else if sD man exp ≤ 0 then man * 2 ^ (-sD man exp).toNat else if sD man exp ≤ 64 then man / 2 ^ (sD man exp).toNat else 0
def sR (man exp : Int) : Int := if man = 0 then 0 else if sD man exp ≤ 0 then 0 else if sD man exp ≤ 64 then man * 2 ^ (64 - sD man exp).toNat % 18446744073709551616 else 1
def sUp (W R : Int) (more : Bool) : Bool := decide (9223372036854775808 < R) || (decide (R = 9223372036854775808) && (more || decide (W % 2 = 1)))

theorem sE_bd (man exp : Int) (h0 : 0 ≤ man) (h1 : man ≤ 18446744073709551615) : -1074 ≤ sE man exp ∧ sE man exp ≤ 2900 := by
  unfold sE sF
  split
  · omega
  · have := bl_bd man (by omega) h1
    omega
theorem sW_bd (man exp : Int) (h0 : 0 ≤ man) (h1 : man ≤ 18446744073709551615) : 0 ≤ sW man exp ∧ sW man exp ≤ 9007199254740991 := by
  by_cases hm : man = 0
  · subst hm; simp [sW]
  · unfold sW
    rw [if_neg hm]
    split
    · have h := cut_up man exp (sF exp) (bl man) (sE man exp) (sD man exp) false (by omega) h1 rfl rfl (by unfold sE; rw [if_neg hm]) rfl (by assumption)
      exact ⟨h.1, h.2.1⟩
    · split
      · have h := cut_mid man exp (sF exp) (bl man) (sE man exp) (sD man exp) false (by omega) h1 rfl rfl (by unfold sE; rw [if_neg hm]) rfl (by omega) (by assumption)
        exact ⟨h.1, h.2.1⟩
      · omega
theorem sR_bd (man exp : Int) : 0 ≤ sR man exp ∧ sR man exp ≤ 18446744073709551615 := by
  unfold sR
  repeat' split
  all_goals omega
theorem cut_rnd (man exp : Int) (more : Bool) (h0 : 0 ≤ man) (h1 : man ≤ 18446744073709551615) :
    joinM (sW man exp + if sUp (sW man exp) (sR man exp) more then 1 else 0) (sE man exp) = rnd man exp more := by
  by_cases hm : man = 0
  · subst hm
    simp [sW, sR, sUp, sE, joinM, rnd, inf]
    decide
  · have hE : max (sF exp + bl man - 52 - 1) (-1074) = sE man exp := by unfold sE; rw [if_neg hm]
    by_cases c : sD man exp ≤ 0
    · have h := cut_up man exp (sF exp) (bl man) (sE man exp) (sD man exp) more (by omega) h1 rfl rfl hE rfl c
      have e : sR man exp = 0 := by unfold sR; rw [if_neg hm, if_pos c]
      have e2 : sW man exp = man * 2 ^ (-sD man exp).toNat := by unfold sW; rw [if_neg hm, if_pos c]
      rw [e, e2, show sUp (man * 2 ^ (-sD man exp).toNat) 0 more = false by unfold sUp; simp]
      simpa using h.2.2
    · by_cases c2 : sD man exp ≤ 64
      · have h := cut_mid man exp (sF exp) (bl man) (sE man exp) (sD man exp) more (by omega) h1 rfl rfl hE rfl (by omega) c2
        have t := cut_test man exp (sF exp) (bl man) (sE man exp) (sD man exp) more (by omega) h1 rfl rfl hE rfl (by omega) c2
        have e : sR man exp = man * 2 ^ (64 - sD man exp).toNat % 18446744073709551616 := by unfold sR; rw [if_neg hm, if_neg c, if_pos c2]
        have e2 : sW man exp = man / 2 ^ (sD man exp).toNat := by unfold sW; rw [if_neg hm, if_neg c, if_pos c2]
        rw [e, e2]
        unfold sUp
        rw [t]
        exact h.2.2
      · have h := cut_far man exp (sF exp) (bl man) (sE man exp) (sD man exp) more (by omega) h1 rfl rfl hE rfl (by omega)
        have e : sR man exp = 1 := by unfold sR; rw [if_neg hm, if_neg c, if_neg c2]
        have e2 : sW man exp = 0 := by unfold sW; rw [if_neg hm, if_neg c, if_neg c2]
        rw [e, e2, show sUp 0 1 more = false by unfold sUp; simp]
        simpa using h
theorem rnd_bd (man exp : Int) (more : Bool) (h0 : 0 ≤ man) (h1 : man ≤ 18446744073709551615) : 0 ≤ rnd man exp more ∧ rnd man exp more ≤ inf := by
  have a := sW_bd man exp h0 h1
  have b := sE_bd man exp h0 h1
  rw [← cut_rnd man exp more h0 h1]
  unfold joinM inf
  split <;> omega
end Go.Bw
