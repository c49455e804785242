/-
  Layer 6, plain mathematics: quotients and roots by the machine: how near they are.
-/
import Derived.Test.YtmfikppnkjhmjaaRtC
namespace Go.Bw
open Go Go.Rt
set_option linter.unusedVariables false
set_option linter.unusedSimpArgs false

def IsR (N s : Nat) : Prop := s * s ≤ N ∧ N < (s + 1) * (s + 1)
theorem rootFrom_is (n : Nat) : ∀ (todo root : Nat), root * root ≤ n → n < (root + 2 ^ todo) * (root + 2 ^ todo) → IsR n (Ieee.Datum.rootFrom n todo root)
  | 0, root, h1, h2 => by
    unfold Ieee.Datum.rootFrom
    exact ⟨h1, by simpa using h2⟩
  | todo + 1, root, h1, h2 => by
    unfold Ieee.Datum.rootFrom
    rw [Nat.one_shiftLeft]
    simp only
    split
    · rename_i h
      refine rootFrom_is n todo _ h ?_
      rw [Nat.add_assoc, show 2 ^ todo + 2 ^ todo = 2 ^ (todo + 1) by rw [Nat.pow_succ]; omega]
      exact h2
    · rename_i h
      exact rootFrom_is n todo _ h1 (by omega)
/-- the whole root -/
def isq (n : Nat) : Nat := Ieee.Datum.rootFrom n (n.log2 / 2 + 1) 0
theorem isq_is (n : Nat) : IsR n (isq n) := by
  refine rootFrom_is n _ 0 (by omega) ?_
  rw [Nat.zero_add, ← Nat.pow_add]
  exact Nat.lt_of_lt_of_le Nat.lt_log2_self (Nat.pow_le_pow_right (by omega) (by omega))
theorem isq_ge {n k : Nat} (h : k * k ≤ n) : k ≤ isq n := by
  rcases Nat.lt_or_ge (isq n) k with g | g
  · have := Nat.mul_le_mul (show isq n + 1 ≤ k from g) (show isq n + 1 ≤ k from g)
    have := (isq_is n).2
    omega
  · exact g
theorem isq_53 {n : Nat} (h : 2 ^ 106 ≤ n) : 9007199254740992 ≤ isq n := isq_ge (by omega)

theorem nat_cast_pow2 (k : Nat) (e : Int) : ((2 ^ k : Nat) : Rat) * 2 ^ e = 2 ^ ((k : Int) + e) := by rw [← two_nat, ← two_add]
theorem quot_any (s t : Bool) (m n : Nat) (i j : Int) (hn : n ≠ 0) : (Ieee.Datum.number s m i).quotient 54 (.number t n j) = some (.number (s ^^ t) (2 * (m <<< (54 + n.log2 - m.log2) / n) + (m <<< (54 + n.log2 - m.log2) % n != 0).toNat) (i - j - ((54 + n.log2 - m.log2 : Nat) : Int) - 1)) := by
  unfold Ieee.Datum.quotient
  simp only [if_neg hn]
/-- the digits of a quotient: a half more, where anything is left -/
theorem quot_near {m n k : Nat} {i : Int} (hm : m ≠ 0) (hn : n ≠ 0) (hk : 9007199254740992 * n ≤ m * 2 ^ k) :
    ((2 * (m * 2 ^ k / n) + (m * 2 ^ k % n != 0).toNat : Nat) : Rat) * 2 ^ (i - k - 1) * (n : Rat) ≤ (m : Rat) * 2 ^ i * (1 + 1/18014398509481984) ∧ (m : Rat) * 2 ^ i * (1 - 1/18014398509481984) ≤ ((2 * (m * 2 ^ k / n) + (m * 2 ^ k % n != 0).toNat : Nat) : Rat) * 2 ^ (i - k - 1) * (n : Rat) := by
  obtain ⟨q, hq⟩ : ∃ q, m * 2 ^ k / n = q := ⟨_, rfl⟩
  obtain ⟨t, ht⟩ : ∃ t, m * 2 ^ k % n = t := ⟨_, rfl⟩
  have hdm := Nat.div_add_mod (m * 2 ^ k) n
  have htn := Nat.mod_lt (m * 2 ^ k) (show 0 < n by omega)
  rw [hq, ht] at hdm
  rw [ht] at htn
  rw [hq, ht]
  obtain ⟨N, hN⟩ : ∃ N, m * 2 ^ k = N := ⟨_, rfl⟩
  rw [hN] at hdm hk
  have e1 : (m : Rat) * 2 ^ i = (N : Rat) * 2 * 2 ^ (i - k - 1) := by
    rw [← hN, Rat.natCast_mul, ← two_nat]
    have h2 : (2 : Rat) ^ i = 2 ^ (k : Int) * (2 * 2 ^ (i - k - 1)) := by
      have a := two_add 1 (i - k - 1)
      have b : (2 : Rat) ^ (1 : Int) = 2 := by decide
      rw [b] at a
      rw [← a, ← two_add]
      congr 1
      omega
    rw [h2]
    grind
  rw [e1]
  have hp := two_pos (i - k - 1)
  generalize (2 : Rat) ^ (i - k - 1) = P at *
  have hkR : (9007199254740992 : Rat) * (n : Rat) ≤ (N : Rat) := by exact_mod_cast hk
  have hdR : (n : Rat) * (q : Rat) + (t : Rat) = (N : Rat) := by exact_mod_cast hdm
  have htR : (t : Rat) ≤ (n : Rat) := by exact_mod_cast (Nat.le_of_lt htn)
  have ht0 : (0 : Rat) ≤ (t : Rat) := by exact_mod_cast Nat.zero_le t
  have main : ((2 * q + (t != 0).toNat : Nat) : Rat) * (n : Rat) ≤ (N : Rat) * 2 * (1 + 1/18014398509481984) ∧ (N : Rat) * 2 * (1 - 1/18014398509481984) ≤ ((2 * q + (t != 0).toNat : Nat) : Rat) * (n : Rat) := by
    by_cases h0 : t = 0
    · subst h0
      have e : ((2 * q + ((0 : Nat) != 0).toNat : Nat) : Rat) = 2 * (q : Rat) := by simp [Rat.natCast_mul]
      rw [e]
      have z : ((0 : Nat) : Rat) = 0 := by decide
      rw [z] at hdR
      constructor <;> grind
    · have hb : (t != 0) = true := bne_iff_ne.2 h0
      have e : ((2 * q + (t != 0).toNat : Nat) : Rat) = 2 * (q : Rat) + 1 := by rw [hb]; simp [Rat.natCast_add, Rat.natCast_mul]
      rw [e]
      constructor <;> grind
  obtain ⟨m1, m2⟩ := main
  have k1 := Rat.mul_le_mul_of_nonneg_right m1 (Rat.le_of_lt hp)
  have k2 := Rat.mul_le_mul_of_nonneg_right m2 (Rat.le_of_lt hp)
  constructor <;> grind
theorem div_val {y z : Nat} (hy : finN y) (hz : finN z) (hy0 : dg (y % 9223372036854775808) ≠ 0) (hz0 : dg (z % 9223372036854775808) ≠ 0) (hv : fvm y * 2 < 2 ^ (1023 : Int) * fvm z) :
    ∃ r, Ieee.double.div y z = some r ∧ finN r ∧ (y / 9223372036854775808 % 2 = z / 9223372036854775808 % 2 → r < 9223372036854775808) ∧ fvm r * fvm z ≤ fvm y * (1 + 1/4503599627370496) + 2 ^ (-1075 : Int) * fvm z ∧ fvm y * (1 - 1/4503599627370496) - 2 ^ (-1075 : Int) * fvm z ≤ fvm r * fvm z := by
  have hq : Ieee.double.div y z = ((Ieee.double.read y).quotient 54 (Ieee.double.read z)).map Ieee.double.write := rfl
  have sgn : y / 9223372036854775808 % 2 = z / 9223372036854775808 % 2 → ((y / 9223372036854775808 % 2 == 1) ^^ (z / 9223372036854775808 % 2 == 1)) = false := fun e => by rw [e, Bool.xor_self]
  rw [read_word y hy, read_word z hz] at hq
  have fy : fvm y = (dg (y % 9223372036854775808) : Rat) * 2 ^ ((-1074 : Int) + (pl (y % 9223372036854775808) : Nat)) := rfl
  have fz : fvm z = (dg (z % 9223372036854775808) : Rat) * 2 ^ ((-1074 : Int) + (pl (z % 9223372036854775808) : Nat)) := rfl
  generalize (y / 9223372036854775808 % 2 == 1) = sy at *
  generalize (z / 9223372036854775808 % 2 == 1) = sz at *
  generalize dg (y % 9223372036854775808) = m at *
  generalize dg (z % 9223372036854775808) = n at *
  generalize (-1074 : Int) + (pl (y % 9223372036854775808) : Nat) = i at *
  generalize (-1074 : Int) + (pl (z % 9223372036854775808) : Nat) = j at *
  rw [quot_any sy sz m n i j hz0] at hq
  obtain ⟨k, hk⟩ : ∃ k, 54 + n.log2 - m.log2 = k := ⟨_, rfl⟩
  rw [hk, Nat.shiftLeft_eq] at hq
  simp only [Option.map_some] at hq
  have h' : Ieee.double.div y z = some (Ieee.double.nearest (sy ^^ sz) (2 * (m * 2 ^ k / n) + (m * 2 ^ k % n != 0).toNat) (i - j - (k : Int) - 1)) := hq
  have enough : 9007199254740992 * n ≤ m * 2 ^ k := by
    have hbit : 2 ^ m.log2 ≤ m := Nat.log2_self_le hy0
    have hbn : n < 2 ^ (n.log2 + 1) := Nat.lt_log2_self
    have a1 : 2 ^ (54 + n.log2) ≤ m * 2 ^ k := by
      refine Nat.le_trans (Nat.pow_le_pow_right (by omega) (show 54 + n.log2 ≤ m.log2 + k by omega)) ?_
      rw [Nat.pow_add]
      exact Nat.mul_le_mul_right _ hbit
    have a2 : 9007199254740992 * n ≤ 2 ^ (54 + n.log2) := by
      rw [show 54 + n.log2 = 53 + (n.log2 + 1) by omega, Nat.pow_add]
      exact Nat.mul_le_mul_left _ (Nat.le_of_lt hbn)
    exact Nat.le_trans a2 a1
  have qn := quot_near (i := i) hy0 hz0 enough
  rw [fy, fz] at hv ⊢
  have e1 : (2 : Rat) ^ (i - j - (k : Int) - 1) * 2 ^ j = 2 ^ (i - (k : Int) - 1) := by rw [← two_add]; congr 1; omega
  have hpj := two_pos j
  have hpn : (0 : Rat) < (n : Rat) := by exact_mod_cast (Nat.pos_of_ne_zero hz0)
  have hz9' : (0 : Rat) < (n : Rat) * 2 ^ j := Rat.mul_pos hpn hpj
  have hz9 := Rat.le_of_lt hz9'
  have e2 : ((2 * (m * 2 ^ k / n) + (m * 2 ^ k % n != 0).toNat : Nat) : Rat) * 2 ^ (i - j - (k : Int) - 1) * ((n : Rat) * 2 ^ j) = ((2 * (m * 2 ^ k / n) + (m * 2 ^ k % n != 0).toNat : Nat) : Rat) * 2 ^ (i - (k : Int) - 1) * (n : Rat) := by
    rw [← e1]; grind
  have hF : (0 : Rat) ≤ (m : Rat) * 2 ^ i := Rat.mul_nonneg (by exact_mod_cast Nat.zero_le m) (Rat.le_of_lt (two_pos i))
  have near := near_all (sy ^^ sz) (2 * (m * 2 ^ k / n) + (m * 2 ^ k % n != 0).toNat) (i - j - (k : Int) - 1) (by
    generalize ((2 * (m * 2 ^ k / n) + (m * 2 ^ k % n != 0).toNat : Nat) : Rat) * 2 ^ (i - j - (k : Int) - 1) = V at *
    generalize ((2 * (m * 2 ^ k / n) + (m * 2 ^ k % n != 0).toNat : Nat) : Rat) * 2 ^ (i - (k : Int) - 1) * (n : Rat) = U at *
    generalize (n : Rat) * 2 ^ j = Z at *
    generalize (m : Rat) * 2 ^ i = Y at *
    generalize (2 : Rat) ^ (1023 : Int) = B at *
    refine Rat.not_le.1 fun hc => ?_
    have := Rat.mul_le_mul_of_nonneg_right hc hz9
    grind)
  refine ⟨_, h', near.1, fun es => by rw [sgn es]; exact near_pos _ _, ?_⟩
  have near := near.2
  generalize Ieee.double.nearest (sy ^^ sz) (2 * (m * 2 ^ k / n) + (m * 2 ^ k % n != 0).toNat) (i - j - (k : Int) - 1) = r at *
  have a1 := Rat.mul_le_mul_of_nonneg_right near.1 hz9
  have a2 := Rat.mul_le_mul_of_nonneg_right near.2 hz9
  clear hv
  generalize ((2 * (m * 2 ^ k / n) + (m * 2 ^ k % n != 0).toNat : Nat) : Rat) * 2 ^ (i - j - (k : Int) - 1) = V at *
  generalize ((2 * (m * 2 ^ k / n) + (m * 2 ^ k % n != 0).toNat : Nat) : Rat) * 2 ^ (i - (k : Int) - 1) * (n : Rat) = U at *
  generalize (n : Rat) * 2 ^ j = Z at *
  generalize (m : Rat) * 2 ^ i = Y at *
  constructor <;> grind
end Go.Bw
namespace Go.Bw
open Go Go.Rt
theorem root_num (m : Nat) (i : Int) (m0 : m ≠ 0) : ∃ k : Nat, (Ieee.Datum.number false m i).root 54 = some (.number false (2 * isq (m * 2 ^ k) + (isq (m * 2 ^ k) * isq (m * 2 ^ k) != m * 2 ^ k).toNat) ((i - (k : Int)) / 2 - 1)) ∧ (i - (k : Int)) % 2 = 0 ∧ 106 ≤ m.log2 + k := by
  refine ⟨2 * 54 - m.log2 + ((i - ((2 * 54 - m.log2 : Nat) : Int)) % 2).toNat, ?_, by omega, by omega⟩
  unfold Ieee.Datum.root
  simp only [if_neg m0]
  rw [Nat.shiftLeft_eq]
  rfl
theorem root_near {N s : Nat} (h : IsR N s) (hs : 9007199254740992 ≤ s) :
    (((2 * s + (s * s != N).toNat : Nat) : Rat) * ((2 * s + (s * s != N).toNat : Nat) : Rat) ≤ 4 * (N : Rat) * (1 + 1/9007199254740992)) ∧ (4 * (N : Rat) * (1 - 1/9007199254740992) ≤ ((2 * s + (s * s != N).toNat : Nat) : Rat) * ((2 * s + (s * s != N).toNat : Nat) : Rat)) := by
  obtain ⟨h1, h2⟩ := h
  have r1 : (s : Rat) * (s : Rat) ≤ (N : Rat) := by exact_mod_cast h1
  have r2 : (N : Rat) + 1 ≤ ((s : Rat) + 1) * ((s : Rat) + 1) := by exact_mod_cast h2
  have rs : (9007199254740992 : Rat) ≤ (s : Rat) := by exact_mod_cast hs
  have hs0 : (0 : Rat) ≤ (s : Rat) := by exact_mod_cast Nat.zero_le s
  have rss := Rat.mul_le_mul_of_nonneg_right rs hs0
  by_cases he : s * s = N
  · have hb : (s * s != N) = false := by simp [he]
    have e : ((2 * s + (s * s != N).toNat : Nat) : Rat) = 2 * (s : Rat) := by rw [hb]; simp [Rat.natCast_mul]
    have eN : (s : Rat) * (s : Rat) = (N : Rat) := by exact_mod_cast he
    rw [e]
    constructor <;> grind
  · have hb : (s * s != N) = true := bne_iff_ne.2 he
    have e : ((2 * s + (s * s != N).toNat : Nat) : Rat) = 2 * (s : Rat) + 1 := by rw [hb]; simp [Rat.natCast_add, Rat.natCast_mul]
    have lt : s * s + 1 ≤ N := by omega
    have r3 : (s : Rat) * (s : Rat) + 1 ≤ (N : Rat) := by exact_mod_cast lt
    rw [e]
    constructor <;> grind
theorem sqrt_val {y : Nat} (hy : y < 9218868437227405312) (hy0 : dg y ≠ 0) (h1 : 1/2 ≤ fvm y) (hv : fvm y < 2 ^ (1023 : Int)) :
    ∃ r, Ieee.double.sqrt y = some r ∧ finN r ∧ r < 9223372036854775808 ∧ fvm r * fvm r ≤ fvm y * ((1 + 1/4503599627370496) * (1 + 1/4503599627370496)) ∧ fvm y * ((1 - 1/4503599627370496) * (1 - 1/4503599627370496)) ≤ fvm r * fvm r ∧ 0 < fvm r := by
  have ey : y % 9223372036854775808 = y := Nat.mod_eq_of_lt (by omega)
  have sy : (y / 9223372036854775808 % 2 == 1) = false := by simp; omega
  have ry := read_word y (by rw [ey]; exact hy)
  rw [ey, sy] at ry
  have fy : fvm y = (dg y : Rat) * 2 ^ ((-1074 : Int) + (pl y : Nat)) := by unfold fvm; rw [ey]
  have hq : Ieee.double.sqrt y = ((Ieee.double.read y).root 54).map Ieee.double.write := rfl
  rw [ry] at hq
  generalize dg y = m at *
  generalize (-1074 : Int) + (pl y : Nat) = i at *
  obtain ⟨k, hk, hpar, hlog⟩ := root_num m i hy0
  rw [hk] at hq
  simp only [Option.map_some] at hq
  have hbit : 2 ^ m.log2 ≤ m := Nat.log2_self_le hy0
  have enough : 9007199254740992 ≤ isq (m * 2 ^ k) := by
    refine isq_53 ?_
    refine Nat.le_trans (Nat.pow_le_pow_right (by omega) hlog) ?_
    rw [Nat.pow_add]
    exact Nat.mul_le_mul_right _ hbit
  have hR := isq_is (m * 2 ^ k)
  have rn := root_near hR enough
  obtain ⟨z, hz⟩ : ∃ z, 2 * isq (m * 2 ^ k) + (isq (m * 2 ^ k) * isq (m * 2 ^ k) != m * 2 ^ k).toNat = z := ⟨_, rfl⟩
  rw [hz] at rn hq
  have h' : Ieee.double.sqrt y = some (Ieee.double.nearest false z ((i - (k : Int)) / 2 - 1)) := hq
  obtain ⟨p, hp⟩ : ∃ p : Int, (i - (k : Int)) / 2 - 1 = p := ⟨_, rfl⟩
  rw [hp] at h'
  have hi : i = (k : Int) + (p + p + 2) := by omega
  have e1 : fvm y = 4 * ((m * 2 ^ k : Nat) : Rat) * (2 ^ p * 2 ^ p) := by
    rw [fy, hi, two_add, two_add (p + p) 2, two_add p p, two_nat, Rat.natCast_mul]
    have : (2 : Rat) ^ (2 : Int) = 4 := by decide
    rw [this]; grind
  have hpp := two_pos p
  have hsq : 0 ≤ (2 : Rat) ^ p * 2 ^ p := Rat.le_of_lt (Rat.mul_pos hpp hpp)
  have k1 := Rat.mul_le_mul_of_nonneg_right rn.1 hsq
  have k2 := Rat.mul_le_mul_of_nonneg_right rn.2 hsq
  have hz0 : (0 : Rat) ≤ (z : Rat) := by exact_mod_cast Nat.zero_le z
  have hV0 : 0 ≤ (z : Rat) * 2 ^ p := Rat.mul_nonneg hz0 (Rat.le_of_lt hpp)
  have e2 : (z : Rat) * (z : Rat) * (2 ^ p * 2 ^ p) = ((z : Rat) * 2 ^ p) * ((z : Rat) * 2 ^ p) := by grind
  rw [e2] at k1 k2
  rw [e1] at h1 hv ⊢
  have big : (4 : Rat) ≤ 2 ^ (1023 : Int) := by
    have a := two_le (show (2 : Int) ≤ 1023 by decide)
    have b : (2 : Rat) ^ (2 : Int) = 4 := by decide
    rw [b] at a; exact a
  have near := near_all false z p (by
    generalize ((m * 2 ^ k : Nat) : Rat) = N at *
    generalize (2 : Rat) ^ p * 2 ^ p = P at *
    generalize (z : Rat) * 2 ^ p = V at *
    generalize (2 : Rat) ^ (1023 : Int) = B at *
    refine Rat.not_le.1 fun hc => ?_
    have b1 := le_mul hc hc (by grind) (by grind)
    have b2 := le_mul big (Rat.le_refl (a := B)) (by grind) (by grind)
    grind)
  refine ⟨_, h', near.1, near_pos _ _, ?_⟩
  have near := near.2
  clear hv big
  have hr0 := fvm_nonneg (Ieee.double.nearest false z p)
  generalize Ieee.double.nearest false z p = r at *
  generalize ((m * 2 ^ k : Nat) : Rat) = N at *
  generalize (2 : Rat) ^ p * 2 ^ p = P at *
  generalize (z : Rat) * 2 ^ p = V at *
  obtain ⟨Wd, hW⟩ : ∃ Wd, 4 * N * P = Wd := ⟨_, rfl⟩
  have k1' : V * V ≤ Wd * (1 + 1/9007199254740992) := by rw [← hW]; grind
  have k2' : Wd * (1 - 1/9007199254740992) ≤ V * V := by rw [← hW]; grind
  rw [hW] at h1 ⊢
  have hV1 : (1 : Rat)/2 ≤ V := by
    refine Rat.not_lt.1 fun hlt => ?_
    have := le_mul (Rat.le_of_lt hlt) (Rat.le_of_lt hlt) hV0 hV0
    grind
  have tiny : (2 : Rat) ^ (-1075 : Int) ≤ 1/1152921504606846976 := by
    have a := two_le (show (-1075 : Int) ≤ -60 by decide)
    have b : (2 : Rat) ^ (-60 : Int) = 1/1152921504606846976 := by decide +kernel
    rw [b] at a; exact a
  have tp := two_pos (-1075)
  have q1 : fvm r ≤ V * (1 + 1/9007199254740992 + 1/576460752303423488) := by grind
  have q2 : V * (1 - 1/9007199254740992 - 1/576460752303423488) ≤ fvm r := by grind
  have l0 : 0 ≤ V * (1 - 1/9007199254740992 - 1/576460752303423488) := Rat.mul_nonneg hV0 (by grind)
  have s1 := le_mul q1 q1 hr0 hr0
  have s2 := le_mul q2 q2 l0 l0
  refine ⟨?_, ?_, ?_⟩
  · grind
  · grind
  · grind
end Go.Bw
