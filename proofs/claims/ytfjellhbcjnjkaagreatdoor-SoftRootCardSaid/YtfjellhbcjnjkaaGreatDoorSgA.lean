/-
  Layer 4, plain mathematics, part one: what is enough of a quotient, of a root, to be rounded by.
-/
import Derived.Test.YtfjellhbcjnjkaaGreatDoorSDyF
namespace Go.Bw
open Go
set_option linter.unusedVariables false
set_option linter.unusedSimpArgs false

theorem log2_of_div (M j : Nat) (h : M / 2 ^ j ≠ 0) : M.log2 = (M / 2 ^ j).log2 + j := by
  have hp := Nat.two_pow_pos j
  have hM : M ≠ 0 := by intro e; subst e; simp at h
  rw [Nat.log2_eq_iff hM]
  have a1 : 2 ^ (M / 2 ^ j).log2 ≤ M / 2 ^ j := Nat.log2_self_le h
  have a2 : M / 2 ^ j < 2 ^ ((M / 2 ^ j).log2 + 1) := Nat.lt_log2_self
  generalize (M / 2 ^ j).log2 = L at *
  constructor
  · rw [Nat.pow_add]
    exact Nat.le_trans (Nat.mul_le_mul_right _ a1) (Nat.div_mul_le_self M (2 ^ j))
  · rw [show L + j + 1 = L + 1 + j by omega, Nat.pow_add]
    exact (Nat.div_lt_iff_lt_mul hp).1 a2
theorem log2_two (h s : Nat) (hs : s ≤ 1) (h0 : h ≠ 0) : (2 * h + s).log2 = h.log2 + 1 := by
  have := log2_of_div (2 * h + s) 1 (by rw [Nat.pow_one]; omega)
  rw [this, Nat.pow_one, show (2 * h + s) / 2 = h by omega]
theorem log2_53 {h : Nat} (hh : 9007199254740992 ≤ h) : 53 ≤ h.log2 := by
  have : h ≠ 0 := by omega
  exact (Nat.le_log2 this).2 (by simpa using hh)
/-- what stands below the highest bits counts only as much as that it is there -/
theorem nearest_cut (neg : Bool) (M j : Nat) (e : Int) (h : 9007199254740992 ≤ M / 2 ^ j) :
    Ieee.double.nearest neg M e = Ieee.double.nearest neg (2 * (M / 2 ^ j) + if M % 2 ^ j = 0 then 0 else 1) (e + j - 1) := by
  have hp := Nat.two_pow_pos j
  have hM : M ≠ 0 := by intro e2; subst e2; simp at h
  have hl := log2_of_div M j (by omega)
  have h53 := log2_53 h
  obtain ⟨s, hs, hs1, hs2⟩ : ∃ s, (if M % 2 ^ j = 0 then 0 else 1) = s ∧ s ≤ 1 ∧ (s = 0 ↔ M % 2 ^ j = 0) := by
    refine ⟨_, rfl, ?_, ?_⟩
    · split <;> omega
    · split <;> simp_all
  rw [hs]
  have hl2 := log2_two (M / 2 ^ j) s hs1 (by omega)
  apply Int.ofNat_inj.1
  rw [nearest_is neg M e hM, nearest_is neg _ _ (by omega), hl2, hl]
  rw [show e + (j : Int) - 1 + (((M / 2 ^ j).log2 + 1 : Nat) : Int) - 52 = e + (((M / 2 ^ j).log2 + j : Nat) : Int) - 52 by omega]
  have hd0 : max (e + (((M / 2 ^ j).log2 + j : Nat) : Int) - 52) (-1074) - e ≥ j + 1 := by omega
  generalize max (e + (((M / 2 ^ j).log2 + j : Nat) : Int) - 52) (-1074) = L at *
  obtain ⟨d, hd⟩ : ∃ d : Nat, (L - e).toNat = j + (d + 1) := ⟨(L - e).toNat - j - 1, by omega⟩
  rw [if_neg (show ¬ L - e ≤ 0 by omega), if_neg (show ¬ L - (e + (j : Int) - 1) ≤ 0 by omega), hd, show (L - (e + (j : Int) - 1)).toNat = d + 2 by omega]
  have q1 : M / 2 ^ (j + (d + 1)) = M / 2 ^ j / 2 ^ (d + 1) := by rw [Nat.pow_add, Nat.div_div_eq_div_mul]
  have q2 : M % 2 ^ (j + (d + 1)) = (M / 2 ^ j % 2 ^ (d + 1)) * 2 ^ j + M % 2 ^ j := by
    rw [Nat.pow_add, Nat.mod_mul, Nat.mul_comm (2 ^ j), Nat.add_comm]
  have hr : M % 2 ^ j < 2 ^ j := Nat.mod_lt _ hp
  have q3 : (2 * (M / 2 ^ j) + s) / 2 ^ (d + 2) = M / 2 ^ j / 2 ^ (d + 1) := by
    rw [show d + 2 = 1 + (d + 1) by omega, Nat.pow_add 2 1, ← Nat.div_div_eq_div_mul, Nat.pow_one, show (2 * (M / 2 ^ j) + s) / 2 = M / 2 ^ j by omega]
  have q4 : (2 * (M / 2 ^ j) + s) % 2 ^ (d + 2) = 2 * (M / 2 ^ j % 2 ^ (d + 1)) + s := by
    rw [show d + 2 = 1 + (d + 1) by omega, Nat.pow_add 2 1, Nat.mod_mul, Nat.pow_one, show (2 * (M / 2 ^ j) + s) / 2 = M / 2 ^ j by omega]
    omega
  rw [q1, q2, q3, q4]
  have hu : M / 2 ^ j % 2 ^ (d + 1) < 2 ^ (d + 1) := Nat.mod_lt _ (Nat.two_pow_pos _)
  rw [Nat.pow_add 2 j (d + 1), show 2 ^ (d + 2) = 2 * 2 ^ (d + 1) by rw [Nat.pow_succ 2 (d + 1)]; omega]
  have hP : 2 ^ (d + 1) = 2 * 2 ^ d := by rw [Nat.pow_succ]; omega
  rw [hP] at hu ⊢
  congr 4
  generalize M / 2 ^ j / (2 * 2 ^ d) = v
  generalize M / 2 ^ j % (2 * 2 ^ d) = u at *
  generalize M % 2 ^ j = r at *
  generalize 2 ^ d = F at *
  generalize 2 ^ j = K at *
  have t1 : ∀ x y : Nat, x < y → x * K + K ≤ y * K := fun x y h => by
    have := Nat.mul_le_mul_right K (show x + 1 ≤ y from h)
    rw [Nat.add_mul, Nat.one_mul] at this
    exact this
  have cm : K * (2 * F) = 2 * (F * K) := by rw [Nat.mul_comm K, Nat.mul_assoc]
  rw [cm]
  have key : (2 * (F * K) < 2 * (u * K + r) ↔ 2 * (2 * F) < 2 * (2 * u + s)) ∧ (2 * (F * K) = 2 * (u * K + r) ↔ 2 * (2 * F) = 2 * (2 * u + s)) := by
    rcases Nat.lt_trichotomy u F with g | g | g
    · have := t1 u F g
      omega
    · subst g
      omega
    · have := t1 F u g
      omega
  simp only [key.1, key.2]

/-- a number of N by D, times 2^E, rounded -/
def ratio (neg : Bool) (N D : Nat) (E : Int) : Nat := Ieee.double.nearest neg (2 * (N / D) + if N % D = 0 then 0 else 1) (E - 1)
theorem ratio_shift (neg : Bool) (N D j : Nat) (E : Int) (hD : 0 < D) (h : 9007199254740992 ≤ N / D) : ratio neg (N * 2 ^ j) D (E - j) = ratio neg N D E := by
  have hp := Nat.two_pow_pos j
  unfold ratio
  have e1 : N * 2 ^ j / D / 2 ^ j = N / D := by rw [Nat.div_div_eq_div_mul, Nat.mul_div_mul_right _ _ hp]
  obtain ⟨s, hs, hs1, hs2⟩ : ∃ s, (if N * 2 ^ j % D = 0 then 0 else 1) = s ∧ s ≤ 1 ∧ (s = 0 ↔ N * 2 ^ j % D = 0) := by
    refine ⟨_, rfl, ?_, ?_⟩
    · split <;> omega
    · split <;> simp_all
  rw [hs]
  have e2 : (2 * (N * 2 ^ j / D) + s) / 2 ^ (j + 1) = N / D := by
    rw [Nat.pow_succ, Nat.mul_comm (2 ^ j) 2, ← Nat.div_div_eq_div_mul, show (2 * (N * 2 ^ j / D) + s) / 2 = N * 2 ^ j / D by omega, e1]
  have e3 : (2 * (N * 2 ^ j / D) + s) % 2 ^ (j + 1) = 2 * (N * 2 ^ j / D % 2 ^ j) + s := by
    rw [Nat.pow_succ, Nat.mul_comm (2 ^ j) 2, Nat.mod_mul, show (2 * (N * 2 ^ j / D) + s) / 2 = N * 2 ^ j / D by omega]
    omega
  have e4 : (2 * (N * 2 ^ j / D) + s) % 2 ^ (j + 1) = 0 ↔ N % D = 0 := by
    rw [e3]
    constructor
    · intro h0
      have h1 : N * 2 ^ j % D = 0 := hs2.1 (by omega)
      have h2 : N * 2 ^ j / D % 2 ^ j = 0 := by omega
      obtain ⟨t, ht⟩ := Nat.dvd_of_mod_eq_zero h1
      rw [ht, Nat.mul_div_cancel_left _ hD] at h2
      obtain ⟨u, hu⟩ := Nat.dvd_of_mod_eq_zero h2
      rw [hu, ← Nat.mul_assoc, Nat.mul_right_comm D] at ht
      have : N = u * D := by
        refine Nat.eq_of_mul_eq_mul_right hp ?_
        rw [ht, Nat.mul_comm u D]
      rw [this, Nat.mul_mod_left]
    · intro h0
      obtain ⟨t, rfl⟩ := Nat.dvd_of_mod_eq_zero h0
      have h1 : D * t * 2 ^ j % D = 0 := by rw [Nat.mul_assoc, Nat.mul_mod_right]
      have := hs2.2 h1
      rw [this, Nat.mul_assoc, Nat.mul_div_cancel_left _ hD, Nat.mul_mod_left]
  rw [nearest_cut neg _ (j + 1) _ (by rw [e2]; exact h), e2]
  simp only [e4]
  congr 1
  push_cast
  omega
theorem ratio_both (neg : Bool) (N D c : Nat) (E : Int) (hc : 0 < c) : ratio neg (N * c) (D * c) E = ratio neg N D E := by
  unfold ratio
  rw [Nat.mul_div_mul_right _ _ hc, Nat.mul_mod_mul_right]
  have : (N % D * c = 0) ↔ N % D = 0 := by
    rw [Nat.mul_eq_zero]; omega
  simp only [this]
theorem ratio_le (neg : Bool) (a b k1 m1 k2 m2 : Nat) (E : Int) (hb : 0 < b) (h1 : 9007199254740992 ≤ a * 2 ^ k1 / (b * 2 ^ m1)) (hk : k1 + m2 ≤ k2 + m1) :
    ratio neg (a * 2 ^ k1) (b * 2 ^ m1) (E - k1 + m1) = ratio neg (a * 2 ^ k2) (b * 2 ^ m2) (E - k2 + m2) := by
  have p1 := Nat.two_pow_pos m1
  have p2 := Nat.two_pow_pos m2
  obtain ⟨j, hj⟩ := Nat.exists_eq_add_of_le hk
  rw [← ratio_both neg (a * 2 ^ k2) (b * 2 ^ m2) (2 ^ m1) _ p1, ← ratio_shift neg (a * 2 ^ k1) (b * 2 ^ m1) j _ (Nat.mul_pos hb p1) h1, ← ratio_both neg (a * 2 ^ k1 * 2 ^ j) (b * 2 ^ m1) (2 ^ m2) _ p2]
  have e1 : a * 2 ^ k1 * 2 ^ j * 2 ^ m2 = a * 2 ^ k2 * 2 ^ m1 := by
    rw [Nat.mul_assoc, Nat.mul_assoc, Nat.mul_assoc, ← Nat.pow_add, ← Nat.pow_add, ← Nat.pow_add]
    congr 2
    omega
  have e2 : b * 2 ^ m1 * 2 ^ m2 = b * 2 ^ m2 * 2 ^ m1 := by rw [Nat.mul_right_comm]
  rw [e1, e2]
  congr 1
  omega
/-- all ways to bring a by b to enough bits are rounded alike -/
theorem ratio_any (neg : Bool) (a b k1 m1 k2 m2 : Nat) (E : Int) (hb : 0 < b) (h1 : 9007199254740992 ≤ a * 2 ^ k1 / (b * 2 ^ m1)) (h2 : 9007199254740992 ≤ a * 2 ^ k2 / (b * 2 ^ m2)) :
    ratio neg (a * 2 ^ k1) (b * 2 ^ m1) (E - k1 + m1) = ratio neg (a * 2 ^ k2) (b * 2 ^ m2) (E - k2 + m2) := by
  rcases Nat.le_total (k1 + m2) (k2 + m1) with h | h
  · exact ratio_le neg a b k1 m1 k2 m2 E hb h1 h
  · exact (ratio_le neg a b k2 m2 k1 m1 E hb h2 h).symm
/-- a by b, times 2^E, rounded -/
def quotW (neg : Bool) (a b : Nat) (E : Int) : Nat := ratio neg (a * 2 ^ (54 + b.log2)) b (E - ((54 + b.log2 : Nat) : Int))
theorem quot_enough (a b : Nat) (ha : 0 < a) (hb : 0 < b) : 9007199254740992 ≤ a * 2 ^ (54 + b.log2) / b := by
  rw [Nat.le_div_iff_mul_le hb]
  have h1 : b < 2 ^ (b.log2 + 1) := Nat.lt_log2_self
  rw [show 54 + b.log2 = 53 + (b.log2 + 1) by omega, Nat.pow_add]
  generalize 2 ^ (b.log2 + 1) = P at *
  have h2 : 9007199254740992 * b ≤ 2 ^ 53 * P := Nat.mul_le_mul_left _ (Nat.le_of_lt h1)
  exact Nat.le_trans h2 (Nat.le_mul_of_pos_left _ ha)
theorem quotW_is (neg : Bool) (a b k m : Nat) (E : Int) (ha : 0 < a) (hb : 0 < b) (h : 9007199254740992 ≤ a * 2 ^ k / (b * 2 ^ m)) : ratio neg (a * 2 ^ k) (b * 2 ^ m) (E - k + m) = quotW neg a b E := by
  have := ratio_any neg a b k m (54 + b.log2) 0 E hb h (by rw [Nat.pow_zero, Nat.mul_one]; exact quot_enough a b ha hb)
  rw [this]
  unfold quotW
  rw [Nat.pow_zero, Nat.mul_one]
  congr 1
  omega
theorem quotW_left (neg : Bool) (a b k : Nat) (E : Int) (ha : 0 < a) (hb : 0 < b) : quotW neg (a * 2 ^ k) b E = quotW neg a b (E + k) := by
  have h := quot_enough (a * 2 ^ k) b (Nat.mul_pos ha (Nat.two_pow_pos k)) hb
  have e := quotW_is neg a b (k + (54 + b.log2)) 0 (E + k) ha hb (by rw [Nat.pow_zero, Nat.mul_one, Nat.pow_add, ← Nat.mul_assoc]; exact h)
  rw [← e]
  unfold quotW
  rw [Nat.pow_zero, Nat.mul_one, Nat.pow_add 2 k, ← Nat.mul_assoc]
  congr 1
  omega
theorem quotW_right (neg : Bool) (a b k : Nat) (E : Int) (ha : 0 < a) (hb : 0 < b) : quotW neg a (b * 2 ^ k) E = quotW neg a b (E - k) := by
  have hb2 := Nat.mul_pos hb (Nat.two_pow_pos k)
  have h := quot_enough a (b * 2 ^ k) ha hb2
  have e := quotW_is neg a b (54 + (b * 2 ^ k).log2) k (E - k) ha hb h
  rw [← e]
  unfold quotW
  congr 1
  omega

/-! ### roots -/
def IsR (N s : Nat) : Prop := s * s ≤ N ∧ N < (s + 1) * (s + 1)
theorem IsR.uniq {N s t : Nat} (h : IsR N s) (k : IsR N t) : s = t := by
  rcases Nat.lt_trichotomy s t with g | g | g
  · have := Nat.mul_le_mul (show s + 1 ≤ t from g) (show s + 1 ≤ t from g)
    have := h.2; have := k.1
    omega
  · exact g
  · have := Nat.mul_le_mul (show t + 1 ≤ s from g) (show t + 1 ≤ s from g)
    have := k.2; have := h.1
    omega
theorem rootFrom_is (n : Nat) : ∀ (todo root : Nat), root * root ≤ n → n < (root + 2 ^ todo) * (root + 2 ^ todo) → IsR n (Ieee.Datum.rootFrom n todo root)
  | 0, root, h1, h2 => by
    unfold Ieee.Datum.rootFrom
    exact ⟨h1, by simpa using h2⟩
  | todo + 1, root, h1, h2 => by
    unfold Ieee.Datum.rootFrom
    rw [Nat.one_shiftLeft]
    simp only
    split
    · rename_i h
      refine rootFrom_is n todo _ h ?_
      rw [Nat.add_assoc, show 2 ^ todo + 2 ^ todo = 2 ^ (todo + 1) by rw [Nat.pow_succ]; omega]
      exact h2
    · rename_i h
      exact rootFrom_is n todo _ h1 (by omega)
/-- the whole root -/
def isq (n : Nat) : Nat := Ieee.Datum.rootFrom n (n.log2 / 2 + 1) 0
theorem isq_is (n : Nat) : IsR n (isq n) := by
  refine rootFrom_is n _ 0 (by omega) ?_
  rw [Nat.zero_add, ← Nat.pow_add]
  exact Nat.lt_of_lt_of_le Nat.lt_log2_self (Nat.pow_le_pow_right (by omega) (by omega))
theorem isq_eq {n s : Nat} (h : IsR n s) : isq n = s := (isq_is n).uniq h
theorem isq_ge {n k : Nat} (h : k * k ≤ n) : k ≤ isq n := by
  rcases Nat.lt_or_ge (isq n) k with g | g
  · have := Nat.mul_le_mul (show isq n + 1 ≤ k from g) (show isq n + 1 ≤ k from g)
    have := (isq_is n).2
    omega
  · exact g
theorem isq_53 {n : Nat} (h : 2 ^ 106 ≤ n) : 9007199254740992 ≤ isq n := isq_ge (by omega)
theorem pow_two_sq (j : Nat) : 2 ^ (2 * j) = 2 ^ j * 2 ^ j := by rw [← Nat.pow_add]; congr 1; omega
theorem isq_cut (N j : Nat) : isq N / 2 ^ j = isq (N / 2 ^ (2 * j)) := by
  have hp := Nat.two_pow_pos j
  refine (isq_eq ⟨?_, ?_⟩).symm
  · rw [Nat.le_div_iff_mul_le (Nat.two_pow_pos _), pow_two_sq]
    have h := (isq_is N).1
    have h2 := Nat.div_mul_le_self (isq N) (2 ^ j)
    calc isq N / 2 ^ j * (isq N / 2 ^ j) * (2 ^ j * 2 ^ j) = (isq N / 2 ^ j * 2 ^ j) * (isq N / 2 ^ j * 2 ^ j) := by
          rw [Nat.mul_assoc, Nat.mul_assoc, Nat.mul_left_comm (isq N / 2 ^ j) (2 ^ j)]
      _ ≤ isq N * isq N := Nat.mul_le_mul h2 h2
      _ ≤ N := h
  · rw [Nat.div_lt_iff_lt_mul (Nat.two_pow_pos _), pow_two_sq]
    have h := (isq_is N).2
    have h2 : isq N + 1 ≤ (isq N / 2 ^ j + 1) * 2 ^ j := by
      have := Nat.lt_div_mul_add hp (a := isq N)
      rw [Nat.add_mul, Nat.one_mul]
      omega
    calc N < (isq N + 1) * (isq N + 1) := h
      _ ≤ ((isq N / 2 ^ j + 1) * 2 ^ j) * ((isq N / 2 ^ j + 1) * 2 ^ j) := Nat.mul_le_mul h2 h2
      _ = (isq N / 2 ^ j + 1) * (isq N / 2 ^ j + 1) * (2 ^ j * 2 ^ j) := by
          rw [Nat.mul_assoc, Nat.mul_assoc, Nat.mul_left_comm (2 ^ j) (isq N / 2 ^ j + 1)]
theorem isq_exact (N j : Nat) : (isq N % 2 ^ j = 0 ∧ isq N * isq N = N) ↔ (N % 2 ^ (2 * j) = 0 ∧ isq (N / 2 ^ (2 * j)) * isq (N / 2 ^ (2 * j)) = N / 2 ^ (2 * j)) := by
  have hp := Nat.two_pow_pos j
  have hq := Nat.two_pow_pos (2 * j)
  rw [← isq_cut]
  constructor
  · rintro ⟨h1, h2⟩
    obtain ⟨t, ht⟩ := Nat.dvd_of_mod_eq_zero h1
    have hN : N = t * t * 2 ^ (2 * j) := by
      rw [pow_two_sq, ← h2, ht]
      rw [Nat.mul_assoc, Nat.mul_assoc, Nat.mul_comm (2 ^ j), Nat.mul_assoc, Nat.mul_assoc, Nat.mul_left_comm (2 ^ j) t]
    rw [ht, Nat.mul_div_cancel_left _ hp]
    rw [hN, Nat.mul_mod_left, Nat.mul_div_cancel _ hq]
    exact ⟨rfl, rfl⟩
  · rintro ⟨h1, h2⟩
    obtain ⟨t, ht⟩ := Nat.dvd_of_mod_eq_zero h1
    rw [ht, Nat.mul_div_cancel_left _ hq, ← ht] at h2
    generalize hu : isq N / 2 ^ j = u at h2
    have hN : N = (u * 2 ^ j) * (u * 2 ^ j) := by
      rw [ht, ← h2, pow_two_sq, Nat.mul_comm (2 ^ j * 2 ^ j), Nat.mul_assoc u u, Nat.mul_assoc u (2 ^ j), Nat.mul_left_comm u (2 ^ j)]
    have h3 : isq N = u * 2 ^ j := isq_eq (by rw [hN]; exact ⟨Nat.le_refl _, Nat.mul_lt_mul_of_lt_of_lt (by omega) (by omega)⟩)
    rw [h3, Nat.mul_mod_left]
    exact ⟨rfl, hN.symm⟩
/-- the root of N, times 2^E, rounded -/
def rootR (N : Nat) (E : Int) : Nat := Ieee.double.nearest false (2 * isq N + if isq N * isq N = N then 0 else 1) (E - 1)
theorem rootR_cut (N j : Nat) (E : Int) (h : 9007199254740992 ≤ isq (N / 2 ^ (2 * j))) :
    rootR N (E - j) = Ieee.double.nearest false (2 * isq (N / 2 ^ (2 * j)) + if N % 2 ^ (2 * j) = 0 ∧ isq (N / 2 ^ (2 * j)) * isq (N / 2 ^ (2 * j)) = N / 2 ^ (2 * j) then 0 else 1) (E - 1) := by
  have hp := Nat.two_pow_pos j
  unfold rootR
  have hx := isq_exact N j
  rw [← isq_cut] at h hx ⊢
  simp only [← hx]
  obtain ⟨s, hs, hs1, hs2⟩ : ∃ s, (if isq N * isq N = N then 0 else 1) = s ∧ s ≤ 1 ∧ (s = 0 ↔ isq N * isq N = N) := by
    refine ⟨_, rfl, ?_, ?_⟩
    · split <;> omega
    · split <;> simp_all
  rw [hs]
  have e2 : (2 * isq N + s) / 2 ^ (j + 1) = isq N / 2 ^ j := by
    rw [Nat.pow_succ, Nat.mul_comm (2 ^ j) 2, ← Nat.div_div_eq_div_mul, show (2 * isq N + s) / 2 = isq N by omega]
  have e3 : (2 * isq N + s) % 2 ^ (j + 1) = 2 * (isq N % 2 ^ j) + s := by
    rw [Nat.pow_succ, Nat.mul_comm (2 ^ j) 2, Nat.mod_mul, show (2 * isq N + s) / 2 = isq N by omega]
    omega
  rw [nearest_cut false _ (j + 1) _ (by rw [e2]; exact h), e2, e3]
  have e4 : 2 * (isq N % 2 ^ j) + s = 0 ↔ (isq N % 2 ^ j = 0 ∧ isq N * isq N = N) := by
    rw [← hs2]; omega
  simp only [e4]
  congr 1
  push_cast
  omega
theorem rootR_shift (N j : Nat) (E : Int) (h : 9007199254740992 ≤ isq N) : rootR (N * 2 ^ (2 * j)) (E - j) = rootR N E := by
  have hq := Nat.two_pow_pos (2 * j)
  rw [rootR_cut _ j E (by rw [Nat.mul_div_cancel _ hq]; exact h), Nat.mul_div_cancel _ hq, Nat.mul_mod_left]
  unfold rootR
  simp only [true_and]
/-- a's root, a times 2^x, rounded -/
def rootW (a : Nat) (x : Int) : Nat := rootR (a * 2 ^ (108 + (x % 2).toNat)) ((x - 108 - x % 2) / 2)
theorem root_enough (a k : Nat) (ha : 0 < a) (hk : 106 ≤ k) : 9007199254740992 ≤ isq (a * 2 ^ k) := by
  refine isq_53 ?_
  exact Nat.le_trans (Nat.pow_le_pow_right (by omega) hk) (Nat.le_mul_of_pos_left _ ha)
theorem rootR_le (a k1 k2 : Nat) (E1 E2 x : Int) (h1 : x - k1 = 2 * E1) (h2 : x - k2 = 2 * E2) (hk : k1 ≤ k2) (h : 9007199254740992 ≤ isq (a * 2 ^ k1)) : rootR (a * 2 ^ k2) E2 = rootR (a * 2 ^ k1) E1 := by
  obtain ⟨j, hj⟩ : ∃ j, k2 = k1 + 2 * j := ⟨(E1 - E2).toNat, by omega⟩
  rw [← rootR_shift (a * 2 ^ k1) j E1 h, hj, Nat.pow_add, Nat.mul_assoc]
  congr 1
  omega
theorem rootW_is (a k : Nat) (E x : Int) (ha : 0 < a) (h1 : x - k = 2 * E) (h : 9007199254740992 ≤ isq (a * 2 ^ k)) : rootR (a * 2 ^ k) E = rootW a x := by
  unfold rootW
  rcases Nat.le_total k (108 + (x % 2).toNat) with g | g
  · exact (rootR_le a k _ E _ x h1 (by omega) g h).symm
  · exact rootR_le a _ k _ E x (by omega) h1 g (root_enough a _ ha (by omega))
theorem rootW_left (a c : Nat) (x : Int) (ha : 0 < a) : rootW (a * 2 ^ c) x = rootW a (x + c) := by
  have hc := Nat.mul_pos ha (Nat.two_pow_pos c)
  have := rootW_is a (c + (108 + (x % 2).toNat)) ((x - 108 - x % 2) / 2) (x + c) ha (by omega) (by rw [Nat.pow_add, ← Nat.mul_assoc]; exact root_enough _ _ hc (by omega))
  rw [← this]
  unfold rootW
  rw [Nat.pow_add 2 c, ← Nat.mul_assoc]
/-- cut off below 1, with what was lost -/
theorem rootW_cut (a m : Nat) (E x : Int) (ha : 0 < a) (h1 : x + m = 2 * E) (h : 9007199254740992 ≤ isq (a / 2 ^ m)) :
    Ieee.double.nearest false (2 * isq (a / 2 ^ m) + if a % 2 ^ m = 0 ∧ isq (a / 2 ^ m) * isq (a / 2 ^ m) = a / 2 ^ m then 0 else 1) (E - 1) = rootW a x := by
  obtain ⟨k, j, hkj, hk⟩ : ∃ k j : Nat, k + m = 2 * j ∧ 106 ≤ k := ⟨106 + m % 2, 53 + (m + m % 2) / 2, by omega, by omega⟩
  have e1 : a * 2 ^ k / 2 ^ (2 * j) = a / 2 ^ m := by
    rw [← hkj, Nat.add_comm k m, Nat.pow_add, Nat.mul_div_mul_right _ _ (Nat.two_pow_pos k)]
  have e2 : a * 2 ^ k % 2 ^ (2 * j) = 0 ↔ a % 2 ^ m = 0 := by
    rw [← hkj, Nat.add_comm k m, Nat.pow_add, Nat.mul_mod_mul_right, Nat.mul_eq_zero]
    have := Nat.two_pow_pos k
    omega
  have := rootR_cut (a * 2 ^ k) j E (by rw [e1]; exact h)
  rw [e1] at this
  simp only [e2] at this
  rw [← this]
  exact rootW_is a k (E - j) x ha (by omega) (root_enough a k ha hk)

/-- the highest bits, and whether anything stands below them, are enough: 54 of them -/
theorem nearest_rnd53 (neg : Bool) (M k : Nat) (e : Int) (hM : M ≠ 0) (hT : M / 2 ^ k < 18446744073709551616) (hk : k = 0 ∨ 9007199254740992 ≤ M / 2 ^ k) :
    (Ieee.double.nearest neg M e : Int) = signW neg (rnd ((M / 2 ^ k : Nat) : Int) (e + k) (decide (M % 2 ^ k ≠ 0))) := by
  rw [nearest_is neg M e hM]
  congr 1
  have hp := Nat.two_pow_pos k
  have hT0 : M / 2 ^ k ≠ 0 := by
    rcases hk with h | h
    · subst h; simpa using hM
    · omega
  have hL : M.log2 + 1 = Lib.bitLen (M / 2 ^ k) + k := by
    have s := bl_spec _ hT
    have s2 := s.2 hT0
    have a1 : 2 ^ M.log2 ≤ M := Nat.log2_self_le hM
    have a2 : M < 2 ^ (M.log2 + 1) := Nat.lt_log2_self
    generalize Lib.bitLen (M / 2 ^ k) = B at *
    have b1 : 2 ^ (B - 1 + k) ≤ M := by
      rw [Nat.pow_add]
      exact Nat.le_trans (Nat.mul_le_mul_right _ s2.2) (Nat.div_mul_le_self M (2 ^ k))
    have b2 : M < 2 ^ (B + k) := by
      rw [Nat.pow_add]
      exact (Nat.div_lt_iff_lt_mul hp).1 s.1
    have c1 : M.log2 < B + k := (Nat.pow_lt_pow_iff_right (by decide : 1 < 2)).1 (Nat.lt_of_le_of_lt a1 b2)
    have c2 : B - 1 + k < M.log2 + 1 := (Nat.pow_lt_pow_iff_right (by decide : 1 < 2)).1 (Nat.lt_of_le_of_lt b1 a2)
    omega
  have hTi : ¬ ((M / 2 ^ k : Nat) : Int) = 0 := fun h => hT0 (Int.natCast_eq_zero.1 h)
  unfold rnd
  rw [if_neg hTi]
  have hE : rE ((M / 2 ^ k : Nat) : Int) (e + k) = max (e + M.log2 - 52) (-1074) := by
    unfold rE bl
    rw [Int.toNat_natCast]
    omega
  rw [hE]
  have hd0 : max (e + (M.log2 : Int) - 52) (-1074) - e ≥ M.log2 - 52 := by omega
  have h63 : k = 0 ∨ 53 + k ≤ M.log2 := by
    rcases hk with h | h
    · exact .inl h
    · right
      have := log2_of_div M k hT0
      have := log2_53 h
      omega
  generalize max (e + (M.log2 : Int) - 52) (-1074) = L at *
  congr 2
  unfold rW
  rcases h63 with h | h
  · subst h
    have z : M % 2 ^ 0 = 0 := by rw [Nat.pow_zero, Nat.mod_one]
    rw [z, Nat.pow_zero, Nat.div_one, show L - (e + ((0 : Nat) : Int)) = L - e by omega]
    by_cases c : L - e ≤ 0
    · rw [if_pos c, if_pos c]
    · rw [if_neg c, if_neg c]
      unfold rUp
      obtain ⟨d, hd⟩ : ∃ d : Nat, (L - e).toNat = d := ⟨_, rfl⟩
      rw [hd]
      have e1 : (M : Int) / 2 ^ d = ((M / 2 ^ d : Nat) : Int) := by push_cast; rfl
      have e2 : (M : Int) % 2 ^ d = ((M % 2 ^ d : Nat) : Int) := by push_cast; rfl
      have e3 : (2 : Int) ^ d = ((2 ^ d : Nat) : Int) := by push_cast; rfl
      rw [e1, e2, e3]
      congr 1
      simp only [decide_not, decide_true, Bool.not_true, Bool.false_or]
      generalize 2 ^ d = P
      generalize M % P = u
      generalize M / P = v
      by_cases a : P < 2 * u
      · rw [if_pos (.inl a), decide_eq_true (show ((P : Nat) : Int) < 2 * (u : Int) by omega)]; rfl
      · rw [decide_eq_false (show ¬ ((P : Nat) : Int) < 2 * (u : Int) by omega)]
        by_cases b : P = 2 * u ∧ v % 2 = 1
        · rw [if_pos (.inr b), decide_eq_true (show 2 * (u : Int) = (P : Int) by omega), decide_eq_true (show (v : Int) % 2 = 1 by omega)]; rfl
        · rw [if_neg (by rintro (h | h); exact a h; exact b h)]
          by_cases b2 : P = 2 * u
          · rw [decide_eq_false (show ¬ (v : Int) % 2 = 1 by have : ¬ v % 2 = 1 := fun h => b ⟨b2, h⟩; omega)]; simp
          · rw [decide_eq_false (show ¬ 2 * (u : Int) = (P : Int) by omega)]; simp
  · rw [if_neg (show ¬ L - e ≤ 0 by omega), if_neg (show ¬ L - (e + (k : Int)) ≤ 0 by omega)]
    obtain ⟨d, hd⟩ : ∃ d : Nat, (L - (e + (k : Int))).toNat = d := ⟨_, rfl⟩
    rw [show (L - e).toNat = k + d by omega, hd]
    have hd1 : 1 ≤ d := by omega
    unfold rUp
    have q1 : M / 2 ^ (k + d) = M / 2 ^ k / 2 ^ d := by rw [Nat.pow_add, Nat.div_div_eq_div_mul]
    have q2 : M % 2 ^ (k + d) = (M / 2 ^ k % 2 ^ d) * 2 ^ k + M % 2 ^ k := by
      rw [Nat.pow_add, Nat.mod_mul, Nat.mul_comm (2 ^ k), Nat.add_comm]
    have e1 : (((M / 2 ^ k : Nat) : Int)) / 2 ^ d = ((M / 2 ^ k / 2 ^ d : Nat) : Int) := by push_cast; rfl
    have e2 : (((M / 2 ^ k : Nat) : Int)) % 2 ^ d = ((M / 2 ^ k % 2 ^ d : Nat) : Int) := by push_cast; rfl
    have e3 : (2 : Int) ^ d = ((2 ^ d : Nat) : Int) := by push_cast; rfl
    rw [q1, q2, hd, e1, e2, e3]
    congr 1
    have hr : M % 2 ^ k < 2 ^ k := Nat.mod_lt _ hp
    obtain ⟨f, rfl⟩ : ∃ f, d = f + 1 := ⟨d - 1, by omega⟩
    have hu : M / 2 ^ k % 2 ^ (f + 1) < 2 ^ (f + 1) := Nat.mod_lt _ (Nat.two_pow_pos _)
    rw [Nat.pow_add 2 k (f + 1)]
    have hP : 2 ^ (f + 1) = 2 * 2 ^ f := by rw [Nat.pow_succ]; omega
    rw [hP] at hu ⊢
    generalize M / 2 ^ k / (2 * 2 ^ f) = v
    generalize M / 2 ^ k % (2 * 2 ^ f) = u at *
    generalize M % 2 ^ k = r at *
    generalize 2 ^ f = F at *
    generalize 2 ^ k = K at *
    have t1 : ∀ x y : Nat, x < y → x * K + K ≤ y * K := fun x y h => by
      have := Nat.mul_le_mul_right K (show x + 1 ≤ y from h)
      rw [Nat.add_mul, Nat.one_mul] at this
      exact this
    have cm : K * (2 * F) = 2 * (F * K) := by rw [Nat.mul_comm K, Nat.mul_assoc]
    rw [cm]
    rcases Nat.lt_trichotomy u F with g | g | g
    · have := t1 u F g
      rw [if_neg (by rintro (h | h); omega; omega), decide_eq_false (show ¬ ((2 * F : Nat) : Int) < 2 * (u : Int) by omega), decide_eq_false (show ¬ 2 * (u : Int) = ((2 * F : Nat) : Int) by omega)]
      simp
    · subst g
      rw [decide_eq_false (show ¬ ((2 * u : Nat) : Int) < 2 * (u : Int) by omega), decide_eq_true (show 2 * (u : Int) = ((2 * u : Nat) : Int) by omega)]
      by_cases z : r = 0
      · subst z
        by_cases c : v % 2 = 1
        · rw [if_pos (.inr ⟨by omega, c⟩), decide_eq_true (show (v : Int) % 2 = 1 by omega)]; simp
        · rw [if_neg (by rintro (h | h); omega; omega), decide_eq_false (show ¬ (v : Int) % 2 = 1 by omega)]; simp
      · rw [if_pos (.inl (by omega))]
        simp [z]
    · have := t1 F u g
      rw [if_pos (.inl (by omega)), decide_eq_true (show ((2 * F : Nat) : Int) < 2 * (u : Int) by omega)]
      simp
/-- one limb, and whether there is more, is rounded so -/
theorem limb_rnd (neg : Bool) (T : Nat) (e : Int) (more : Bool) (h0 : 9007199254740992 ≤ T) (h1 : T < 18446744073709551616) :
    (Ieee.double.nearest neg (2 * T + if more = false then 0 else 1) (e - 1) : Int) = signW neg (rnd (T : Int) e more) := by
  have hd : (2 * T + if more = false then 0 else 1) / 2 ^ 1 = T := by split <;> omega
  have hm : decide ((2 * T + if more = false then 0 else 1) % 2 ^ 1 ≠ 0) = more := by
    cases more
    · simp
    · simp
  have := nearest_rnd53 neg (2 * T + if more = false then 0 else 1) 1 (e - 1) (by omega) (by rw [hd]; exact h1) (.inr (by rw [hd]; exact h0))
  rw [this, hd, hm, show e - 1 + ((1 : Nat) : Int) = e by omega]
/-! ### what two classes come to -/
def sumT (x y : Int) : Int := if x = 5 ∨ y = 5 then 1 else if x = 1 ∧ y = 1 then 4 else if (x = 1 ∨ x = 3) ∧ y = 4 then 3 else if x = 4 ∧ (y = 1 ∨ y = 3) then 2 else if x = 4 ∧ y = 4 then 5 else 0
def proT (x y : Int) : Int := if x = 5 ∨ y = 5 then 1 else if (x = 1 ∧ (y = 1 ∨ y = 3)) ∨ (x = 3 ∧ y = 1) then 6 else if (x = 1 ∧ y = 4) ∨ (x = 4 ∧ y = 1) then 1 else if (x = 3 ∨ x = 4) ∧ y = 4 ∨ (x = 4 ∧ y = 3) then 7 else 0
def quoT (x y : Int) : Int := if x = 5 ∨ y = 5 then 1 else if (x = 1 ∧ y = 1) ∨ (x = 4 ∧ y = 4) then 1 else if x = 1 ∧ (y = 3 ∨ y = 4) ∨ (x = 3 ∧ y = 4) then 6 else if (x = 3 ∨ x = 4) ∧ y = 1 ∨ (x = 4 ∧ y = 3) then 7 else 0
end Go.Bw
