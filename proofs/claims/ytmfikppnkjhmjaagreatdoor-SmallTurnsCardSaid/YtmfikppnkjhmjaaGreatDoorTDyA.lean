/-
  Layer 3, plain mathematics: a number times a power of 2, in its normal form; forms of one number agree.
-/
namespace Go.Proofs.YtmfikppnkjhmjaaGreatDoor
set_option linter.unusedVariables false

/-- how often 2 divides n (0 of 0) -/
def tz (n : Nat) : Nat := if h : n = 0 then 0 else if n % 2 = 1 then 0 else tz (n / 2) + 1
termination_by n
decreasing_by omega
theorem tz_zero : tz 0 = 0 := by rw [tz]; simp
theorem tz_odd {n : Nat} (h : n % 2 = 1) : tz n = 0 := by rw [tz]; simp [h]
theorem tz_double {n : Nat} (h : n ≠ 0) : tz (2 * n) = tz n + 1 := by
  rw [tz, dif_neg (by omega), if_neg (by omega)]
  congr 2
  omega
theorem tz_spec {n : Nat} (h : n ≠ 0) : ∃ m, m % 2 = 1 ∧ n = m * 2 ^ tz n := by
  induction n using Nat.strongRecOn with
  | _ n ih =>
    rcases (show n % 2 = 1 ∨ n % 2 = 0 by omega) with k | k
    · exact ⟨n, k, by rw [tz_odd k]; simp⟩
    · obtain ⟨j, rfl⟩ : ∃ j, n = 2 * j := ⟨n / 2, by omega⟩
      obtain ⟨m, h1, h2⟩ := ih j (by omega) (by omega)
      refine ⟨m, h1, ?_⟩
      rw [tz_double (by omega), Nat.pow_succ, ← Nat.mul_assoc, ← h2]
      omega
theorem tz_of {m k : Nat} (h : m % 2 = 1) : tz (m * 2 ^ k) = k := by
  induction k with
  | zero => simpa using tz_odd h
  | succ k ih =>
    have hp : 0 < 2 ^ k := Nat.pow_pos (by omega)
    have h0 : m * 2 ^ k ≠ 0 := Nat.mul_ne_zero (by omega) (by omega)
    have e : m * 2 ^ (k + 1) = 2 * (m * 2 ^ k) := by rw [Nat.pow_succ, ← Nat.mul_assoc, Nat.mul_comm]
    rw [e, tz_double h0, ih]
theorem tz_shift {n : Nat} (h : n ≠ 0) (k : Nat) : tz (n * 2 ^ k) = tz n + k := by
  obtain ⟨m, h1, h2⟩ := tz_spec h
  have e : n * 2 ^ k = m * 2 ^ (tz n + k) := by rw [Nat.pow_add, ← Nat.mul_assoc, ← h2]
  rw [e, tz_of h1]
/-- the odd part -/
def odd (n : Nat) : Nat := n / 2 ^ tz n
theorem odd_eq {m k : Nat} (h : m % 2 = 1) : odd (m * 2 ^ k) = m := by
  unfold odd
  rw [tz_of h, Nat.mul_div_cancel _ (Nat.pow_pos (by omega))]
theorem odd_is {n : Nat} (h : n ≠ 0) : odd n % 2 = 1 ∧ n = odd n * 2 ^ tz n := by
  obtain ⟨m, h1, h2⟩ := tz_spec h
  have : odd n = m := by
    have := odd_eq (k := tz n) h1
    rwa [← h2] at this
  rw [this]
  exact ⟨h1, h2⟩
theorem odd_shift {n : Nat} (h : n ≠ 0) (k : Nat) : odd (n * 2 ^ k) = odd n := by
  obtain ⟨m, h1, h2⟩ := tz_spec h
  have e : n * 2 ^ k = m * 2 ^ (tz n + k) := by rw [Nat.pow_add, ← Nat.mul_assoc, ← h2]
  rw [e, odd_eq h1]
  have := odd_eq (k := tz n) h1
  rw [← h2] at this
  exact this.symm
theorem odd_le (n : Nat) : odd n ≤ n := Nat.div_le_self _ _

/-- a normal form: is it below 0, its odd number (0 of 0), its place -/
structure Nf where
  neg : Bool
  man : Nat
  exp : Int
def nf (s : Int) (e : Int) : Nf := if s = 0 then ⟨false, 0, 0⟩ else ⟨decide (s < 0), odd s.natAbs, e + tz s.natAbs⟩
theorem nf_zero (e : Int) : nf 0 e = ⟨false, 0, 0⟩ := by unfold nf; rw [if_pos rfl]
theorem nf_pos {s e : Int} (h : s ≠ 0) : nf s e = ⟨decide (s < 0), odd s.natAbs, e + tz s.natAbs⟩ := by unfold nf; rw [if_neg h]
theorem natAbs_shift (s : Int) (k : Nat) : (s * 2 ^ k).natAbs = s.natAbs * 2 ^ k := by
  rw [Int.natAbs_mul, Int.natAbs_pow]
  rfl
theorem nf_shift (s e : Int) (k : Nat) : nf (s * 2 ^ k) (e - k) = nf s e := by
  have hp : (0 : Int) < 2 ^ k := Int.pow_pos (by omega)
  by_cases h : s = 0
  · subst h
    rw [Int.zero_mul, nf_zero, nf_zero]
  · have h2 : s * 2 ^ k ≠ 0 := Int.mul_ne_zero h (by omega)
    rw [nf_pos h2, nf_pos h, natAbs_shift, odd_shift (by omega), tz_shift (by omega)]
    have e1 : decide (s * 2 ^ k < 0) = decide (s < 0) := by
      apply decide_eq_decide.2
      constructor
      · intro h3
        rcases (show s < 0 ∨ 0 < s by omega) with h4 | h4
        · exact h4
        · have := Int.mul_pos h4 hp; omega
      · intro h3
        exact Int.mul_neg_of_neg_of_pos h3 hp
    rw [e1]
    congr 1
    push_cast
    omega
/-- two forms of one number -/
theorem nf_same {s t e f : Int} {j k : Nat} (h : s * 2 ^ j = t * 2 ^ k) (he : e - j = f - k) : nf s e = nf t f := by
  rw [← nf_shift s e j, ← nf_shift t f k, h, he]
/-- a normal form's number -/
def Nf.num (d : Nf) : Int := if d.neg then -(d.man : Int) else d.man
/-- it may stand as it is -/
def Nf.Ok (d : Nf) : Prop := (d.man = 0 ∧ d.neg = false ∧ d.exp = 0) ∨ d.man % 2 = 1
theorem nf_ok (s e : Int) : (nf s e).Ok := by
  by_cases h : s = 0
  · subst h; rw [nf_zero]; exact .inl ⟨rfl, rfl, rfl⟩
  · rw [nf_pos h]; exact .inr (odd_is (by omega)).1
theorem nf_self {d : Nf} (h : d.Ok) : nf d.num d.exp = d := by
  obtain ⟨b, m, e⟩ := d
  rcases h with ⟨h1, h2, h3⟩ | h
  · simp only at h1 h2 h3
    subst h1 h2 h3
    exact nf_zero 0
  · simp only at h
    have hm : m ≠ 0 := by omega
    have ht : tz m = 0 := tz_odd h
    have ho : odd m = m := by unfold odd; rw [ht]; simp
    unfold Nf.num
    cases b
    · simp only [Bool.false_eq_true, if_false]
      rw [nf_pos (by omega)]
      simp only [Int.natAbs_natCast, ho, ht]
      have e1 : decide ((m : Int) < 0) = false := decide_eq_false (by omega)
      rw [e1, Int.natCast_zero, Int.add_zero]
    · simp only [if_true]
      rw [nf_pos (by omega)]
      simp only [Int.natAbs_neg, Int.natAbs_natCast, ho, ht]
      have e1 : decide (-(m : Int) < 0) = true := decide_eq_true (by omega)
      rw [e1, Int.natCast_zero, Int.add_zero]
/-- the number that a form is of -/
theorem nf_back (s e : Int) (h : s ≠ 0) : s = (nf s e).num * 2 ^ tz s.natAbs ∧ (nf s e).exp = e + tz s.natAbs := by
  rw [nf_pos h]
  refine ⟨?_, rfl⟩
  have h1 := (odd_is (n := s.natAbs) (by omega)).2
  unfold Nf.num
  rcases (show s < 0 ∨ 0 < s by omega) with g | g
  · simp only [decide_eq_true g, if_true]
    have e1 : ((s.natAbs : Nat) : Int) = ((odd s.natAbs * 2 ^ tz s.natAbs : Nat) : Int) := by rw [← h1]
    push_cast at e1
    rw [Int.neg_mul, ← e1]
    omega
  · simp only [decide_eq_false (show ¬ s < 0 by omega), Bool.false_eq_true, if_false]
    have e1 : ((s.natAbs : Nat) : Int) = ((odd s.natAbs * 2 ^ tz s.natAbs : Nat) : Int) := by rw [← h1]
    push_cast at e1
    rw [← e1]
    omega

/-! ### sums, products -/
theorem pow_diff {e p q : Int} (h1 : q ≤ p) (h2 : p ≤ e) : (2 : Int) ^ (e - q).toNat = 2 ^ (e - p).toNat * 2 ^ (p - q).toNat := by
  rw [← Int.pow_add]
  congr 1
  omega
/-- a sum at a lower place is the same number -/
theorem sum_lower {s e t f p q : Int} (hq : q ≤ p) (he : p ≤ e) (hf : p ≤ f) : nf (s * 2 ^ (e - q).toNat + t * 2 ^ (f - q).toNat) q = nf (s * 2 ^ (e - p).toNat + t * 2 ^ (f - p).toNat) p := by
  have h := nf_shift (s * 2 ^ (e - p).toNat + t * 2 ^ (f - p).toNat) p (p - q).toNat
  rw [← h, pow_diff hq he, pow_diff hq hf]
  congr 1
  · grind
  · omega
theorem sumN_any {s e t f p q : Int} (p1 : p ≤ e) (p2 : p ≤ f) (q1 : q ≤ e) (q2 : q ≤ f) : nf (s * 2 ^ (e - p).toNat + t * 2 ^ (f - p).toNat) p = nf (s * 2 ^ (e - q).toNat + t * 2 ^ (f - q).toNat) q := by
  rcases (show p ≤ q ∨ q ≤ p by omega) with h | h
  · exact sum_lower h q1 q2
  · exact (sum_lower h p1 p2).symm
def sumN (a b : Nf) : Nf := nf (a.num * 2 ^ (a.exp - min a.exp b.exp).toNat + b.num * 2 ^ (b.exp - min a.exp b.exp).toNat) (min a.exp b.exp)
theorem nf_down {s e p : Int} (h : p ≤ e) : nf (s * 2 ^ (e - p).toNat) p = nf s e := by
  have := nf_shift s e (e - p).toNat
  rw [show e - ((e - p).toNat : Int) = p by omega] at this
  exact this
/-- the sum of two forms, at whatever place below both -/
theorem sumN_of {s e t f p : Int} (p1 : p ≤ e) (p2 : p ≤ f) : nf (s * 2 ^ (e - p).toNat + t * 2 ^ (f - p).toNat) p = sumN (nf s e) (nf t f) := by
  by_cases hs : s = 0
  · subst hs
    rw [Int.zero_mul, Int.zero_add, nf_down p2, nf_zero]
    unfold sumN
    have h0 : Nf.num ⟨false, 0, 0⟩ = 0 := rfl
    rw [h0, Int.zero_mul, Int.zero_add, nf_down (by simp only; omega), nf_self (nf_ok t f)]
  · by_cases ht : t = 0
    · subst ht
      rw [Int.zero_mul, Int.add_zero, nf_down p1, nf_zero]
      unfold sumN
      have h0 : Nf.num ⟨false, 0, 0⟩ = 0 := rfl
      rw [h0, Int.zero_mul, Int.add_zero, nf_down (by simp only; omega), nf_self (nf_ok s e)]
    · obtain ⟨a1, a2⟩ := nf_back s e hs
      obtain ⟨b1, b2⟩ := nf_back t f ht
      unfold sumN
      generalize nf s e = A at *
      generalize nf t f = C at *
      generalize tz s.natAbs = j at *
      generalize tz t.natAbs = k at *
      rw [← sumN_any (p := p) (q := min A.exp C.exp) (s := A.num) (e := A.exp) (t := C.num) (f := C.exp) (by omega) (by omega) (by omega) (by omega), a1, b1]
      congr 1
      rw [a2, b2, show (e + (j : Int) - p).toNat = j + (e - p).toNat by omega, show (f + (k : Int) - p).toNat = k + (f - p).toNat by omega, Int.pow_add, Int.pow_add]
      grind
def mulN (a b : Nf) : Nf := nf (a.num * b.num) (a.exp + b.exp)
theorem mulN_of (s e t f : Int) : nf (s * t) (e + f) = mulN (nf s e) (nf t f) := by
  unfold mulN
  by_cases hs : s = 0
  · subst hs
    rw [Int.zero_mul, nf_zero, nf_zero]
    have h0 : Nf.num ⟨false, 0, 0⟩ = 0 := rfl
    rw [h0, Int.zero_mul, nf_zero]
  · by_cases ht : t = 0
    · subst ht
      rw [Int.mul_zero, nf_zero, nf_zero]
      have h0 : Nf.num ⟨false, 0, 0⟩ = 0 := rfl
      rw [h0, Int.mul_zero, nf_zero]
    · obtain ⟨a1, a2⟩ := nf_back s e hs
      obtain ⟨b1, b2⟩ := nf_back t f ht
      generalize nf s e = A at *
      generalize nf t f = C at *
      generalize tz s.natAbs = j at *
      generalize tz t.natAbs = k at *
      refine nf_same (j := 0) (k := j + k) ?_ (by rw [a2, b2]; push_cast; omega)
      rw [a1, b1, Int.pow_add]
      grind
theorem sumN_comm (a b : Nf) : sumN a b = sumN b a := by
  unfold sumN
  rw [Int.min_comm a.exp b.exp, Int.add_comm]
theorem mulN_comm (a b : Nf) : mulN a b = mulN b a := by
  unfold mulN
  rw [Int.mul_comm, Int.add_comm]
theorem sumN_ok (a b : Nf) : (sumN a b).Ok := nf_ok _ _
theorem mulN_ok (a b : Nf) : (mulN a b).Ok := nf_ok _ _
/-- three numbers at one place -/
theorem sumN_assoc {a b c : Nf} (ha : a.Ok) (hb : b.Ok) (hc : c.Ok) : sumN (sumN a b) c = sumN a (sumN b c) := by
  obtain ⟨p, h1, h2, h3⟩ : ∃ p : Int, p ≤ a.exp ∧ p ≤ b.exp ∧ p ≤ c.exp := ⟨min a.exp (min b.exp c.exp), by omega, by omega, by omega⟩
  have e1 : sumN a b = nf (a.num * 2 ^ (a.exp - p).toNat + b.num * 2 ^ (b.exp - p).toNat) p := by rw [sumN_of h1 h2, nf_self ha, nf_self hb]
  have e2 : sumN b c = nf (b.num * 2 ^ (b.exp - p).toNat + c.num * 2 ^ (c.exp - p).toNat) p := by rw [sumN_of h2 h3, nf_self hb, nf_self hc]
  have r1 := sumN_of (s := a.num * 2 ^ (a.exp - p).toNat + b.num * 2 ^ (b.exp - p).toNat) (e := p) (t := c.num) (f := c.exp) (p := p) (Int.le_refl _) h3
  have r2 := sumN_of (s := a.num) (e := a.exp) (t := b.num * 2 ^ (b.exp - p).toNat + c.num * 2 ^ (c.exp - p).toNat) (f := p) (p := p) h1 (Int.le_refl _)
  rw [nf_self hc] at r1
  rw [nf_self ha] at r2
  rw [e1, e2, ← r1, ← r2]
  congr 1
  rw [Int.sub_self]
  simp only [Int.toNat_zero, Int.pow_zero, Int.mul_one]
  omega
theorem mulN_sum {a b c : Nf} (ha : a.Ok) (hb : b.Ok) (hc : c.Ok) : mulN (sumN a b) c = sumN (mulN a c) (mulN b c) := by
  obtain ⟨p, h1, h2⟩ : ∃ p : Int, p ≤ a.exp ∧ p ≤ b.exp := ⟨min a.exp b.exp, by omega, by omega⟩
  have e1 : sumN a b = nf (a.num * 2 ^ (a.exp - p).toNat + b.num * 2 ^ (b.exp - p).toNat) p := by rw [sumN_of h1 h2, nf_self ha, nf_self hb]
  have r1 := mulN_of (a.num * 2 ^ (a.exp - p).toNat + b.num * 2 ^ (b.exp - p).toNat) p c.num c.exp
  rw [nf_self hc] at r1
  have r2 := sumN_of (s := a.num * c.num) (e := a.exp + c.exp) (t := b.num * c.num) (f := b.exp + c.exp) (p := p + c.exp) (by omega) (by omega)
  rw [e1, ← r1]
  unfold mulN
  rw [← r2]
  congr 1
  rw [show (a.exp + c.exp - (p + c.exp)).toNat = (a.exp - p).toNat by omega, show (b.exp + c.exp - (p + c.exp)).toNat = (b.exp - p).toNat by omega]
  grind
def negN (a : Nf) : Nf := nf (-a.num) a.exp
theorem negN_of (s e : Int) : nf (-s) e = negN (nf s e) := by
  unfold negN
  by_cases hs : s = 0
  · subst hs
    rw [Int.neg_zero, nf_zero]
    have h0 : Nf.num ⟨false, 0, 0⟩ = 0 := rfl
    rw [h0, Int.neg_zero, nf_zero]
  · obtain ⟨a1, a2⟩ := nf_back s e hs
    generalize nf s e = A at *
    generalize tz s.natAbs = j at *
    refine nf_same (j := 0) (k := j) ?_ (by rw [a2]; omega)
    rw [a1]
    grind
end Go.Proofs.YtmfikppnkjhmjaaGreatDoor
