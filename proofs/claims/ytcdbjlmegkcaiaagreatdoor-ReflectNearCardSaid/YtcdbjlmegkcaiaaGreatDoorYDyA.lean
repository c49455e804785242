/-
  Layer 3, plain mathematics: numbers m times 2^k.
-/
namespace Go.Proofs.YtcdbjlmegkcaiaaGreatDoor
set_option linter.unusedVariables false

/-- how often 2 divides n (0 of 0) -/
def tz (n : Nat) : Nat := if h : n = 0 then 0 else if n % 2 = 1 then 0 else tz (n / 2) + 1
termination_by n
decreasing_by omega
theorem tz_zero : tz 0 = 0 := by rw [tz]; simp
theorem tz_odd {n : Nat} (h : n % 2 = 1) : tz n = 0 := by rw [tz]; simp [h]
theorem tz_double {n : Nat} (h : n ≠ 0) : tz (2 * n) = tz n + 1 := by
  rw [tz, dif_neg (by omega), if_neg (by omega)]
  congr 2
  omega
theorem tz_spec {n : Nat} (h : n ≠ 0) : ∃ m, m % 2 = 1 ∧ n = m * 2 ^ tz n := by
  induction n using Nat.strongRecOn with
  | _ n ih =>
    rcases (show n % 2 = 1 ∨ n % 2 = 0 by omega) with k | k
    · exact ⟨n, k, by rw [tz_odd k]; simp⟩
    · obtain ⟨j, rfl⟩ : ∃ j, n = 2 * j := ⟨n / 2, by omega⟩
      obtain ⟨m, h1, h2⟩ := ih j (by omega) (by omega)
      refine ⟨m, h1, ?_⟩
      rw [tz_double (by omega), Nat.pow_succ, ← Nat.mul_assoc, ← h2]
      omega
theorem tz_of {m k : Nat} (h : m % 2 = 1) : tz (m * 2 ^ k) = k := by
  induction k with
  | zero => simpa using tz_odd h
  | succ k ih =>
    have hp : 0 < 2 ^ k := Nat.pow_pos (by omega)
    have h0 : m * 2 ^ k ≠ 0 := Nat.mul_ne_zero (by omega) (by omega)
    have e : m * 2 ^ (k + 1) = 2 * (m * 2 ^ k) := by rw [Nat.pow_succ, ← Nat.mul_assoc, Nat.mul_comm]
    rw [e, tz_double h0, ih]
theorem tz_shift {n : Nat} (h : n ≠ 0) (k : Nat) : tz (n * 2 ^ k) = tz n + k := by
  obtain ⟨m, h1, h2⟩ := tz_spec h
  have e : n * 2 ^ k = m * 2 ^ (tz n + k) := by rw [Nat.pow_add, ← Nat.mul_assoc, ← h2]
  rw [e, tz_of h1]
/-- the odd part -/
def odd (n : Nat) : Nat := n / 2 ^ tz n
theorem odd_eq {m k : Nat} (h : m % 2 = 1) : odd (m * 2 ^ k) = m := by
  unfold odd
  rw [tz_of h, Nat.mul_div_cancel _ (Nat.pow_pos (by omega))]
theorem odd_is {n : Nat} (h : n ≠ 0) : odd n % 2 = 1 ∧ n = odd n * 2 ^ tz n := by
  obtain ⟨m, h1, h2⟩ := tz_spec h
  have : odd n = m := by
    have := odd_eq (k := tz n) h1
    rwa [← h2] at this
  rw [this]
  exact ⟨h1, h2⟩
theorem odd_shift {n : Nat} (h : n ≠ 0) (k : Nat) : odd (n * 2 ^ k) = odd n := by
  obtain ⟨m, h1, h2⟩ := tz_spec h
  have e : n * 2 ^ k = m * 2 ^ (tz n + k) := by rw [Nat.pow_add, ← Nat.mul_assoc, ← h2]
  rw [e, odd_eq h1]
  have := odd_eq (k := tz n) h1
  rw [← h2] at this
  exact this.symm
theorem odd_le (n : Nat) : odd n ≤ n := Nat.div_le_self _ _

/-- a normal form: is it below 0, its odd number (0 of 0), its place -/
structure Nf where
  neg : Bool
  man : Nat
  exp : Int
def nf (s : Int) (e : Int) : Nf := if s = 0 then ⟨false, 0, 0⟩ else ⟨decide (s < 0), odd s.natAbs, e + tz s.natAbs⟩
theorem nf_zero (e : Int) : nf 0 e = ⟨false, 0, 0⟩ := by unfold nf; rw [if_pos rfl]
theorem nf_pos {s e : Int} (h : s ≠ 0) : nf s e = ⟨decide (s < 0), odd s.natAbs, e + tz s.natAbs⟩ := by unfold nf; rw [if_neg h]
theorem natAbs_shift (s : Int) (k : Nat) : (s * 2 ^ k).natAbs = s.natAbs * 2 ^ k := by
  rw [Int.natAbs_mul, Int.natAbs_pow]
  rfl
theorem nf_shift (s e : Int) (k : Nat) : nf (s * 2 ^ k) (e - k) = nf s e := by
  have hp : (0 : Int) < 2 ^ k := Int.pow_pos (by omega)
  by_cases h : s = 0
  · subst h
    rw [Int.zero_mul, nf_zero, nf_zero]
  · have h2 : s * 2 ^ k ≠ 0 := Int.mul_ne_zero h (by omega)
    rw [nf_pos h2, nf_pos h, natAbs_shift, odd_shift (by omega), tz_shift (by omega)]
    have e1 : decide (s * 2 ^ k < 0) = decide (s < 0) := by
      apply decide_eq_decide.2
      constructor
      · intro h3
        rcases (show s < 0 ∨ 0 < s by omega) with h4 | h4
        · exact h4
        · have := Int.mul_pos h4 hp; omega
      · intro h3
        exact Int.mul_neg_of_neg_of_pos h3 hp
    rw [e1]
    congr 1
    push_cast
    omega
/-- two forms of one number -/
theorem nf_same {s t e f : Int} {j k : Nat} (h : s * 2 ^ j = t * 2 ^ k) (he : e - j = f - k) : nf s e = nf t f := by
  rw [← nf_shift s e j, ← nf_shift t f k, h, he]
/-- a normal form's number -/
def Nf.num (d : Nf) : Int := if d.neg then -(d.man : Int) else d.man
/-- it may stand as it is -/
def Nf.Ok (d : Nf) : Prop := (d.man = 0 ∧ d.neg = false ∧ d.exp = 0) ∨ d.man % 2 = 1
theorem nf_ok (s e : Int) : (nf s e).Ok := by
  by_cases h : s = 0
  · subst h; rw [nf_zero]; exact .inl ⟨rfl, rfl, rfl⟩
  · rw [nf_pos h]; exact .inr (odd_is (by omega)).1
theorem nf_self {d : Nf} (h : d.Ok) : nf d.num d.exp = d := by
  obtain ⟨b, m, e⟩ := d
  rcases h with ⟨h1, h2, h3⟩ | h
  · simp only at h1 h2 h3
    subst h1 h2 h3
    exact nf_zero 0
  · simp only at h
    have hm : m ≠ 0 := by omega
    have ht : tz m = 0 := tz_odd h
    have ho : odd m = m := by unfold odd; rw [ht]; simp
    unfold Nf.num
    cases b
    · simp only [Bool.false_eq_true, if_false]
      rw [nf_pos (by omega)]
      simp only [Int.natAbs_natCast, ho, ht]
      have e1 : decide ((m : Int) < 0) = false := decide_eq_false (by omega)
      rw [e1, Int.natCast_zero, Int.add_zero]
    · simp only [if_true]
      rw [nf_pos (by omega)]
      simp only [Int.natAbs_neg, Int.natAbs_natCast, ho, ht]
      have e1 : decide (-(m : Int) < 0) = true := decide_eq_true (by omega)
      rw [e1, Int.natCast_zero, Int.add_zero]
/-- the number that a form is of -/
theorem nf_back (s e : Int) (h : s ≠ 0) : s = (nf s e).num * 2 ^ tz s.natAbs ∧ (nf s e).exp = e + tz s.natAbs := by
  rw [nf_pos h]
  refine ⟨?_, rfl⟩
  have h1 := (odd_is (n := s.natAbs) (by omega)).2
  unfold Nf.num
  rcases (show s < 0 ∨ 0 < s by omega) with g | g
  · simp only [decide_eq_true g, if_true]
    have e1 : ((s.natAbs : Nat) : Int) = ((odd s.natAbs * 2 ^ tz s.natAbs : Nat) : Int) := by rw [← h1]
    push_cast at e1
    rw [Int.neg_mul, ← e1]
    omega
  · simp only [decide_eq_false (show ¬ s < 0 by omega), Bool.false_eq_true, if_false]
    have e1 : ((s.natAbs : Nat) : Int) = ((odd s.natAbs * 2 ^ tz s.natAbs : Nat) : Int) := by rw [← h1]
    push_cast at e1
    rw [← e1]
    omega

/-! ### sums, products -/
theorem pow_diff {e p q : Int} (h1 : q ≤ p) (h2 : p ≤ e) : (2 : Int) ^ (e - q).toNat = 2 ^ (e - p).toNat * 2 ^ (p - q).toNat := by
  rw [← Int.pow_add]
  congr 1
  omega
/-- a sum at a lower place is the same number -/
theorem sum_lower {s e t f p q : Int} (hq : q ≤ p) (he : p ≤ e) (hf : p ≤ f) : nf (s * 2 ^ (e - q).toNat + t * 2 ^ (f - q).toNat) q = nf (s * 2 ^ (e - p).toNat + t * 2 ^ (f - p).toNat) p := by
  have h := nf_shift (s * 2 ^ (e - p).toNat + t * 2 ^ (f - p).toNat) p (p - q).toNat
  rw [← h, pow_diff hq he, pow_diff hq hf]
  congr 1
  · grind
  · omega
theorem sumN_any {s e t f p q : Int} (p1 : p ≤ e) (p2 : p ≤ f) (q1 : q ≤ e) (q2 : q ≤ f) : nf (s * 2 ^ (e - p).toNat + t * 2 ^ (f - p).toNat) p = nf (s * 2 ^ (e - q).toNat + t * 2 ^ (f - q).toNat) q := by
  rcases (show p ≤ q ∨ q ≤ p by omega) with h | h
  · exact sum_lower h q1 q2
  · exact (sum_lower h p1 p2).symm
def sumN (a b : Nf) : Nf := nf (a.num * 2 ^ (a.exp - min a.exp b.exp).toNat + b.num * 2 ^ (b.exp - min a.exp b.exp).toNat) (min a.exp b.exp)
theorem nf_down {s e p : Int} (h : p ≤ e) : nf (s * 2 ^ (e - p).toNat) p = nf s e := by
  have := nf_shift s e (e - p).toNat
  rw [show e - ((e - p).toNat : Int) = p by omega] at this
  exact this
/-- the sum of two forms, at whatever place below both -/
theorem sumN_of {s e t f p : Int} (p1 : p ≤ e) (p2 : p ≤ f) : nf (s * 2 ^ (e - p).toNat + t * 2 ^ (f - p).toNat) p = sumN (nf s e) (nf t f) := by
  by_cases hs : s = 0
  · subst hs
    rw [Int.zero_mul, Int.zero_add, nf_down p2, nf_zero]
    unfold sumN
    have h0 : Nf.num ⟨false, 0, 0⟩ = 0 := rfl
    rw [h0, Int.zero_mul, Int.zero_add, nf_down (by simp only; omega), nf_self (nf_ok t f)]
  · by_cases ht : t = 0
    · subst ht
      rw [Int.zero_mul, Int.add_zero, nf_down p1, nf_zero]
      unfold sumN
      have h0 : Nf.num ⟨false, 0, 0⟩ = 0 := rfl
      rw [h0, Int.zero_mul, Int.add_zero, nf_down (by simp only; omega), nf_self (nf_ok s e)]
    · obtain ⟨a1, a2⟩ := nf_back s e hs
      obtain ⟨b1, b2⟩ := nf_back t f ht
      unfold sumN
      generalize nf s e = A at *
      generalize nf t f = C at *
      generalize tz s.natAbs = j at *
      generalize tz t.natAbs = k at *
      rw [← sumN_any (p := p) (q := min A.exp C.exp) (s := A.num) (e := A.exp) (t := C.num) (f := C.exp) (by omega) (by omega) (by omega) (by omega), a1, b1]
      congr 1
      rw [a2, b2, show (e + (j : Int) - p).toNat = j + (e - p).toNat by omega, show (f + (k : Int) - p).toNat = k + (f - p).toNat by omega, Int.pow_add, Int.pow_add]
      grind
def mulN (a b : Nf) : Nf := nf (a.num * b.num) (a.exp + b.exp)
theorem mulN_of (s e t f : Int) : nf (s * t) (e + f) = mulN (nf s e) (nf t f) := by
  unfold mulN
  by_cases hs : s = 0
  · subst hs
    rw [Int.zero_mul, nf_zero, nf_zero]
    have h0 : Nf.num ⟨false, 0, 0⟩ = 0 := rfl
    rw [h0, Int.zero_mul, nf_zero]
  · by_cases ht : t = 0
    · subst ht
      rw [Int.mul_zero, nf_zero, nf_zero]
      have h0 : Nf.num ⟨false, 0, 0⟩ = 0 := rfl
      rw [h0, Int.mul_zero, nf_zero]
    · obtain ⟨a1, a2⟩ := nf_back s e hs
      obtain ⟨b1, b2⟩ := nf_back t f ht
      generalize nf s e = A at *
      generalize nf t f = C at *
      generalize tz s.natAbs = j at *
      generalize tz t.natAbs = k at *
      refine nf_same (j := 0) (k := j + k) ?_ (by rw [a2, b2]; push_cast; omega)
      rw [a1, b1, Int.pow_add]
      grind
theorem sumN_comm (a b : Nf) : sumN a b = sumN b a := by
  unfold sumN
  rw [Int.min_comm a.exp b.exp, Int.add_comm]
theorem mulN_comm (a b : Nf) : mulN a b = mulN b a := by
  unfold mulN
  rw [Int.mul_comm, Int.add_comm]
theorem sumN_ok (a b : Nf) : (sumN a b).Ok := nf_ok _ _
theorem mulN_ok (a b : Nf) : (mulN a b).Ok := nf_ok _ _
/-- three numbers at one place -/
theorem sumN_assoc {a b c : Nf} (ha : a.Ok) (hb : b.Ok) (hc : c.Ok) : sumN (sumN a b) c = sumN a (sumN b c) := by
  obtain ⟨p, h1, h2, h3⟩ : ∃ p : Int, p ≤ a.exp ∧ p ≤ b.exp ∧ p ≤ c.exp := ⟨min a.exp (min b.exp c.exp), by omega, by omega, by omega⟩
  have e1 : sumN a b = nf (a.num * 2 ^ (a.exp - p).toNat + b.num * 2 ^ (b.exp - p).toNat) p := by rw [sumN_of h1 h2, nf_self ha, nf_self hb]
  have e2 : sumN b c = nf (b.num * 2 ^ (b.exp - p).toNat + c.num * 2 ^ (c.exp - p).toNat) p := by rw [sumN_of h2 h3, nf_self hb, nf_self hc]
  have r1 := sumN_of (s := a.num * 2 ^ (a.exp - p).toNat + b.num * 2 ^ (b.exp - p).toNat) (e := p) (t := c.num) (f := c.exp) (p := p) (Int.le_refl _) h3
  have r2 := sumN_of (s := a.num) (e := a.exp) (t := b.num * 2 ^ (b.exp - p).toNat + c.num * 2 ^ (c.exp - p).toNat) (f := p) (p := p) h1 (Int.le_refl _)
  rw [nf_self hc] at r1
  rw [nf_self ha] at r2
  rw [e1, e2, ← r1, ← r2]
  congr 1
  rw [Int.sub_self]
  simp only [Int.toNat_zero, Int.pow_zero, Int.mul_one]
  omega
theorem mulN_sum {a b c : Nf} (ha : a.Ok) (hb : b.Ok) (hc : c.Ok) : mulN (sumN a b) c = sumN (mulN a c) (mulN b c) := by
  obtain ⟨p, h1, h2⟩ : ∃ p : Int, p ≤ a.exp ∧ p ≤ b.exp := ⟨min a.exp b.exp, by omega, by omega⟩
  have e1 : sumN a b = nf (a.num * 2 ^ (a.exp - p).toNat + b.num * 2 ^ (b.exp - p).toNat) p := by rw [sumN_of h1 h2, nf_self ha, nf_self hb]
  have r1 := mulN_of (a.num * 2 ^ (a.exp - p).toNat + b.num * 2 ^ (b.exp - p).toNat) p c.num c.exp
  rw [nf_self hc] at r1
  have r2 := sumN_of (s := a.num * c.num) (e := a.exp + c.exp) (t := b.num * c.num) (f := b.exp + c.exp) (p := p + c.exp) (by omega) (by omega)
  rw [e1, ← r1]
  unfold mulN
  rw [← r2]
  congr 1
  rw [show (a.exp + c.exp - (p + c.exp)).toNat = (a.exp - p).toNat by omega, show (b.exp + c.exp - (p + c.exp)).toNat = (b.exp - p).toNat by omega]
  grind
def negN (a : Nf) : Nf := nf (-a.num) a.exp
theorem negN_of (s e : Int) : nf (-s) e = negN (nf s e) := by
  unfold negN
  by_cases hs : s = 0
  · subst hs
    rw [Int.neg_zero, nf_zero]
    have h0 : Nf.num ⟨false, 0, 0⟩ = 0 := rfl
    rw [h0, Int.neg_zero, nf_zero]
  · obtain ⟨a1, a2⟩ := nf_back s e hs
    generalize nf s e = A at *
    generalize tz s.natAbs = j at *
    refine nf_same (j := 0) (k := j) ?_ (by rw [a2]; omega)
    rw [a1]
    grind
end Go.Proofs.YtcdbjlmegkcaiaaGreatDoor
namespace Go.Proofs.YtcdbjlmegkcaiaaGreatDoor
set_option linter.unusedVariables false

/-- the number 0 -/
def zeroN : Nf := ⟨false, 0, 0⟩
theorem zeroN_ok : zeroN.Ok := .inl ⟨rfl, rfl, rfl⟩
/-- the form of what is handed in: below 0?, its size, its place -/
def nfl (b : Bool) (v : Int) (e : Int) : Nf := nf (if b then -v else v) e
theorem nfl_ok (b : Bool) (v e : Int) : (nfl b v e).Ok := nf_ok _ _
theorem nfl_zero (b : Bool) (e : Int) : nfl b 0 e = zeroN := by unfold nfl; cases b <;> exact nf_zero e
theorem nfl_self {d : Nf} (h : d.Ok) : nfl d.neg d.man d.exp = d := nf_self h
/-- one that is written out -/
theorem nfl_is {b : Bool} {v e : Int} {m k : Nat} (hm : m % 2 = 1) (hv : v = (m : Int) * 2 ^ k) : nfl b v e = ⟨b, m, e + k⟩ := by
  have h := nf_same (s := if b then -v else v) (e := e) (t := if b then -(m : Int) else m) (f := e + k) (j := 0) (k := k) (by subst hv; cases b <;> simp <;> grind) (by omega)
  unfold nfl
  rw [h]
  have := nfl_self (d := ⟨b, m, e + k⟩) (.inr hm)
  exact this
theorem nfl_pos {b : Bool} {v e : Int} (h : 0 < v) : nfl b v e = ⟨b, odd v.toNat, e + tz v.toNat⟩ := by
  have h1 := odd_is (n := v.toNat) (by omega)
  have h2 := congrArg (fun n : Nat => (n : Int)) h1.2
  push_cast at h2
  exact nfl_is h1.1 (by omega)
theorem nfl_man0 {b : Bool} {v e : Int} (h0 : 0 ≤ v) : (nfl b v e).man = 0 ↔ v = 0 := by
  constructor
  · intro h
    rcases (show v = 0 ∨ 0 < v by omega) with h1 | h1
    · exact h1
    · rw [nfl_pos h1] at h
      have := (odd_is (n := v.toNat) (by omega)).1
      simp only at h
      omega
  · intro h; subst h; rw [nfl_zero]; rfl

/-- within bounds: a multiple of 2^p, and below 2^q -/
def Nf.In (d : Nf) (p q : Int) : Prop := d.man = 0 ∨ (p ≤ d.exp ∧ d.exp ≤ q ∧ (d.man : Int) < 2 ^ (q - d.exp).toNat)
theorem zeroN_in (p q : Int) : zeroN.In p q := .inl rfl
theorem Nf.In.mono {d : Nf} {p q p' q' : Int} (h : d.In p q) (hp : p' ≤ p) (hq : q ≤ q') : d.In p' q' := by
  rcases h with h | ⟨h1, h2, h3⟩
  · exact .inl h
  · refine .inr ⟨by omega, by omega, Int.lt_of_lt_of_le h3 ?_⟩
    rw [show (q' - d.exp).toNat = (q - d.exp).toNat + (q' - q).toNat by omega, Int.pow_add]
    have a := Int.pow_pos (n := (2 : Int)) (m := (q - d.exp).toNat) (by omega)
    have b := Int.pow_pos (n := (2 : Int)) (m := (q' - q).toNat) (by omega)
    have := Int.mul_le_mul_of_nonneg_left (show 1 ≤ (2 : Int) ^ (q' - q).toNat by omega) (Int.le_of_lt a)
    omega
theorem pw_mono {a b : Nat} (h : a ≤ b) : (2 : Int) ^ a ≤ 2 ^ b := by
  obtain ⟨k, rfl⟩ := Nat.exists_eq_add_of_le h
  rw [Int.pow_add]
  have h1 := Int.pow_pos (n := (2 : Int)) (m := a) (by omega)
  have h2 := Int.pow_pos (n := (2 : Int)) (m := k) (by omega)
  have := Int.mul_le_mul_of_nonneg_left (show 1 ≤ (2 : Int) ^ k by omega) (Int.le_of_lt h1)
  omega
theorem Nf.In.lt {d : Nf} {p q : Int} (h : d.In p q) (hpq : p ≤ q) : (d.man : Int) < 2 ^ (q - p).toNat := by
  rcases h with h | ⟨h1, h2, h3⟩
  · rw [h]; exact Int.pow_pos (by omega)
  · exact Int.lt_of_lt_of_le h3 (pw_mono (by omega))
theorem Nf.In.exp {d : Nf} {p q : Int} (h : d.In p q) (hm : d.man ≠ 0) : p ≤ d.exp ∧ d.exp ≤ q := by
  rcases h with h | ⟨h1, h2, h3⟩
  · exact absurd h hm
  · exact ⟨h1, h2⟩
/-- a form of a number that is below 2^q, at place p -/
theorem nf_in {s p q : Int} (hpq : p ≤ q) (h : (s.natAbs : Int) < 2 ^ (q - p).toNat) : (nf s p).In p q := by
  by_cases hs : s = 0
  · subst hs; rw [nf_zero]; exact .inl rfl
  · rw [nf_pos hs]
    obtain ⟨h1, h2⟩ := odd_is (n := s.natAbs) (by omega)
    have h3 : ((odd s.natAbs : Nat) : Int) * 2 ^ tz s.natAbs < 2 ^ (q - p).toNat := by
      have h4 := congrArg (fun n : Nat => (n : Int)) h2
      push_cast at h4
      rw [h4] at h
      exact h
    generalize odd s.natAbs = o at *
    generalize tz s.natAbs = t at *
    have ho : (1 : Int) ≤ o := by omega
    have ht : (t : Nat) < (q - p).toNat := by
      rcases Nat.lt_or_ge t (q - p).toNat with g | g
      · exact g
      · have := pw_mono g
        have a := Int.pow_pos (n := (2 : Int)) (m := t) (by omega)
        have := Int.mul_le_mul_of_nonneg_right ho (Int.le_of_lt a)
        omega
    refine .inr ⟨by simp only; omega, by simp only; omega, ?_⟩
    simp only
    have e : (q - p).toNat = (q - (p + (t : Int))).toNat + t := by omega
    rw [e, Int.pow_add] at h3
    have a := Int.pow_pos (n := (2 : Int)) (m := t) (by omega)
    exact Int.lt_of_mul_lt_mul_right h3 (Int.le_of_lt a)
theorem nfl_in {b : Bool} {v e q : Int} (h0 : 0 ≤ v) (hq : e ≤ q) (h : v < 2 ^ (q - e).toNat) : (nfl b v e).In e q := by
  unfold nfl
  refine nf_in hq ?_
  cases b
  · simp only [Bool.false_eq_true, if_false]; omega
  · simp only [if_true]; omega
theorem Nf.num_abs (d : Nf) : (d.num.natAbs : Int) = d.man := by
  unfold Nf.num
  split <;> simp
/-- a number's size in steps of a place below it -/
theorem Nf.In.steps {d : Nf} {p q : Int} (h : d.In p q) (hpq : p ≤ q) {r : Int} (hr : r ≤ d.exp) (hp : p ≤ r) : (d.man : Int) * 2 ^ (d.exp - r).toNat < 2 ^ (q - r).toNat := by
  rcases h with h | ⟨h1, h2, h3⟩
  · rw [h]; simp; exact Int.pow_pos (by omega)
  · rw [show (q - r).toNat = (q - d.exp).toNat + (d.exp - r).toNat by omega, Int.pow_add]
    exact Int.mul_lt_mul_of_pos_right h3 (Int.pow_pos (by omega))
theorem abs_sum {s t u v : Int} (h1 : (s.natAbs : Int) < u) (h2 : (t.natAbs : Int) < v) : ((s + t).natAbs : Int) < u + v := by omega
theorem abs_pow (s : Int) (k : Nat) : ((s * 2 ^ k).natAbs : Int) = (s.natAbs : Int) * 2 ^ k := by
  rw [natAbs_shift]; push_cast; rfl
theorem sumN_in {a b : Nf} {p q : Int} (ha : a.Ok) (hb : b.Ok) (h : a.In p q) (k : b.In p q) (hpq : p ≤ q) : (sumN a b).In p (q + 1) := by
  by_cases h0 : a.man = 0
  · have : a = zeroN := by
      obtain ⟨n, m, e⟩ := a
      rcases ha with ⟨_, h2, h3⟩ | h1
      · simp only at h0 h2 h3; subst h0 h2 h3; rfl
      · simp only at h0 h1; omega
    subst this
    have e : sumN zeroN b = b := by
      have := sumN_of (s := 0) (e := b.exp) (t := b.num) (f := b.exp) (p := b.exp) (Int.le_refl _) (Int.le_refl _)
      rw [nf_zero, nf_self hb] at this
      have e2 : (⟨false, 0, 0⟩ : Nf) = zeroN := rfl
      rw [e2] at this
      rw [← this, Int.zero_mul, Int.zero_add, nf_down (Int.le_refl _), nf_self hb]
    rw [e]
    exact k.mono (Int.le_refl _) (by omega)
  · by_cases k0 : b.man = 0
    · have : b = zeroN := by
        obtain ⟨n, m, e⟩ := b
        rcases hb with ⟨_, h2, h3⟩ | h1
        · simp only at k0 h2 h3; subst k0 h2 h3; rfl
        · simp only at k0 h1; omega
      subst this
      have e : sumN a zeroN = a := by
        have := sumN_of (s := a.num) (e := a.exp) (t := 0) (f := a.exp) (p := a.exp) (Int.le_refl _) (Int.le_refl _)
        rw [nf_zero, nf_self ha] at this
        have e2 : (⟨false, 0, 0⟩ : Nf) = zeroN := rfl
        rw [e2] at this
        rw [← this, Int.zero_mul, Int.add_zero, nf_down (Int.le_refl _), nf_self ha]
      rw [e]
      exact h.mono (Int.le_refl _) (by omega)
    · have xa := h.exp h0
      have xb := k.exp k0
      have hm : p ≤ min a.exp b.exp := by omega
      have s1 := h.steps hpq (r := min a.exp b.exp) (by omega) hm
      have s2 := k.steps hpq (r := min a.exp b.exp) (by omega) hm
      unfold sumN
      refine (nf_in (q := q + 1) (by omega) ?_).mono hm (Int.le_refl _)
      rw [show (q + 1 - min a.exp b.exp).toNat = (q - min a.exp b.exp).toNat + 1 by omega, Int.pow_succ]
      have := abs_sum (s := a.num * 2 ^ (a.exp - min a.exp b.exp).toNat) (t := b.num * 2 ^ (b.exp - min a.exp b.exp).toNat) (by rw [abs_pow, Nf.num_abs]; exact s1) (by rw [abs_pow, Nf.num_abs]; exact s2)
      omega
theorem mulN_in {a b : Nf} {p q p' q' : Int} (h : a.In p q) (k : b.In p' q') : (mulN a b).In (p + p') (q + q') := by
  rcases h with h | ⟨h1, h2, h3⟩
  · have e : a.num = 0 := by unfold Nf.num; rw [h]; split <;> rfl
    unfold mulN
    rw [e, Int.zero_mul, nf_zero]
    exact .inl rfl
  · rcases k with k | ⟨k1, k2, k3⟩
    · have e : b.num = 0 := by unfold Nf.num; rw [k]; split <;> rfl
      unfold mulN
      rw [e, Int.mul_zero, nf_zero]
      exact .inl rfl
    · unfold mulN
      refine (nf_in (q := q + q') (by omega) ?_).mono (by omega) (Int.le_refl _)
      rw [show (q + q' - (a.exp + b.exp)).toNat = (q - a.exp).toNat + (q' - b.exp).toNat by omega, Int.pow_add, Int.natAbs_mul]
      push_cast
      rw [Nf.num_abs, Nf.num_abs]
      have x := Int.pow_pos (n := (2 : Int)) (m := (q - a.exp).toNat) (by omega)
      have y := Int.pow_pos (n := (2 : Int)) (m := (q' - b.exp).toNat) (by omega)
      generalize (2 : Int) ^ (q - a.exp).toNat = P at *
      generalize (2 : Int) ^ (q' - b.exp).toNat = Q at *
      have m0 : (0 : Int) ≤ a.man := by omega
      have m1 : (0 : Int) ≤ b.man := by omega
      generalize (a.man : Int) = u at *
      generalize (b.man : Int) = v at *
      calc u * v ≤ u * Q := Int.mul_le_mul_of_nonneg_left (by omega) m0
        _ < P * Q := Int.mul_lt_mul_of_pos_right h3 y
theorem neg_man (d : Nf) : (negN d).man = d.man ∧ (negN d).exp = d.exp ∨ ¬ d.Ok := by
  by_cases h : d.Ok
  · left
    unfold negN
    obtain ⟨n, m, e⟩ := d
    by_cases h0 : m = 0
    · subst h0
      rcases h with ⟨_, h2, h3⟩ | h1
      · simp only at h2 h3; subst h2 h3; exact ⟨rfl, rfl⟩
      · simp only at h1; omega
    · have hm : m % 2 = 1 := by
        rcases h with ⟨h1, _⟩ | h1
        · exact absurd h1 h0
        · exact h1
      have := nfl_self (d := ⟨!n, m, e⟩) (.inr hm)
      unfold nfl at this
      have e2 : -(Nf.num ⟨n, m, e⟩) = if (!n) = true then -(m : Int) else m := by
        unfold Nf.num; cases n <;> simp
      rw [e2]
      simp only at this
      rw [this]
      exact ⟨rfl, rfl⟩
  · exact .inr h
theorem negN_in {d : Nf} {p q : Int} (hd : d.Ok) (h : d.In p q) : (negN d).In p q := by
  rcases neg_man d with ⟨e1, e2⟩ | h1
  · unfold Nf.In; rw [e1, e2]; exact h
  · exact absurd hd h1
theorem negN_ok (d : Nf) : (negN d).Ok := nf_ok _ _
theorem negN_is {n : Bool} {m : Nat} {e : Int} (h : m % 2 = 1) : negN ⟨n, m, e⟩ = ⟨!n, m, e⟩ := by
  have := nfl_self (d := ⟨!n, m, e⟩) (.inr h)
  unfold nfl at this
  have e2 : -(Nf.num ⟨n, m, e⟩) = if (!n) = true then -(m : Int) else m := by
    unfold Nf.num; cases n <;> simp
  unfold negN
  rw [e2]
  exact this
theorem negN_zero : negN zeroN = zeroN := by
  unfold negN
  rw [show -(Nf.num zeroN) = 0 from rfl]
  exact nf_zero _
/-- the number without its sign -/
def absN (d : Nf) : Nf := ⟨false, d.man, d.exp⟩
theorem absN_ok {d : Nf} (h : d.Ok) : (absN d).Ok := by
  rcases h with ⟨h1, h2, h3⟩ | h1
  · exact .inl ⟨h1, rfl, h3⟩
  · exact .inr h1
theorem ok_zero {d : Nf} (h : d.Ok) (h0 : d.man = 0) : d = zeroN := by
  obtain ⟨n, m, e⟩ := d
  rcases h with ⟨_, h2, h3⟩ | h1
  · simp only at h0 h2 h3; subst h0 h2 h3; rfl
  · simp only at h0 h1; omega
theorem ok_odd {d : Nf} (h : d.Ok) (h0 : d.man ≠ 0) : d.man % 2 = 1 := by
  rcases h with ⟨h1, _⟩ | h1
  · exact absurd h1 h0
  · exact h1
/-- a sum with 0 -/
theorem sumN_zero_left {b : Nf} (hb : b.Ok) : sumN zeroN b = b := by
  have := sumN_of (s := 0) (e := b.exp) (t := b.num) (f := b.exp) (p := b.exp) (Int.le_refl _) (Int.le_refl _)
  rw [nf_zero, nf_self hb] at this
  have e2 : (⟨false, 0, 0⟩ : Nf) = zeroN := rfl
  rw [e2] at this
  rw [← this, Int.zero_mul, Int.zero_add, nf_down (Int.le_refl _), nf_self hb]
theorem sumN_zero_right {a : Nf} (ha : a.Ok) : sumN a zeroN = a := by rw [sumN_comm, sumN_zero_left ha]
theorem mulN_zero_left (b : Nf) : mulN zeroN b = zeroN := by
  unfold mulN
  rw [show Nf.num zeroN = 0 from rfl, Int.zero_mul, nf_zero]
  rfl
theorem mulN_zero_right (a : Nf) : mulN a zeroN = zeroN := by rw [mulN_comm, mulN_zero_left]

/-! ### what is answered: a number, and an error's number -/
def okE (e : Int) : Bool := decide (-262144 ≤ e) && decide (e ≤ 262144)
theorem okE_true {e : Int} (h0 : -262144 ≤ e) (h1 : e ≤ 262144) : okE e = true := by unfold okE; simp [h0, h1]
theorem okE_iff (e : Int) : okE e = true ↔ -262144 ≤ e ∧ e ≤ 262144 := by unfold okE; simp
theorem okE_false {e : Int} : okE e = false ↔ e < -262144 ∨ 262144 < e := by
  rw [← Bool.not_eq_true, okE_iff]; omega
def doneR (d : Nf) : Nf × Int := if okE d.exp = true then (d, 0) else (zeroN, 3)
theorem doneR_ok {d : Nf} (h : d.Ok) : (doneR d).1.Ok := by unfold doneR; split; exact h; exact zeroN_ok
theorem doneR_yes {d : Nf} (h : okE d.exp = true) : doneR d = (d, 0) := by unfold doneR; rw [if_pos h]
theorem doneR_no {d : Nf} (h : okE d.exp = false) : doneR d = (zeroN, 3) := by unfold doneR; rw [if_neg (by rw [h]; decide)]
theorem doneR_zero : doneR zeroN = (zeroN, 0) := rfl
theorem doneR_in {d : Nf} {p q : Int} (h : d.In p q) : (doneR d).1.In p q := by unfold doneR; split; exact h; exact .inl rfl
def farB (a b : Nf) : Bool := decide (262144 < a.exp - b.exp) || decide (262144 < b.exp - a.exp)
def farN (a b : Nf) : Bool := !(decide (a.man = 0) || decide (b.man = 0)) && farB a b
def addR (a b : Nf) : Nf × Int := if farN a b = true then (zeroN, 3) else doneR (sumN a b)
def mulR (a b : Nf) : Nf × Int := doneR (mulN a b)
def sgn (d : Nf) : Int := if d.man = 0 then 0 else if d.neg then -1 else 1
/-- with both handed in -/
def may2 (e f : Int) : Bool := okE e && okE f
def addQ (e f : Int) (a b : Nf) : Nf × Int := if may2 e f = true then addR a b else (zeroN, 2)
def mulQ (e f : Int) (a b : Nf) : Nf × Int := if may2 e f = true then mulR a b else (zeroN, 2)
theorem far_near {a b : Nf} {p q : Int} (h : a.In p q) (k : b.In p q) (hq : q - p ≤ 262144) : farN a b = false := by
  unfold farN farB
  by_cases h0 : a.man = 0
  · simp [h0]
  · by_cases k0 : b.man = 0
    · simp [k0]
    · have := h.exp h0
      have := k.exp k0
      simp
      intro _ _
      exact ⟨by omega, by omega⟩
theorem addR_near {a b : Nf} {p q : Int} (h : a.In p q) (k : b.In p q) (hq : q - p ≤ 262144) : addR a b = doneR (sumN a b) := by
  unfold addR; rw [far_near h k hq]; rfl
theorem addR_ok {a b : Nf} : (addR a b).1.Ok := by unfold addR; split; exact zeroN_ok; exact doneR_ok (sumN_ok _ _)
/-- within what may be -/
theorem in_okE {d : Nf} {p q : Int} (hd : d.Ok) (h : d.In p q) (hp : -262144 ≤ p) (hq : q ≤ 262144) : okE d.exp = true := by
  rw [okE_iff]
  by_cases h0 : d.man = 0
  · rw [ok_zero hd h0]; exact ⟨by decide, by decide⟩
  · have := h.exp h0; omega
theorem doneR_near {d : Nf} {p q : Int} (hd : d.Ok) (h : d.In p q) (hp : -262144 ≤ p) (hq : q ≤ 262144) : doneR d = (d, 0) := doneR_yes (in_okE hd h hp hq)
end Go.Proofs.YtcdbjlmegkcaiaaGreatDoor
