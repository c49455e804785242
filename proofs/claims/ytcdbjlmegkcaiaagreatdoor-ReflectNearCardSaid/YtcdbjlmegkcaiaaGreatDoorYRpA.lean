/-
  Layer 9, plain mathematics: errors of sums, reflections.
-/
namespace Go.Rt
set_option linter.unusedVariables false
/-- one unit of error -/
def Gu : Rat := 9007199254739968/9007199254739967
/-- several -/
def Gp : Nat → Rat
  | 0 => 1
  | k + 1 => Gp k * Gu
theorem Gu_one : 1 ≤ Gu := by unfold Gu; decide +kernel
theorem Gp_one : ∀ k, 1 ≤ Gp k
  | 0 => by show (1 : Rat) ≤ 1; exact Rat.le_refl
  | k + 1 => by
    have h := Gp_one k
    have g := Gu_one
    have := Rat.mul_le_mul_of_nonneg_left g (show (0 : Rat) ≤ Gp k by grind)
    show 1 ≤ Gp k * Gu
    grind
theorem Gp_nonneg (k : Nat) : 0 ≤ Gp k := by have := Gp_one k; grind
theorem Gp_pos (k : Nat) : 0 < Gp k := by have := Gp_one k; grind
theorem Gp_add (k m : Nat) : Gp (k + m) = Gp k * Gp m := by
  induction m with
  | zero => show Gp k = Gp k * 1; grind
  | succ m ih => show Gp (k + m) * Gu = Gp k * (Gp m * Gu); rw [ih]; grind
theorem Gp_mono {k m : Nat} (h : k ≤ m) : Gp k ≤ Gp m := by
  obtain ⟨d, rfl⟩ := Nat.exists_eq_add_of_le h
  rw [Gp_add]
  have := Rat.mul_le_mul_of_nonneg_left (Gp_one d) (Gp_nonneg k)
  grind
/-- k units are not more than this -/
theorem Gp_le (k : Nat) (hk : k ≤ 4000) : Gp k ≤ 1 + (k : Rat) * (1/9007199254000000) := by
  induction k with
  | zero =>
    show (1 : Rat) ≤ _
    have : ((0 : Nat) : Rat) = 0 := by decide
    rw [this]; grind
  | succ k ih =>
    have h := ih (by omega)
    show Gp k * Gu ≤ _
    have g0 : (0 : Rat) ≤ Gu := by have := Gu_one; grind
    have a := Rat.mul_le_mul_of_nonneg_right h g0
    have kk : (k : Rat) ≤ 4000 := by have : k ≤ 4000 := by omega
                                     exact_mod_cast this
    have k0 : (0 : Rat) ≤ (k : Rat) := by exact_mod_cast Nat.zero_le k
    have e : ((k + 1 : Nat) : Rat) = (k : Rat) + 1 := by rw [Rat.natCast_add]; rfl
    rw [e]
    refine Rat.le_trans a ?_
    unfold Gu
    generalize (k : Rat) = K at *
    grind
/-- a and b are apart by at most k units -/
def Rel (k : Nat) (a b : Rat) : Prop := a ≤ b * Gp k ∧ b ≤ a * Gp k
theorem lemul {a b c d : Rat} (h : a ≤ b) (k : c ≤ d) (hb : 0 ≤ a) (hc : 0 ≤ c) : a * c ≤ b * d :=
  Rat.le_trans (Rat.mul_le_mul_of_nonneg_right h hc) (Rat.mul_le_mul_of_nonneg_left k (Rat.le_trans hb h))
theorem Rel.refl (a : Rat) : Rel 0 a a := by unfold Rel; show a ≤ a * 1 ∧ a ≤ a * 1; constructor <;> grind
theorem Rel.symm {k : Nat} {a b : Rat} (h : Rel k a b) : Rel k b a := ⟨h.2, h.1⟩
theorem Rel.mono {k m : Nat} {a b : Rat} (h : Rel k a b) (hk : k ≤ m) (ha : 0 ≤ a) (hb : 0 ≤ b) : Rel m a b :=
  ⟨Rat.le_trans h.1 (Rat.mul_le_mul_of_nonneg_left (Gp_mono hk) hb), Rat.le_trans h.2 (Rat.mul_le_mul_of_nonneg_left (Gp_mono hk) ha)⟩
theorem Rel.trans {k m : Nat} {a b c : Rat} (h : Rel k a b) (h2 : Rel m b c) : Rel (k + m) a c := by
  constructor
  · have := Rat.mul_le_mul_of_nonneg_right h2.1 (Gp_nonneg k)
    have := h.1
    rw [Gp_add]; grind
  · have := Rat.mul_le_mul_of_nonneg_right h.2 (Gp_nonneg m)
    have := h2.2
    rw [Gp_add]; grind
theorem Rel.mul {k m : Nat} {a b c d : Rat} (h : Rel k a b) (h2 : Rel m c d) (ha : 0 ≤ a) (hb : 0 ≤ b) (hc : 0 ≤ c) (hd : 0 ≤ d) : Rel (k + m) (a * c) (b * d) := by
  constructor
  · have := lemul h.1 h2.1 ha hc
    rw [Gp_add]; grind
  · have := lemul h.2 h2.2 hb hd
    rw [Gp_add]; grind
theorem Rel.add {k : Nat} {a b c d : Rat} (h : Rel k a b) (h2 : Rel k c d) : Rel k (a + c) (b + d) := by
  constructor
  · have := h.1
    have := h2.1
    grind
  · have := h.2
    have := h2.2
    grind
theorem Rel.inv {k : Nat} {a b : Rat} (h : Rel k a b) (ha : 0 < a) (hb : 0 < b) : Rel k (1 / a) (1 / b) := by
  have h1 : 1 / a * a = 1 := by grind
  have h2 : 1 / b * b = 1 := by grind
  have pab : 0 < a * b := Rat.mul_pos ha hb
  generalize 1 / a = A at *
  generalize 1 / b = B at *
  constructor
  · refine Rat.le_of_mul_le_mul_right (c := a * b) ?_ pab
    have := h.2
    rw [show A * (a * b) = b by grind, show B * Gp k * (a * b) = a * Gp k by grind]
    exact this
  · refine Rat.le_of_mul_le_mul_right (c := a * b) ?_ pab
    have := h.1
    rw [show B * (a * b) = a by grind, show A * Gp k * (a * b) = b * Gp k by grind]
    exact this
theorem inv_pos {a : Rat} (ha : 0 < a) : 0 < 1 / a := by
  have h1 : 1 / a * a = 1 := by grind
  refine Rat.not_le.1 fun hc => ?_
  have := Rat.mul_le_mul_of_nonneg_right hc (Rat.le_of_lt ha)
  grind
theorem Rel.div {k m : Nat} {a b c d : Rat} (h : Rel k a b) (h2 : Rel m c d) (ha : 0 ≤ a) (hb : 0 ≤ b) (hc : 0 < c) (hd : 0 < d) : Rel (k + m) (a / c) (b / d) := by
  have := h.mul (h2.inv hc hd) ha hb (Rat.le_of_lt (inv_pos hc)) (Rat.le_of_lt (inv_pos hd))
  rw [show a / c = a * (1 / c) by grind, show b / d = b * (1 / d) by grind]
  exact this
theorem le_of_sq {a b : Rat} (ha : 0 ≤ a) (hb : 0 ≤ b) (h : a * a ≤ b * b) : a ≤ b := by
  refine Rat.not_lt.1 fun hc => ?_
  have h1 : b * b ≤ b * a := Rat.mul_le_mul_of_nonneg_left (Rat.le_of_lt hc) hb
  have h2 : b * a < a * a := by
    have := Rat.mul_lt_mul_of_pos_right hc (show 0 < a by grind)
    exact this
  grind
theorem Rel.sqrt {k : Nat} {a b : Rat} (h : Rel (k + k) (a * a) (b * b)) (ha : 0 ≤ a) (hb : 0 ≤ b) : Rel k a b := by
  have g := Gp_nonneg k
  constructor
  · refine le_of_sq ha (Rat.mul_nonneg hb g) ?_
    have := h.1
    rw [Gp_add] at this; grind
  · refine le_of_sq hb (Rat.mul_nonneg ha g) ?_
    have := h.2
    rw [Gp_add] at this; grind
theorem Rel.pos {k : Nat} {a b : Rat} (h : Rel k a b) (hb : 0 < b) (ha : 0 ≤ a) : 0 < a := by
  refine Rat.not_le.1 fun hc => ?_
  have e : a = 0 := Rat.le_antisymm hc ha
  have := h.2
  rw [e] at this
  grind
theorem Rel.zero {k : Nat} {a b : Rat} (h : Rel k a b) (hb : b = 0) (ha : 0 ≤ a) : a = 0 := by
  have := h.1
  rw [hb] at this
  grind
end Go.Rt
namespace Go.Rt
set_option linter.unusedVariables false
/-- the sum of the first ones -/
def sumR (f : Nat → Rat) : Nat → Rat
  | 0 => 0
  | k + 1 => sumR f k + f k
theorem sumR_nonneg {f : Nat → Rat} {n : Nat} (h : ∀ i, i < n → 0 ≤ f i) : 0 ≤ sumR f n := by
  induction n with
  | zero => exact Rat.le_refl
  | succ n ih =>
    have a := ih (fun i hi => h i (by omega))
    have b := h n (by omega)
    show 0 ≤ sumR f n + f n
    grind
theorem sumR_front (f : Nat → Rat) (n : Nat) : sumR f (n + 1) = f 0 + sumR (fun i => f (i + 1)) n := by
  induction n with
  | zero => show (0 : Rat) + f 0 = f 0 + 0; grind
  | succ n ih => show sumR f (n + 1) + f (n + 1) = f 0 + (sumR (fun i => f (i + 1)) n + f (n + 1)); rw [ih]; grind
theorem sumR_rel {k : Nat} {f g : Nat → Rat} {n : Nat} (h : ∀ i, i < n → Rel k (f i) (g i)) : Rel k (sumR f n) (sumR g n) := by
  induction n with
  | zero => constructor <;> (show (0 : Rat) ≤ 0 * Gp k; grind)
  | succ n ih => exact (ih (fun i hi => h i (by omega))).add (h n (by omega))
theorem sumR_mul (f : Nat → Rat) (c : Rat) (n : Nat) : sumR (fun i => f i * c) n = sumR f n * c := by
  induction n with
  | zero => show (0 : Rat) = 0 * c; grind
  | succ n ih => show sumR (fun i => f i * c) n + f n * c = (sumR f n + f n) * c; rw [ih]; grind
theorem sumR_le {f g : Nat → Rat} {n : Nat} (h : ∀ i, i < n → f i ≤ g i) : sumR f n ≤ sumR g n := by
  induction n with
  | zero => exact Rat.le_refl
  | succ n ih =>
    have a := ih (fun i hi => h i (by omega))
    have b := h n (by omega)
    show sumR f n + f n ≤ sumR g n + g n
    grind
theorem sumR_congr {f g : Nat → Rat} {n : Nat} (h : ∀ i, i < n → f i = g i) : sumR f n = sumR g n := by
  induction n with
  | zero => rfl
  | succ n ih => show sumR f n + f n = sumR g n + g n; rw [ih (fun i hi => h i (by omega)), h n (by omega)]

/-- one unit of the bound -/
abbrev uU : Rat := 1/9007199254000000
theorem num2 : ∀ n, n < 17 → 2 ≤ n → 4 * (1 + ((7 * n + 16 : Nat) : Rat) * uU) * (((7 * n + 16 : Nat) : Rat) * uU) ≤ 64 * (n : Rat) * (1/9007199254740992) := by decide +kernel
section
variable {n : Nat} {h X S2 T Q s : Rat} {V Xs : Nat → Rat}
/-- what a reflection's parts are, up to units -/
structure Parts (n : Nat) (h X S2 T Q : Rat) (V Xs : Nat → Rat) : Prop where
  h0 : 0 < h
  X0 : 0 ≤ X
  S0 : 0 ≤ S2
  T0 : 0 ≤ T
  Q0 : 0 ≤ Q
  V0 : ∀ i, i < n - 1 → 0 ≤ V i
  Xs0 : ∀ i, i < n - 1 → 0 ≤ Xs i
  S2e : S2 = sumR (fun i => Xs i * Xs i) (n - 1)
  hr : Rel (7 * n + 5) (h * h) (X * X + S2)
  T3 : Rel 3 T ((h + X) / h)
  Q3 : Rel 3 Q (1 / (h + X))
  Vr : ∀ i, i < n - 1 → Rel 1 (V i) (Xs i * Q)
variable (p : Parts n h X S2 T Q V Xs)
include p
theorem Parts.P0 : 0 < h + X := by have := p.h0; have := p.X0; grind
theorem Parts.V4 (i : Nat) (hi : i < n - 1) : Rel 4 (V i) (Xs i * (1 / (h + X))) := by
  have a := (Rel.refl (Xs i)).mul p.Q3 (p.Xs0 i hi) (p.Xs0 i hi) p.Q0 (Rat.le_of_lt (inv_pos p.P0))
  have b := (p.Vr i hi).trans a
  exact b
theorem Parts.VV (i : Nat) (hi : i < n - 1) : Rel 8 (V i * V i) (Xs i * Xs i * (1 / (h + X) * (1 / (h + X)))) := by
  have a := p.V4 i hi
  have b : 0 ≤ Xs i * (1 / (h + X)) := Rat.mul_nonneg (p.Xs0 i hi) (Rat.le_of_lt (inv_pos p.P0))
  have c := a.mul a (p.V0 i hi) b (p.V0 i hi) b
  rw [show Xs i * Xs i * (1 / (h + X) * (1 / (h + X))) = Xs i * (1 / (h + X)) * (Xs i * (1 / (h + X))) by grind]
  exact c
/-- v'v -/
theorem Parts.ss (hs : s = 1 + sumR (fun i => V i * V i) (n - 1)) : Rel (7 * n + 13) s (2 * h / (h + X)) := by
  have P0 := p.P0
  have h0 := p.h0
  have X0 := p.X0
  have a : Rel 8 (sumR (fun i => V i * V i) (n - 1)) (S2 * (1 / (h + X) * (1 / (h + X)))) := by
    rw [p.S2e, ← sumR_mul]
    exact sumR_rel (fun i hi => p.VV i hi)
  have one : Rel 8 (1 : Rat) 1 := (Rel.refl 1).mono (by omega) (by decide) (by decide)
  have b := one.add a
  rw [← hs] at b
  have i0 := inv_pos P0
  have e1 : 1 / (h + X) * (h + X) = 1 := by grind
  have c : Rel (7 * n + 5) ((h * h + (h * X + X * h)) + (X * X + S2)) ((h * h + (h * X + X * h)) + h * h) :=
    ((Rel.refl _).mono (by omega) (by have := Rat.mul_nonneg (Rat.le_of_lt h0) X0; have := Rat.mul_nonneg (Rat.le_of_lt h0) (Rat.le_of_lt h0); grind) (by have := Rat.mul_nonneg (Rat.le_of_lt h0) X0; have := Rat.mul_nonneg (Rat.le_of_lt h0) (Rat.le_of_lt h0); grind)).add p.hr.symm
  have ii : 0 ≤ 1 / (h + X) * (1 / (h + X)) := Rat.le_of_lt (Rat.mul_pos i0 i0)
  have d := c.mul (Rel.refl (1 / (h + X) * (1 / (h + X)))) (by have := Rat.mul_nonneg (Rat.le_of_lt h0) X0; have := Rat.mul_nonneg (Rat.le_of_lt h0) (Rat.le_of_lt h0); have := Rat.mul_nonneg X0 X0; have := p.S0; grind) (by have := Rat.mul_nonneg (Rat.le_of_lt h0) X0; have := Rat.mul_nonneg (Rat.le_of_lt h0) (Rat.le_of_lt h0); grind) ii ii
  have e2 : ((h * h + (h * X + X * h)) + (X * X + S2)) * (1 / (h + X) * (1 / (h + X))) = 1 + S2 * (1 / (h + X) * (1 / (h + X))) := by
    generalize 1 / (h + X) = I at *
    grind
  have e3 : ((h * h + (h * X + X * h)) + h * h) * (1 / (h + X) * (1 / (h + X))) = 2 * h / (h + X) := by
    rw [show 2 * h / (h + X) = 2 * h * (1 / (h + X)) by grind]
    generalize 1 / (h + X) = I at *
    grind
  rw [e2, e3] at d
  have f := b.trans d
  exact f.mono (by omega) (by have := b.symm; rw [hs]; have := sumR_nonneg (f := fun i => V i * V i) (n := n - 1) (fun i hi => Rat.mul_nonneg (p.V0 i hi) (p.V0 i hi)); grind) (by rw [show 2 * h / (h + X) = 2 * h * (1 / (h + X)) by grind]; exact Rat.mul_nonneg (by grind) (Rat.le_of_lt i0))
/-- the second bound: how far H' H is from the unit -/
theorem Parts.unit (n2 : 2 ≤ n) (n16 : n ≤ 16) (hs : s = 1 + sumR (fun i => V i * V i) (n - 1)) :
    (((T * s - 2) * T) * s) * (((T * s - 2) * T) * s) ≤ (64 * (n : Rat) * (1/9007199254740992)) * (64 * (n : Rat) * (1/9007199254740992)) := by
  have P0 := p.P0
  have h0 := p.h0
  have s0 : 0 ≤ s := by rw [hs]; have := sumR_nonneg (f := fun i => V i * V i) (n := n - 1) (fun i hi => Rat.mul_nonneg (p.V0 i hi) (p.V0 i hi)); grind
  have i0 := inv_pos P0
  have j0 := inv_pos h0
  have a := p.T3.mul (p.ss hs) p.T0 (by rw [show (h + X) / h = (h + X) * (1 / h) by grind]; exact Rat.mul_nonneg (Rat.le_of_lt P0) (Rat.le_of_lt j0)) s0 (by rw [show 2 * h / (h + X) = 2 * h * (1 / (h + X)) by grind]; exact Rat.mul_nonneg (by grind) (Rat.le_of_lt i0))
  have e : (h + X) / h * (2 * h / (h + X)) = 2 := by
    have e1 : 1 / (h + X) * (h + X) = 1 := by grind
    have e2 : 1 / h * h = 1 := by grind
    rw [show (h + X) / h = (h + X) * (1 / h) by grind, show 2 * h / (h + X) = 2 * h * (1 / (h + X)) by grind]
    generalize 1 / (h + X) = I at *
    generalize 1 / h = J at *
    have : (h + X) * J * (2 * h * I) = 2 * (J * h) * (I * (h + X)) := by grind
    rw [this, e1, e2]; grind
  rw [e, show 3 + (7 * n + 13) = 7 * n + 16 by omega] at a
  obtain ⟨a1, a2⟩ := a
  have g := Gp_le (7 * n + 16) (by omega)
  have g1 := Gp_one (7 * n + 16)
  have nm := num2 n (by omega) n2
  generalize Gp (7 * n + 16) = g9 at *
  generalize ((7 * n + 16 : Nat) : Rat) * uU = m at *
  generalize 64 * (n : Rat) * (1/9007199254740992) = B at *
  have t0 : 0 ≤ T * s := Rat.mul_nonneg p.T0 s0
  have et : ((T * s - 2) * T) * s = (T * s - 2) * (T * s) := by grind
  rw [et]
  generalize T * s = y at *
  have y1 : y ≤ 2 * (1 + m) := by grind
  have m0 : 0 ≤ m := by grind
  -- 2 - 2 m ≤ y
  have y2 : 2 - 2 * m ≤ y := by
    refine Rat.not_lt.1 fun hc => ?_
    have q := Rat.mul_le_mul_of_nonneg_left g t0
    have q2 : y * (1 + m) < 2 := by
      have := Rat.mul_lt_mul_of_pos_right hc (show 0 < 1 + m by grind)
      have := Rat.mul_nonneg m0 m0
      grind
    grind
  have b1 : (y - 2) * y ≤ B := by
    have c1 : (y - 2) ≤ 2 * m := by grind
    have c2 := Rat.mul_le_mul_of_nonneg_right c1 t0
    have c3 := Rat.mul_le_mul_of_nonneg_left y1 (show 0 ≤ 2 * m by grind)
    grind
  have b2 : -B ≤ (y - 2) * y := by
    have c1 : -(2 * m) ≤ y - 2 := by grind
    have c2 := Rat.mul_le_mul_of_nonneg_right c1 t0
    have c3 := Rat.mul_le_mul_of_nonneg_left y1 (show 0 ≤ 2 * m by grind)
    grind
  generalize (y - 2) * y = z at *
  have B0 : 0 ≤ B := by grind
  rcases Rat.le_total (a := 0) (b := z) with hz | hz
  · exact lemul b1 b1 hz hz
  · have := lemul (show -z ≤ B by grind) (show -z ≤ B by grind) (by grind) (by grind)
    grind
end
end Go.Rt
namespace Go.Rt
set_option linter.unusedVariables false
abbrev uu : Rat := 1/9007199254740992
/-- what is at most lost where a number is small -/
def ty : Rat := 1 / 2 ^ 1075
theorem ty_pos : 0 < ty := by unfold ty; decide +kernel
/-- r is v, rounded -/
def Nr (r v : Rat) : Prop := (0 ≤ v → v * (1 - uu) - ty ≤ r ∧ r ≤ v * (1 + uu) + ty) ∧ (v ≤ 0 → v * (1 + uu) - ty ≤ r ∧ r ≤ v * (1 - uu) + ty) ∧ (v = 0 → r = 0)
theorem Nr.abs {r v e : Rat} (h : Nr r v) (h1 : -e ≤ v) (h2 : v ≤ e) : -(e * uu + ty) ≤ r - v ∧ r - v ≤ e * uu + ty := by
  have u0 : (0 : Rat) ≤ uu := by decide +kernel
  rcases Rat.le_total (a := 0) (b := v) with c | c
  · obtain ⟨a, b⟩ := h.1 c
    have := Rat.mul_le_mul_of_nonneg_right h2 u0
    constructor <;> grind
  · obtain ⟨a, b⟩ := h.2.1 c
    have := Rat.mul_le_mul_of_nonneg_right (show -v ≤ e by grind) u0
    constructor <;> grind
/-- what E1, Ei are at most, by lengths -/
def dl2 (n : Nat) : Rat := (2 + ((7 * n + 5 : Nat) : Rat) * uU) * (((8 * n + 16 : Nat) : Rat) * uU) * (1 + uU) + uU + 1/1267650600228229401496703205376
def gm2 (n : Nat) : Rat := (((8 * n + 20 : Nat) : Rat) * uU) * (1 + uU) + 1/1267650600228229401496703205376
theorem num3 : ∀ n, n < 17 → 2 ≤ n → (1 + ((7 * n + 5 : Nat) : Rat) * uU) * (dl2 n * dl2 n) + gm2 n * gm2 n ≤ (64 * (n : Rat) * (1/9007199254740992)) * (64 * (n : Rat) * (1/9007199254740992)) := by decide +kernel
theorem sq_le {a e : Rat} (h1 : -e ≤ a) (h2 : a ≤ e) : a * a ≤ e * e := by
  rcases Rat.le_total (a := 0) (b := a) with c | c
  · exact lemul h2 h2 c c
  · have := lemul (show -a ≤ e by grind) (show -a ≤ e by grind) (by grind) (by grind)
    grind
/-- what is of some units apart lies within -/
theorem Rel.off {k : Nat} {a b : Rat} (h : Rel k a b) (hk : k ≤ 4000) (ha : 0 ≤ a) (hb : 0 ≤ b) : -(b * ((k : Rat) * uU)) ≤ a - b ∧ a - b ≤ b * ((k : Rat) * uU) := by
  have g := Gp_le k hk
  have k0 : (0 : Rat) ≤ (k : Rat) := by exact_mod_cast Nat.zero_le k
  have m0 : (0 : Rat) ≤ (k : Rat) * uU := Rat.mul_nonneg k0 (by decide +kernel)
  have g1 := Gp_one k
  obtain ⟨h1, h2⟩ := h
  generalize Gp k = G at *
  have g2 : G ≤ 1 + (k : Rat) * uU := g
  generalize (k : Rat) * uU = m at *
  have a1 := Rat.mul_le_mul_of_nonneg_left g2 hb
  have a2 := Rat.mul_le_mul_of_nonneg_left g2 ha
  refine ⟨?_, by grind⟩
  rcases Rat.le_total (a := b) (b := a) with c | c
  · have := Rat.mul_nonneg hb m0
    grind
  · have := Rat.mul_le_mul_of_nonneg_right c m0
    grind

section
variable {n : Nat} {h X S2 T Q C W W1 A0 : Rat} {V Xs M A : Nat → Rat}
/-- what a reflection does to what it was made of, up to units -/
structure Turned (n : Nat) (h X S2 T Q : Rat) (V Xs : Nat → Rat) (C W W1 A0 : Rat) (M A : Nat → Rat) : Prop extends Parts n h X S2 T Q V Xs where
  C0 : 0 ≤ C
  W0 : 0 ≤ W
  W10 : 0 ≤ W1
  Cr : Rel (n + 2) C (X + sumR (fun i => V i * Xs i) (n - 1))
  Wr : Rel 1 W (T * C)
  W1r : Rel 1 W1 W
  A0n : Nr A0 (W1 - X)
  M0 : ∀ i, i < n - 1 → 0 ≤ M i
  Mr : ∀ i, i < n - 1 → Rel 1 (M i) (V i * W)
  An : ∀ i, i < n - 1 → Nr (A i) (Xs i - M i)
  hty : ty ≤ h * (1/1267650600228229401496703205376)
  Xty : ∀ i, i < n - 1 → Xs i = 0 ∨ ty ≤ Xs i * (1/1267650600228229401496703205376)
variable (p : Turned n h X S2 T Q V Xs C W W1 A0 M A)
include p
theorem Turned.Ch : Rel (8 * n + 11) C h := by
  have P0 := p.P0
  have h0 := p.h0
  have X0 := p.X0
  have i0 := inv_pos P0
  have a : Rel 4 (sumR (fun i => V i * Xs i) (n - 1)) (S2 * (1 / (h + X))) := by
    rw [p.S2e, ← sumR_mul]
    refine sumR_rel (fun i hi => ?_)
    have b := (p.V4 i hi).mul (Rel.refl (Xs i)) (p.V0 i hi) (Rat.mul_nonneg (p.Xs0 i hi) (Rat.le_of_lt i0)) (p.Xs0 i hi) (p.Xs0 i hi)
    rw [show Xs i * Xs i * (1 / (h + X)) = Xs i * (1 / (h + X)) * Xs i by grind]
    exact b
  have b := ((Rel.refl X).mono (show 0 ≤ 4 by omega) X0 X0).add a
  have hh := Rat.mul_nonneg (Rat.le_of_lt h0) (Rat.le_of_lt h0)
  have hX := Rat.mul_nonneg (Rat.le_of_lt h0) X0
  have XX := Rat.mul_nonneg X0 X0
  have c : Rel (7 * n + 5) (h * X + (X * X + S2)) (h * X + h * h) := ((Rel.refl _).mono (by omega) hX hX).add p.hr.symm
  have d := c.mul (Rel.refl (1 / (h + X))) (by have := p.S0; grind) (by grind) (Rat.le_of_lt i0) (Rat.le_of_lt i0)
  have e1 : 1 / (h + X) * (h + X) = 1 := by grind
  have e2 : (h * X + (X * X + S2)) * (1 / (h + X)) = X + S2 * (1 / (h + X)) := by
    generalize 1 / (h + X) = I at *
    grind
  have e3 : (h * X + h * h) * (1 / (h + X)) = h := by
    generalize 1 / (h + X) = I at *
    grind
  rw [e2, e3] at d
  have f := p.Cr.trans (b.trans d)
  exact f.mono (by omega) p.C0 (Rat.le_of_lt h0)
theorem Turned.WP : Rel (8 * n + 15) W (h + X) := by
  have P0 := p.P0
  have h0 := p.h0
  have j0 := inv_pos h0
  have e : (h + X) / h * h = h + X := by
    have e2 : 1 / h * h = 1 := by grind
    rw [show (h + X) / h = (h + X) * (1 / h) by grind]
    generalize 1 / h = J at *
    grind
  have a := p.T3.mul p.Ch p.T0 (by rw [show (h + X) / h = (h + X) * (1 / h) by grind]; exact Rat.mul_nonneg (Rat.le_of_lt P0) (Rat.le_of_lt j0)) p.C0 (Rat.le_of_lt h0)
  rw [e] at a
  exact (p.Wr.trans a).mono (by omega) p.W0 (Rat.le_of_lt P0)
theorem Turned.MX (i : Nat) (hi : i < n - 1) : Rel (8 * n + 20) (M i) (Xs i) := by
  have P0 := p.P0
  have i0 := inv_pos P0
  have a := (p.V4 i hi).mul p.WP (p.V0 i hi) (Rat.mul_nonneg (p.Xs0 i hi) (Rat.le_of_lt i0)) p.W0 (Rat.le_of_lt P0)
  have e : Xs i * (1 / (h + X)) * (h + X) = Xs i := by
    have e1 : 1 / (h + X) * (h + X) = 1 := by grind
    generalize 1 / (h + X) = I at *
    grind
  rw [e] at a
  exact ((p.Mr i hi).trans a).mono (by omega) (p.M0 i hi) (p.Xs0 i hi)
theorem Turned.Xh (n16 : n ≤ 16) : X ≤ h * (1 + ((7 * n + 5 : Nat) : Rat) * uU) ∧ h * h ≤ (X * X + S2) * (1 + ((7 * n + 5 : Nat) : Rat) * uU) := by
  have g := Gp_le (7 * n + 5) (by omega)
  have g1 := Gp_one (7 * n + 5)
  have h0 := p.h0
  have a := p.hr.2
  have a2 := p.hr.1
  have S0 := p.S0
  have XX := Rat.mul_nonneg p.X0 p.X0
  have hh := Rat.mul_nonneg (Rat.le_of_lt h0) (Rat.le_of_lt h0)
  have g3 : Gp (7 * n + 5) ≤ 1 + ((7 * n + 5 : Nat) : Rat) * uU := g
  generalize 1 + ((7 * n + 5 : Nat) : Rat) * uU = m at *
  generalize Gp (7 * n + 5) = G at *
  constructor
  · refine le_of_sq p.X0 (Rat.mul_nonneg (Rat.le_of_lt h0) (by grind)) ?_
    have b := Rat.mul_le_mul_of_nonneg_left g3 hh
    have c := Rat.mul_le_mul_of_nonneg_left (show 1 ≤ m by grind) (Rat.mul_nonneg hh (show 0 ≤ m by grind))
    grind
  · have := Rat.mul_le_mul_of_nonneg_left g3 (show 0 ≤ X * X + S2 by grind)
    grind
theorem Turned.E1 (n16 : n ≤ 16) : (h - A0) * (h - A0) ≤ (h * dl2 n) * (h * dl2 n) := by
  have h0 := p.h0
  have P0 := p.P0
  have W1P := (p.W1r.trans p.WP).off (by omega) p.W10 (Rat.le_of_lt P0)
  rw [show 1 + (8 * n + 15) = 8 * n + 16 by omega] at W1P
  obtain ⟨X1, -⟩ := p.Xh n16
  have t := p.hty
  have k0 : (0 : Rat) ≤ ((8 * n + 16 : Nat) : Rat) * uU := Rat.mul_nonneg (by exact_mod_cast Nat.zero_le _) (by decide +kernel)
  have uu0 : uu ≤ uU := by decide +kernel
  have uup : (0 : Rat) ≤ uu := by decide +kernel
  unfold dl2
  generalize ((8 * n + 16 : Nat) : Rat) * uU = k at *
  generalize ((7 * n + 5 : Nat) : Rat) * uU = m at *
  obtain ⟨b1, b2⟩ := W1P
  -- d: how far W1 - X is from h
  have pk : (h + X) * k ≤ h * ((2 + m) * k) := by
    have := Rat.mul_le_mul_of_nonneg_right (show h + X ≤ h * (2 + m) by grind) k0
    grind
  have d0 : 0 ≤ h * ((2 + m) * k) := by
    have := Rat.mul_nonneg (Rat.le_of_lt P0) k0
    grind
  generalize (2 + m) * k = K2 at *
  obtain ⟨q1, q2⟩ := p.A0n.abs (e := h + h * K2) (by grind) (by grind)
  have q3 := Rat.mul_le_mul_of_nonneg_left uu0 (show 0 ≤ h + h * K2 by grind)
  refine sq_le ?_ ?_ <;> grind
theorem Turned.Ei (n16 : n ≤ 16) (i : Nat) (hi : i < n - 1) : A i * A i ≤ Xs i * Xs i * (gm2 n * gm2 n) := by
  have MX := (p.MX i hi).off (by omega) (p.M0 i hi) (p.Xs0 i hi)
  have X0 := p.Xs0 i hi
  have k0 : (0 : Rat) ≤ ((8 * n + 20 : Nat) : Rat) * uU := Rat.mul_nonneg (by exact_mod_cast Nat.zero_le _) (by decide +kernel)
  have uu0 : uu ≤ uU := by decide +kernel
  have uup : (0 : Rat) ≤ uu := by decide +kernel
  unfold gm2
  generalize ((8 * n + 20 : Nat) : Rat) * uU = k at *
  rcases p.Xty i hi with h0 | t
  · have hm := MX
    rw [h0] at hm
    have z := (p.An i hi).2.2 (by rw [h0]; grind)
    rw [z, h0]; grind
  · obtain ⟨b1, b2⟩ := MX
    have d0 := Rat.mul_nonneg X0 k0
    obtain ⟨q1, q2⟩ := (p.An i hi).abs (e := Xs i * k) (by grind) (by grind)
    have q3 := Rat.mul_le_mul_of_nonneg_left uu0 d0
    have := sq_le (a := A i) (e := Xs i * (k * (1 + uU) + 1/1267650600228229401496703205376)) (by grind) (by grind)
    grind
/-- the first bound: how far what was turned is from beta and noughts -/
theorem Turned.far (n2 : 2 ≤ n) (n16 : n ≤ 16) :
    (h - A0) * (h - A0) + sumR (fun i => A i * A i) (n - 1) ≤ (64 * (n : Rat) * (1/9007199254740992)) * (64 * (n : Rat) * (1/9007199254740992)) * (X * X + S2) := by
  have e1 := p.E1 n16
  have e2 : sumR (fun i => A i * A i) (n - 1) ≤ S2 * (gm2 n * gm2 n) := by
    rw [p.S2e, ← sumR_mul]
    exact sumR_le (fun i hi => p.Ei n16 i hi)
  have hh := (p.Xh n16).2
  have nm := num3 n (by omega) n2
  have S0 := p.S0
  have XX := Rat.mul_nonneg p.X0 p.X0
  have dd : 0 ≤ dl2 n * dl2 n := by
    have : 0 ≤ dl2 n := by
      unfold dl2
      have a0 : (0 : Rat) ≤ ((7 * n + 5 : Nat) : Rat) := by exact_mod_cast Nat.zero_le _
      have b0 : (0 : Rat) ≤ ((8 * n + 16 : Nat) : Rat) := by exact_mod_cast Nat.zero_le _
      generalize ((7 * n + 5 : Nat) : Rat) = a at *
      generalize ((8 * n + 16 : Nat) : Rat) = b at *
      have := Rat.mul_nonneg a0 b0
      grind
    exact Rat.mul_nonneg this this
  have gg : 0 ≤ gm2 n * gm2 n := by
    rcases Rat.le_total (a := 0) (b := gm2 n) with c | c
    · exact Rat.mul_nonneg c c
    · have := Rat.mul_nonneg (show 0 ≤ -gm2 n by grind) (show 0 ≤ -gm2 n by grind)
      grind
  have e3 : h * dl2 n * (h * dl2 n) = h * h * (dl2 n * dl2 n) := by grind
  rw [e3] at e1
  generalize dl2 n * dl2 n = D2 at *
  generalize gm2 n * gm2 n = G2 at *
  generalize 1 + ((7 * n + 5 : Nat) : Rat) * uU = m at *
  generalize (64 * (n : Rat) * (1/9007199254740992)) * (64 * (n : Rat) * (1/9007199254740992)) = B at *
  have a1 := Rat.mul_le_mul_of_nonneg_right hh dd
  have a2 := Rat.mul_le_mul_of_nonneg_right nm (show 0 ≤ X * X + S2 by grind)
  have a3 := Rat.mul_nonneg XX gg
  grind
end
end Go.Rt
