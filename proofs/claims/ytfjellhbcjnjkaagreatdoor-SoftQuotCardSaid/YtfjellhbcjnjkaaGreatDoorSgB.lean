/-
  Layer 4, plain mathematics, part two: what the operations come to, held against the machine's. Layer 4, plain mathematics, part three: quotients and roots, held against the machine's.
-/
import Derived.Test.YtfjellhbcjnjkaaGreatDoorSgA
import Derived.Test.YtfjellhbcjnjkaaGreatDoorSDyNA
namespace Go.Proofs.YtfjellhbcjnjkaaGreatDoor
open Go Go.RowKit Go.Bw
set_option linter.unusedVariables false
set_option linter.unusedSimpArgs false

/-- the float that is nearest a float's number is the float, but for a zero's sign -/
theorem fw_of (y : Nat) (hn : y ≤ 18446744073709551615) (hc : cls (y : Int) ≤ 3) : fw (wN y) = if pman (y : Int) = 0 then 0 else y := by
  have hb := pman_bd (y : Int)
  unfold wN
  by_cases h0 : pman (y : Int) = 0
  · rw [if_pos h0, h0, nfl_zero]; exact fw_zero
  · rw [if_neg h0]
    have hp : 0 < pman (y : Int) := by omega
    obtain ⟨m, hm⟩ : ∃ m : Nat, pman (y : Int) = m := ⟨_, (Int.toNat_of_nonneg hb.1).symm⟩
    have e := nfl_pos (b := pneg (y : Int)) (e := pexp (y : Int)) hp
    have hmt : (pman (y : Int)).toNat = m := by omega
    rw [hmt] at e
    obtain ⟨o1, o2⟩ := odd_is (n := m) (by omega)
    have hs : odd m * 2 ^ tz m = m := o2.symm
    have ho : 0 < odd m := by omega
    have h1 : odd m * 2 ^ tz m < 18446744073709551616 := by rw [hs]; omega
    have h2 : odd m < 18446744073709551616 := Nat.lt_of_le_of_lt (Nat.le_mul_of_pos_right _ (Nat.pow_pos (by omega))) h1
    have f := fw_rnd (d := nfl (pneg (y : Int)) (pman (y : Int)) (pexp (y : Int))) (by rw [e]; show odd m ≠ 0; omega) 0 (by rw [e]; simpa using h2) (.inl rfl)
    rw [e] at f ⊢
    have f2 : ((fw ⟨pneg (y : Int), odd m, pexp (y : Int) + tz m⟩ : Nat) : Int) = signW (pneg (y : Int)) (rnd (odd m : Int) (pexp (y : Int) + tz m) false) := by
      simpa [Nat.mod_one] using f
    rw [rnd_shift (odd m) (tz m) _ ho h1, hs, ← hm, parts_rnd (y : Int) (by omega) (by omega) hc, word_sign (y : Int) (by omega) (by omega)] at f2
    exact Int.ofNat_inj.1 f2

/-- what a float stands for, or what an operation comes to ahead of its rounding: its class, its sign, its number -/
structure Nu where
  c : Int
  neg : Bool
  d : Nf
/-- a float's -/
def nuW (y : Nat) : Nu := ⟨if cls (y : Int) = 2 then 3 else cls (y : Int), pneg (one (y : Int)), if cls (y : Int) ≤ 3 then wN y else zeroN⟩
/-- a number's; 0, not -0, of the number 0 -/
def nuN (d : Nf) : Nu := if d.man = 0 then ⟨1, false, zeroN⟩ else ⟨3, d.neg, d⟩
def nanW : Nat := 9221120237041090560
def sgnW (s : Bool) (m : Nat) : Nat := if s then 9223372036854775808 + m else m
/-- rounded -/
def Nu.word (n : Nu) : Nat := if n.c = 3 then fw n.d else if n.c = 4 then sgnW n.neg 9218868437227405312 else if n.c = 5 then nanW else sgnW n.neg 0
/-- by the classes, or by the exact numbers -/
def nuC (f : Int → Int → Int) (r : Nf → Nf → Nu) (a b : Nu) : Nu :=
  if f a.c b.c = 1 ∨ (f a.c b.c = 5 ∧ a.neg ≠ b.neg) then ⟨5, false, zeroN⟩
  else if f a.c b.c = 2 ∨ f a.c b.c = 5 then a
  else if f a.c b.c = 3 then b
  else if f a.c b.c = 4 then ⟨1, a.neg && b.neg, zeroN⟩
  else if f a.c b.c = 6 then ⟨1, a.neg != b.neg, zeroN⟩
  else if f a.c b.c = 7 then ⟨4, a.neg != b.neg, zeroN⟩
  else r a.d b.d
def nuSum : Nu → Nu → Nu := nuC sumT fun d e => nuN (sumN d e)
def nuPro : Nu → Nu → Nu := nuC proT fun d e => nuN (mulN d e)
/-- a number by another one, rounded -/
def quotD (d e : Nf) : Nat := quotW (d.neg != e.neg) d.man e.man (d.exp - e.exp)
def nuQuo : Nu → Nu → Nu := nuC quoT fun d e => nuW (quotD d e)
/-- a number's root, rounded -/
def rootD (d : Nf) : Nat := rootW d.man d.exp
def sqrtM (y : Nat) : Nat :=
  if (nuW y).c = 1 then y else if (nuW y).neg = true then nanW else if (nuW y).c = 3 then rootD (nuW y).d else (nuW y).word

/-- a number, and what the machine has for it -/
def Rel (n : Nu) : Ieee.Datum → Prop
  | .number s m e => n.c = (if m = 0 then 1 else 3) ∧ n.neg = s ∧ n.d = nfl s m e
  | .infinity s => n.c = 4 ∧ n.neg = s
  | .nan .. => n.c = 5
def RelO (n : Nu) : Option Ieee.Datum → Prop
  | none => n.c = 5
  | some x => Rel n x ∧ x.isNaN = false
theorem read_rung (y : Nat) (hn : y ≤ 18446744073709551615) : (y / 9223372036854775808 % 2 == 1) = pneg (y : Int) := by
  unfold pneg
  rw [Bool.eq_iff_iff, beq_iff_eq, decide_eq_true_iff]
  omega
theorem read_inf (y : Nat) (hn : y ≤ 18446744073709551615) (hc : cls (y : Int) = 4) : Ieee.double.read y = .infinity (pneg (y : Int)) ∧ one (y : Int) = y := by
  obtain ⟨e1, e2, e3⟩ := read_rungs
  unfold Ieee.Format.read
  simp only [e1, e2, e3, read_rung y hn]
  have : y % 9223372036854775808 = 9218868437227405312 := by
    unfold cls fld frc at hc
    repeat' split at hc
    all_goals omega
  rw [this]
  refine ⟨by simp, ?_⟩
  unfold one
  rw [if_neg (by omega)]
theorem read_nan (y : Nat) (hn : y ≤ 18446744073709551615) (hc : cls (y : Int) = 5) : (∃ s f, Ieee.double.read y = .nan s f) ∧ one (y : Int) = nan := by
  obtain ⟨e1, e2, e3⟩ := read_rungs
  unfold Ieee.Format.read
  simp only [e1, e2, e3, read_rung y hn]
  have : 9218868437227405312 < y % 9223372036854775808 := by
    unfold cls fld frc at hc
    repeat' split at hc
    all_goals omega
  rw [if_neg (by omega), if_neg (by omega), if_neg (by omega)]
  refine ⟨⟨_, _, rfl⟩, ?_⟩
  unfold one
  rw [if_pos hc]
theorem pman_z0 (y : Int) (hc : cls y ≤ 3) : (pman y).toNat = 0 ↔ cls y = 1 := by
  have hf := frc_bd y
  have hb := cls_bd y
  unfold pman
  by_cases h3 : cls y = 3
  · rw [if_pos h3]; omega
  · rw [if_neg h3]
    unfold cls at *
    repeat' split at hc
    all_goals repeat' split
    all_goals omega
theorem rel_of (y : Nat) (hn : y ≤ 18446744073709551615) : Rel (nuW y) (Ieee.double.read y) := by
  have hb := cls_bd (y : Int)
  rcases Int.lt_or_le 3 (cls (y : Int)) with h | h
  · rcases (show cls (y : Int) = 4 ∨ cls (y : Int) = 5 by omega) with h4 | h5
    · obtain ⟨e1, e2⟩ := read_inf y hn h4
      rw [e1]
      unfold nuW Rel
      simp only [h4, e2]
      exact ⟨by decide, trivial⟩
    · obtain ⟨⟨s, f, e1⟩, e2⟩ := read_nan y hn h5
      rw [e1]
      unfold nuW Rel
      simp only [h5]
      decide
  · rw [read_is y hn h]
    have hz := pman_z0 (y : Int) h
    have e2 : one (y : Int) = y := by unfold one; rw [if_neg (by omega)]
    obtain ⟨m, hm, _⟩ := pman_nat y
    unfold nuW Rel
    simp only [e2, if_pos h, wN_read y h, hm, Int.toNat_natCast] at *
    refine ⟨?_, trivial, trivial⟩
    repeat' split
    all_goals omega
theorem rel_nan {n : Nu} (h : n.c = 5) : n.word = nanW := by unfold Nu.word; rw [if_neg (by omega), if_neg (by omega), if_pos h]
theorem fw_nfl {s : Bool} {M : Nat} {e : Int} (h : M ≠ 0) : fw (nfl s M e) = Ieee.double.nearest s M e := by
  rw [nfl_pos (by omega), Int.toNat_natCast]
  show Ieee.double.nearest s (odd M) (e + tz M) = _
  obtain ⟨o1, o2⟩ := odd_is (n := M) h
  have := nearest_shift s (odd M) (tz M) (e + tz M) (by omega)
  rw [← o2, show e + (tz M : Int) - (tz M : Int) = e by omega] at this
  exact this.symm
theorem rel_word {n : Nu} {o : Option Ieee.Datum} (h : RelO n o) : n.word = (o.map Ieee.double.write).getD nanW := by
  cases o with
  | none => exact rel_nan h
  | some x =>
    obtain ⟨h1, h2⟩ := h
    cases x with
    | number s m e =>
      obtain ⟨k1, k2, k3⟩ := h1
      simp only [Option.map_some, Option.getD_some, Ieee.Format.write]
      unfold Nu.word
      by_cases h0 : m = 0
      · subst h0
        rw [if_pos rfl] at k1
        rw [if_neg (by omega), if_neg (by omega), if_neg (by omega), k2]
        unfold Ieee.Format.nearest
        rw [if_pos rfl, double_word]
        rfl
      · rw [if_neg h0] at k1
        rw [if_pos k1, k3, fw_nfl h0]
    | infinity s =>
      obtain ⟨k1, k2⟩ := h1
      simp only [Option.map_some, Option.getD_some, Ieee.Format.write]
      unfold Nu.word
      rw [if_neg (by omega), if_pos k1, k2, double_word, double_inf]
      rfl
    | nan s f => cases h2
theorem nuN_rel {s : Bool} {M : Nat} {e : Int} (h : M ≠ 0) : Rel (nuN (nfl s M e)) (.number s M e) := by
  have hm : ¬ (nfl s M e).man = 0 := by rw [nfl_man0 (by omega)]; omega
  unfold nuN
  rw [if_neg hm]
  show (3 : Int) = (if M = 0 then 1 else 3) ∧ (nfl s (M : Int) e).neg = s ∧ nfl s (M : Int) e = nfl s M e
  refine ⟨by rw [if_neg h], ?_, rfl⟩
  rw [nfl_pos (by omega)]
theorem nuN_zero (s : Bool) (e : Int) : nuN (nfl s 0 e) = ⟨1, false, zeroN⟩ := by rw [nfl_zero]; rfl

theorem nuC_nan {f : Int → Int → Int} {r : Nf → Nf → Nu} {a b : Nu} (h : f a.c b.c = 1) : (nuC f r a b).c = 5 := by unfold nuC; rw [if_pos (.inl h)]
theorem rel_sum {a b : Nu} {x y : Ieee.Datum} (ha : Rel a x) (hb : Rel b y) : RelO (nuSum a b) (x.sum y) := by
  obtain ⟨ac, an, ad⟩ := a
  obtain ⟨bc, bn, bd⟩ := b
  cases x with
  | nan s f =>
    have h : ac = 5 := ha
    subst h
    cases y <;> exact nuC_nan (by unfold sumT; simp)
  | infinity s =>
    obtain ⟨h1, h2⟩ := ha
    simp only at h1 h2
    subst h1 h2
    cases y with
    | nan t f =>
      have h : bc = 5 := hb
      subst h
      exact nuC_nan (by unfold sumT; simp)
    | infinity t =>
      obtain ⟨h1, h2⟩ := hb
      simp only at h1 h2
      subst h1 h2
      unfold nuSum nuC sumT Ieee.Datum.sum RelO
      cases an <;> cases bn <;> simp [Rel, Ieee.Datum.isNaN]
    | number t n j =>
      obtain ⟨h1, h2, h3⟩ := hb
      simp only at h1 h2 h3
      subst h2 h3
      unfold nuSum nuC sumT Ieee.Datum.sum RelO
      by_cases h0 : n = 0
      · rw [if_pos h0] at h1; subst h1; simp [Rel, Ieee.Datum.isNaN]
      · rw [if_neg h0] at h1; subst h1; simp [Rel, Ieee.Datum.isNaN]
  | number s m i =>
    obtain ⟨g1, g2, g3⟩ := ha
    simp only at g1 g2 g3
    subst g2 g3
    cases y with
    | nan t f =>
      have h : bc = 5 := hb
      subst h
      exact nuC_nan (by unfold sumT; simp)
    | infinity t =>
      obtain ⟨h1, h2⟩ := hb
      simp only at h1 h2
      subst h1 h2
      unfold nuSum nuC sumT Ieee.Datum.sum RelO
      by_cases h0 : m = 0
      · rw [if_pos h0] at g1; subst g1; simp [Rel, Ieee.Datum.isNaN]
      · rw [if_neg h0] at g1; subst g1; simp [Rel, Ieee.Datum.isNaN]
    | number t n j =>
      obtain ⟨h1, h2, h3⟩ := hb
      simp only at h1 h2 h3
      subst h2 h3
      refine ⟨?_, rfl⟩
      by_cases hz : m = 0 ∧ n = 0
      · obtain ⟨rfl, rfl⟩ := hz
        simp only [if_true] at g1 h1
        subst g1 h1
        have e : Ieee.signed an 0 (i - min i j).toNat + Ieee.signed bn 0 (j - min i j).toNat = 0 := by rw [signed_eq, signed_eq]; simp
        simp only [e]
        unfold nuSum nuC sumT Rel
        simp [nfl_zero]
      · have hr : nuSum ⟨ac, an, nfl an m i⟩ ⟨bc, bn, nfl bn n j⟩ = nuN (sumN (nfl an m i) (nfl bn n j)) := by
          have ac3 : ac = 1 ∨ ac = 3 := by split at g1 <;> omega
          have bc3 : bc = 1 ∨ bc = 3 := by split at h1 <;> omega
          have no : ¬ (ac = 1 ∧ bc = 1) := by
            rintro ⟨u, v⟩
            rw [u] at g1
            rw [v] at h1
            split at g1 <;> split at h1 <;> omega
          have e : sumT ac bc = 0 := by
            unfold sumT
            repeat' split
            all_goals omega
          unfold nuSum nuC
          simp only [e]
          simp
        rw [hr, total_nf]
        generalize hT : Ieee.signed an m (i - min i j).toNat + Ieee.signed bn n (j - min i j).toNat = T
        by_cases hT0 : T = 0
        · rw [if_pos hT0]
          subst hT0
          have e : ((0 : Int).natAbs : Nat) = 0 := rfl
          rw [e]
          have e2 : (((0 : Nat) : Int)) = 0 := rfl
          rw [e2, nuN_zero]
          have ns : (an && bn) = false := by
            cases an
            · rfl
            · cases bn
              · rfl
              · exfalso
                rw [signed_eq, signed_eq] at hT
                simp only [if_true] at hT
                have p1 := Int.pow_pos (n := (2 : Int)) (m := (i - min i j).toNat) (by omega)
                have p2 := Int.pow_pos (n := (2 : Int)) (m := (j - min i j).toNat) (by omega)
                have q1 := Int.mul_nonneg (show (0 : Int) ≤ m by omega) (Int.le_of_lt p1)
                have q2 := Int.mul_nonneg (show (0 : Int) ≤ n by omega) (Int.le_of_lt p2)
                rw [Int.neg_mul, Int.neg_mul] at hT
                have z1 : (m : Int) * 2 ^ (i - min i j).toNat = 0 := by omega
                have z2 : (n : Int) * 2 ^ (j - min i j).toNat = 0 := by omega
                rcases Int.mul_eq_zero.1 z1 with u | u
                · rcases Int.mul_eq_zero.1 z2 with v | v
                  · exact hz ⟨by omega, by omega⟩
                  · omega
                · omega
          rw [ns]
          unfold Rel
          simp [nfl_zero]
        · rw [if_neg hT0]
          exact nuN_rel (by omega)
theorem rel_pro {a b : Nu} {x y : Ieee.Datum} (ha : Rel a x) (hb : Rel b y) : RelO (nuPro a b) (x.product y) := by
  obtain ⟨ac, an, ad⟩ := a
  obtain ⟨bc, bn, bd⟩ := b
  cases x with
  | nan s f =>
    have h : ac = 5 := ha
    subst h
    cases y <;> exact nuC_nan (by unfold proT; simp)
  | infinity s =>
    obtain ⟨h1, h2⟩ := ha
    simp only at h1 h2
    subst h1 h2
    cases y with
    | nan t f =>
      have h : bc = 5 := hb
      subst h
      exact nuC_nan (by unfold proT; simp)
    | infinity t =>
      obtain ⟨h1, h2⟩ := hb
      simp only at h1 h2
      subst h1 h2
      unfold nuPro nuC proT Ieee.Datum.product RelO
      cases an <;> cases bn <;> simp [Rel, Ieee.Datum.isNaN]
    | number t n j =>
      obtain ⟨h1, h2, h3⟩ := hb
      simp only at h1 h2 h3
      subst h2 h3
      unfold nuPro nuC proT Ieee.Datum.product RelO
      by_cases h0 : n = 0
      · rw [if_pos h0] at h1; subst h1; simp [Rel, Ieee.Datum.isNaN, h0]
      · rw [if_neg h0] at h1; subst h1; cases an <;> cases bn <;> simp [Rel, Ieee.Datum.isNaN, h0]
  | number s m i =>
    obtain ⟨g1, g2, g3⟩ := ha
    simp only at g1 g2 g3
    subst g2 g3
    cases y with
    | nan t f =>
      have h : bc = 5 := hb
      subst h
      exact nuC_nan (by unfold proT; simp)
    | infinity t =>
      obtain ⟨h1, h2⟩ := hb
      simp only at h1 h2
      subst h1 h2
      unfold nuPro nuC proT Ieee.Datum.product RelO
      by_cases h0 : m = 0
      · rw [if_pos h0] at g1; subst g1; simp [Rel, Ieee.Datum.isNaN, h0]
      · rw [if_neg h0] at g1; subst g1; cases an <;> cases bn <;> simp [Rel, Ieee.Datum.isNaN, h0]
    | number t n j =>
      obtain ⟨h1, h2, h3⟩ := hb
      simp only at h1 h2 h3
      subst h2 h3
      refine ⟨?_, rfl⟩
      have hx : (an ^^ bn) = (an != bn) := by cases an <;> cases bn <;> rfl
      by_cases hz : m = 0 ∨ n = 0
      · have e0 : m * n = 0 := by rcases hz with h | h <;> simp [h]
        have ac3 : ac = 1 ∨ ac = 3 := by split at g1 <;> omega
        have bc3 : bc = 1 ∨ bc = 3 := by split at h1 <;> omega
        have yes : ac = 1 ∨ bc = 1 := by
          rcases hz with h | h
          · rw [if_pos h] at g1; exact .inl g1
          · rw [if_pos h] at h1; exact .inr h1
        have e : proT ac bc = 6 := by
          unfold proT
          repeat' split
          all_goals omega
        unfold nuPro nuC Rel
        simp only [e, e0, hx, nfl_zero]
        simp
        exact (nfl_zero _ _).symm
      · have e0 : m * n ≠ 0 := by
          intro h
          rcases Nat.mul_eq_zero.1 h with u | u
          · exact hz (.inl u)
          · exact hz (.inr u)
        rw [if_neg (fun h => hz (.inl h))] at g1
        rw [if_neg (fun h => hz (.inr h))] at h1
        subst g1 h1
        have e : mulN (nfl an m i) (nfl bn n j) = nfl (an ^^ bn) ((m * n : Nat) : Int) (i + j) := by
          unfold nfl
          rw [← mulN_of]
          congr 1
          cases an <;> cases bn <;> simp [Int.neg_mul, Int.mul_neg]
        have hr : nuPro ⟨3, an, nfl an m i⟩ ⟨3, bn, nfl bn n j⟩ = nuN (mulN (nfl an m i) (nfl bn n j)) := by
          unfold nuPro nuC proT; simp
        rw [hr, e]
        exact nuN_rel e0
theorem rel_opp (y : Nat) (hn : y ≤ 18446744073709551615) : Rel (nuW (negate (one (y : Int))).toNat) (Ieee.double.read y).opposite := by
  have hb := cls_bd (y : Int)
  by_cases h5 : cls (y : Int) = 5
  · obtain ⟨⟨s, f, e1⟩, e2⟩ := read_nan y hn h5
    rw [e1, e2]
    show (nuW _).c = 5
    decide
  · have e1 : one (y : Int) = y := by unfold one; rw [if_neg h5]
    have e2 : negate (y : Int) = Go.Bw.flip y := by unfold negate; rw [if_neg h5]
    have hf := flip_bd (y : Int) (by omega) (by omega)
    rw [e1, e2]
    have := rel_of (Go.Bw.flip (y : Int)).toNat (by omega)
    have e3 : Ieee.double.read (Go.Bw.flip (y : Int)).toNat = (Ieee.double.read y).opposite := by
      obtain ⟨r1, r2, r3⟩ := read_rungs
      unfold Ieee.Format.read
      have key : (Go.Bw.flip (y : Int)).toNat % 9223372036854775808 = y % 9223372036854775808 ∧ ((Go.Bw.flip (y : Int)).toNat / 9223372036854775808 % 2 == 1) = !(y / 9223372036854775808 % 2 == 1) := by
        by_cases c : 9223372036854775808 ≤ y
        · have f : (Go.Bw.flip (y : Int)).toNat = y - 9223372036854775808 := by unfold Go.Bw.flip; rw [if_pos (by omega)]; omega
          have d1 : (y - 9223372036854775808) / 9223372036854775808 = 0 := Nat.div_eq_of_lt (by omega)
          have d2 : y / 9223372036854775808 = 1 := by omega
          rw [f, d1, d2]
          exact ⟨by omega, rfl⟩
        · have f : (Go.Bw.flip (y : Int)).toNat = y + 9223372036854775808 := by unfold Go.Bw.flip; rw [if_neg (by omega)]; omega
          have d1 : (y + 9223372036854775808) / 9223372036854775808 = 1 := by omega
          have d2 : y / 9223372036854775808 = 0 := by omega
          rw [f, d1, d2]
          exact ⟨by omega, rfl⟩
      simp only [r1, r2, r3, key.1, key.2]
      clear key this hf e1 e2
      generalize (y / 9223372036854775808 % 2 == 1) = s
      generalize y % 9223372036854775808 = r
      by_cases c1 : r < 4503599627370496
      · rw [if_pos c1, if_pos c1]; rfl
      · rw [if_neg c1, if_neg c1]
        by_cases c2 : r < 9218868437227405312
        · rw [if_pos c2, if_pos c2]; rfl
        · rw [if_neg c2, if_neg c2]
          by_cases c3 : r = 9218868437227405312
          · rw [if_pos c3, if_pos c3]; rfl
          · rw [if_neg c3, if_neg c3]; rfl
    rw [e3] at this
    exact this
/-- sums, products, and both at once, are the machine's -/
theorem add_mach (y z : Nat) (hn : y ≤ 18446744073709551615) (hn2 : z ≤ 18446744073709551615) : (nuSum (nuW y) (nuW z)).word = (Ieee.double.add y z).getD nanW := rel_word (rel_sum (rel_of y hn) (rel_of z hn2))
theorem sub_mach (y z : Nat) (hn : y ≤ 18446744073709551615) (hn2 : z ≤ 18446744073709551615) : (nuSum (nuW y) (nuW (negate (one (z : Int))).toNat)).word = (Ieee.double.sub y z).getD nanW := rel_word (rel_sum (rel_of y hn) (rel_opp z hn2))
theorem mul_mach (y z : Nat) (hn : y ≤ 18446744073709551615) (hn2 : z ≤ 18446744073709551615) : (nuPro (nuW y) (nuW z)).word = (Ieee.double.mul y z).getD nanW := rel_word (rel_pro (rel_of y hn) (rel_of z hn2))
theorem fma_mach (x y z : Nat) (hn : x ≤ 18446744073709551615) (hn2 : y ≤ 18446744073709551615) (hn3 : z ≤ 18446744073709551615) : (nuSum (nuPro (nuW x) (nuW y)) (nuW z)).word = (Ieee.double.fma x y z).getD nanW := by
  have h := rel_pro (rel_of x hn) (rel_of y hn2)
  unfold Ieee.Format.fma
  generalize (Ieee.double.read x).product (Ieee.double.read y) = o at h
  cases o with
  | none =>
    refine rel_nan (nuC_nan ?_)
    have h5 : (nuPro (nuW x) (nuW y)).c = 5 := h
    unfold sumT
    rw [if_pos (.inl h5)]
  | some d => exact rel_word (rel_sum h.1 (rel_of z hn3))
end Go.Proofs.YtfjellhbcjnjkaaGreatDoor
namespace Go.Proofs.YtfjellhbcjnjkaaGreatDoor
open Go Go.RowKit Go.Bw
set_option linter.unusedVariables false
set_option linter.unusedSimpArgs false

theorem cls_small (y : Nat) (hn : y ≤ 18446744073709551615) (h : y % 9223372036854775808 ≤ 9218868437227405312) : cls (y : Int) ≤ 4 := by
  have := cls_bd (y : Int)
  have k := cls_nan_iff (y : Int) (by omega) (by omega)
  unfold mag at k
  omega
/-- a float's number, rounded, is the float -/
theorem word_back (y : Nat) (hn : y ≤ 18446744073709551615) (hc : cls (y : Int) ≤ 4) : (nuW y).word = y := by
  have hb := cls_bd (y : Int)
  have e1 : one (y : Int) = y := by unfold one; rw [if_neg (by omega)]
  unfold nuW Nu.word
  simp only [e1]
  rcases (show cls (y : Int) = 1 ∨ cls (y : Int) = 2 ∨ cls (y : Int) = 3 ∨ cls (y : Int) = 4 by omega) with h | h | h | h
  · simp only [h]
    simp only [show ¬ (1 : Int) = 2 by omega, show ¬ (1 : Int) = 3 by omega, show ¬ (1 : Int) = 4 by omega, show ¬ (1 : Int) = 5 by omega, if_false]
    unfold sgnW pneg
    unfold cls fld frc at h
    repeat' split at h
    all_goals first | omega | (split <;> simp_all <;> omega)
  · have hp := pman_z0 (y : Int) (by omega)
    simp only [h, if_true, show (2 : Int) ≤ 3 by omega]
    rw [fw_of y hn (by omega), if_neg]
    have := pman_bd (y : Int)
    omega
  · have hp := pman_z0 (y : Int) (by omega)
    simp only [h, if_true, show ¬ (3 : Int) = 2 by omega, if_false, show (3 : Int) ≤ 3 by omega]
    rw [fw_of y hn (by omega), if_neg]
    have := pman_bd (y : Int)
    omega
  · simp only [h]
    simp only [show ¬ (4 : Int) = 2 by omega, show ¬ (4 : Int) = 3 by omega, if_false, if_true]
    unfold sgnW pneg
    unfold cls fld frc at h
    repeat' split at h
    all_goals first | omega | (split <;> simp_all <;> omega)
theorem near_word (neg : Bool) (M : Nat) (e : Int) : Ieee.double.nearest neg M e ≤ 18446744073709551615 ∧ cls (Ieee.double.nearest neg M e : Int) ≤ 4 := by
  have h1 := Ieee.Format.nearest_lt Ieee.double neg M e
  have h2 : (2 : Nat) ^ Ieee.double.width = 18446744073709551616 := by decide
  rw [h2] at h1
  exact ⟨by omega, cls_small _ (by omega) (word_small neg M e)⟩
theorem near_back (neg : Bool) (M : Nat) (e : Int) : (nuW (Ieee.double.nearest neg M e)).word = Ieee.double.nearest neg M e := word_back _ (near_word neg M e).1 (near_word neg M e).2
theorem quotD_nfl (s t : Bool) (m n : Nat) (i j : Int) (hm : m ≠ 0) (hn : n ≠ 0) : quotD (nfl s m i) (nfl t n j) = quotW (s != t) m n (i - j) := by
  rw [nfl_pos (by omega), nfl_pos (by omega), Int.toNat_natCast, Int.toNat_natCast]
  obtain ⟨o1, o2⟩ := odd_is (n := m) hm
  obtain ⟨p1, p2⟩ := odd_is (n := n) hn
  unfold quotD
  simp only
  have h : quotW (s != t) (odd m * 2 ^ tz m) (odd n * 2 ^ tz n) (i - j) = quotW (s != t) (odd m) (odd n) (i + tz m - (j + tz n)) := by
    rw [quotW_left _ _ _ _ _ (by omega) (Nat.mul_pos (by omega) (Nat.two_pow_pos _)), quotW_right _ _ _ _ _ (by omega) (by omega)]
    congr 1
    omega
  rw [← o2, ← p2] at h
  exact h.symm
theorem rel_quo {a b : Nu} {x y : Ieee.Datum} (ha : Rel a x) (hb : Rel b y) : (nuQuo a b).word = ((x.quotient 54 y).map Ieee.double.write).getD nanW := by
  obtain ⟨ac, an, ad⟩ := a
  obtain ⟨bc, bn, bd⟩ := b
  cases x with
  | nan s f =>
    have h : ac = 5 := ha
    subst h
    cases y <;> exact rel_nan (nuC_nan (by unfold quoT; simp))
  | infinity s =>
    obtain ⟨h1, h2⟩ := ha
    simp only at h1 h2
    subst h1 h2
    cases y with
    | nan t f =>
      have h : bc = 5 := hb
      subst h
      exact rel_nan (nuC_nan (by unfold quoT; simp))
    | infinity t =>
      obtain ⟨h1, h2⟩ := hb
      simp only at h1 h2
      subst h1 h2
      exact rel_nan (nuC_nan (by unfold quoT; simp))
    | number t n j =>
      obtain ⟨h1, h2, h3⟩ := hb
      simp only at h1 h2 h3
      subst h2 h3
      refine rel_word ?_
      unfold nuQuo nuC quoT Ieee.Datum.quotient RelO
      by_cases h0 : n = 0
      · rw [if_pos h0] at h1; subst h1; cases an <;> cases bn <;> simp [Rel, Ieee.Datum.isNaN, h0]
      · rw [if_neg h0] at h1; subst h1; cases an <;> cases bn <;> simp [Rel, Ieee.Datum.isNaN, h0]
  | number s m i =>
    obtain ⟨g1, g2, g3⟩ := ha
    simp only at g1 g2 g3
    subst g2 g3
    cases y with
    | nan t f =>
      have h : bc = 5 := hb
      subst h
      exact rel_nan (nuC_nan (by unfold quoT; simp))
    | infinity t =>
      obtain ⟨h1, h2⟩ := hb
      simp only at h1 h2
      subst h1 h2
      refine rel_word ?_
      unfold nuQuo nuC quoT Ieee.Datum.quotient RelO
      by_cases h0 : m = 0
      · rw [if_pos h0] at g1; subst g1; cases an <;> cases bn <;> simp [Rel, Ieee.Datum.isNaN, h0, nfl_zero] <;> exact (nfl_zero _ _).symm
      · rw [if_neg h0] at g1; subst g1; cases an <;> cases bn <;> simp [Rel, Ieee.Datum.isNaN, h0, nfl_zero] <;> exact (nfl_zero _ _).symm
    | number t n j =>
      obtain ⟨h1, h2, h3⟩ := hb
      simp only at h1 h2 h3
      subst h2 h3
      have hx : (an ^^ bn) = (an != bn) := by cases an <;> cases bn <;> rfl
      by_cases n0 : n = 0
      · subst n0
        simp only [if_true] at h1
        subst h1
        by_cases m0 : m = 0
        · subst m0
          simp only [if_true] at g1
          subst g1
          exact rel_nan (nuC_nan (by unfold quoT; simp))
        · rw [if_neg m0] at g1
          subst g1
          refine rel_word ?_
          unfold nuQuo nuC quoT Ieee.Datum.quotient RelO
          cases an <;> cases bn <;> simp [Rel, Ieee.Datum.isNaN, m0]
      · rw [if_neg n0] at h1
        subst h1
        by_cases m0 : m = 0
        · subst m0
          simp only [if_true] at g1
          subst g1
          refine rel_word ?_
          unfold nuQuo nuC quoT Ieee.Datum.quotient RelO
          cases an <;> cases bn <;> simp [Rel, Ieee.Datum.isNaN, n0, Nat.zero_shiftLeft, nfl_zero] <;> exact (nfl_zero _ _).symm
        · rw [if_neg m0] at g1
          subst g1
          have hr : nuQuo ⟨3, an, nfl an m i⟩ ⟨3, bn, nfl bn n j⟩ = nuW (quotD (nfl an m i) (nfl bn n j)) := by
            unfold nuQuo nuC quoT; simp
          rw [hr, quotD_nfl an bn m n i j m0 n0]
          have hq : (Ieee.Datum.number an m i).quotient 54 (.number bn n j) = some (.number (an ^^ bn) (2 * (m <<< (54 + n.log2 - m.log2) / n) + (m <<< (54 + n.log2 - m.log2) % n != 0).toNat) (i - j - ((54 + n.log2 - m.log2 : Nat) : Int) - 1)) := by
            unfold Ieee.Datum.quotient
            simp only [if_neg n0]
          rw [hq]
          simp only [Option.map_some, Option.getD_some, Ieee.Format.write]
          generalize hk : 54 + n.log2 - m.log2 = k
          have hbit : 2 ^ m.log2 ≤ m := Nat.log2_self_le m0
          have hbn : n < 2 ^ (n.log2 + 1) := Nat.lt_log2_self
          have enough : 9007199254740992 ≤ m * 2 ^ k / (n * 2 ^ 0) := by
            rw [Nat.pow_zero, Nat.mul_one, Nat.le_div_iff_mul_le (by omega)]
            have a1 : 2 ^ (54 + n.log2) ≤ m * 2 ^ k := by
              refine Nat.le_trans (Nat.pow_le_pow_right (by omega) (show 54 + n.log2 ≤ m.log2 + k by omega)) ?_
              rw [Nat.pow_add]
              exact Nat.mul_le_mul_right _ hbit
            have a2 : 9007199254740992 * n ≤ 2 ^ (54 + n.log2) := by
              rw [show 54 + n.log2 = 53 + (n.log2 + 1) by omega, Nat.pow_add]
              exact Nat.mul_le_mul_left _ (Nat.le_of_lt hbn)
            exact Nat.le_trans a2 a1
          have := quotW_is (an != bn) m n k 0 (i - j) (by omega) (by omega) enough
          rw [← this]
          unfold ratio
          rw [near_back, Nat.shiftLeft_eq, hx, Nat.pow_zero, Nat.mul_one]
          congr 1
          · congr 1
            by_cases h : m * 2 ^ k % n = 0
            · simp [h]
            · rw [if_neg h, show (m * 2 ^ k % n != 0) = true from bne_iff_ne.2 h]; rfl
          · omega
/-- quotients are the machine's -/
theorem div_mach (y z : Nat) (hn : y ≤ 18446744073709551615) (hn2 : z ≤ 18446744073709551615) : (nuQuo (nuW y) (nuW z)).word = (Ieee.double.div y z).getD nanW := rel_quo (rel_of y hn) (rel_of z hn2)
theorem rootD_nfl (m : Nat) (i : Int) (hm : m ≠ 0) (s : Bool) : rootD (nfl s m i) = rootW m i := by
  rw [nfl_pos (by omega), Int.toNat_natCast]
  obtain ⟨o1, o2⟩ := odd_is (n := m) hm
  have h := rootW_left (odd m) (tz m) i (by omega)
  rw [← o2] at h
  exact h.symm
/-- roots are the machine's -/
theorem sqrt_mach (y : Nat) (hn : y ≤ 18446744073709551615) : sqrtM y = (Ieee.double.sqrt y).getD nanW := by
  have hr := rel_of y hn
  have hb := cls_bd (y : Int)
  unfold Ieee.Format.sqrt sqrtM
  generalize hd : Ieee.double.read y = x at hr
  cases x with
  | nan s f =>
    have h5 : (nuW y).c = 5 := hr
    have hc : cls (y : Int) = 5 := by
      unfold nuW at h5
      simp only at h5
      split at h5 <;> omega
    have e2 := (read_nan y hn hc).2
    have h6 : (nuW y).neg = false := by
      unfold nuW
      simp only [e2]
      decide
    rw [if_neg (by omega), h6, if_neg (by decide), if_neg (by omega), rel_nan h5]
    rfl
  | infinity s =>
    obtain ⟨h4, h6⟩ := hr
    rw [if_neg (by omega), h6]
    cases s
    · rw [if_neg (by decide), if_neg (by omega)]
      exact rel_word (o := some (.infinity false)) ⟨⟨h4, h6⟩, rfl⟩
    · rw [if_pos rfl]
      rfl
  | number s m i =>
    obtain ⟨h4, h6, h7⟩ := hr
    by_cases m0 : m = 0
    · subst m0
      rw [if_pos rfl] at h4
      rw [if_pos h4]
      have hc : cls (y : Int) ≤ 4 := by
        unfold nuW at h4
        simp only at h4
        split at h4 <;> omega
      have := rel_word (n := nuW y) (o := some (.number s 0 i)) ⟨⟨by rw [h4]; rfl, h6, h7⟩, rfl⟩
      rw [word_back y hn hc] at this
      exact this
    · rw [if_neg m0] at h4
      rw [if_neg (by omega), h6]
      cases s
      · rw [if_neg (by decide), if_pos h4, h7, rootD_nfl m i m0]
        rw [show Ieee.double.fractionBits + 2 = 54 from rfl]
        have hq : (Ieee.Datum.number false m i).root 54 = some (.number false (2 * Ieee.Datum.rootFrom (m <<< (2 * 54 - m.log2 + ((i - ((2 * 54 - m.log2 : Nat) : Int)) % 2).toNat)) ((m <<< (2 * 54 - m.log2 + ((i - ((2 * 54 - m.log2 : Nat) : Int)) % 2).toNat)).log2 / 2 + 1) 0 + (Ieee.Datum.rootFrom (m <<< (2 * 54 - m.log2 + ((i - ((2 * 54 - m.log2 : Nat) : Int)) % 2).toNat)) ((m <<< (2 * 54 - m.log2 + ((i - ((2 * 54 - m.log2 : Nat) : Int)) % 2).toNat)).log2 / 2 + 1) 0 * Ieee.Datum.rootFrom (m <<< (2 * 54 - m.log2 + ((i - ((2 * 54 - m.log2 : Nat) : Int)) % 2).toNat)) ((m <<< (2 * 54 - m.log2 + ((i - ((2 * 54 - m.log2 : Nat) : Int)) % 2).toNat)).log2 / 2 + 1) 0 != m <<< (2 * 54 - m.log2 + ((i - ((2 * 54 - m.log2 : Nat) : Int)) % 2).toNat)).toNat) ((i - ((2 * 54 - m.log2 + ((i - ((2 * 54 - m.log2 : Nat) : Int)) % 2).toNat : Nat) : Int)) / 2 - 1)) := by
          unfold Ieee.Datum.root
          simp only [if_neg m0]
          rfl
        rw [hq]
        simp only [Option.map_some, Option.getD_some, Ieee.Format.write]
        obtain ⟨k, hk⟩ : ∃ k : Nat, 2 * 54 - m.log2 + ((i - ((2 * 54 - m.log2 : Nat) : Int)) % 2).toNat = k := ⟨_, rfl⟩
        rw [hk]
        have hbit : 2 ^ m.log2 ≤ m := Nat.log2_self_le m0
        have enough : 9007199254740992 ≤ isq (m * 2 ^ k) := by
          refine isq_53 ?_
          refine Nat.le_trans (Nat.pow_le_pow_right (by omega) (show 106 ≤ m.log2 + k by omega)) ?_
          rw [Nat.pow_add]
          exact Nat.mul_le_mul_right _ hbit
        have := rootW_is m k ((i - k) / 2) i (by omega) (by omega) enough
        rw [← this, Nat.shiftLeft_eq]
        unfold rootR isq
        congr 1
        congr 1
        generalize Ieee.Datum.rootFrom (m * 2 ^ k) ((m * 2 ^ k).log2 / 2 + 1) 0 = r
        by_cases h : r * r = m * 2 ^ k
        · simp [h]
        · rw [if_neg h, show (r * r != m * 2 ^ k) = true from bne_iff_ne.2 h]; rfl
      · rw [if_pos rfl]
        unfold Ieee.Datum.root
        simp only [if_neg m0]
        rfl
end Go.Proofs.YtfjellhbcjnjkaaGreatDoor
