/-
  Layer 9, plain mathematics: floats near to what they stand for.
-/
import Derived.Test.YtcdbjlmegkcaiaaGreatDoorYRt
import Derived.Test.YtcdbjlmegkcaiaaGreatDoorYAf
import Derived.Test.YtcdbjlmegkcaiaaGreatDoorYRpA
import Derived.Test.YtcdbjlmegkcaiaaGreatDoorYAg
namespace Go.Bw
open Go Go.Rt
set_option linter.unusedVariables false
set_option linter.unusedSimpArgs false
theorem ty_is : (2 : Rat) ^ (-1075 : Int) = ty := by unfold ty; decide +kernel
/-- a sign -/
def sg (s : Bool) (x : Rat) : Rat := if s then -x else x
theorem sg_zero (s : Bool) : sg s 0 = 0 := by unfold sg; cases s <;> simp
theorem sg_sg (s : Bool) (x : Rat) : sg s (sg s x) = x := by unfold sg; cases s <;> simp <;> grind
theorem sg_not (s : Bool) (x : Rat) : sg (!s) x = -sg s x := by unfold sg; cases s <;> simp <;> grind
theorem Nr_neg {r v : Rat} (h : Nr r v) : Nr (-r) (-v) := by
  obtain ⟨a, b, c⟩ := h
  refine ⟨fun h0 => ?_, fun h0 => ?_, fun h0 => ?_⟩
  · have := b (by grind)
    constructor <;> grind
  · have := a (by grind)
    constructor <;> grind
  · have := c (by grind)
    grind
theorem Nr_sg {r v : Rat} (h : Nr r v) (s : Bool) : Nr (sg s r) (sg s v) := by
  cases s
  · exact h
  · exact Nr_neg h
/-- a float's value -/
def sb (y : Nat) : Bool := y / 9223372036854775808 % 2 == 1
def rv (y : Nat) : Rat := sg (sb y) (fvm y)
theorem near_sign (neg : Bool) (M : Nat) (e : Int) : Ieee.double.nearest neg M e ≤ 18446744073709551615 ∧ sb (Ieee.double.nearest neg M e) = neg := by
  by_cases hM : M = 0
  · subst hM
    unfold Ieee.Format.nearest
    rw [if_pos rfl, Gdouble_word]
    cases neg <;> (unfold sb; decide)
  · have h := Gnearest_is neg M e hM
    unfold GsignW inf at h
    unfold sb
    cases neg
    · rw [if_neg (by decide)] at h
      have : Ieee.double.nearest false M e < 9223372036854775808 := by omega
      refine ⟨by omega, ?_⟩
      rw [Nat.div_eq_of_lt this]; rfl
    · rw [if_pos rfl] at h
      have q0 : (0 : Int) ≤ (max (e + M.log2 - 52) (-1074) + 1074) * 4503599627370496 +
          (if max (e + M.log2 - 52) (-1074) - e ≤ 0 then (M : Int) * 2 ^ (-(max (e + M.log2 - 52) (-1074) - e)).toNat
           else ((M / 2 ^ (max (e + M.log2 - 52) (-1074) - e).toNat : Nat) : Int) + (if 2 ^ (max (e + M.log2 - 52) (-1074) - e).toNat < 2 * (M % 2 ^ (max (e + M.log2 - 52) (-1074) - e).toNat) ∨
             (2 ^ (max (e + M.log2 - 52) (-1074) - e).toNat = 2 * (M % 2 ^ (max (e + M.log2 - 52) (-1074) - e).toNat) ∧ M / 2 ^ (max (e + M.log2 - 52) (-1074) - e).toNat % 2 = 1) then 1 else 0)) := by
        refine Int.add_nonneg (by omega) ?_
        split
        · exact Int.mul_nonneg (by omega) (Int.le_of_lt (Int.pow_pos (by decide)))
        · refine Int.add_nonneg (Int.natCast_nonneg _) ?_
          split <;> decide
      refine ⟨by omega, ?_⟩
      have : Ieee.double.nearest true M e / 9223372036854775808 = 1 := by omega
      rw [this]; rfl
/-- what the machine rounds: near, with its sign -/
theorem near_nr (neg : Bool) (M : Nat) (e : Int) (hv : (M : Rat) * 2 ^ e < 2 ^ (1023 : Int)) :
    finN (Ieee.double.nearest neg M e) ∧ Ieee.double.nearest neg M e ≤ 18446744073709551615 ∧ sb (Ieee.double.nearest neg M e) = neg ∧ Nr (fvm (Ieee.double.nearest neg M e)) ((M : Rat) * 2 ^ e) := by
  have h := near_all neg M e hv
  obtain ⟨h1, h2⟩ := near_sign neg M e
  rw [ty_is] at h
  refine ⟨h.1, h1, h2, fun h0 => ⟨h.2.2, h.2.1⟩, fun h0 => ?_, fun h0 => ?_⟩
  · have hM : M = 0 := by
      refine Classical.byContradiction fun hM => ?_
      have := Rat.mul_pos (show (0 : Rat) < (M : Rat) by exact_mod_cast Nat.pos_of_ne_zero hM) (two_pos e)
      grind
    subst hM
    rw [fvm_zero (near_zero neg e)]
    have := ty_pos
    have z : ((0 : Nat) : Rat) = 0 := by decide
    rw [z]
    constructor <;> grind
  · have hM : M = 0 := by
      refine Classical.byContradiction fun hM => ?_
      have := Rat.mul_pos (show (0 : Rat) < (M : Rat) by exact_mod_cast Nat.pos_of_ne_zero hM) (two_pos e)
      grind
    subst hM
    exact fvm_zero (near_zero neg e)
theorem mul_nr {y z : Nat} (hy : finN y) (hz : finN z) (hv : fvm y * fvm z < 2 ^ (1023 : Int)) :
    ∃ r, Ieee.double.mul y z = some r ∧ finN r ∧ r ≤ 18446744073709551615 ∧ sb r = (sb y ^^ sb z) ∧ Nr (fvm r) (fvm y * fvm z) := by
  have e : ((dg (y % 9223372036854775808) * dg (z % 9223372036854775808) : Nat) : Rat) * 2 ^ ((-1074 : Int) + (pl (y % 9223372036854775808) : Nat) + (-1074 + (pl (z % 9223372036854775808) : Nat))) = fvm y * fvm z := by
    unfold fvm
    rw [two_add, Rat.natCast_mul]
    grind
  have h : Ieee.double.mul y z = some (Ieee.double.nearest (sb y ^^ sb z) (dg (y % 9223372036854775808) * dg (z % 9223372036854775808)) (-1074 + (pl (y % 9223372036854775808) : Nat) + (-1074 + (pl (z % 9223372036854775808) : Nat)))) := by
    unfold Ieee.Format.mul
    rw [read_word y hy, read_word z hz]
    rfl
  have := near_nr (sb y ^^ sb z) (dg (y % 9223372036854775808) * dg (z % 9223372036854775808)) (-1074 + (pl (y % 9223372036854775808) : Nat) + (-1074 + (pl (z % 9223372036854775808) : Nat))) (by rw [e]; exact hv)
  rw [e] at this
  exact ⟨_, h, this⟩
/-- sums, with signs -/
theorem datum_sum (s t : Bool) (m n : Nat) (i j : Int) (hv : sg s ((m : Rat) * 2 ^ i) + sg t ((n : Rat) * 2 ^ j) < 2 ^ (1023 : Int)) (hv2 : -(sg s ((m : Rat) * 2 ^ i) + sg t ((n : Rat) * 2 ^ j)) < 2 ^ (1023 : Int)) :
    ∃ r, ((Ieee.Datum.number s m i).sum (.number t n j)).map Ieee.double.write = some r ∧ finN r ∧ r ≤ 18446744073709551615 ∧ (s = t → sb r = s) ∧ Nr (rv r) (sg s ((m : Rat) * 2 ^ i) + sg t ((n : Rat) * 2 ^ j)) := by
  obtain ⟨b, hb⟩ : ∃ b, min i j = b := ⟨_, rfl⟩
  obtain ⟨T, hT⟩ : ∃ T : Int, (if s then -((m * 2 ^ (i - b).toNat : Nat) : Int) else ((m * 2 ^ (i - b).toNat : Nat) : Int)) + (if t then -((n * 2 ^ (j - b).toNat : Nat) : Int) else ((n * 2 ^ (j - b).toNat : Nat) : Int)) = T := ⟨_, rfl⟩
  have hs : (Ieee.Datum.number s m i).sum (.number t n j) = some (.number (if T = 0 then s && t else decide (T < 0)) T.natAbs b) := by
    unfold Ieee.Datum.sum
    simp only [hb, signed_is, hT]
  have cast : ∀ (s : Bool) (m : Nat) (i : Int), b ≤ i → (((if s then -((m * 2 ^ (i - b).toNat : Nat) : Int) else ((m * 2 ^ (i - b).toNat : Nat) : Int)) : Int) : Rat) * 2 ^ b = sg s ((m : Rat) * 2 ^ i) := by
    intro s m i hi
    have := nat_place m hi
    cases s
    · simp only [Bool.false_eq_true, if_false, sg]
      rw [← this, Rat.intCast_natCast]
    · simp only [if_true, sg]
      rw [← this, Rat.intCast_neg, Rat.intCast_natCast]
      grind
  have hval : ((T : Int) : Rat) * 2 ^ b = sg s ((m : Rat) * 2 ^ i) + sg t ((n : Rat) * 2 ^ j) := by
    rw [← cast s m i (by omega), ← cast t n j (by omega), ← hT, Rat.intCast_add]
    grind
  have absv : sg (if T = 0 then s && t else decide (T < 0)) ((T.natAbs : Rat) * 2 ^ b) = sg s ((m : Rat) * 2 ^ i) + sg t ((n : Rat) * 2 ^ j) := by
    rw [← hval]
    rcases Int.lt_trichotomy T 0 with c | c | c
    · rw [if_neg (by omega), decide_eq_true c]
      have : ((T.natAbs : Nat) : Rat) = -((T : Int) : Rat) := by
        rw [← Rat.intCast_neg, ← Rat.intCast_natCast]
        congr 1
        omega
      rw [this]
      unfold sg
      rw [if_pos rfl]
      grind
    · subst c
      rw [show (Int.natAbs 0) = 0 from rfl]
      have z : ((0 : Nat) : Rat) = 0 := by decide
      have z2 : ((0 : Int) : Rat) = 0 := by decide
      rw [z, z2, show (0 : Rat) * 2 ^ b = 0 by grind, sg_zero]
    · rw [if_neg (by omega), decide_eq_false (by omega)]
      have : ((T.natAbs : Nat) : Rat) = ((T : Int) : Rat) := by
        rw [← Rat.intCast_natCast]
        congr 1
        omega
      rw [this]; rfl
  obtain ⟨n1, n2, n3, n4⟩ := near_nr (if T = 0 then s && t else decide (T < 0)) T.natAbs b (by
    rw [← absv] at hv hv2
    unfold sg at hv hv2
    have h0 : (0 : Rat) ≤ (T.natAbs : Rat) * 2 ^ b := Rat.mul_nonneg (by exact_mod_cast Nat.zero_le _) (Rat.le_of_lt (two_pos b))
    split at hv <;> grind)
  rw [hs]
  refine ⟨_, rfl, n1, n2, fun est => ?_, ?_⟩
  · refine n3.trans ?_
    subst est
    by_cases hz : T = 0
    · rw [if_pos hz, Bool.and_self]
    · rw [if_neg hz]
      cases s
      · simp only [Bool.false_eq_true, if_false] at hT
        exact decide_eq_false (by omega)
      · simp only [if_true] at hT
        exact decide_eq_true (by omega)
  · rw [← absv]
    have := Nr_sg n4 (if T = 0 then s && t else decide (T < 0))
    have e : rv (Ieee.double.nearest (if T = 0 then s && t else decide (T < 0)) T.natAbs b) = sg (if T = 0 then s && t else decide (T < 0)) (fvm (Ieee.double.nearest (if T = 0 then s && t else decide (T < 0)) T.natAbs b)) := by
      unfold rv; rw [n3]
    rw [← e] at this
    exact this
theorem fvm_def (y : Nat) : (dg (y % 9223372036854775808) : Rat) * 2 ^ ((-1074 : Int) + (pl (y % 9223372036854775808) : Nat)) = fvm y := rfl
theorem add_nr {y z : Nat} (hy : finN y) (hz : finN z) (hv : rv y + rv z < 2 ^ (1023 : Int)) (hv2 : -(rv y + rv z) < 2 ^ (1023 : Int)) :
    ∃ r, Ieee.double.add y z = some r ∧ finN r ∧ r ≤ 18446744073709551615 ∧ (sb y = sb z → sb r = sb y) ∧ Nr (rv r) (rv y + rv z) := by
  have e := datum_sum (sb y) (sb z) (dg (y % 9223372036854775808)) (dg (z % 9223372036854775808)) (-1074 + (pl (y % 9223372036854775808) : Nat)) (-1074 + (pl (z % 9223372036854775808) : Nat))
  rw [fvm_def, fvm_def] at e
  unfold Ieee.Format.add
  rw [read_word y hy, read_word z hz]
  exact e hv hv2
theorem sub_nr {y z : Nat} (hy : finN y) (hz : finN z) (hv : rv y - rv z < 2 ^ (1023 : Int)) (hv2 : -(rv y - rv z) < 2 ^ (1023 : Int)) :
    ∃ r, Ieee.double.sub y z = some r ∧ finN r ∧ r ≤ 18446744073709551615 ∧ (sb y = !sb z → sb r = sb y) ∧ Nr (rv r) (rv y - rv z) := by
  have e := datum_sum (sb y) (!sb z) (dg (y % 9223372036854775808)) (dg (z % 9223372036854775808)) (-1074 + (pl (y % 9223372036854775808) : Nat)) (-1074 + (pl (z % 9223372036854775808) : Nat))
  rw [fvm_def, fvm_def, sg_not] at e
  have e2 : sg (sb y) (fvm y) + -sg (sb z) (fvm z) = rv y - rv z := by unfold rv; grind
  rw [e2] at e
  unfold Ieee.Format.sub
  rw [read_word y hy, read_word z hz]
  exact e hv hv2
end Go.Bw
namespace Go.Bw
open Go Go.Rt
set_option linter.unusedVariables false
set_option linter.unusedSimpArgs false
/-- the least that is rounded to its full digits, and more -/
def low : Rat := 1 / 2 ^ 970
theorem low_pos : 0 < low := by unfold low; decide +kernel
theorem low_ty : ty = low * (1/40564819207303340847894502572032) := by unfold low ty; decide +kernel
theorem Nr_rel {r v : Rat} (h : Nr r v) (hv : v = 0 ∨ low ≤ v) : 0 ≤ r ∧ Rel 1 r v := by
  rcases hv with hv | hv
  · have := h.2.2 hv
    subst hv
    subst this
    exact ⟨Rat.le_refl, (Rel.refl 0).mono (by omega) Rat.le_refl Rat.le_refl⟩
  · have l := low_pos
    obtain ⟨a, b⟩ := h.1 (by grind)
    rw [low_ty] at a b
    have e : Gp 1 = 9007199254739968/9007199254739967 := by unfold Gp Gp Gu; decide +kernel
    unfold Rel
    rw [e]
    refine ⟨by grind, by grind, by grind⟩
theorem Gp2 : Gp 2 = 9007199254739968/9007199254739967 * (9007199254739968/9007199254739967) := by unfold Gp Gp Gp Gu; decide +kernel
theorem Gp4 : Gp 4 = Gp 2 * Gp 2 := Gp_add 2 2
theorem quo_zero {y z : Nat} (hy : finN y) (hz : finN z) (hz0 : dg (z % 9223372036854775808) ≠ 0) : ∃ M e, Ieee.double.div y z = some (Ieee.double.nearest (sb y ^^ sb z) M e) ∧ (dg (y % 9223372036854775808) = 0 → M = 0) := by
  have hq : Ieee.double.div y z = ((Ieee.double.read y).quotient 54 (Ieee.double.read z)).map Ieee.double.write := rfl
  rw [read_word y hy, read_word z hz, quot_any _ _ _ _ _ _ hz0] at hq
  refine ⟨_, _, hq, fun h => ?_⟩
  rw [h, Nat.zero_shiftLeft, Nat.zero_div, Nat.zero_mod]
  rfl
theorem div_rl {y z : Nat} (hy : finN y) (hz : finN z) (hz0 : 0 < fvm z) (hl : fvm y = 0 ∨ low * fvm z ≤ fvm y) (hv : fvm y * 2 < 2 ^ (1023 : Int) * fvm z) :
    ∃ r, Ieee.double.div y z = some r ∧ finN r ∧ r ≤ 18446744073709551615 ∧ sb r = (sb y ^^ sb z) ∧ Rel 2 (fvm r) (fvm y / fvm z) := by
  have dz := dg_of_pos hz0
  obtain ⟨M, e, hq, hM⟩ := quo_zero hy hz dz
  obtain ⟨n1, n2⟩ := near_sign (sb y ^^ sb z) M e
  by_cases hy0 : dg (y % 9223372036854775808) = 0
  · have hm := hM hy0
    subst hm
    have z1 := near_zero (sb y ^^ sb z) e
    have fy : fvm y = 0 := by
      unfold fvm
      rw [hy0]
      have : ((0 : Nat) : Rat) = 0 := by decide
      rw [this]; grind
    refine ⟨_, hq, by unfold finN; rw [z1]; decide, n1, n2, ?_⟩
    rw [fvm_zero z1, fy, show (0 : Rat) / fvm z = 0 by grind]
    exact (Rel.refl 0).mono (by omega) Rat.le_refl Rat.le_refl
  · obtain ⟨r, hr, hf, -, a, b⟩ := div_val hy hz hy0 dz hv
    rw [hq] at hr
    injection hr with hr
    rw [hr] at n1 n2 hq
    have hl2 : low * fvm z ≤ fvm y := by
      rcases hl with h | h
      · have := fvm_pos hy0
        grind
      · exact h
    refine ⟨r, hq, hf, n1, n2, ?_⟩
    rw [ty_is, low_ty] at a b
    have l := low_pos
    have i0 := inv_pos hz0
    have ei : 1 / fvm z * fvm z = 1 := by grind
    have eq : fvm y / fvm z * fvm z = fvm y := by grind
    have r0 := fvm_nonneg r
    have g2 := Gp_pos 2
    unfold Rel
    constructor
    · refine Rat.le_of_mul_le_mul_right (c := fvm z) ?_ hz0
      rw [show fvm y / fvm z * Gp 2 * fvm z = (fvm y / fvm z * fvm z) * Gp 2 by grind, eq, Gp2]
      grind
    · refine Rat.le_of_mul_le_mul_right (c := fvm z) ?_ hz0
      rw [eq, Gp2]
      grind
theorem sqrt_rl {y : Nat} (hy : finN y) (hm : y ≤ 18446744073709551615) (hs : sb y = false) (h1 : 1/2 ≤ fvm y) (hv : fvm y < 2 ^ (1023 : Int)) :
    ∃ r, Ieee.double.sqrt y = some r ∧ finN r ∧ r ≤ 18446744073709551615 ∧ sb r = false ∧ 0 < fvm r ∧ Rel 4 (fvm r * fvm r) (fvm y) := by
  have y1 : y < 9223372036854775808 := by
    unfold sb at hs
    have : y / 9223372036854775808 % 2 ≠ 1 := by simpa using hs
    omega
  have y2 : y < 9218868437227405312 := by unfold finN at hy; omega
  have d0 : dg y ≠ 0 := by
    have := dg_of_pos (y := y) (by grind)
    rwa [Nat.mod_eq_of_lt y1] at this
  obtain ⟨r, hr, hf, r1, a, b, r0⟩ := sqrt_val y2 d0 h1 hv
  refine ⟨r, hr, hf, by omega, by unfold sb; rw [Nat.div_eq_of_lt r1]; rfl, r0, ?_⟩
  have rr := Rat.mul_pos r0 r0
  unfold Rel
  rw [Gp4, Gp2]
  generalize fvm r * fvm r = R at *
  constructor <;> grind
theorem rv_sv (y : Nat) : rv y = (sv y : Rat) * 2 ^ (-1074 : Int) := by
  unfold rv fvm sb sv sg vl
  rw [two_add, two_nat]
  by_cases h : (y / 9223372036854775808 % 2 == 1) = true
  · rw [if_pos h, if_pos h, Rat.intCast_neg, Rat.intCast_natCast, Rat.natCast_mul]
    grind
  · rw [if_neg h, if_neg h, Rat.intCast_natCast, Rat.natCast_mul]
    grind
theorem rv_lt {y z : Nat} : rv y < rv z ↔ sv y < sv z := by
  rw [rv_sv, rv_sv]
  have p := two_pos (-1074)
  constructor
  · intro h
    refine Int.not_le.1 fun hc => ?_
    have h2 : ((sv z : Int) : Rat) ≤ ((sv y : Int) : Rat) := by exact_mod_cast hc
    have := Rat.mul_le_mul_of_nonneg_right h2 (Rat.le_of_lt p)
    grind
  · intro h
    have h2 : ((sv y : Int) : Rat) < ((sv z : Int) : Rat) := by exact_mod_cast h
    exact Rat.mul_lt_mul_of_pos_right h2 p
theorem order_rv {y z : Nat} (hy : finN y) (hz : finN z) : Ieee.double.order y z = some (if rv y < rv z then .lt else if rv z < rv y then .gt else .eq) := by
  rw [order_sv y z hy hz]
  simp only [compare, compareOfLessAndEq, rv_lt]
  by_cases c : sv y < sv z
  · rw [if_pos c, if_pos c]
  · rw [if_neg c, if_neg c]
    by_cases d : sv y = sv z
    · rw [if_pos d, if_neg (by omega)]
    · rw [if_neg d, if_pos (by omega)]
end Go.Bw
namespace Go.Proofs.YtcdbjlmegkcaiaaGreatDoor
open Go Go.Bw Go.Rt
set_option linter.unusedVariables false
set_option linter.unusedSimpArgs false
/-- a range about 1 -/
def Rg (e : Nat) (a : Rat) : Prop := 1 ≤ a * 2 ^ e ∧ a ≤ 2 ^ e
def Rz (e : Nat) (a : Rat) : Prop := a = 0 ∨ Rg e a
theorem p2_pos (e : Nat) : (0 : Rat) < 2 ^ e := Rat.pow_pos (by decide)
theorem p2_add (e f : Nat) : (2 : Rat) ^ (e + f) = 2 ^ e * 2 ^ f := by
  induction f with
  | zero => rw [Nat.add_zero, Rat.pow_zero]; grind
  | succ f ih => rw [Nat.add_succ, Rat.pow_succ, Rat.pow_succ, ih]; grind
theorem p2_one (e : Nat) : (1 : Rat) ≤ 2 ^ e := by
  induction e with
  | zero => rw [Rat.pow_zero]; exact Rat.le_refl
  | succ e ih => rw [Rat.pow_succ]; grind
theorem p2_mono {e f : Nat} (h : e ≤ f) : (2 : Rat) ^ e ≤ 2 ^ f := by
  obtain ⟨d, rfl⟩ := Nat.exists_eq_add_of_le h
  rw [p2_add]
  have := Rat.mul_le_mul_of_nonneg_left (p2_one d) (Rat.le_of_lt (p2_pos e))
  grind
section
variable {e f k : Nat} {a b : Rat}
theorem Rg.pos (h : Rg e a) : 0 < a := by
  refine Rat.not_le.1 fun hc => ?_
  have := Rat.mul_le_mul_of_nonneg_right hc (Rat.le_of_lt (p2_pos e))
  have := h.1
  grind
theorem Rg.mono (h : Rg e a) (hf : e ≤ f) : Rg f a := by
  have p := h.pos
  have m := p2_mono hf
  exact ⟨Rat.le_trans h.1 (Rat.mul_le_mul_of_nonneg_left m (Rat.le_of_lt p)), Rat.le_trans h.2 m⟩
theorem Rz.mono (h : Rz e a) (hf : e ≤ f) : Rz f a := h.imp id (·.mono hf)
theorem Rz.nonneg (h : Rz e a) : 0 ≤ a := by
  rcases h with h | h
  · rw [h]; exact Rat.le_refl
  · exact Rat.le_of_lt h.pos
theorem Rz.le (h : Rz e a) : a ≤ 2 ^ e := by
  rcases h with h | h
  · rw [h]; exact Rat.le_of_lt (p2_pos e)
  · exact h.2
theorem Rg.mul (h : Rg e a) (k : Rg f b) : Rg (e + f) (a * b) := by
  have p := Rat.le_of_lt h.pos
  have q := Rat.le_of_lt k.pos
  unfold Rg
  rw [p2_add]
  refine ⟨?_, lemul h.2 k.2 p q⟩
  have := lemul h.1 k.1 (by decide) (by decide)
  grind
theorem Rz.mul (h : Rz e a) (k : Rz f b) : Rz (e + f) (a * b) := by
  rcases h with h | h
  · left; rw [h]; grind
  · rcases k with k | k
    · left; rw [k]; grind
    · right; exact h.mul k
theorem Rg.inv (h : Rg e a) : Rg e (1 / a) := by
  have p := h.pos
  have e1 : 1 / a * a = 1 := by grind
  have i := inv_pos p
  generalize 1 / a = I at *
  have q := p2_pos e
  constructor
  · have := Rat.mul_le_mul_of_nonneg_left h.2 (Rat.le_of_lt i)
    grind
  · have := Rat.mul_le_mul_of_nonneg_left h.1 (Rat.le_of_lt i)
    have e2 : I * (a * 2 ^ e) = 2 ^ e := by
      rw [← Rat.mul_assoc, e1, Rat.one_mul]
    rw [e2] at this
    grind
theorem Rg.div (h : Rg e a) (k : Rg f b) : Rg (e + f) (a / b) := by
  rw [show a / b = a * (1 / b) by grind]
  exact h.mul k.inv
theorem Rz.div (h : Rz e a) (k : Rg f b) : Rz (e + f) (a / b) := by
  rw [show a / b = a * (1 / b) by grind]
  exact h.mul (.inr k.inv)
theorem Gp_two (hk : k ≤ 4000) : Gp k ≤ 2 := by
  have g := Gp_le k hk
  have kk : (k : Rat) ≤ 4000 := by exact_mod_cast hk
  grind
theorem Rg.rel (h : Rg e a) (hr : Rel k b a) (hk : k ≤ 4000) (hb : 0 ≤ b) : Rg (e + 1) b := by
  have g := Gp_two hk
  have p := h.pos
  obtain ⟨r1, r2⟩ := hr
  have g1 := Gp_one k
  unfold Rg
  rw [p2_add, show (2 : Rat) ^ 1 = 2 by decide]
  have a1 := Rat.mul_le_mul_of_nonneg_left g (Rat.le_of_lt p)
  have a2 := Rat.mul_le_mul_of_nonneg_left g hb
  have q := p2_pos e
  obtain ⟨h1, h2⟩ := h
  constructor
  · have a3 := Rat.mul_le_mul_of_nonneg_right (show a ≤ b * 2 by grind) (Rat.le_of_lt q)
    grind
  · grind
theorem Rz.rel (h : Rz e a) (hr : Rel k b a) (hk : k ≤ 4000) (hb : 0 ≤ b) : Rz (e + 1) b := by
  rcases h with h | h
  · left; exact hr.zero h hb
  · right; exact h.rel hr hk hb
theorem Rg.add (h : Rg e a) (k : Rz e b) : Rg (e + 1) (a + b) := by
  have q := p2_pos e
  have l := k.le
  have n := Rat.mul_nonneg k.nonneg (Rat.le_of_lt q)
  have p := Rat.mul_nonneg (Rat.le_of_lt h.pos) (Rat.le_of_lt q)
  obtain ⟨h1, h2⟩ := h
  unfold Rg
  rw [p2_add, show (2 : Rat) ^ 1 = 2 by decide]
  constructor <;> grind
theorem Rz.add (h : Rz e a) (k : Rz e b) : Rz (e + 1) (a + b) := by
  rcases h with h | h
  · rw [h, show 0 + b = b by grind]
    exact k.mono (by omega)
  · right; exact h.add k
theorem top_lt : (2 : Rat) ^ 960 < 2 ^ (1023 : Int) := by decide +kernel
theorem Rg.lw (h : Rg e a) (he : e ≤ 960) : low ≤ a ∧ a < 2 ^ (1023 : Int) := by
  have h := h.mono he
  refine ⟨?_, Std.lt_of_le_of_lt h.2 top_lt⟩
  have e1 : low * 2 ^ 960 ≤ 1 := by unfold Bw.low; decide +kernel
  refine Rat.not_lt.1 fun hc => ?_
  have := Rat.mul_lt_mul_of_pos_right hc (p2_pos 960)
  have := h.1
  grind
theorem Rz.lw (h : Rz e a) (he : e ≤ 960) : (a = 0 ∨ low ≤ a) ∧ a < 2 ^ (1023 : Int) := by
  rcases h with h | h
  · exact ⟨.inl h, by rw [h]; exact two_pos _⟩
  · exact ⟨.inr (h.lw he).1, (h.lw he).2⟩
end
/-- a finite float of some size, with its sign -/
def Wv (o : Option Nat) (s : Bool) (a : Rat) : Prop := ∃ y, o = some y ∧ finN y ∧ y ≤ 18446744073709551615 ∧ sb y = s ∧ fvm y = a
section
variable {o p : Option Nat} {s t : Bool} {x y : Rat} {e f : Nat}
theorem Wv.nonneg (h : Wv o s x) : 0 ≤ x := by
  obtain ⟨_, _, _, _, _, rfl⟩ := h
  exact fvm_nonneg _
theorem Wv.mul (h : Wv o s x) (k : Wv p t y) (hr : Rz e (x * y)) (he : e ≤ 960) : ∃ z, Wv (aop .mul o p) (s ^^ t) z ∧ Rel 1 z (x * y) ∧ Rz (e + 1) z := by
  obtain ⟨a, rfl, a1, a2, a3, rfl⟩ := h
  obtain ⟨b, rfl, b1, b2, b3, rfl⟩ := k
  obtain ⟨l1, l2⟩ := hr.lw he
  obtain ⟨r, h1, h2, h3, h4, h5⟩ := mul_nr a1 b1 l2
  obtain ⟨n1, n2⟩ := Nr_rel h5 l1
  exact ⟨fvm r, ⟨r, h1, h2, h3, by rw [h4, a3, b3], rfl⟩, n2, hr.rel n2 (by omega) n1⟩
theorem Wv.quo (h : Wv o s x) (k : Wv p t y) (hy : Rg f y) (hr : Rz e (x / y)) (he : e ≤ 960) : ∃ z, Wv (aop .quo o p) (s ^^ t) z ∧ Rel 2 z (x / y) ∧ Rz (e + 1) z := by
  obtain ⟨a, rfl, a1, a2, a3, rfl⟩ := h
  obtain ⟨b, rfl, b1, b2, b3, rfl⟩ := k
  have bp := hy.pos
  have eq : fvm a / fvm b * fvm b = fvm a := by grind
  have hr9 := hr.mono he
  obtain ⟨r, h1, h2, h3, h4, h5⟩ := div_rl a1 b1 bp (by
    rcases hr9 with h | h
    · left; rw [← eq, h]; grind
    · right
      have := Rat.mul_le_mul_of_nonneg_right (h.lw (Nat.le_refl _)).1 (Rat.le_of_lt bp)
      rw [eq] at this
      exact this) (by
    have l := hr9.le
    have t2 : (2 : Rat) ^ 960 * 2 < 2 ^ (1023 : Int) := by decide +kernel
    have := Rat.mul_lt_mul_of_pos_right (show fvm a / fvm b * 2 < 2 ^ (1023 : Int) by grind) bp
    rw [← eq]
    grind)
  exact ⟨fvm r, ⟨r, h1, h2, h3, by rw [h4, a3, b3], rfl⟩, h5, hr.rel h5 (by omega) (fvm_nonneg r)⟩
theorem rv_is {a : Nat} (h : sb a = s) : rv a = sg s (fvm a) := by unfold rv; rw [h]
theorem Wv.add (h : Wv o s x) (k : Wv p s y) (hr : Rz e (x + y)) (he : e ≤ 960) : ∃ z, Wv (aop .add o p) s z ∧ Rel 1 z (x + y) ∧ Rz (e + 1) z := by
  obtain ⟨a, rfl, a1, a2, a3, rfl⟩ := h
  obtain ⟨b, rfl, b1, b2, b3, rfl⟩ := k
  obtain ⟨l1, l2⟩ := hr.lw he
  have ev : rv a + rv b = sg s (fvm a + fvm b) := by rw [rv_is a3, rv_is b3]; unfold sg; cases s <;> simp; grind
  have n0 := hr.nonneg
  have tp := two_pos 1023
  obtain ⟨r, h1, h2, h3, h4, h5⟩ := add_nr a1 b1 (by rw [ev]; unfold sg; split <;> grind) (by rw [ev]; unfold sg; split <;> grind)
  have h6 := h4 (by rw [a3, b3])
  rw [a3] at h6
  rw [ev, rv_is h6] at h5
  have h7 := Nr_sg h5 s
  rw [sg_sg, sg_sg] at h7
  obtain ⟨n1, n2⟩ := Nr_rel h7 l1
  exact ⟨fvm r, ⟨r, h1, h2, h3, h6, rfl⟩, n2, hr.rel n2 (by omega) n1⟩
theorem Wv.subo (h : Wv o s x) (k : Wv p (!s) y) (hr : Rz e (x + y)) (he : e ≤ 960) : ∃ z, Wv (aop .sub o p) s z ∧ Rel 1 z (x + y) ∧ Rz (e + 1) z := by
  obtain ⟨a, rfl, a1, a2, a3, rfl⟩ := h
  obtain ⟨b, rfl, b1, b2, b3, rfl⟩ := k
  obtain ⟨l1, l2⟩ := hr.lw he
  have ev : rv a - rv b = sg s (fvm a + fvm b) := by rw [rv_is a3, rv_is b3]; unfold sg; cases s <;> simp <;> grind
  have n0 := hr.nonneg
  have tp := two_pos 1023
  obtain ⟨r, h1, h2, h3, h4, h5⟩ := sub_nr a1 b1 (by rw [ev]; unfold sg; split <;> grind) (by rw [ev]; unfold sg; split <;> grind)
  have h6 := h4 (by rw [a3, b3, Bool.not_not])
  rw [a3] at h6
  rw [ev, rv_is h6] at h5
  have h7 := Nr_sg h5 s
  rw [sg_sg, sg_sg] at h7
  obtain ⟨n1, n2⟩ := Nr_rel h7 l1
  exact ⟨fvm r, ⟨r, h1, h2, h3, h6, rfl⟩, n2, hr.rel n2 (by omega) n1⟩
theorem Wv.subs (h : Wv o s x) (k : Wv p s y) (hx : x ≤ 2 ^ 960) (hy : y ≤ 2 ^ 960) : ∃ r, aop .sub o p = some r ∧ finN r ∧ r ≤ 18446744073709551615 ∧ Nr (sg s (rv r)) (x - y) := by
  have x0 := h.nonneg
  have y0 := k.nonneg
  obtain ⟨a, rfl, a1, a2, a3, rfl⟩ := h
  obtain ⟨b, rfl, b1, b2, b3, rfl⟩ := k
  have ev : rv a - rv b = sg s (fvm a - fvm b) := by rw [rv_is a3, rv_is b3]; unfold sg; cases s <;> simp <;> grind
  have tp := top_lt
  obtain ⟨r, h1, h2, h3, h4, h5⟩ := sub_nr a1 b1 (by rw [ev]; unfold sg; split <;> grind) (by rw [ev]; unfold sg; split <;> grind)
  rw [ev] at h5
  have h7 := Nr_sg h5 s
  rw [sg_sg] at h7
  exact ⟨r, h1, h2, h3, h7⟩
theorem Wv.sqrt (h : Wv o false x) (h1 : 1/2 ≤ x) (hr : x ≤ 2 ^ 960) : ∃ z, Wv (asq o) false z ∧ 0 < z ∧ Rel 4 (z * z) x := by
  obtain ⟨a, rfl, a1, a2, a3, rfl⟩ := h
  obtain ⟨r, r1, r2, r3, r4, r5, r6⟩ := sqrt_rl a1 a2 a3 h1 (Std.lt_of_le_of_lt hr top_lt)
  exact ⟨fvm r, ⟨r, r1, r2, r3, r4, rfl⟩, r5, r6⟩
theorem Wv.abs (h : Wv o s x) : Wv (absA o) false x := by
  obtain ⟨a, rfl, a1, a2, a3, rfl⟩ := h
  refine ⟨a % 9223372036854775808, rfl, by unfold finN at *; omega, by omega, ?_, by unfold fvm; rw [Nat.mod_mod]⟩
  unfold sb
  rw [Nat.div_eq_of_lt (Nat.mod_lt _ (by decide))]
  rfl
theorem sb_hi {a : Nat} (h : a ≤ 18446744073709551615) : sb a = decide (9223372036854775808 ≤ a) := by
  unfold sb
  by_cases c : 9223372036854775808 ≤ a
  · rw [decide_eq_true c, show a / 9223372036854775808 = 1 by omega]; rfl
  · rw [decide_eq_false c, show a / 9223372036854775808 = 0 by omega]; rfl
theorem Wv.neg (h : Wv o s x) : Wv (negA o) (!s) x := by
  obtain ⟨a, rfl, a1, a2, a3, rfl⟩ := h
  rw [sb_hi a2] at a3
  refine ⟨if 9223372036854775808 ≤ a then a - 9223372036854775808 else a + 9223372036854775808, rfl, ?_, ?_, ?_, ?_⟩
  · unfold finN at *; split <;> omega
  · split <;> omega
  · rw [sb_hi (by split <;> omega), ← a3, ← decide_not]
    exact decide_eq_decide.2 (by split <;> omega)
  · unfold fvm
    have : (if 9223372036854775808 ≤ a then a - 9223372036854775808 else a + 9223372036854775808) % 9223372036854775808 = a % 9223372036854775808 := by split <;> omega
    rw [this]
theorem Wv.sgn (h : Wv o s x) {b : Nat} (hb : b ≤ 18446744073709551615) : Wv (sgnA o b) (sb b) x := by
  obtain ⟨a, rfl, a1, a2, a3, rfl⟩ := h
  rw [sb_hi hb]
  refine ⟨sgnW a b, rfl, ?_, sgn_bd hb, ?_, ?_⟩
  · unfold finN sgnW at *; omega
  · rw [sb_hi (sgn_bd hb)]
    exact decide_eq_decide.2 (by unfold sgnW; omega)
  · unfold fvm
    have : sgnW a b % 9223372036854775808 = a % 9223372036854775808 := by unfold sgnW; omega
    rw [this]
theorem Wv.zero : Wv (some 0) false 0 := ⟨0, rfl, by unfold finN; decide, by decide, rfl, fvm_zero rfl⟩
theorem Wv.one : Wv (some 4607182418800017408) false 1 := ⟨4607182418800017408, rfl, by unfold finN; decide, by decide, rfl, by
  unfold fvm
  rw [show dg (4607182418800017408 % 9223372036854775808) = 2 ^ 52 by decide, show pl (4607182418800017408 % 9223372036854775808) = 1022 by decide, ← two_nat, ← two_add]
  decide⟩
theorem aord_wv {a b : Nat} (ha : finN a) (hb : finN b) : aord (some a) (some b) = some (if rv a < rv b then .lt else if rv b < rv a then .gt else .eq) := order_rv ha hb
theorem Wv.lt (h : Wv o false x) (k : Wv p false y) : ltA o p = decide (x < y) := by
  obtain ⟨a, rfl, a1, a2, a3, rfl⟩ := h
  obtain ⟨b, rfl, b1, b2, b3, rfl⟩ := k
  unfold ltA
  rw [aord_wv a1 b1, rv_is a3, rv_is b3]
  show ((some (if fvm a < fvm b then Ordering.lt else if fvm b < fvm a then .gt else .eq)) == some .lt) = _
  by_cases c : fvm a < fvm b
  · rw [if_pos c, decide_eq_true c]; rfl
  · rw [if_neg c, decide_eq_false c]
    split <;> rfl
theorem Wv.gt (h : Wv o false x) (k : Wv p false y) : gtA o p = decide (y < x) := by
  obtain ⟨a, rfl, a1, a2, a3, rfl⟩ := h
  obtain ⟨b, rfl, b1, b2, b3, rfl⟩ := k
  unfold gtA
  rw [aord_wv a1 b1, rv_is a3, rv_is b3]
  show ((some (if fvm a < fvm b then Ordering.lt else if fvm b < fvm a then .gt else .eq)) == some .gt) = _
  by_cases c : fvm a < fvm b
  · rw [if_pos c, decide_eq_false (by grind)]; rfl
  · rw [if_neg c]
    by_cases d : fvm b < fvm a
    · rw [if_pos d, decide_eq_true d]; rfl
    · rw [if_neg d, decide_eq_false d]; rfl
theorem Wv.eqz (h : Wv o s x) : eqA o (some 0) = decide (x = 0) := by
  have x0 := h.nonneg
  obtain ⟨a, rfl, a1, a2, a3, rfl⟩ := h
  unfold eqA
  rw [aord_wv a1 (b := 0) (by unfold finN; decide), rv_is a3, show rv 0 = 0 by unfold rv; rw [show sb 0 = false from rfl, fvm_zero rfl]; rfl]
  by_cases c : fvm a = 0
  · rw [decide_eq_true c, c, sg_zero, if_neg (by grind), if_neg (by grind)]; rfl
  · rw [decide_eq_false c]
    cases s
    · rw [show sg false (fvm a) = fvm a from rfl, if_neg (by grind), if_pos (by grind)]; rfl
    · rw [show sg true (fvm a) = -fvm a from rfl, if_pos (by grind)]; rfl
end
end Go.Proofs.YtcdbjlmegkcaiaaGreatDoor
namespace Go.Proofs.YtcdbjlmegkcaiaaGreatDoor
open Go Go.Bw Go.Rt
set_option linter.unusedVariables false
set_option linter.unusedSimpArgs false
theorem rdiv_sq {u c a : Rat} (ha : 0 < a) : (1 + u * (c / a) * (c / a)) * (a * a) = a * a + u * (c * c) := by
  have e : 1 / a * a = 1 := by grind
  rw [show c / a = c * (1 / a) by grind]
  generalize 1 / a = I at *
  have : (1 + u * (c * I) * (c * I)) * (a * a) = a * a + u * (c * c) * ((I * a) * (I * a)) := by grind
  rw [this, e]; grind
theorem rdiv_sq2 {u c a : Rat} (hc : 0 < c) : (u + a / c * (a / c)) * (c * c) = u * (c * c) + a * a := by
  have e : 1 / c * c = 1 := by grind
  rw [show a / c = a * (1 / c) by grind]
  generalize 1 / c = I at *
  have : (u + a * I * (a * I)) * (c * c) = u * (c * c) + a * a * ((I * c) * (I * c)) := by grind
  rw [this, e]; grind
theorem div_le_one {c a : Rat} (ha : 0 < a) (h : c ≤ a) (hc : 0 ≤ c) : 0 ≤ c / a ∧ c / a ≤ 1 := by
  have e : 1 / a * a = 1 := by grind
  have i := inv_pos ha
  rw [show c / a = c * (1 / a) by grind]
  generalize 1 / a = I at *
  have := Rat.mul_le_mul_of_nonneg_right h (Rat.le_of_lt i)
  have := Rat.mul_nonneg hc (Rat.le_of_lt i)
  constructor <;> grind
/-- scale and sum, so far -/
def NI (p : Option Nat × Option Nat) (k : Nat) (m : Nat → Rat) : Prop :=
  ∃ c u, Wv p.1 false c ∧ Wv p.2 false u ∧ ((c = 0 ∧ u = 1 ∧ ∀ i, i < k → m i = 0) ∨
    (1 ≤ k ∧ Rg 100 c ∧ 1 ≤ u * Gp (7 * k) ∧ u ≤ 2 ^ (3 * k) ∧ Rel (7 * k - 6) (u * (c * c)) (sumR (fun i => m i * m i) k)))
theorem sumR_zero {m : Nat → Rat} {k : Nat} (h : ∀ i, i < k → m i = 0) : sumR (fun i => m i * m i) k = 0 := by
  induction k with
  | zero => rfl
  | succ k ih =>
    show sumR (fun i => m i * m i) k + m k * m k = 0
    rw [ih (fun i hi => h i (by omega)), h k (by omega)]
    grind
theorem NI.next {p : Option Nat × Option Nat} {k : Nat} {m : Nat → Rat} {x : Option Nat} {s : Bool} (h : NI p k m) (hx : Wv x s (m k)) (hr : Rz 100 (m k)) (hk : k ≤ 15) : NI (nrmS p x) (k + 1) m := by
  obtain ⟨c, u, hc, hu, hI⟩ := h
  have m0 := hr.nonneg
  have ha := hx.abs
  have u0 := hu.nonneg
  have c0 := hc.nonneg
  unfold nrmS
  rw [hx.eqz, hc.lt ha]
  by_cases z : m k = 0
  · rw [if_pos (decide_eq_true z)]
    refine ⟨c, u, hc, hu, ?_⟩
    rcases hI with ⟨e1, e2, e3⟩ | ⟨e1, e2, e3, e4, e5⟩
    · exact .inl ⟨e1, e2, fun i hi => by
        rcases Nat.lt_succ_iff_lt_or_eq.1 hi with h | h
        · exact e3 i h
        · rw [h]; exact z⟩
    · refine .inr ⟨by omega, e2, Rat.le_trans e3 (Rat.mul_le_mul_of_nonneg_left (Gp_mono (by omega)) u0), Rat.le_trans e4 (p2_mono (by omega)), ?_⟩
      have es : sumR (fun i => m i * m i) (k + 1) = sumR (fun i => m i * m i) k := by
        show sumR (fun i => m i * m i) k + m k * m k = _
        rw [z]; grind
      rw [es]
      exact e5.mono (by omega) (Rat.mul_nonneg u0 (Rat.mul_nonneg c0 c0)) (sumR_nonneg (fun i hi => by
        rcases Rat.le_total (a := 0) (b := m i) with q | q
        · exact Rat.mul_nonneg q q
        · have := Rat.mul_nonneg (show 0 ≤ -m i by grind) (show 0 ≤ -m i by grind)
          grind))
  · have ra : Rg 100 (m k) := hr.resolve_left z
    have ap := ra.pos
    rw [if_neg (by rw [decide_eq_false z]; decide)]
    by_cases l : c < m k
    · rw [if_pos (decide_eq_true l)]
      have hd : Rz 200 (c / m k) := by
        rcases hI with ⟨e1, _⟩ | ⟨_, e2, _⟩
        · left; rw [e1]; grind
        · exact .inr (e2.div ra)
      obtain ⟨r, hr1, hr2, hr3⟩ := hc.quo ha ra hd (by omega)
      obtain ⟨d0, d1⟩ := div_le_one ap (Rat.le_of_lt l) c0
      have hu8 : Rz 50 u := by
        rcases hI with ⟨_, e2, _⟩ | ⟨_, _, e3, e4, _⟩
        · right; rw [e2]; unfold Rg; constructor <;> decide +kernel
        · right
          have g := Gp_two (k := 7 * k) (by omega)
          have q := Rat.mul_le_mul_of_nonneg_left g u0
          have b := p2_mono (show 3 * k ≤ 50 by omega)
          refine ⟨?_, Rat.le_trans e4 b⟩
          have t : (2 : Rat) ≤ 2 ^ 50 := by decide +kernel
          have := Rat.mul_le_mul_of_nonneg_left t u0
          grind
      obtain ⟨t1, h11, h12, h13⟩ := hu.mul hr1 (hu8.mul hr3) (by omega)
      obtain ⟨t2, h21, h22, h23⟩ := h11.mul hr1 (h13.mul hr3) (by omega)
      have one : Rz 455 (1 : Rat) := .inr (by unfold Rg; constructor <;> decide +kernel)
      obtain ⟨v, hv1, hv2, hv3⟩ := Wv.one.add h21 (e := 456) (Rz.add one (h23.mono (by omega))) (by omega)
      have r0 := hr1.nonneg
      have t10 := h11.nonneg
      have t20 := h21.nonneg
      have v0 := hv1.nonneg
      -- t2 ~ u (c/a)^2
      have b1 := h12.trans ((Rel.refl u).mul hr2 u0 u0 r0 d0)
      have ud0 := Rat.mul_nonneg u0 d0
      have b2 := h22.trans (b1.mul hr2 t10 ud0 r0 d0)
      have udd := Rat.mul_nonneg ud0 d0
      have b3 := ((Rel.refl (1 : Rat)).mono (show 0 ≤ 6 by omega) (by decide) (by decide)).add (b2.mono (by omega) t20 udd)
      have b4 := hv2.trans b3
      have dd1 : c / m k * (c / m k) ≤ 1 := by
        have := lemul d1 d1 d0 d0
        grind
      have uu1 : u * (c / m k) * (c / m k) ≤ u := by
        have := Rat.mul_le_mul_of_nonneg_left dd1 u0
        grind
      have g7 := Gp_two (k := 1 + 6) (by omega)
      refine ⟨m k, v, ha, hv1, .inr ⟨by omega, ra, ?_, ?_, ?_⟩⟩
      · have q := Rat.mul_le_mul_of_nonneg_left (Gp_mono (show 1 + 6 ≤ 7 * (k + 1) by omega)) v0
        have := b4.2
        grind
      · have q := b4.1
        have q2 := Rat.mul_le_mul_of_nonneg_left g7 (show 0 ≤ 1 + u * (c / m k) * (c / m k) by grind)
        have e8 : (2 : Rat) ^ (3 * (k + 1)) = 2 ^ (3 * k) * 8 := by rw [show 3 * (k + 1) = 3 * k + 3 by omega, p2_add, show (2 : Rat) ^ 3 = 8 by decide +kernel]
        rw [e8]
        have p1 := p2_one (3 * k)
        rcases hI with ⟨_, e2, _⟩ | ⟨_, _, e3, e4, _⟩ <;> grind
      · have b5 := b4.mul (Rel.refl (m k * m k)) v0 (by grind) (Rat.mul_nonneg m0 m0) (Rat.mul_nonneg m0 m0)
        rw [rdiv_sq ap] at b5
        have es : sumR (fun i => m i * m i) (k + 1) = m k * m k + sumR (fun i => m i * m i) k := by
          show sumR (fun i => m i * m i) k + m k * m k = _
          grind
        rw [es]
        rcases hI with ⟨e1, e2, e3⟩ | ⟨e1, e2, e3, e4, e5⟩
        · -- the first one that is not 0
          rw [sumR_zero e3]
          have z1 := hr2.zero (by rw [e1]; grind) r0
          have z2 := h12.zero (by rw [z1]; grind) t10
          have z3 := h22.zero (by rw [z2]; grind) t20
          rw [z3] at hv2
          have b6 := hv2.mul (Rel.refl (m k * m k)) v0 (by grind) (Rat.mul_nonneg m0 m0) (Rat.mul_nonneg m0 m0)
          rw [show (1 + 0) * (m k * m k) = m k * m k + 0 by grind] at b6
          exact b6.mono (by omega) (Rat.mul_nonneg v0 (Rat.mul_nonneg m0 m0)) (by have := Rat.mul_nonneg m0 m0; grind)
        · have s0 := sumR_nonneg (f := fun i => m i * m i) (n := k) (fun i hi => by
            rcases Rat.le_total (a := 0) (b := m i) with q | q
            · exact Rat.mul_nonneg q q
            · have := Rat.mul_nonneg (show 0 ≤ -m i by grind) (show 0 ≤ -m i by grind)
              grind)
          have mm := Rat.mul_nonneg m0 m0
          have b6 := ((Rel.refl (m k * m k)).mono (Nat.zero_le (7 * k - 6)) mm mm).add e5
          exact (b5.trans b6).mono (by omega) (Rat.mul_nonneg v0 mm) (by grind)
    · rw [if_neg (by rw [decide_eq_false l]; decide)]
      have l2 : m k ≤ c := by grind
      rcases hI with ⟨e1, _⟩ | ⟨e1, e2, e3, e4, e5⟩
      · exfalso; grind
      · have cp := e2.pos
        obtain ⟨r, hr1, hr2, hr3⟩ := ha.quo hc e2 (.inr (ra.div e2)) (by omega)
        obtain ⟨d0, d1⟩ := div_le_one cp l2 m0
        have r0 := hr1.nonneg
        obtain ⟨t, ht1, ht2, ht3⟩ := hr1.mul hr1 (hr3.mul hr3) (by omega)
        have hu8 : Rz 404 u := by
          right
          have g := Gp_two (k := 7 * k) (by omega)
          have q := Rat.mul_le_mul_of_nonneg_left g u0
          have b := p2_mono (show 3 * k ≤ 404 by omega)
          refine ⟨?_, Rat.le_trans e4 b⟩
          have t : (2 : Rat) ≤ 2 ^ 404 := by decide +kernel
          have := Rat.mul_le_mul_of_nonneg_left t u0
          grind
        obtain ⟨v, hv1, hv2, hv3⟩ := hu.add ht1 (e := 405) (Rz.add hu8 (ht3.mono (by omega))) (by omega)
        have t0 := ht1.nonneg
        have v0 := hv1.nonneg
        have dd := Rat.mul_nonneg d0 d0
        have b1 := ht2.trans (hr2.mul hr2 r0 d0 r0 d0)
        have b2 := ((Rel.refl u).mono (show 0 ≤ 5 by omega) u0 u0).add (b1.mono (by omega) t0 dd)
        have b3 := hv2.trans b2
        have dd1 : m k / c * (m k / c) ≤ 1 := by
          have := lemul d1 d1 d0 d0
          grind
        have g6 := Gp_two (k := 1 + 5) (by omega)
        refine ⟨c, v, hc, hv1, .inr ⟨by omega, e2, ?_, ?_, ?_⟩⟩
        · have q : u ≤ v * Gp 6 := by
            have := b3.2
            have q9 : u ≤ u + m k / c * (m k / c) := by grind
            exact Rat.le_trans q9 this
          have q2 := Rat.mul_le_mul_of_nonneg_right q (Gp_nonneg (7 * k))
          have q3 := Rat.mul_le_mul_of_nonneg_left (Gp_mono (show 6 + 7 * k ≤ 7 * (k + 1) by omega)) v0
          rw [Gp_add] at q3
          grind
        · have q := b3.1
          have q2 := Rat.mul_le_mul_of_nonneg_left g6 (show 0 ≤ u + m k / c * (m k / c) by grind)
          have e8 : (2 : Rat) ^ (3 * (k + 1)) = 2 ^ (3 * k) * 8 := by rw [show 3 * (k + 1) = 3 * k + 3 by omega, p2_add, show (2 : Rat) ^ 3 = 8 by decide +kernel]
          rw [e8]
          have p1 := p2_one (3 * k)
          grind
        · have b5 := b3.mul (Rel.refl (c * c)) v0 (by grind) (Rat.mul_nonneg c0 c0) (Rat.mul_nonneg c0 c0)
          rw [rdiv_sq2 cp] at b5
          have mm := Rat.mul_nonneg m0 m0
          have b6 := e5.add ((Rel.refl (m k * m k)).mono (Nat.zero_le (7 * k - 6)) mm mm)
          exact (b5.trans b6).mono (by omega) (Rat.mul_nonneg v0 (Rat.mul_nonneg c0 c0)) (by
            have s0 := sumR_nonneg (f := fun i => m i * m i) (n := k + 1) (fun i hi => by
              rcases Rat.le_total (a := 0) (b := m i) with q | q
              · exact Rat.mul_nonneg q q
              · have := Rat.mul_nonneg (show 0 ≤ -m i by grind) (show 0 ≤ -m i by grind)
                grind)
            exact s0)
theorem NI.all {l : List Int} {m : Nat → Rat} (hl : l.length ≤ 16) (hm : ∀ i, i < l.length → ∃ s, Wv (fa (GD l i)) s (m i) ∧ Rz 100 (m i)) : ∀ k, k ≤ l.length → NI (nrmL (l.take k)) k m := by
  intro k
  induction k with
  | zero => exact fun _ => ⟨0, 1, Wv.zero, Wv.one, .inl ⟨rfl, rfl, fun i hi => by omega⟩⟩
  | succ k ih =>
    intro hk
    obtain ⟨s, h1, h2⟩ := hm k (by omega)
    rw [nrmL_next (by omega)]
    exact (ih (by omega)).next h1 h2 (by omega)
theorem sq_half {s u : Rat} {e : Nat} (s0 : 0 < s) (hr : Rel 4 (s * s) u) (h1 : 1/4 ≤ u) (h2 : u ≤ 2 ^ (e + e)) : Rg (e + 2) s := by
  have g := Gp_two (k := 4) (by omega)
  have u0 : 0 ≤ u := by grind
  have a1 := Rat.mul_le_mul_of_nonneg_left g u0
  have a2 := Rat.mul_le_mul_of_nonneg_left g (Rat.mul_nonneg (Rat.le_of_lt s0) (Rat.le_of_lt s0))
  obtain ⟨r1, r2⟩ := hr
  have p1 := p2_one e
  have e4 : (2 : Rat) ^ (e + 2) = 2 ^ e * 4 := by rw [p2_add, show (2 : Rat) ^ 2 = 4 by decide +kernel]
  unfold Rg
  rw [e4]
  rw [p2_add] at h2
  constructor
  · have q : 1/4 ≤ s := le_of_sq (by decide +kernel) (Rat.le_of_lt s0) (by grind)
    have := lemul q p1 (by decide +kernel) (by decide)
    grind
  · have pp := Rat.mul_nonneg (Rat.le_of_lt (p2_pos e)) (Rat.le_of_lt (p2_pos e))
    exact le_of_sq (Rat.le_of_lt s0) (by have := p2_pos e; grind) (by grind)
/-- the length of several, nearly -/
theorem nrm_val {l : List Int} {m : Nat → Rat} (hl : l.length ≤ 16) (hm : ∀ i, i < l.length → ∃ s, Wv (fa (GD l i)) s (m i) ∧ Rz 100 (m i)) :
    ∃ N, Wv (nrmA l) false N ∧ ((N = 0 ∧ ∀ i, i < l.length → m i = 0) ∨ (1 ≤ l.length ∧ Rg 140 N ∧ Rel (7 * l.length) (N * N) (sumR (fun i => m i * m i) l.length))) := by
  have h := NI.all hl hm l.length (Nat.le_refl _)
  rw [List.take_length] at h
  obtain ⟨c, u, hc, hu, hI⟩ := h
  have u0 := hu.nonneg
  have c0 := hc.nonneg
  have uh : 1/2 ≤ u ∧ u ≤ 2 ^ (25 + 25) := by
    rcases hI with ⟨_, e2, _⟩ | ⟨_, _, e3, e4, _⟩
    · rw [e2]; constructor <;> decide +kernel
    · have g := Gp_two (k := 7 * l.length) (by omega)
      have q := Rat.mul_le_mul_of_nonneg_left g u0
      exact ⟨by grind, Rat.le_trans e4 (p2_mono (by omega))⟩
  obtain ⟨s, hs, s0, hs2⟩ := hu.sqrt uh.1 (Rat.le_trans uh.2 (p2_mono (by omega)))
  have sr := sq_half s0 hs2 (by grind) uh.2
  have hr : Rz 127 (c * s) := by
    rcases hI with ⟨e1, _⟩ | ⟨_, e2, _⟩
    · left; rw [e1]; grind
    · exact .inr (e2.mul sr)
  obtain ⟨N, hN, hN2, hN3⟩ := hc.mul hs hr (by omega)
  have N0 := hN.nonneg
  refine ⟨N, hN, ?_⟩
  rcases hI with ⟨e1, e2, e3⟩ | ⟨e1, e2, e3, e4, e5⟩
  · exact .inl ⟨hN2.zero (by rw [e1]; grind) N0, e3⟩
  · have cs := Rat.mul_nonneg c0 (Rat.le_of_lt s0)
    refine .inr ⟨e1, ((e2.mul sr).rel hN2 (by omega) N0).mono (by omega), ?_⟩
    have b1 := hN2.mul hN2 N0 cs N0 cs
    have cc := Rat.mul_nonneg c0 c0
    have b2 := (Rel.refl (c * c)).mul hs2 cc cc (Rat.mul_nonneg (Rat.le_of_lt s0) (Rat.le_of_lt s0)) u0
    rw [show c * s * (c * s) = c * c * (s * s) by grind] at b1
    rw [show u * (c * c) = c * c * u by grind] at e5
    exact (b1.trans (b2.trans e5)).mono (by omega) (Rat.mul_nonneg N0 N0) (sumR_nonneg (fun i hi => by
      rcases Rat.le_total (a := 0) (b := m i) with q | q
      · exact Rat.mul_nonneg q q
      · have := Rat.mul_nonneg (show 0 ≤ -m i by grind) (show 0 ≤ -m i by grind)
        grind))
/-- the length of two, nearly -/
theorem hyp2_val {o p : Option Nat} {P q : Rat} (ho : Wv o false P) (hp : Wv p false q) (hP : Rg 140 P) (hq : Rz 140 q) (h : q ≤ P) :
    ∃ H, Wv (hyp2A o p) false H ∧ Rg 145 H ∧ Rel 12 (H * H) (P * P + q * q) := by
  have P0 := ho.nonneg
  have q0 := hp.nonneg
  have Pp := hP.pos
  unfold hyp2A rootA
  rw [ho.eqz, decide_eq_false (by grind), if_neg (by decide)]
  obtain ⟨t, ht1, ht2, ht3⟩ := hp.quo ho hP (hq.div hP) (by omega)
  obtain ⟨d0, d1⟩ := div_le_one Pp h q0
  have t0 := ht1.nonneg
  obtain ⟨v, hv1, hv2, hv3⟩ := ht1.mul ht1 (ht3.mul ht3) (by omega)
  have v0 := hv1.nonneg
  have one : Rz 563 (1 : Rat) := .inr (by unfold Rg; constructor <;> decide +kernel)
  obtain ⟨y, hy1, hy2, hy3⟩ := Wv.one.add hv1 (e := 564) (Rz.add one (hv3.mono (by omega))) (by omega)
  have y0 := hy1.nonneg
  have dd := Rat.mul_nonneg d0 d0
  have dd1 : q / P * (q / P) ≤ 1 := by
    have := lemul d1 d1 d0 d0
    grind
  have b1 := hv2.trans (ht2.mul ht2 t0 d0 t0 d0)
  have b2 := ((Rel.refl (1 : Rat)).mono (show 0 ≤ 5 by omega) (by decide) (by decide)).add (b1.mono (by omega) v0 dd)
  have b3 := hy2.trans b2
  have g6 := Gp_two (k := 1 + 5) (by omega)
  have yh : 1/2 ≤ y ∧ y ≤ 2 ^ (1 + 1) := by
    obtain ⟨r1, r2⟩ := b3
    have a1 := Rat.mul_le_mul_of_nonneg_left g6 y0
    have a2 := Rat.mul_le_mul_of_nonneg_left g6 (show 0 ≤ 1 + q / P * (q / P) by grind)
    have e4 : (2 : Rat) ^ (1 + 1) = 4 := by decide +kernel
    rw [e4]
    constructor <;> grind
  obtain ⟨s, hs, s0, hs2⟩ := hy1.sqrt yh.1 (Rat.le_trans yh.2 (p2_mono (by omega)))
  have sr := sq_half s0 hs2 (by grind) yh.2
  obtain ⟨H, hH, hH2, hH3⟩ := ho.mul hs (e := 143) (.inr (hP.mul sr)) (by omega)
  have H0 := hH.nonneg
  refine ⟨H, hH, ((hP.mul sr).rel hH2 (by omega) H0).mono (by omega), ?_⟩
  have Ps := Rat.mul_nonneg P0 (Rat.le_of_lt s0)
  have PP := Rat.mul_nonneg P0 P0
  have c1 := hH2.mul hH2 H0 Ps H0 Ps
  have c2 := hs2.trans b3
  have c3 := (Rel.refl (P * P)).mul c2 PP PP (Rat.mul_nonneg (Rat.le_of_lt s0) (Rat.le_of_lt s0)) (by grind)
  have e : P * P * (1 + q / P * (q / P)) = P * P + q * q := by
    have e1 : 1 / P * P = 1 := by grind
    rw [show q / P = q * (1 / P) by grind]
    generalize 1 / P = I at *
    have : P * P * (1 + q * I * (q * I)) = P * P + q * q * ((I * P) * (I * P)) := by grind
    rw [this, e1]; grind
  rw [e] at c3
  rw [show P * s * (P * s) = P * P * (s * s) by grind] at c1
  exact (c1.trans c3).mono (by omega) (Rat.mul_nonneg H0 H0) (by have := Rat.mul_nonneg q0 q0; grind)
theorem hyp_val {o p : Option Nat} {s t : Bool} {x N : Rat} (ho : Wv o s x) (hp : Wv p t N) (hx : Rz 140 x) (hN : Rg 140 N) :
    ∃ H, Wv (hypA o p) false H ∧ Rg 145 H ∧ Rel 12 (H * H) (x * x + N * N) := by
  have a := ho.abs
  have b := hp.abs
  unfold hypA
  rw [b.gt a]
  by_cases c : x < N
  · rw [if_pos (decide_eq_true c)]
    obtain ⟨H, h1, h2, h3⟩ := hyp2_val b a hN hx (Rat.le_of_lt c)
    exact ⟨H, h1, h2, by rw [show x * x + N * N = N * N + x * x by grind]; exact h3⟩
  · rw [if_neg (by rw [decide_eq_false c]; decide)]
    have xr : Rg 140 x := hx.resolve_left (fun h => by have := hN.pos; grind)
    exact hyp2_val a b xr (.inr hN) (by grind)
end Go.Proofs.YtcdbjlmegkcaiaaGreatDoor
namespace Go.Proofs.YtcdbjlmegkcaiaaGreatDoor
open Go Go.Bw Go.Rt
set_option linter.unusedVariables false
set_option linter.unusedSimpArgs false
/-- floats of some range -/
structure Tame (l : List Int) (n : Nat) : Prop where
  len : l.length = n
  wd : Wd l
  fin : ∀ i, i < n → finN (GD l i).toNat
  rg : ∀ i, i < n → Rz 100 (fvm (GD l i).toNat)
abbrev xm (l : List Int) (i : Nat) : Rat := fvm (GD l i).toNat
abbrev xs (l : List Int) (i : Nat) : Bool := sb (GD l i).toNat
theorem wd_nat {l : List Int} (h : Wd l) (i : Nat) : (GD l i).toNat ≤ 18446744073709551615 := by have := h.at_ i; omega
theorem fin_af {y : Nat} (h : finN y) : af y = some y := by
  unfold finN at h
  unfold af isN
  rw [decide_eq_false (by omega)]
  rfl
theorem Tame.wv {l : List Int} {n i : Nat} (h : Tame l n) (hi : i < n) : Wv (fa (GD l i)) (xs l i) (xm l i) :=
  ⟨_, fin_af (h.fin i hi), h.fin i hi, wd_nat h.wd i, rfl, rfl⟩
/-- a size -/
def mag9 (o : Option Nat) : Rat := match o with | some y => fvm y | none => 0
theorem Wv.mag {o : Option Nat} {s : Bool} {a : Rat} (h : Wv o s a) : mag9 o = a := by
  obtain ⟨y, rfl, _, _, _, h⟩ := h
  exact h
section
variable {l : List Int} {n : Nat}
abbrev zN (l : List Int) : Rat := mag9 (nrmA (l.drop 1))
abbrev zH (l : List Int) : Rat := mag9 (mkB l)
abbrev zT (l : List Int) : Rat := mag9 (mkT l)
abbrev zQ (l : List Int) : Rat := mag9 (mkQ l)
abbrev zV (l : List Int) (i : Nat) : Rat := mag9 (mkV l i)
theorem Tame.nrm (h : Tame l n) (n1 : 1 ≤ n) (n16 : n ≤ 16) :
    Wv (nrmA (l.drop 1)) false (zN l) ∧ ((zN l = 0 ∧ ∀ i, i < n - 1 → xm l (i + 1) = 0) ∨ (2 ≤ n ∧ Rg 140 (zN l) ∧ Rel (7 * (n - 1)) (zN l * zN l) (sumR (fun i => xm l (i + 1) * xm l (i + 1)) (n - 1)))) := by
  have hl : (l.drop 1).length = n - 1 := by rw [List.length_drop, h.len]
  have hd : ∀ i, GD (l.drop 1) i = GD l (i + 1) := fun i => by rw [GD_drop, Nat.add_comm]
  obtain ⟨N, h1, h2⟩ := nrm_val (l := l.drop 1) (m := fun i => xm l (i + 1)) (by omega) (fun i hi => ⟨xs l (i + 1), by rw [hd]; exact h.wv (by omega), h.rg (i + 1) (by omega)⟩)
  have e := h1.mag
  rw [hl] at h2
  unfold zN
  rw [e]
  refine ⟨h1, h2.imp id (fun ⟨q1, q2, q3⟩ => ⟨by omega, q2, q3⟩)⟩
theorem Tame.mkZ (h : Tame l n) (n1 : 1 ≤ n) (n16 : n ≤ 16) : mkZ l = decide (zN l = 0) := by
  unfold Go.Proofs.YtcdbjlmegkcaiaaGreatDoor.mkZ
  exact (h.nrm n1 n16).1.eqz
/-- what it has, where there is something to turn -/
structure MkF (l : List Int) (n : Nat) : Prop where
  B : Wv (mkB l) (!xs l 0) (zH l)
  H : Rg 145 (zH l)
  hr : Rel (7 * n + 5) (zH l * zH l) (xm l 0 * xm l 0 + sumR (fun i => xm l (i + 1) * xm l (i + 1)) (n - 1))
  T : Wv (mkT l) false (zT l)
  T3 : Rel 3 (zT l) ((zH l + xm l 0) / zH l)
  TR : Rg 300 (zT l)
  Q : Wv (mkQ l) (xs l 0) (zQ l)
  Q3 : Rel 3 (zQ l) (1 / (zH l + xm l 0))
  QR : Rg 150 (zQ l)
  V : ∀ i, i < n - 1 → Wv (mkV l (i + 1)) (xs l (i + 1) ^^ xs l 0) (zV l (i + 1))
  V1 : ∀ i, i < n - 1 → Rel 1 (zV l (i + 1)) (xm l (i + 1) * zQ l)
  VR : ∀ i, i < n - 1 → Rz 251 (zV l (i + 1))
theorem Tame.make (h : Tame l n) (n2 : 2 ≤ n) (n16 : n ≤ 16) (h0 : zN l ≠ 0) : MkF l n := by
  obtain ⟨hN, hN2⟩ := h.nrm (by omega) n16
  obtain ⟨_, NR, Nr9⟩ := hN2.resolve_left (fun q => h0 q.1)
  have hz : Go.Proofs.YtcdbjlmegkcaiaaGreatDoor.mkZ l = false := by rw [h.mkZ (by omega) n16, decide_eq_false h0]
  have x := h.wv (i := 0) (by omega)
  have xr := h.rg 0 (by omega)
  have x0 := x.nonneg
  obtain ⟨H, hH, HR, Hr⟩ := hyp_val x hN (xr.mono (by omega)) NR
  have bB : Wv (mkB l) (!xs l 0) H := by
    unfold mkB
    rw [hz, if_neg (by decide)]
    exact (hH.sgn (wd_nat h.wd 0)).neg
  have eH : zH l = H := bB.mag
  have H0 := bB.nonneg
  have Hp := HR.pos
  have P0 : 0 < H + xm l 0 := by grind
  have N0 := hN.nonneg
  have NN := Rat.mul_nonneg N0 N0
  have XX := Rat.mul_nonneg x0 x0
  have SS := sumR_nonneg (f := fun i => xm l (i + 1) * xm l (i + 1)) (n := n - 1) (fun i hi => by have := fvm_nonneg (GD l (i + 1)).toNat; exact Rat.mul_nonneg this this)
  have hr : Rel (7 * n + 5) (H * H) (xm l 0 * xm l 0 + sumR (fun i => xm l (i + 1) * xm l (i + 1)) (n - 1)) := by
    have a := ((Rel.refl (xm l 0 * xm l 0)).mono (Nat.zero_le (7 * (n - 1))) XX XX).add Nr9
    exact (Hr.trans a).mono (by omega) (Rat.mul_nonneg H0 H0) (by grind)
  have PR : Rg 146 (H + xm l 0) := HR.add (xr.mono (by omega))
  -- beta less the first
  have bB' : Wv (mkB l) (!xs l 0) H := bB
  obtain ⟨D, hD, hD2, hD3⟩ := bB.subo (y := xm l 0) (by rw [Bool.not_not]; exact x) (.inr PR) (by omega)
  have D0 := hD.nonneg
  have DR := PR.rel hD2 (by omega) D0
  have dq := (hD2.div (Rel.refl H) D0 (Rat.le_of_lt P0) Hp Hp)
  obtain ⟨T, hT, hT2, hT3⟩ := hD.quo bB HR (.inr (DR.div HR)) (by omega)
  have T0 := hT.nonneg
  have tT : Wv (mkT l) false T := by
    unfold mkT
    rw [hz, if_neg (by decide)]
    rw [Bool.xor_self] at hT
    exact hT
  have eT : zT l = T := tT.mag
  -- the first less beta
  obtain ⟨E, hE, hE2, hE3⟩ := x.subo bB (e := 146) (by rw [show xm l 0 + H = H + xm l 0 by grind]; exact .inr PR) (by omega)
  rw [show xm l 0 + H = H + xm l 0 by grind] at hE2
  have E0 := hE.nonneg
  have ER := PR.rel hE2 (by omega) E0
  obtain ⟨Q, hQ, hQ2, hQ3⟩ := Wv.one.quo hE ER (.inr ((show Rg 0 (1 : Rat) by unfold Rg; constructor <;> decide +kernel).div ER)) (by omega)
  have Q0 := hQ.nonneg
  rw [Bool.false_xor] at hQ
  have qQ : Wv (mkQ l) (xs l 0) Q := hQ
  have eQ : zQ l = Q := qQ.mag
  have iq := inv_pos ER.pos
  have q3 := hQ2.trans (hE2.inv ER.pos P0)
  have QR : Rg 148 Q := (((show Rg 0 (1 : Rat) by unfold Rg; constructor <;> decide +kernel).div ER).rel hQ2 (by omega) Q0).mono (by omega)
  have vs : ∀ i, i < n - 1 → ∃ v, Wv (mkV l (i + 1)) (xs l (i + 1) ^^ xs l 0) v ∧ Rel 1 v (xm l (i + 1) * Q) ∧ Rz 251 v := fun i hi => by
    obtain ⟨v, v1, v2, v3⟩ := (h.wv (i := i + 1) (by omega)).mul qQ ((h.rg (i + 1) (by omega)).mul (.inr QR)) (by omega)
    refine ⟨v, ?_, v2, v3.mono (by omega)⟩
    unfold mkV
    rw [if_neg (by omega), hz, if_neg (by decide)]
    exact v1
  refine ⟨by rw [eH]; exact bB, by rw [eH]; exact HR, by rw [eH]; exact hr, by rw [eT]; exact tT, by rw [eT, eH]; exact hT2.trans dq, ?_, by rw [eQ]; exact qQ, by rw [eQ, eH]; exact q3, by rw [eQ]; exact QR.mono (by omega), fun i hi => ?_, fun i hi => ?_, fun i hi => ?_⟩
  · rw [eT]
    exact ((DR.div HR).rel hT2 (by omega) T0).mono (by omega)
  · obtain ⟨v, v1, v2, v3⟩ := vs i hi
    rw [show zV l (i + 1) = v from v1.mag]; exact v1
  · obtain ⟨v, v1, v2, v3⟩ := vs i hi
    rw [show zV l (i + 1) = v from v1.mag, eQ]; exact v2
  · obtain ⟨v, v1, v2, v3⟩ := vs i hi
    rw [show zV l (i + 1) = v from v1.mag]; exact v3
/-- the sum of what both have, nearly -/
theorem MkF.parts (h : Tame l n) (p : MkF l n) : Parts n (zH l) (xm l 0) (sumR (fun i => xm l (i + 1) * xm l (i + 1)) (n - 1)) (zT l) (zQ l) (fun i => zV l (i + 1)) (fun i => xm l (i + 1)) where
  h0 := p.H.pos
  X0 := fvm_nonneg _
  S0 := sumR_nonneg (fun i hi => by have := fvm_nonneg (GD l (i + 1)).toNat; exact Rat.mul_nonneg this this)
  T0 := p.T.nonneg
  Q0 := p.Q.nonneg
  V0 := fun i hi => (p.V i hi).nonneg
  Xs0 := fun i hi => fvm_nonneg _
  S2e := rfl
  hr := p.hr
  T3 := p.T3
  Q3 := p.Q3
  Vr := p.V1
end
end Go.Proofs.YtcdbjlmegkcaiaaGreatDoor
