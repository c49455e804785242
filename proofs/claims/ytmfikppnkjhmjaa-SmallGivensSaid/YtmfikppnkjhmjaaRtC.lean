/-
  Layer 6, plain mathematics: products, sums, quotients by the machine: how near they are.
-/
import Derived.Test.YtmfikppnkjhmjaaRtB
namespace Go.Bw
open Go Go.Rt
set_option linter.unusedVariables false
set_option linter.unusedSimpArgs false

/-- finite -/
def finN (y : Nat) : Prop := y % 9223372036854775808 < 9218868437227405312
theorem dg_zero : dg 0 = 0 := by decide
theorem fvm_zero {y : Nat} (h : y % 9223372036854775808 = 0) : fvm y = 0 := by
  unfold fvm
  rw [h, dg_zero]
  have : ((0 : Nat) : Rat) = 0 := by decide
  rw [this]; grind
theorem near_zero (neg : Bool) (e : Int) : Ieee.double.nearest neg 0 e % 9223372036854775808 = 0 := by
  unfold Ieee.Format.nearest
  rw [if_pos rfl, double_word]
  cases neg <;> rfl
/-- what the machine rounds, at any digits -/
theorem near_all (neg : Bool) (M : Nat) (e : Int) (hv : (M : Rat) * 2 ^ e < 2 ^ (1023 : Int)) :
    finN (Ieee.double.nearest neg M e) ∧ fvm (Ieee.double.nearest neg M e) ≤ (M : Rat) * 2 ^ e * (1 + 1/9007199254740992) + 2 ^ (-1075 : Int) ∧ (M : Rat) * 2 ^ e * (1 - 1/9007199254740992) - 2 ^ (-1075 : Int) ≤ fvm (Ieee.double.nearest neg M e) := by
  by_cases hM : M = 0
  · subst hM
    rw [fvm_zero (near_zero neg e)]
    have := two_pos (-1075)
    have h0 : ((0 : Nat) : Rat) = 0 := by decide
    rw [h0]
    refine ⟨by unfold finN; rw [near_zero]; decide, ?_⟩
    constructor <;> grind
  · exact near_val neg M e hM hv
/-- of no sign -/
theorem near_pos (M : Nat) (e : Int) : Ieee.double.nearest false M e < 9223372036854775808 := by
  by_cases hM : M = 0
  · subst hM
    unfold Ieee.Format.nearest
    rw [if_pos rfl, double_word]
    decide
  · have h := nearest_is false M e hM
    unfold signW inf at h
    rw [if_neg (by decide)] at h
    omega
theorem mul_val {y z : Nat} (hy : finN y) (hz : finN z) (hv : fvm y * fvm z < 2 ^ (1023 : Int)) :
    ∃ r, Ieee.double.mul y z = some r ∧ finN r ∧ (y / 9223372036854775808 % 2 = z / 9223372036854775808 % 2 → r < 9223372036854775808) ∧ fvm r ≤ fvm y * fvm z * (1 + 1/9007199254740992) + 2 ^ (-1075 : Int) ∧ fvm y * fvm z * (1 - 1/9007199254740992) - 2 ^ (-1075 : Int) ≤ fvm r := by
  have e : ((dg (y % 9223372036854775808) * dg (z % 9223372036854775808) : Nat) : Rat) * 2 ^ ((-1074 : Int) + (pl (y % 9223372036854775808) : Nat) + (-1074 + (pl (z % 9223372036854775808) : Nat))) = fvm y * fvm z := by
    unfold fvm
    rw [two_add, Rat.natCast_mul]
    grind
  have h : Ieee.double.mul y z = some (Ieee.double.nearest ((y / 9223372036854775808 % 2 == 1) ^^ (z / 9223372036854775808 % 2 == 1)) (dg (y % 9223372036854775808) * dg (z % 9223372036854775808)) (-1074 + (pl (y % 9223372036854775808) : Nat) + (-1074 + (pl (z % 9223372036854775808) : Nat)))) := by
    unfold Ieee.Format.mul
    rw [read_word y hy, read_word z hz]
    rfl
  have := near_all ((y / 9223372036854775808 % 2 == 1) ^^ (z / 9223372036854775808 % 2 == 1)) (dg (y % 9223372036854775808) * dg (z % 9223372036854775808)) (-1074 + (pl (y % 9223372036854775808) : Nat) + (-1074 + (pl (z % 9223372036854775808) : Nat))) (by rw [e]; exact hv)
  rw [e] at this
  refine ⟨_, h, this.1, fun hs => ?_, this.2⟩
  rw [hs, Bool.xor_self]
  exact near_pos _ _
theorem nat_place (m : Nat) {i b : Int} (hb : b ≤ i) : ((m * 2 ^ (i - b).toNat : Nat) : Rat) * 2 ^ b = (m : Rat) * 2 ^ i := by
  rw [Rat.natCast_mul, ← two_nat, Rat.mul_assoc, ← two_add]
  congr 2
  omega
/-- a sum of two that are not below 0 -/
theorem add_val {y z : Nat} (hy : y < 9218868437227405312) (hz : z < 9218868437227405312) (hv : fvm y + fvm z < 2 ^ (1023 : Int)) :
    ∃ r, Ieee.double.add y z = some r ∧ finN r ∧ r < 9223372036854775808 ∧ fvm r ≤ (fvm y + fvm z) * (1 + 1/9007199254740992) + 2 ^ (-1075 : Int) ∧ (fvm y + fvm z) * (1 - 1/9007199254740992) - 2 ^ (-1075 : Int) ≤ fvm r := by
  have ey : y % 9223372036854775808 = y := Nat.mod_eq_of_lt (by omega)
  have ez : z % 9223372036854775808 = z := Nat.mod_eq_of_lt (by omega)
  have sy : (y / 9223372036854775808 % 2 == 1) = false := by simp; omega
  have sz : (z / 9223372036854775808 % 2 == 1) = false := by simp; omega
  have ry := read_word y (by rw [ey]; exact hy)
  have rz := read_word z (by rw [ez]; exact hz)
  rw [ey, sy] at ry
  rw [ez, sz] at rz
  have fy : fvm y = (dg y : Rat) * 2 ^ ((-1074 : Int) + (pl y : Nat)) := by unfold fvm; rw [ey]
  have fz : fvm z = (dg z : Rat) * 2 ^ ((-1074 : Int) + (pl z : Nat)) := by unfold fvm; rw [ez]
  generalize hi : (-1074 : Int) + (pl y : Nat) = i at *
  generalize hj : (-1074 : Int) + (pl z : Nat) = j at *
  obtain ⟨b, hb⟩ : ∃ b, min i j = b := ⟨_, rfl⟩
  have hs : (Ieee.Datum.number false (dg y) i).sum (.number false (dg z) j) = some (.number (if ((dg y * 2 ^ (i - b).toNat + dg z * 2 ^ (j - b).toNat : Nat) : Int) = 0 then false && false else ((dg y * 2 ^ (i - b).toNat + dg z * 2 ^ (j - b).toNat : Nat) : Int) < 0) (dg y * 2 ^ (i - b).toNat + dg z * 2 ^ (j - b).toNat) b) := by
    unfold Ieee.Datum.sum
    simp only [hb, signed_is]
    simp only [if_neg (show ¬ (false = true) by decide), ← Int.natCast_add, Int.natAbs_natCast]
  have e : ((dg y * 2 ^ (i - b).toNat + dg z * 2 ^ (j - b).toNat : Nat) : Rat) * 2 ^ b = fvm y + fvm z := by
    rw [fy, fz, ← nat_place (dg y) (show b ≤ i by omega), ← nat_place (dg z) (show b ≤ j by omega), Rat.natCast_add]
    grind
  have sg0 : (if ((dg y * 2 ^ (i - b).toNat + dg z * 2 ^ (j - b).toNat : Nat) : Int) = 0 then (false && false : Bool) else decide (((dg y * 2 ^ (i - b).toNat + dg z * 2 ^ (j - b).toNat : Nat) : Int) < 0)) = false := by
    split
    · rfl
    · exact decide_eq_false (by omega)
  rw [sg0] at hs
  have h : Ieee.double.add y z = some (Ieee.double.nearest false (dg y * 2 ^ (i - b).toNat + dg z * 2 ^ (j - b).toNat) b) := by
    unfold Ieee.Format.add
    rw [ry, rz, hs]
    rfl
  have := near_all false (dg y * 2 ^ (i - b).toNat + dg z * 2 ^ (j - b).toNat) b (by rw [e]; exact hv)
  rw [e] at this
  exact ⟨_, h, this.1, near_pos _ _, this.2⟩
end Go.Bw
