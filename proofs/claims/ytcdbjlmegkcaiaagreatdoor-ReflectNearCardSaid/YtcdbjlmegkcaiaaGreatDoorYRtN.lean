/-
  Layer 6, plain mathematics: exact numbers as rationals; a rotation's length by exact numbers.
-/
import Derived.Test.YtcdbjlmegkcaiaaGreatDoorYDyA
import Derived.Test.YtcdbjlmegkcaiaaGreatDoorYRt
namespace Go.Proofs.YtcdbjlmegkcaiaaGreatDoor
open Go Go.Bw
set_option linter.unusedVariables false
set_option linter.unusedSimpArgs false
/-- a number's value -/
def Nf.val (d : Nf) : Rat := (d.num : Rat) * 2 ^ d.exp
theorem int_two (n : Nat) : (((2 : Int) ^ n : Int) : Rat) = 2 ^ (n : Int) := by
  rw [Rat.zpow_natCast, Rat.intCast_pow]; rfl
theorem nf_val (s e : Int) : (nf s e).val = (s : Rat) * 2 ^ e := by
  by_cases h : s = 0
  · subst h
    rw [nf_zero]
    unfold Nf.val Nf.num
    simp
  · obtain ⟨h1, h2⟩ := nf_back s e h
    unfold Nf.val
    rw [h2]
    conv => rhs; rw [h1]
    rw [Rat.intCast_mul, int_two, two_add]
    grind
theorem at_place {s e p : Int} (h : p ≤ e) : ((s * 2 ^ (e - p).toNat : Int) : Rat) * 2 ^ p = (s : Rat) * 2 ^ e := by
  rw [Rat.intCast_mul, int_two, Rat.mul_assoc, ← two_add]
  congr 2
  omega
theorem sumN_val (a b : Nf) : (sumN a b).val = a.val + b.val := by
  unfold sumN
  rw [nf_val, Rat.intCast_add, Rat.add_mul, at_place (by omega), at_place (by omega)]
  rfl
theorem mulN_val (a b : Nf) : (mulN a b).val = a.val * b.val := by
  unfold mulN
  rw [nf_val, Rat.intCast_mul, two_add]
  unfold Nf.val
  grind
theorem negN_val (a : Nf) : (negN a).val = -a.val := by
  unfold negN
  rw [nf_val, Rat.intCast_neg]
  unfold Nf.val
  grind
theorem absN_val (a : Nf) : (absN a).val = a.val ∨ (absN a).val = -a.val := by
  unfold absN Nf.val Nf.num
  cases a.neg
  · left; rfl
  · right
    simp only [Bool.false_eq_true, if_false, if_true]
    rw [Rat.intCast_neg]
    grind
theorem sgn_le {d : Nf} (h : d.val ≤ 0) : sgn d ≤ 0 := by
  unfold sgn
  by_cases h0 : d.man = 0
  · rw [if_pos h0]; decide
  · rw [if_neg h0]
    cases hn : d.neg
    · exfalso
      unfold Nf.val Nf.num at h
      rw [hn] at h
      simp only [Bool.false_eq_true, if_false] at h
      have : (0 : Rat) < ((d.man : Int) : Rat) := by
        have : 0 < (d.man : Int) := by omega
        exact_mod_cast this
      have := Rat.mul_pos this (two_pos d.exp)
      grind
    · decide
theorem nfl_val (b : Bool) (m : Int) (e : Int) : (nfl b m e).val = (m : Rat) * 2 ^ e ∨ (nfl b m e).val = -((m : Rat) * 2 ^ e) := by
  unfold nfl
  rw [nf_val]
  cases b
  · left; rfl
  · right
    rw [if_pos rfl, Rat.intCast_neg]
    grind
theorem fvm_of_read {y m : Nat} {s : Bool} {e : Int} (hf : finN y) (h : Ieee.double.read y = .number s m e) : fvm y = (m : Rat) * 2 ^ e := by
  rw [read_word y hf] at h
  injection h with _ h1 h2
  unfold fvm
  rw [h1, h2]
theorem sq_val {C : Nf} {x : Rat} (h : C.val = x ∨ C.val = -x) : (mulN C C).val = x * x := by
  rw [mulN_val]
  rcases h with h | h <;> rw [h]
  grind
/-- c^2 + s^2 - 1, its size beside 2^-49 -/
theorem unit_law {C S one most : Nf} {c s : Rat} (hC : C.val = c ∨ C.val = -c) (hS : S.val = s ∨ S.val = -s) (h1 : one.val = 1) (h49 : most.val = 1/562949953421312) (u1 : c * c + s * s ≤ 1 + 1/562949953421312) (u2 : 1 - 1/562949953421312 ≤ c * c + s * s) :
    sgn (sumN (absN (sumN (sumN (mulN C C) (mulN S S)) (negN one))) (negN most)) ≤ 0 := by
  refine sgn_le ?_
  rw [sumN_val, negN_val, h49]
  have e := absN_val (sumN (sumN (mulN C C) (mulN S S)) (negN one))
  rw [sumN_val, sumN_val, negN_val, h1, sq_val hC, sq_val hS] at e
  generalize c * c + s * s = X at *
  rcases e with e | e <;> rw [e] <;> grind
theorem one_val : (nfl false 1 0).val = 1 := by
  unfold nfl
  rw [nf_val, if_neg (by decide)]
  decide +kernel
theorem most_val : (nfl false 1 (-49)).val = 1/562949953421312 := by
  unfold nfl
  rw [nf_val, if_neg (by decide)]
  decide +kernel
end Go.Proofs.YtcdbjlmegkcaiaaGreatDoor
