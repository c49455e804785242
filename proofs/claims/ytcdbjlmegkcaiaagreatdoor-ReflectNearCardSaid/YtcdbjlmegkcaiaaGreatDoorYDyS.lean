/-
  Layer 3, walks of the reference, part one. (Written by wip/tools/gen_dys.py.)
-/
import Derived.Test.YtcdbjlmegkcaiaaGreatDoorYDyI
namespace Go.Proofs.YtcdbjlmegkcaiaaGreatDoor
open Go.RowKit
set_option linter.unusedVariables false
set_option linter.unusedSimpArgs false

theorem nfl_neg (b : Bool) (v x : Int) : nfl (!b) v x = negN (nfl b v x) := by
  unfold nfl
  rw [← negN_of]
  cases b <;> simp
theorem nfl_abs {b : Bool} {v x : Int} (h0 : 0 ≤ v) : nfl false v x = absN (nfl b v x) := by
  rcases (show v = 0 ∨ 0 < v by omega) with h | h
  · subst h; rw [nfl_zero, nfl_zero]; rfl
  · rw [nfl_pos h, nfl_pos h]; rfl
theorem norm_zero {l : List Int} (hl : Lim 18446744073709551616 l) : (norm l).length = 0 ↔ val 18446744073709551616 l = 0 := by
  constructor
  · intro h
    rw [← norm_val, nil_of_len h]; rfl
  · intro h
    rw [val_eq_zero (b := 18446744073709551616) (by omega) (norm_lim hl) (norm_normal l) (by rw [norm_val]; exact h)]
    rfl
section
variable {b : Bool} {A : Option Addr} {n c : Nat} {x : Int} {l : List Int} {w : World}
theorem zeros_small {W : World} {A : Option Addr} {n c k : Nat} {l : List Int} (h : Lv W A n c l) (hn : n ≤ 4096) (z0 : val 18446744073709551616 l = 0 → k = 0) (z1 : val 18446744073709551616 l ≠ 0 → IsZeros (val 18446744073709551616 l) k) : k ≤ 262144 := by
  by_cases hv : val 18446744073709551616 l = 0
  · rw [z0 hv]; omega
  · have := zeros_lt (z1 hv) (lv_bound h hn)
    omega
end
end Go.Proofs.YtcdbjlmegkcaiaaGreatDoor
