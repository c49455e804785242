/-
  Layer 3, walks of the reference, part two. (Written by wip/tools/gen_dyx.py.)
-/
import Derived.Test.YtcdbjlmegkcaiaaGreatDoorYDyS
import Derived.Test.YtcdbjlmegkcaiaaGreatDoorZNB1
namespace Go.Proofs.YtcdbjlmegkcaiaaGreatDoor
open Go.RowKit Go.Bw
set_option linter.unusedVariables false
set_option linter.unusedSimpArgs false

section
variable {b : Bool} {A : Option Addr} {n c : Nat} {x : Int} {l : List Int} {w : World}
theorem lim_one_x {v : Int} (h0 : 0 ≤ v) (h1 : v < 18446744073709551616) : Lim 18446744073709551616 [v] := fun y hy => by simp at hy; omega
/-- one limb that the code writes out, in a new block -/
theorem row_one (w : World) {v : Int} (h0 : 0 ≤ v) (h1 : v < 18446744073709551616) : Lv (w.alloc (.cells #[.int .u64 v] 62)) (some ⟨w.heap.size, 0, none⟩) 1 1 [v] := Lv.row w [v] 1 w.heap.size rfl rfl (by omega) (lim_one_x h0 h1) _ rfl
theorem val_one (v : Int) : val 18446744073709551616 [v] = v := by rw [val_cons, val_nil]; omega
theorem pexp_small (y : Int) : -1100 ≤ pexp y ∧ pexp y ≤ 1100 := by
  have := fld_bd y
  unfold pexp
  repeat' split
  all_goals omega
end
end Go.Proofs.YtcdbjlmegkcaiaaGreatDoor
