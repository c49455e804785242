/-
  Taken (by wip/tools/take.py) of KVwM, KnA: what one_fa wants.
-/
import Derived.Test.YtbaeabmmokgomaaNB2
namespace Go.Proofs.Ytbaeabmmokgomaa
open Go.RowKit Go.Bw
set_option linter.unusedVariables false
set_option linter.unusedSimpArgs false
section
open Go Go.RowKit Go.Bw
theorem isN_cls {x : Int} (h0 : 0 ≤ x) (h1 : x ≤ 18446744073709551615) : isN x.toNat = decide (cls x = 5) := by
  obtain ⟨n, rfl⟩ := Int.eq_ofNat_of_zero_le h0
  rw [Int.toNat_natCast]
  unfold isN cls fld frc
  rw [decide_eq_decide]
  constructor
  · intro h
    rw [if_pos (by omega), if_neg (by omega)]
  · intro h
    split at h
    · split at h
      · omega
      · omega
    · split at h
      · split at h <;> omega
      · omega
end
section
theorem one_fa {x y : Int} (x0 : 0 ≤ x) (x1 : x ≤ 18446744073709551615) (y0 : 0 ≤ y) (y1 : y ≤ 18446744073709551615) (h : fa x = fa y) : one x = one y := by
  have hx := isN_cls x0 x1
  have hy := isN_cls y0 y1
  rcases same_af h with ⟨h1, h2⟩ | ⟨h1, h2⟩
  · rw [h1] at hx
    rw [h2] at hy
    unfold one
    rw [if_pos (of_decide_eq_true hx.symm), if_pos (of_decide_eq_true hy.symm)]
  · rw [show x = y by omega]
section
variable {s c n : Nat} {K : Int} {l lx : List Int}
section
variable {L : List Int} {m q : Nat} {P Q : Nat → Nat → Bool} {f : Nat → Nat → Option Nat}
end
end
end
end Go.Proofs.Ytbaeabmmokgomaa
