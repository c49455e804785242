/-
  Layer 3, the laws: whatever comes in (May).
-/
import Derived.Test.YtknomchkfamajaaGreatDoorDyLB
namespace Go.Proofs.YtknomchkfamajaaGreatDoor
open Go.RowKit
set_option linter.unusedVariables false

theorem may_law (b : Bool) (A : Option Addr) (n c : Nat) (x : Int) (z : List Int) (w : World) (g : IsRow .u64 w A n c z) (x0 : -9223372036854775808 ≤ x) (x1 : x ≤ 9223372036854775807) (hT : Tab w) (hP : PowT w) :
    Calls Tryz.prog 3 #[.agg #[.bool b, .slice A n c, .int .i64 x]] w fun e w' => e = .returned (.bool true) ∧ Below w.heap.size w w' := by
  obtain ⟨l, h⟩ := g.lv
  rcases Nat.lt_or_ge 40 n with hn | hn
  · exact may_long b A c x hn w hT hP
  · cases ho : okE x
    · exact may_no h hn ho hT hP
    · exact may_yes h hn ho hT hP
end Go.Proofs.YtknomchkfamajaaGreatDoor
