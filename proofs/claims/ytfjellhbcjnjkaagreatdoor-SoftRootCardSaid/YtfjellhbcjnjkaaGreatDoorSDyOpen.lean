/-
  Layer 3: a number that comes in, opened to what the walks are told of it.
-/
import Derived.Test.YtfjellhbcjnjkaaGreatDoorSNR1
import Derived.Lib.SmallJoins
import Derived.Below
import Derived.ShutString
import Derived.ChangeOld
namespace Go.Proofs.YtfjellhbcjnjkaaGreatDoor
open Go.ChangeShapes Go.WideShapes Go.ChangeAt Go.RowKit Go.Joins
set_option linter.unusedVariables false

theorem laidOut : laidOutB Tryz.prog = true := by kernel_rfl
theorem cells_dyad : Tryz.prog.cellsOf 35 = 3 := by kernel_rfl

set_option maxRecDepth 100000 in
theorem open_dyad {H : Type} {enc : TypeId × Value → H} {W : World} {base b0 : Nat} {held : Bool} {r : Reach} {v : Value} {d : DataW H} {p : List MemPlace}
    (hv : Value.okWide Tryz.prog W r b0 35 v) (h : DataW.Trod enc Tryz.prog W base (fun _ => true) held 35 v d p) :
    ∃ (b : Bool) (A : Option Addr) (n c : Nat) (x : Int) (z : List Int), v = .agg #[.bool b, .slice A n c, .int .i64 x] ∧ IsRow .u64 W A n c z ∧ -9223372036854775808 ≤ x ∧ x ≤ 9223372036854775807 := by
  obtain ⟨c0, c1, c2, y0, y1, y2, m, rfl, rfl, rfl, hy0, hy1, hy2⟩ := open_agg3 Tryz.underlying35 (by kernel_rfl) cells_dyad hv h
  obtain ⟨neg, e0, he0⟩ := DataW.trod_bool Tryz.underlying4 hy0
  obtain ⟨x, e2, he2, we⟩ := DataW.trod_int Tryz.underlying3 hy2
  simp only [List.cons.injEq, and_true] at e0 e2
  subst e0 e2
  have bx := bounds_i64 we
  rcases open_ints Tryz.underlying33 Tryz.underlying22 (by kernel_rfl) hy1 with ⟨hcs, _⟩ | ⟨a, l, c, zs, hcs, _, hl, hm, hz, _, hcell, hwz⟩
  · simp only [List.cons.injEq, and_true] at hcs
    subst hcs
    exact ⟨neg, none, 0, 0, x, [], rfl, .inl ⟨rfl, rfl, rfl, rfl⟩, bx.1, bx.2⟩
  · simp only [List.cons.injEq, and_true] at hcs
    subst hcs
    exact ⟨neg, some a, l, c, x, zs, rfl, .inr ⟨_, rfl, hl, hm, by simpa using hz, hcell, hwz⟩, bx.1, bx.2⟩
end Go.Proofs.YtfjellhbcjnjkaaGreatDoor
