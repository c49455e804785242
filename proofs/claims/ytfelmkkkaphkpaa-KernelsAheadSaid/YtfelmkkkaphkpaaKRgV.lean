/-
  Loads of whole views out of their boxes, each as one fact.
-/
import Derived.Test.YtfelmkkkaphkpaaKVwC
import Derived.Test.YtfelmkkkaphkpaaRgT
namespace Go.Proofs.Ytfelmkkkaphkpaa
open Go.RowKit
set_option linter.unusedVariables false
set_option linter.unusedSimpArgs false

theorem ld_v {ev : Operand → Value} {o : Oper} {x : Operand} {w : World} {B : Nat} {u : Vu} (ho : o.op = .load 30 x) (hx : ev x = .pointer (some ⟨B, 0, none⟩)) (h : Vbx w B u) :
    (execOp ev o).run Try.prog w = .ok (.value u.V) w := by
  obtain ⟨d, op, ty, pos, aft, g⟩ := o
  simp only at ho
  subst ho
  obtain ⟨a0, a1, a2, a3, a4, a5, a6, a7, a8⟩ := Vbx.cells h
  have e : execOp ev ⟨d, .load 30 x, ty, pos, aft, g⟩ = execOp (fun _ => ev x) ⟨d, .load 30 x, ty, pos, aft, g⟩ := rfl
  rw [e, hx]
  go_simp
end Go.Proofs.Ytfelmkkkaphkpaa
