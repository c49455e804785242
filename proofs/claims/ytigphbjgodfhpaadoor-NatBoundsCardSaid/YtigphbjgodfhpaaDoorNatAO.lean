/-
  Layer 2, the laws, part three: the library's table, as the rows lay it.
-/
import Derived.Test.YtigphbjgodfhpaaDoorRows
import Derived.Test.YtigphbjgodfhpaaDoorNatAN
import Derived.ProofKit
import Derived.OpenShut
import Derived.ChangeOld
import Derived.ChangeVars
import Derived.JoinedOf
import Derived.LaidLaws
import Derived.Lib.LaidTab
import Derived.MakeChecks
namespace Go.Proofs.YtigphbjgodfhpaaDoor
open Go.RowKit Go.ChangeShapes
set_option linter.unusedVariables false

theorem tab_name : Tryd.prog.globalNamed "math/bits.deBruijn64tab" = some 0 := by kernel_rfl
def laidTab : List (String × DataW Unit) := [("math/bits.deBruijn64tab", Rows.laid_math_bits_deBruijn64tab)]
theorem laid_is : laidTab = [("math/bits.deBruijn64tab", Lib.tabData .u8 (Lib.deBruijn64tab.map fun n : Nat => (n : Int)))] := by
  rfl
theorem tab_type : (Tryd.prog.globals[0]?).map (·.type) = some 95 := by kernel_rfl
theorem tab_cells : Tryd.prog.cellsOf 95 = 64 := by kernel_rfl
theorem byte_cells : Tryd.prog.cellsOf 5 = 1 := by kernel_rfl

theorem tab_of_laid {W : World} (h : laidMet Tryd.prog laidTab W) : Tab W := by
  rw [laid_is] at h
  have hT := Lib.tabIs_of_head tab_name tab_type Tryd.underlying95 Tryd.underlying5 byte_cells tab_cells h
  intro j hj
  rw [World.var?_cell tab_name hT j]
  simp [List.getD, hj]

/-- a world that has it -/
noncomputable def laidWorld (os : Os) : World :=
  let w0 := World.holding Tryd.prog os ⟨#[], #[], []⟩
  { w0 with heap := w0.heap.modify 0 fun
      | .cells _ t frozen => .cells (Lib.deBruijn64tab.map fun n : Nat => Value.int .u8 (n : Int)).toArray t frozen
      | o => o }
theorem laid_met (os : Os) (args : Array Value) : laidMet Tryd.prog laidTab ((laidWorld os).forCall (fun _ _ => 0) ⟨#[], args, []⟩).memory :=
  laidMet_of_run' 8 (by kernel_rfl) (by kernel_rfl)

/-- what a law is told of a slice of integers that came in -/
def IsRow (k : IntKind) (w : World) (a : Option Addr) (len cap : Nat) (zs : List Int) : Prop :=
  (a = none ∧ len = 0 ∧ cap = 0 ∧ zs = []) ∨
  ∃ x, a = some x ∧ len ≤ cap ∧ cap ≤ maxLen ∧ zs.length = cap ∧ (∀ i, i < zs.length → w.cell? (x.add i) = some (.int k (zs.getD i 0))) ∧ ∀ n ∈ zs, (Lit.int k n).wf = true

theorem IsRow.lv {w : World} {a : Option Addr} {len cap : Nat} {zs : List Int} (h : IsRow .u64 w a len cap zs) : ∃ l, Lv w a len cap l := by
  rcases h with ⟨rfl, rfl, rfl, rfl⟩ | ⟨x, rfl, h1, h2, h3, h4, h5⟩
  · exact ⟨[], lv_nil w⟩
  · have hl : (zs.take len).length = len := by rw [List.length_take]; omega
    have hD : ∀ k, k < len → zs.getD k 0 = D (zs.take len) k := fun k hk => by
      rw [D_take, if_pos hk]
      rfl
    refine ⟨zs.take len, hl, ⟨by omega, h2, fun hn => ⟨x, rfl, ?_, fun k hk => ?_⟩⟩, fun n hn => ?_⟩
    · have := h4 0 (by omega)
      rcases Nat.lt_or_ge x.block w.heap.size with g | g
      · exact g
      · have e : x.add 0 = x := by simp [Addr.add]
        rw [e] at this
        simp [World.cell?, Array.getElem?_eq_none g] at this
    · rw [hl] at hk
      rw [h4 k (by omega), hD k hk]
    · have := bounds_u64 (h5 n (List.mem_of_mem_take hn))
      omega
end Go.Proofs.YtigphbjgodfhpaaDoor
