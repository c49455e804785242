/-
  Layer 3: the library's three tables, as the rows lay them; what a law is told of a number that came in.
-/
import Derived.Test.YtknomchkfamajaaGreatDoorDyT
import Derived.Test.YtknomchkfamajaaGreatDoorRows
import Derived.LaidSub
import Derived.LaidLaws
import Derived.Lib.LaidTab
namespace Go.Proofs.YtknomchkfamajaaGreatDoor
open Go.RowKit Go.ChangeShapes
set_option linter.unusedVariables false

theorem pow_name : Tryz.prog.globalNamed "internal/strconv.uint64pow10" = some 4 := by kernel_rfl
def laidTab : List (String × DataW Unit) := [("math/bits.deBruijn32tab", Rows.laid_math_bits_deBruijn32tab), ("math/bits.deBruijn64tab", Rows.laid_math_bits_deBruijn64tab), ("internal/strconv.uint64pow10", Rows.laid_internal_strconv_uint64pow10)]
theorem laid_64 : laidTab.filter (fun x => x.1 == "math/bits.deBruijn64tab") = [("math/bits.deBruijn64tab", Lib.tabData .u8 (Lib.deBruijn64tab.map fun n : Nat => (n : Int)))] := by
  rfl
theorem laid_10 : laidTab.filter (fun x => x.1 == "internal/strconv.uint64pow10") = [("internal/strconv.uint64pow10", Lib.tabData .u64 Lib.pow10Tab)] := by
  rfl
theorem pow_type : (Tryz.prog.globals[4]?).map (·.type) = some 164 := by kernel_rfl
theorem pow_cells : Tryz.prog.cellsOf 164 = 20 := by kernel_rfl
theorem word_cells : Tryz.prog.cellsOf 35 = 1 := by kernel_rfl

theorem tab_of_laid {W : World} (h : laidMet Tryz.prog laidTab W) : Tab W := by
  have h := h.filter (fun x => x.1 == "math/bits.deBruijn64tab")
  rw [laid_64] at h
  have hT := Lib.tabIs_of_head tab_name tab_type Tryz.underlying148 Tryz.underlying5 byte_cells tab_cells h
  intro j hj
  rw [World.var?_cell tab_name hT j]
  simp [List.getD, hj]

theorem pow_of_laid {W : World} (h : laidMet Tryz.prog laidTab W) : PowT W := by
  have h := h.filter (fun x => x.1 == "internal/strconv.uint64pow10")
  rw [laid_10] at h
  exact Lib.tabIs_of_head pow_name pow_type Tryz.underlying164 Tryz.underlying35 word_cells pow_cells h

/-- a variable of a list of values -/
def setG (g : Nat) (v : List Value) (h : Array Obj) : Array Obj := h.modify g fun
      | .cells _ t frozen => .cells v.toArray t frozen
      | o => o
/-- a world that has them -/
noncomputable def laidWorld3 (os : Os) : World :=
  let w0 := World.holding Tryz.prog os ⟨#[], #[], []⟩
  let h1 := setG 5 (Lib.deBruijn32tab.map fun n : Nat => Value.int .u8 (n : Int)) w0.heap
  let h2 := setG 1 (Lib.deBruijn64tab.map fun n : Nat => Value.int .u8 (n : Int)) h1
  let h3 := setG 4 (Lib.pow10Tab.map fun n : Int => Value.int .u64 n) h2
  { w0 with heap := h3 }
theorem laid_met3 (os : Os) (args : Array Value) : laidMet Tryz.prog laidTab ((laidWorld3 os).forCall (fun _ _ => 0) ⟨#[], args, []⟩).memory :=
  laidMet_of_run' 8 (by kernel_rfl) (by kernel_rfl)
end Go.Proofs.YtknomchkfamajaaGreatDoor
