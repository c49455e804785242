/-
  No cell of these rows narrows 'for every input' (looked for: loops, veiled, ifaces, maps, wideKeys, modest, calm, conditions, laid).
  DERIVED. THE GIVEN ROWS OF THIS SEAT. 5 by the template 'for every input the law returns true; each argument reads behind the call as it read before'; 0 by the template 'total and deterministic' (their statements: YtmfikppnkjhmjaaTotals.lean).
  GIVEN WITH THE SEED: the statements are not yours to turn. If you find one false, say at which input.
  Laid BY PROGRAM, IN A SANDBOX (cutbox-rows.mjs): the forced cells as the released guide's own fill.sh prints them over the translation 599c4c67f4b48427… (all of the seat's roots in one cut). By AI agents, Wed Nov 11 2026. No macro, syntax, notation, axiom, sorry.
-/
import Derived.Test.YtmfikppnkjhmjaaChecked
import GoSem.Claim
import GoSem.ClaimJoined
import GoSem.ClaimMapViews
import Derived.JoinedTies
import Derived.KernelRfl
namespace Go.Proofs.Ytmfikppnkjhmjaa
/- THE CELL 'sum', in the pinned program and in every row, IS THE sha256 OF THE DUMP (.gsa) THAT YtmfikppnkjhmjaaProg.lean LOADS. Nothing in Lean hashes anything: it is a label: what it is worth is what the hold of that sum in a sandbox is worth. -/
noncomputable def Try.pinned : Pinned := { name := "ytmfikppnkjhmjaa", sum := "599c4c67f4b484276ec7c1eb5f352f1892f0617a63949365e874702cdc055452", checked := Try.checked }
namespace Rows
def none {H : Type} : Left H := { results := [], args := [] }

/-- 'plumblinelaw06.SmallLengths': WHATEVER THE INPUT: true; the input reads as it did. -/
def smallLengthsSpec : ChangeSpec := { name := "smallLengths", fn := fun _ => fun
  | [d1, d2] => { results := [.lit (.bool true)], args := [d1, d2] }
  | _ => none }
def smallLengthsRow : OpenClaim := { program := "ytmfikppnkjhmjaa", sum := "599c4c67f4b484276ec7c1eb5f352f1892f0617a63949365e874702cdc055452", func := "plumbline/plumblinelaw06.SmallLengths", spec := "smallLengths", inPlace := ["math.Float64bits", "math.Float64frombits", "math.sqrt"], apart := false }
def SmallLengthsSaid : Prop := smallLengthsRow.holds Try.pinned (OpenSpec.ofChange smallLengthsSpec)

/-- ITS FALSE NEIGHBOUR: 'it returns false'. Refute it at one input. -/
def smallLengthsWrong : ChangeSpec := { name := "smallLengths", fn := fun _ => fun
  | [d1, d2] => { results := [.lit (.bool false)], args := [d1, d2] }
  | _ => none }
def SmallLengthsWrongFalsely : Prop := smallLengthsRow.holds Try.pinned (OpenSpec.ofChange smallLengthsWrong)

/-- 'plumblinelaw06.SmallNorms': WHATEVER THE INPUT: true; the input reads as it did. -/
def smallNormsSpec : ChangeSpec := { name := "smallNorms", fn := fun _ => fun
  | [d] => { results := [.lit (.bool true)], args := [d] }
  | _ => none }
def smallNormsRow : OpenClaim := { program := "ytmfikppnkjhmjaa", sum := "599c4c67f4b484276ec7c1eb5f352f1892f0617a63949365e874702cdc055452", func := "plumbline/plumblinelaw06.SmallNorms", spec := "smallNorms", inPlace := ["math.Float64bits", "math.Float64frombits", "math.sqrt"], apart := false }
def SmallNormsSaid : Prop := smallNormsRow.holds Try.pinned (OpenSpec.ofChange smallNormsSpec)

/-- ITS FALSE NEIGHBOUR: 'it returns false'. Refute it at one input. -/
def smallNormsWrong : ChangeSpec := { name := "smallNorms", fn := fun _ => fun
  | [d] => { results := [.lit (.bool false)], args := [d] }
  | _ => none }
def SmallNormsWrongFalsely : Prop := smallNormsRow.holds Try.pinned (OpenSpec.ofChange smallNormsWrong)

/-- 'plumblinelaw06.SmallGivens': WHATEVER THE INPUT: true; the input reads as it did. -/
def smallGivensSpec : ChangeSpec := { name := "smallGivens", fn := fun _ => fun
  | [d1, d2, d3, d4] => { results := [.lit (.bool true)], args := [d1, d2, d3, d4] }
  | _ => none }
def smallGivensRow : OpenClaim := { program := "ytmfikppnkjhmjaa", sum := "599c4c67f4b484276ec7c1eb5f352f1892f0617a63949365e874702cdc055452", func := "plumbline/plumblinelaw06.SmallGivens", spec := "smallGivens", inPlace := ["math.Float64bits", "math.Float64frombits", "math.sqrt"], apart := false }
def SmallGivensSaid : Prop := smallGivensRow.holds Try.pinned (OpenSpec.ofChange smallGivensSpec)

/-- ITS FALSE NEIGHBOUR: 'it returns false'. Refute it at one input. -/
def smallGivensWrong : ChangeSpec := { name := "smallGivens", fn := fun _ => fun
  | [d1, d2, d3, d4] => { results := [.lit (.bool false)], args := [d1, d2, d3, d4] }
  | _ => none }
def SmallGivensWrongFalsely : Prop := smallGivensRow.holds Try.pinned (OpenSpec.ofChange smallGivensWrong)

/-- 'plumblinelaw06.SmallEigen': WHATEVER THE INPUT: true; the input reads as it did. -/
def smallEigenSpec : ChangeSpec := { name := "smallEigen", fn := fun _ => fun
  | [d1, d2, d3] => { results := [.lit (.bool true)], args := [d1, d2, d3] }
  | _ => none }
def smallEigenRow : OpenClaim := { program := "ytmfikppnkjhmjaa", sum := "599c4c67f4b484276ec7c1eb5f352f1892f0617a63949365e874702cdc055452", func := "plumbline/plumblinelaw06.SmallEigen", spec := "smallEigen", inPlace := ["math.Float64bits", "math.Float64frombits", "math.sqrt"], apart := false }
def SmallEigenSaid : Prop := smallEigenRow.holds Try.pinned (OpenSpec.ofChange smallEigenSpec)

/-- ITS FALSE NEIGHBOUR: 'it returns false'. Refute it at one input. -/
def smallEigenWrong : ChangeSpec := { name := "smallEigen", fn := fun _ => fun
  | [d1, d2, d3] => { results := [.lit (.bool false)], args := [d1, d2, d3] }
  | _ => none }
def SmallEigenWrongFalsely : Prop := smallEigenRow.holds Try.pinned (OpenSpec.ofChange smallEigenWrong)

/-- 'plumblinelaw06.SmallSingular': WHATEVER THE INPUT: true; the input reads as it did. -/
def smallSingularSpec : ChangeSpec := { name := "smallSingular", fn := fun _ => fun
  | [d1, d2, d3] => { results := [.lit (.bool true)], args := [d1, d2, d3] }
  | _ => none }
def smallSingularRow : OpenClaim := { program := "ytmfikppnkjhmjaa", sum := "599c4c67f4b484276ec7c1eb5f352f1892f0617a63949365e874702cdc055452", func := "plumbline/plumblinelaw06.SmallSingular", spec := "smallSingular", inPlace := ["math.Float64bits", "math.Float64frombits", "math.sqrt"], apart := false }
def SmallSingularSaid : Prop := smallSingularRow.holds Try.pinned (OpenSpec.ofChange smallSingularSpec)

/-- ITS FALSE NEIGHBOUR: 'it returns false'. Refute it at one input. -/
def smallSingularWrong : ChangeSpec := { name := "smallSingular", fn := fun _ => fun
  | [d1, d2, d3] => { results := [.lit (.bool false)], args := [d1, d2, d3] }
  | _ => none }
def SmallSingularWrongFalsely : Prop := smallSingularRow.holds Try.pinned (OpenSpec.ofChange smallSingularWrong)

/- THE SECOND FORM. 'bulk': how many values and letters a reading holds, each counted each time it is reached (what is shared counts as often as it is met; a slice's spare places count too). A statement '..UptoSaid' is the law's where the arguments, and the package variables that the reading takes, are together of bulk at most 1048576: NARROWER than '..Said'. Prove '..Said' where nothing that the law and all that it calls make is longer than what came in: it says more and counts as full. Else prove '..UptoSaid'. A law counts once. -/
mutual
def uptoBulk {H : Type} : DataW H → Nat
  | .lit (.string bytes) => bytes.length + 1
  | .lit _ => 1
  | .nil => 1
  | .ptr d => uptoBulk d + 1
  | .slice elems spare => uptoBulkAll elems + uptoBulkAll spare + 1
  | .agg parts => uptoBulkAll parts + 1
  | .iface _ d => uptoBulk d + 1
  | .map entries => uptoBulkEntries entries + 1
  | .held _ => 1
def uptoBulkAll {H : Type} : List (DataW H) → Nat
  | [] => 0
  | d :: r => uptoBulk d + uptoBulkAll r
def uptoBulkEntries {H : Type} : List (Lit × DataW H) → Nat
  | [] => 0
  | x :: r => uptoBulkEntry x + uptoBulkEntries r
def uptoBulkEntry {H : Type} : Lit × DataW H → Nat
  | (.string bytes, d) => bytes.length + uptoBulk d + 1
  | (_, d) => uptoBulk d + 1
 end
def uptoSmall : (H : Type) → List (DataW H) → Bool := fun _ ds => decide (uptoBulkAll ds ≤ 1048576)
def OpenSpec.upto (s : _root_.Go.ChangeSpec) : _root_.Go.OpenSpec := { _root_.Go.OpenSpec.ofChange s with cond := some uptoSmall }

/-- 'plumblinelaw06.SmallLengths', WHERE WHAT IT READS IS OF BULK AT MOST 1048576: true; the input reads as it did. -/
def smallLengthsUptoRow : OpenClaim := { program := "ytmfikppnkjhmjaa", sum := "599c4c67f4b484276ec7c1eb5f352f1892f0617a63949365e874702cdc055452", func := "plumbline/plumblinelaw06.SmallLengths", spec := "smallLengths", inPlace := ["math.Float64bits", "math.Float64frombits", "math.sqrt"], apart := false, narrowed := true }
def SmallLengthsUptoSaid : Prop := smallLengthsUptoRow.holds Try.pinned (OpenSpec.upto smallLengthsSpec)

/-- 'plumblinelaw06.SmallNorms', WHERE WHAT IT READS IS OF BULK AT MOST 1048576: true; the input reads as it did. -/
def smallNormsUptoRow : OpenClaim := { program := "ytmfikppnkjhmjaa", sum := "599c4c67f4b484276ec7c1eb5f352f1892f0617a63949365e874702cdc055452", func := "plumbline/plumblinelaw06.SmallNorms", spec := "smallNorms", inPlace := ["math.Float64bits", "math.Float64frombits", "math.sqrt"], apart := false, narrowed := true }
def SmallNormsUptoSaid : Prop := smallNormsUptoRow.holds Try.pinned (OpenSpec.upto smallNormsSpec)

/-- 'plumblinelaw06.SmallGivens', WHERE WHAT IT READS IS OF BULK AT MOST 1048576: true; the input reads as it did. -/
def smallGivensUptoRow : OpenClaim := { program := "ytmfikppnkjhmjaa", sum := "599c4c67f4b484276ec7c1eb5f352f1892f0617a63949365e874702cdc055452", func := "plumbline/plumblinelaw06.SmallGivens", spec := "smallGivens", inPlace := ["math.Float64bits", "math.Float64frombits", "math.sqrt"], apart := false, narrowed := true }
def SmallGivensUptoSaid : Prop := smallGivensUptoRow.holds Try.pinned (OpenSpec.upto smallGivensSpec)

/-- 'plumblinelaw06.SmallEigen', WHERE WHAT IT READS IS OF BULK AT MOST 1048576: true; the input reads as it did. -/
def smallEigenUptoRow : OpenClaim := { program := "ytmfikppnkjhmjaa", sum := "599c4c67f4b484276ec7c1eb5f352f1892f0617a63949365e874702cdc055452", func := "plumbline/plumblinelaw06.SmallEigen", spec := "smallEigen", inPlace := ["math.Float64bits", "math.Float64frombits", "math.sqrt"], apart := false, narrowed := true }
def SmallEigenUptoSaid : Prop := smallEigenUptoRow.holds Try.pinned (OpenSpec.upto smallEigenSpec)

/-- 'plumblinelaw06.SmallSingular', WHERE WHAT IT READS IS OF BULK AT MOST 1048576: true; the input reads as it did. -/
def smallSingularUptoRow : OpenClaim := { program := "ytmfikppnkjhmjaa", sum := "599c4c67f4b484276ec7c1eb5f352f1892f0617a63949365e874702cdc055452", func := "plumbline/plumblinelaw06.SmallSingular", spec := "smallSingular", inPlace := ["math.Float64bits", "math.Float64frombits", "math.sqrt"], apart := false, narrowed := true }
def SmallSingularUptoSaid : Prop := smallSingularUptoRow.holds Try.pinned (OpenSpec.upto smallSingularSpec)

end Rows
end Go.Proofs.Ytmfikppnkjhmjaa
