/-
  No cell of these rows narrows 'for every input' (looked for: loops, veiled, ifaces, maps, wideKeys, modest, calm, conditions, laid).
  DERIVED. THE GIVEN ROWS OF THIS SEAT. 4 by the template 'for every input the law returns true; each argument reads behind the call as it read before'; 0 by the template 'total and deterministic' (their statements: YtcdbjlmegkcaiaaTotals.lean).
  GIVEN WITH THE SEED: the statements are not yours to turn. If you find one false, say at which input.
  Laid BY PROGRAM, IN A SANDBOX (cutbox-rows.mjs): the forced cells as the released guide's own fill.sh prints them over the translation 49812e7d5d794a5a… (all of the seat's roots in one cut). By AI agents, Wed Nov 11 2026. No macro, syntax, notation, axiom, sorry.
-/
import Derived.Test.YtcdbjlmegkcaiaaChecked
import GoSem.Claim
import GoSem.ClaimJoined
import GoSem.ClaimMapViews
import Derived.JoinedTies
import Derived.KernelRfl
namespace Go.Proofs.Ytcdbjlmegkcaiaa
/- THE CELL 'sum', in the pinned program and in every row, IS THE sha256 OF THE DUMP (.gsa) THAT YtcdbjlmegkcaiaaProg.lean LOADS. Nothing in Lean hashes anything: it is a label: what it is worth is what the hold of that sum in a sandbox is worth. -/
noncomputable def Try.pinned : Pinned := { name := "ytcdbjlmegkcaiaa", sum := "49812e7d5d794a5adce8741c199146c0f507a883cd5bb6c4ef90f64a4a4e2089", checked := Try.checked }
namespace Rows
def none {H : Type} : Left H := { results := [], args := [] }

/-- 'plumblinelaw09.ReflectMakes': WHATEVER THE INPUT: true; the input reads as it did. -/
def reflectMakesSpec : ChangeSpec := { name := "reflectMakes", fn := fun _ => fun
  | [d] => { results := [.lit (.bool true)], args := [d] }
  | _ => none }
def reflectMakesRow : OpenClaim := { program := "ytcdbjlmegkcaiaa", sum := "49812e7d5d794a5adce8741c199146c0f507a883cd5bb6c4ef90f64a4a4e2089", func := "plumbline/plumblinelaw09.ReflectMakes", spec := "reflectMakes", inPlace := ["math.Float64bits", "math.Float64frombits", "math.sqrt"], unfollowed := true, recurses := true, apart := false }
def ReflectMakesSaid : Prop := reflectMakesRow.holds Try.pinned (OpenSpec.ofChange reflectMakesSpec)

/-- ITS FALSE NEIGHBOUR: 'it returns false'. Refute it at one input. -/
def reflectMakesWrong : ChangeSpec := { name := "reflectMakes", fn := fun _ => fun
  | [d] => { results := [.lit (.bool false)], args := [d] }
  | _ => none }
def ReflectMakesWrongFalsely : Prop := reflectMakesRow.holds Try.pinned (OpenSpec.ofChange reflectMakesWrong)

/-- 'plumblinelaw09.ReflectTurns': WHATEVER THE INPUT: true; the input reads as it did. -/
def reflectTurnsSpec : ChangeSpec := { name := "reflectTurns", fn := fun _ => fun
  | [d1, d2, d3, d4] => { results := [.lit (.bool true)], args := [d1, d2, d3, d4] }
  | _ => none }
def reflectTurnsRow : OpenClaim := { program := "ytcdbjlmegkcaiaa", sum := "49812e7d5d794a5adce8741c199146c0f507a883cd5bb6c4ef90f64a4a4e2089", func := "plumbline/plumblinelaw09.ReflectTurns", spec := "reflectTurns", inPlace := ["math.Float64bits", "math.Float64frombits", "math.sqrt"], unfollowed := true, recurses := true, apart := false }
def ReflectTurnsSaid : Prop := reflectTurnsRow.holds Try.pinned (OpenSpec.ofChange reflectTurnsSpec)

/-- ITS FALSE NEIGHBOUR: 'it returns false'. Refute it at one input. -/
def reflectTurnsWrong : ChangeSpec := { name := "reflectTurns", fn := fun _ => fun
  | [d1, d2, d3, d4] => { results := [.lit (.bool false)], args := [d1, d2, d3, d4] }
  | _ => none }
def ReflectTurnsWrongFalsely : Prop := reflectTurnsRow.holds Try.pinned (OpenSpec.ofChange reflectTurnsWrong)

/-- 'plumblinelaw09.ReflectFactors': WHATEVER THE INPUT: true; the input reads as it did. -/
def reflectFactorsSpec : ChangeSpec := { name := "reflectFactors", fn := fun _ => fun
  | [d] => { results := [.lit (.bool true)], args := [d] }
  | _ => none }
def reflectFactorsRow : OpenClaim := { program := "ytcdbjlmegkcaiaa", sum := "49812e7d5d794a5adce8741c199146c0f507a883cd5bb6c4ef90f64a4a4e2089", func := "plumbline/plumblinelaw09.ReflectFactors", spec := "reflectFactors", inPlace := ["math.Float64bits", "math.Float64frombits", "math.sqrt"], unfollowed := true, recurses := true, apart := false }
def ReflectFactorsSaid : Prop := reflectFactorsRow.holds Try.pinned (OpenSpec.ofChange reflectFactorsSpec)

/-- ITS FALSE NEIGHBOUR: 'it returns false'. Refute it at one input. -/
def reflectFactorsWrong : ChangeSpec := { name := "reflectFactors", fn := fun _ => fun
  | [d] => { results := [.lit (.bool false)], args := [d] }
  | _ => none }
def ReflectFactorsWrongFalsely : Prop := reflectFactorsRow.holds Try.pinned (OpenSpec.ofChange reflectFactorsWrong)

/-- 'plumblinelaw09.ReflectBlocks': WHATEVER THE INPUT: true; the input reads as it did. -/
def reflectBlocksSpec : ChangeSpec := { name := "reflectBlocks", fn := fun _ => fun
  | [d1, d2, d3] => { results := [.lit (.bool true)], args := [d1, d2, d3] }
  | _ => none }
def reflectBlocksRow : OpenClaim := { program := "ytcdbjlmegkcaiaa", sum := "49812e7d5d794a5adce8741c199146c0f507a883cd5bb6c4ef90f64a4a4e2089", func := "plumbline/plumblinelaw09.ReflectBlocks", spec := "reflectBlocks", inPlace := ["math.Float64bits", "math.Float64frombits", "math.sqrt"], unfollowed := true, recurses := true, apart := false }
def ReflectBlocksSaid : Prop := reflectBlocksRow.holds Try.pinned (OpenSpec.ofChange reflectBlocksSpec)

/-- ITS FALSE NEIGHBOUR: 'it returns false'. Refute it at one input. -/
def reflectBlocksWrong : ChangeSpec := { name := "reflectBlocks", fn := fun _ => fun
  | [d1, d2, d3] => { results := [.lit (.bool false)], args := [d1, d2, d3] }
  | _ => none }
def ReflectBlocksWrongFalsely : Prop := reflectBlocksRow.holds Try.pinned (OpenSpec.ofChange reflectBlocksWrong)

/- THE SECOND FORM. 'bulk': how many values and letters a reading holds, each counted each time it is reached (what is shared counts as often as it is met; a slice's spare places count too). A statement '..UptoSaid' is the law's where the arguments, and the package variables that the reading takes, are together of bulk at most 1048576: NARROWER than '..Said'. Prove '..Said' where nothing that the law and all that it calls make is longer than what came in: it says more and counts as full. Else prove '..UptoSaid'. A law counts once. -/
mutual
def uptoBulk {H : Type} : DataW H → Nat
  | .lit (.string bytes) => bytes.length + 1
  | .lit _ => 1
  | .nil => 1
  | .ptr d => uptoBulk d + 1
  | .slice elems spare => uptoBulkAll elems + uptoBulkAll spare + 1
  | .agg parts => uptoBulkAll parts + 1
  | .iface _ d => uptoBulk d + 1
  | .map entries => uptoBulkEntries entries + 1
  | .held _ => 1
def uptoBulkAll {H : Type} : List (DataW H) → Nat
  | [] => 0
  | d :: r => uptoBulk d + uptoBulkAll r
def uptoBulkEntries {H : Type} : List (Lit × DataW H) → Nat
  | [] => 0
  | x :: r => uptoBulkEntry x + uptoBulkEntries r
def uptoBulkEntry {H : Type} : Lit × DataW H → Nat
  | (.string bytes, d) => bytes.length + uptoBulk d + 1
  | (_, d) => uptoBulk d + 1
 end
def uptoSmall : (H : Type) → List (DataW H) → Bool := fun _ ds => decide (uptoBulkAll ds ≤ 1048576)
def OpenSpec.upto (s : _root_.Go.ChangeSpec) : _root_.Go.OpenSpec := { _root_.Go.OpenSpec.ofChange s with cond := some uptoSmall }

/-- 'plumblinelaw09.ReflectMakes', WHERE WHAT IT READS IS OF BULK AT MOST 1048576: true; the input reads as it did. -/
def reflectMakesUptoRow : OpenClaim := { program := "ytcdbjlmegkcaiaa", sum := "49812e7d5d794a5adce8741c199146c0f507a883cd5bb6c4ef90f64a4a4e2089", func := "plumbline/plumblinelaw09.ReflectMakes", spec := "reflectMakes", inPlace := ["math.Float64bits", "math.Float64frombits", "math.sqrt"], unfollowed := true, recurses := true, apart := false, narrowed := true }
def ReflectMakesUptoSaid : Prop := reflectMakesUptoRow.holds Try.pinned (OpenSpec.upto reflectMakesSpec)

/-- 'plumblinelaw09.ReflectTurns', WHERE WHAT IT READS IS OF BULK AT MOST 1048576: true; the input reads as it did. -/
def reflectTurnsUptoRow : OpenClaim := { program := "ytcdbjlmegkcaiaa", sum := "49812e7d5d794a5adce8741c199146c0f507a883cd5bb6c4ef90f64a4a4e2089", func := "plumbline/plumblinelaw09.ReflectTurns", spec := "reflectTurns", inPlace := ["math.Float64bits", "math.Float64frombits", "math.sqrt"], unfollowed := true, recurses := true, apart := false, narrowed := true }
def ReflectTurnsUptoSaid : Prop := reflectTurnsUptoRow.holds Try.pinned (OpenSpec.upto reflectTurnsSpec)

/-- 'plumblinelaw09.ReflectFactors', WHERE WHAT IT READS IS OF BULK AT MOST 1048576: true; the input reads as it did. -/
def reflectFactorsUptoRow : OpenClaim := { program := "ytcdbjlmegkcaiaa", sum := "49812e7d5d794a5adce8741c199146c0f507a883cd5bb6c4ef90f64a4a4e2089", func := "plumbline/plumblinelaw09.ReflectFactors", spec := "reflectFactors", inPlace := ["math.Float64bits", "math.Float64frombits", "math.sqrt"], unfollowed := true, recurses := true, apart := false, narrowed := true }
def ReflectFactorsUptoSaid : Prop := reflectFactorsUptoRow.holds Try.pinned (OpenSpec.upto reflectFactorsSpec)

/-- 'plumblinelaw09.ReflectBlocks', WHERE WHAT IT READS IS OF BULK AT MOST 1048576: true; the input reads as it did. -/
def reflectBlocksUptoRow : OpenClaim := { program := "ytcdbjlmegkcaiaa", sum := "49812e7d5d794a5adce8741c199146c0f507a883cd5bb6c4ef90f64a4a4e2089", func := "plumbline/plumblinelaw09.ReflectBlocks", spec := "reflectBlocks", inPlace := ["math.Float64bits", "math.Float64frombits", "math.sqrt"], unfollowed := true, recurses := true, apart := false, narrowed := true }
def ReflectBlocksUptoSaid : Prop := reflectBlocksUptoRow.holds Try.pinned (OpenSpec.upto reflectBlocksSpec)

end Rows
end Go.Proofs.Ytcdbjlmegkcaiaa
