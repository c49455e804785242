/-
  No cell of these rows narrows 'for every input' (looked for: loops, veiled, ifaces, maps, wideKeys, modest, calm, conditions, laid).
  DERIVED. THE GIVEN ROWS OF THIS SEAT. 3 by the template 'for every input the law returns true; each argument reads behind the call as it read before'; 0 by the template 'total and deterministic' (their statements: YtaemkjcmjgefeaaTotals.lean).
  GIVEN WITH THE SEED: the statements are not yours to turn. If you find one false, say at which input.
  Laid BY PROGRAM, IN A SANDBOX (cutbox-rows.mjs): the forced cells as the released guide's own fill.sh prints them over the translation 924dfc61f7f1a242… (all of the seat's roots in one cut). By AI agents, Wed Nov 11 2026. No macro, syntax, notation, axiom, sorry.
-/
import Derived.Test.YtaemkjcmjgefeaaChecked
import GoSem.Claim
import GoSem.ClaimJoined
import GoSem.ClaimMapViews
import Derived.JoinedTies
import Derived.KernelRfl
namespace Go.Proofs.Ytaemkjcmjgefeaa
/- THE CELL 'sum', in the pinned program and in every row, IS THE sha256 OF THE DUMP (.gsa) THAT YtaemkjcmjgefeaaProg.lean LOADS. Nothing in Lean hashes anything: it is a label: what it is worth is what the hold of that sum in a sandbox is worth. -/
noncomputable def Try.pinned : Pinned := { name := "ytaemkjcmjgefeaa", sum := "924dfc61f7f1a242c30cf13abd6015628f30c220d90a6748c0966d4e34e02dab", checked := Try.checked }
namespace Rows
def none {H : Type} : Left H := { results := [], args := [] }

/-- 'plumblinelaw10.TridiagReduces': WHATEVER THE INPUT: true; the input reads as it did. -/
def tridiagReducesSpec : ChangeSpec := { name := "tridiagReduces", fn := fun _ => fun
  | [d] => { results := [.lit (.bool true)], args := [d] }
  | _ => none }
def tridiagReducesRow : OpenClaim := { program := "ytaemkjcmjgefeaa", sum := "924dfc61f7f1a242c30cf13abd6015628f30c220d90a6748c0966d4e34e02dab", func := "plumbline/plumblinelaw10.TridiagReduces", spec := "tridiagReduces", inPlace := ["math.Float64bits", "math.Float64frombits", "math.sqrt"], unfollowed := true, recurses := true, apart := false }
def TridiagReducesSaid : Prop := tridiagReducesRow.holds Try.pinned (OpenSpec.ofChange tridiagReducesSpec)

/-- ITS FALSE NEIGHBOUR: 'it returns false'. Refute it at one input. -/
def tridiagReducesWrong : ChangeSpec := { name := "tridiagReduces", fn := fun _ => fun
  | [d] => { results := [.lit (.bool false)], args := [d] }
  | _ => none }
def TridiagReducesWrongFalsely : Prop := tridiagReducesRow.holds Try.pinned (OpenSpec.ofChange tridiagReducesWrong)

/-- 'plumblinelaw10.TridiagTurns': WHATEVER THE INPUT: true; the input reads as it did. -/
def tridiagTurnsSpec : ChangeSpec := { name := "tridiagTurns", fn := fun _ => fun
  | [d1, d2] => { results := [.lit (.bool true)], args := [d1, d2] }
  | _ => none }
def tridiagTurnsRow : OpenClaim := { program := "ytaemkjcmjgefeaa", sum := "924dfc61f7f1a242c30cf13abd6015628f30c220d90a6748c0966d4e34e02dab", func := "plumbline/plumblinelaw10.TridiagTurns", spec := "tridiagTurns", inPlace := ["math.Float64bits", "math.Float64frombits", "math.sqrt"], unfollowed := true, recurses := true, apart := false }
def TridiagTurnsSaid : Prop := tridiagTurnsRow.holds Try.pinned (OpenSpec.ofChange tridiagTurnsSpec)

/-- ITS FALSE NEIGHBOUR: 'it returns false'. Refute it at one input. -/
def tridiagTurnsWrong : ChangeSpec := { name := "tridiagTurns", fn := fun _ => fun
  | [d1, d2] => { results := [.lit (.bool false)], args := [d1, d2] }
  | _ => none }
def TridiagTurnsWrongFalsely : Prop := tridiagTurnsRow.holds Try.pinned (OpenSpec.ofChange tridiagTurnsWrong)

/-- 'plumblinelaw10.TridiagFull': WHATEVER THE INPUT: true; the input reads as it did. -/
def tridiagFullSpec : ChangeSpec := { name := "tridiagFull", fn := fun _ => fun
  | [d] => { results := [.lit (.bool true)], args := [d] }
  | _ => none }
def tridiagFullRow : OpenClaim := { program := "ytaemkjcmjgefeaa", sum := "924dfc61f7f1a242c30cf13abd6015628f30c220d90a6748c0966d4e34e02dab", func := "plumbline/plumblinelaw10.TridiagFull", spec := "tridiagFull", inPlace := ["math.Float64bits", "math.Float64frombits", "math.sqrt"], unfollowed := true, recurses := true, apart := false }
def TridiagFullSaid : Prop := tridiagFullRow.holds Try.pinned (OpenSpec.ofChange tridiagFullSpec)

/-- ITS FALSE NEIGHBOUR: 'it returns false'. Refute it at one input. -/
def tridiagFullWrong : ChangeSpec := { name := "tridiagFull", fn := fun _ => fun
  | [d] => { results := [.lit (.bool false)], args := [d] }
  | _ => none }
def TridiagFullWrongFalsely : Prop := tridiagFullRow.holds Try.pinned (OpenSpec.ofChange tridiagFullWrong)

/- THE SECOND FORM. 'bulk': how many values and letters a reading holds, each counted each time it is reached (what is shared counts as often as it is met; a slice's spare places count too). A statement '..UptoSaid' is the law's where the arguments, and the package variables that the reading takes, are together of bulk at most 1048576: NARROWER than '..Said'. Prove '..Said' where nothing that the law and all that it calls make is longer than what came in: it says more and counts as full. Else prove '..UptoSaid'. A law counts once. -/
mutual
def uptoBulk {H : Type} : DataW H → Nat
  | .lit (.string bytes) => bytes.length + 1
  | .lit _ => 1
  | .nil => 1
  | .ptr d => uptoBulk d + 1
  | .slice elems spare => uptoBulkAll elems + uptoBulkAll spare + 1
  | .agg parts => uptoBulkAll parts + 1
  | .iface _ d => uptoBulk d + 1
  | .map entries => uptoBulkEntries entries + 1
  | .held _ => 1
def uptoBulkAll {H : Type} : List (DataW H) → Nat
  | [] => 0
  | d :: r => uptoBulk d + uptoBulkAll r
def uptoBulkEntries {H : Type} : List (Lit × DataW H) → Nat
  | [] => 0
  | x :: r => uptoBulkEntry x + uptoBulkEntries r
def uptoBulkEntry {H : Type} : Lit × DataW H → Nat
  | (.string bytes, d) => bytes.length + uptoBulk d + 1
  | (_, d) => uptoBulk d + 1
 end
def uptoSmall : (H : Type) → List (DataW H) → Bool := fun _ ds => decide (uptoBulkAll ds ≤ 1048576)
def OpenSpec.upto (s : _root_.Go.ChangeSpec) : _root_.Go.OpenSpec := { _root_.Go.OpenSpec.ofChange s with cond := some uptoSmall }

/-- 'plumblinelaw10.TridiagReduces', WHERE WHAT IT READS IS OF BULK AT MOST 1048576: true; the input reads as it did. -/
def tridiagReducesUptoRow : OpenClaim := { program := "ytaemkjcmjgefeaa", sum := "924dfc61f7f1a242c30cf13abd6015628f30c220d90a6748c0966d4e34e02dab", func := "plumbline/plumblinelaw10.TridiagReduces", spec := "tridiagReduces", inPlace := ["math.Float64bits", "math.Float64frombits", "math.sqrt"], unfollowed := true, recurses := true, apart := false, narrowed := true }
def TridiagReducesUptoSaid : Prop := tridiagReducesUptoRow.holds Try.pinned (OpenSpec.upto tridiagReducesSpec)

/-- 'plumblinelaw10.TridiagTurns', WHERE WHAT IT READS IS OF BULK AT MOST 1048576: true; the input reads as it did. -/
def tridiagTurnsUptoRow : OpenClaim := { program := "ytaemkjcmjgefeaa", sum := "924dfc61f7f1a242c30cf13abd6015628f30c220d90a6748c0966d4e34e02dab", func := "plumbline/plumblinelaw10.TridiagTurns", spec := "tridiagTurns", inPlace := ["math.Float64bits", "math.Float64frombits", "math.sqrt"], unfollowed := true, recurses := true, apart := false, narrowed := true }
def TridiagTurnsUptoSaid : Prop := tridiagTurnsUptoRow.holds Try.pinned (OpenSpec.upto tridiagTurnsSpec)

/-- 'plumblinelaw10.TridiagFull', WHERE WHAT IT READS IS OF BULK AT MOST 1048576: true; the input reads as it did. -/
def tridiagFullUptoRow : OpenClaim := { program := "ytaemkjcmjgefeaa", sum := "924dfc61f7f1a242c30cf13abd6015628f30c220d90a6748c0966d4e34e02dab", func := "plumbline/plumblinelaw10.TridiagFull", spec := "tridiagFull", inPlace := ["math.Float64bits", "math.Float64frombits", "math.sqrt"], unfollowed := true, recurses := true, apart := false, narrowed := true }
def TridiagFullUptoSaid : Prop := tridiagFullUptoRow.holds Try.pinned (OpenSpec.upto tridiagFullSpec)

end Rows
end Go.Proofs.Ytaemkjcmjgefeaa
