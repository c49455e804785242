/-
  No cell of these rows narrows 'for every input' (looked for: loops, veiled, ifaces, maps, wideKeys, modest, calm, conditions, laid).
  DERIVED. THE GIVEN ROWS OF THIS SEAT. 4 by the template 'for every input the law returns true; each argument reads behind the call as it read before'; 0 by the template 'total and deterministic' (their statements: YtbaeabmmokgomaaTotals.lean).
  GIVEN WITH THE SEED: the statements are not yours to turn. If you find one false, say at which input.
  Laid BY PROGRAM, IN A SANDBOX (cutbox-rows.mjs): the forced cells as the released guide's own fill.sh prints them over the translation 97ad46cce3d788ee… (all of the seat's roots in one cut). By AI agents, Wed Nov 11 2026. No macro, syntax, notation, axiom, sorry.
-/
import Derived.Test.YtbaeabmmokgomaaChecked
import GoSem.Claim
import GoSem.ClaimJoined
import GoSem.ClaimMapViews
import Derived.JoinedTies
import Derived.KernelRfl
namespace Go.Proofs.Ytbaeabmmokgomaa
/- THE CELL 'sum', in the pinned program and in every row, IS THE sha256 OF THE DUMP (.gsa) THAT YtbaeabmmokgomaaProg.lean LOADS. Nothing in Lean hashes anything: it is a label: what it is worth is what the hold of that sum in a sandbox is worth. -/
noncomputable def Try.pinned : Pinned := { name := "ytbaeabmmokgomaa", sum := "97ad46cce3d788ee245492094e91ecf2665d5544837eeb791f5f9c92ff3462d6", checked := Try.checked }
namespace Rows
def none {H : Type} : Left H := { results := [], args := [] }

/-- 'plumblinelaw11.BidiagReduces': WHATEVER THE INPUT: true; the input reads as it did. -/
def bidiagReducesSpec : ChangeSpec := { name := "bidiagReduces", fn := fun _ => fun
  | [d] => { results := [.lit (.bool true)], args := [d] }
  | _ => none }
def bidiagReducesRow : OpenClaim := { program := "ytbaeabmmokgomaa", sum := "97ad46cce3d788ee245492094e91ecf2665d5544837eeb791f5f9c92ff3462d6", func := "plumbline/plumblinelaw11.BidiagReduces", spec := "bidiagReduces", inPlace := ["math.Float64bits", "math.Float64frombits", "math.sqrt"], unfollowed := true, recurses := true, apart := false }
def BidiagReducesSaid : Prop := bidiagReducesRow.holds Try.pinned (OpenSpec.ofChange bidiagReducesSpec)

/-- ITS FALSE NEIGHBOUR: 'it returns false'. Refute it at one input. -/
def bidiagReducesWrong : ChangeSpec := { name := "bidiagReduces", fn := fun _ => fun
  | [d] => { results := [.lit (.bool false)], args := [d] }
  | _ => none }
def BidiagReducesWrongFalsely : Prop := bidiagReducesRow.holds Try.pinned (OpenSpec.ofChange bidiagReducesWrong)

/-- 'plumblinelaw11.BidiagQ': WHATEVER THE INPUT: true; the input reads as it did. -/
def bidiagQSpec : ChangeSpec := { name := "bidiagQ", fn := fun _ => fun
  | [d1, d2, d3] => { results := [.lit (.bool true)], args := [d1, d2, d3] }
  | _ => none }
def bidiagQRow : OpenClaim := { program := "ytbaeabmmokgomaa", sum := "97ad46cce3d788ee245492094e91ecf2665d5544837eeb791f5f9c92ff3462d6", func := "plumbline/plumblinelaw11.BidiagQ", spec := "bidiagQ", inPlace := ["math.Float64bits", "math.Float64frombits", "math.sqrt"], unfollowed := true, recurses := true, apart := false }
def BidiagQSaid : Prop := bidiagQRow.holds Try.pinned (OpenSpec.ofChange bidiagQSpec)

/-- ITS FALSE NEIGHBOUR: 'it returns false'. Refute it at one input. -/
def bidiagQWrong : ChangeSpec := { name := "bidiagQ", fn := fun _ => fun
  | [d1, d2, d3] => { results := [.lit (.bool false)], args := [d1, d2, d3] }
  | _ => none }
def BidiagQWrongFalsely : Prop := bidiagQRow.holds Try.pinned (OpenSpec.ofChange bidiagQWrong)

/-- 'plumblinelaw11.BidiagP': WHATEVER THE INPUT: true; the input reads as it did. -/
def bidiagPSpec : ChangeSpec := { name := "bidiagP", fn := fun _ => fun
  | [d1, d2] => { results := [.lit (.bool true)], args := [d1, d2] }
  | _ => none }
def bidiagPRow : OpenClaim := { program := "ytbaeabmmokgomaa", sum := "97ad46cce3d788ee245492094e91ecf2665d5544837eeb791f5f9c92ff3462d6", func := "plumbline/plumblinelaw11.BidiagP", spec := "bidiagP", inPlace := ["math.Float64bits", "math.Float64frombits", "math.sqrt"], unfollowed := true, recurses := true, apart := false }
def BidiagPSaid : Prop := bidiagPRow.holds Try.pinned (OpenSpec.ofChange bidiagPSpec)

/-- ITS FALSE NEIGHBOUR: 'it returns false'. Refute it at one input. -/
def bidiagPWrong : ChangeSpec := { name := "bidiagP", fn := fun _ => fun
  | [d1, d2] => { results := [.lit (.bool false)], args := [d1, d2] }
  | _ => none }
def BidiagPWrongFalsely : Prop := bidiagPRow.holds Try.pinned (OpenSpec.ofChange bidiagPWrong)

/-- 'plumblinelaw11.BidiagNil': WHATEVER THE INPUT: true; the input reads as it did. -/
def bidiagNilSpec : ChangeSpec := { name := "bidiagNil", fn := fun _ => fun
  | [] => { results := [.lit (.bool true)], args := [] }
  | _ => none }
def bidiagNilRow : OpenClaim := { program := "ytbaeabmmokgomaa", sum := "97ad46cce3d788ee245492094e91ecf2665d5544837eeb791f5f9c92ff3462d6", func := "plumbline/plumblinelaw11.BidiagNil", spec := "bidiagNil", inPlace := ["math.Float64bits", "math.Float64frombits", "math.sqrt"], unfollowed := true, recurses := true, apart := false }
def BidiagNilSaid : Prop := bidiagNilRow.holds Try.pinned (OpenSpec.ofChange bidiagNilSpec)

/-- ITS FALSE NEIGHBOUR: 'it returns false'. Refute it at one input. -/
def bidiagNilWrong : ChangeSpec := { name := "bidiagNil", fn := fun _ => fun
  | [] => { results := [.lit (.bool false)], args := [] }
  | _ => none }
def BidiagNilWrongFalsely : Prop := bidiagNilRow.holds Try.pinned (OpenSpec.ofChange bidiagNilWrong)

/- THE SECOND FORM. 'bulk': how many values and letters a reading holds, each counted each time it is reached (what is shared counts as often as it is met; a slice's spare places count too). A statement '..UptoSaid' is the law's where the arguments, and the package variables that the reading takes, are together of bulk at most 1048576: NARROWER than '..Said'. Prove '..Said' where nothing that the law and all that it calls make is longer than what came in: it says more and counts as full. Else prove '..UptoSaid'. A law counts once. -/
mutual
def uptoBulk {H : Type} : DataW H → Nat
  | .lit (.string bytes) => bytes.length + 1
  | .lit _ => 1
  | .nil => 1
  | .ptr d => uptoBulk d + 1
  | .slice elems spare => uptoBulkAll elems + uptoBulkAll spare + 1
  | .agg parts => uptoBulkAll parts + 1
  | .iface _ d => uptoBulk d + 1
  | .map entries => uptoBulkEntries entries + 1
  | .held _ => 1
def uptoBulkAll {H : Type} : List (DataW H) → Nat
  | [] => 0
  | d :: r => uptoBulk d + uptoBulkAll r
def uptoBulkEntries {H : Type} : List (Lit × DataW H) → Nat
  | [] => 0
  | x :: r => uptoBulkEntry x + uptoBulkEntries r
def uptoBulkEntry {H : Type} : Lit × DataW H → Nat
  | (.string bytes, d) => bytes.length + uptoBulk d + 1
  | (_, d) => uptoBulk d + 1
 end
def uptoSmall : (H : Type) → List (DataW H) → Bool := fun _ ds => decide (uptoBulkAll ds ≤ 1048576)
def OpenSpec.upto (s : _root_.Go.ChangeSpec) : _root_.Go.OpenSpec := { _root_.Go.OpenSpec.ofChange s with cond := some uptoSmall }

/-- 'plumblinelaw11.BidiagReduces', WHERE WHAT IT READS IS OF BULK AT MOST 1048576: true; the input reads as it did. -/
def bidiagReducesUptoRow : OpenClaim := { program := "ytbaeabmmokgomaa", sum := "97ad46cce3d788ee245492094e91ecf2665d5544837eeb791f5f9c92ff3462d6", func := "plumbline/plumblinelaw11.BidiagReduces", spec := "bidiagReduces", inPlace := ["math.Float64bits", "math.Float64frombits", "math.sqrt"], unfollowed := true, recurses := true, apart := false, narrowed := true }
def BidiagReducesUptoSaid : Prop := bidiagReducesUptoRow.holds Try.pinned (OpenSpec.upto bidiagReducesSpec)

/-- 'plumblinelaw11.BidiagQ', WHERE WHAT IT READS IS OF BULK AT MOST 1048576: true; the input reads as it did. -/
def bidiagQUptoRow : OpenClaim := { program := "ytbaeabmmokgomaa", sum := "97ad46cce3d788ee245492094e91ecf2665d5544837eeb791f5f9c92ff3462d6", func := "plumbline/plumblinelaw11.BidiagQ", spec := "bidiagQ", inPlace := ["math.Float64bits", "math.Float64frombits", "math.sqrt"], unfollowed := true, recurses := true, apart := false, narrowed := true }
def BidiagQUptoSaid : Prop := bidiagQUptoRow.holds Try.pinned (OpenSpec.upto bidiagQSpec)

/-- 'plumblinelaw11.BidiagP', WHERE WHAT IT READS IS OF BULK AT MOST 1048576: true; the input reads as it did. -/
def bidiagPUptoRow : OpenClaim := { program := "ytbaeabmmokgomaa", sum := "97ad46cce3d788ee245492094e91ecf2665d5544837eeb791f5f9c92ff3462d6", func := "plumbline/plumblinelaw11.BidiagP", spec := "bidiagP", inPlace := ["math.Float64bits", "math.Float64frombits", "math.sqrt"], unfollowed := true, recurses := true, apart := false, narrowed := true }
def BidiagPUptoSaid : Prop := bidiagPUptoRow.holds Try.pinned (OpenSpec.upto bidiagPSpec)

/-- 'plumblinelaw11.BidiagNil', WHERE WHAT IT READS IS OF BULK AT MOST 1048576: true; the input reads as it did. -/
def bidiagNilUptoRow : OpenClaim := { program := "ytbaeabmmokgomaa", sum := "97ad46cce3d788ee245492094e91ecf2665d5544837eeb791f5f9c92ff3462d6", func := "plumbline/plumblinelaw11.BidiagNil", spec := "bidiagNil", inPlace := ["math.Float64bits", "math.Float64frombits", "math.sqrt"], unfollowed := true, recurses := true, apart := false, narrowed := true }
def BidiagNilUptoSaid : Prop := bidiagNilUptoRow.holds Try.pinned (OpenSpec.upto bidiagNilSpec)

end Rows
end Go.Proofs.Ytbaeabmmokgomaa
