/-
  The last step of a law's row, where the call may have made and frozen new blocks, and nothing that was there has turned.
-/
import Derived.WalkKit
import Derived.ProofKit
import Derived.OpenShut
namespace Go.Proofs.Ytbaeabmmokgomaa
open Go.ChangeShapes Go.WideShapes Go.ChangeAt Go.RowKit

/-- a call whose arguments bear no memory, and that leaves all old blocks as they were, meets a law's row -/
theorem done_plain {H : Type} {enc : TypeId × Value → H} {P : Program} {f : Func} {s : ChangeSpec} {W W' : World} {args : Array Value} {v : Value} {ds gs : List (DataW H)}
    (whole : DataW.Whole enc P f.params.toList s.vars false W args.toList ds gs [])
    (told : ∀ (b : Nat) (sp : Nat → Bool) (hd : Bool), DataW.TrodAll enc P W' b sp hd f.resultTypes.toList (v.resultList f.resultTypes.size) (s.fn H (ds ++ gs)).results [])
    (stands : ∀ sp : Nat → Bool, DataW.TrodAll enc P W' 0 sp true f.params.toList args.toList (s.fn H (ds ++ gs)).args [])
    (named : ∀ sp : Nat → Bool, DataW.TrodVars enc P W' sp s.vars (s.fn H (ds ++ gs)).vars [])
    (below : Below W.heap.size W W') : s.post enc P f false true false false W args v W' :=
  ⟨ds, gs, [], [], [], [], whole, told _ _ _, stands _, named _, below.frame _, fun h => nomatch h⟩
end Go.Proofs.Ytbaeabmmokgomaa
