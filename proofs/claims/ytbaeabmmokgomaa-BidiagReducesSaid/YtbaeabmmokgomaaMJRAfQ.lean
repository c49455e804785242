/-
  Layer 6: the laws of Norm, of rotations, of two by twos, by what the program's functions are to answer. (Written by wip/tools/gen_afq.py.)
-/
import Derived.Test.YtbaeabmmokgomaaMJRAfR
import Derived.Test.YtbaeabmmokgomaaMJRAfP
namespace Go.Proofs.Ytbaeabmmokgomaa
open Go Go.RowKit Go.Bw
set_option linter.unusedVariables false
set_option linter.unusedSimpArgs false

abbrev ConNorm : Prop := ∀ {A : Option Addr} {len c : Nat} {l : List Int} {w : World}, FL w A len c l → Calls Try.prog 52 #[.slice A len c] w (FA (nrmA l) w)
def turnA (c s x y : Option Nat) : Option Nat × Option Nat := (aop .add (aop .mul c x) (aop .mul s y), aop .sub (aop .mul c y) (aop .mul s x))
end Go.Proofs.Ytbaeabmmokgomaa
