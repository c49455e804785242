/- The closed sentence on exponents at their bounds and beyond, numbers too far apart, and rounding at ties is true of the program. Conditions: the words that come in are as Go has them, in memory that nobody else writes, and the tables of the library are as the text lays them. Layer 3, stage 3. -/
import Derived.Test.YtknomchkfamajaaGreatDoorRows
import Derived.Test.YtknomchkfamajaaGreatDoorCards
import Derived.Test.YtknomchkfamajaaGreatDoorTie
import Derived.Test.YtknomchkfamajaaGreatDoorDone
import Derived.Test.YtknomchkfamajaaGreatDoorDyTab
import Derived.Test.YtknomchkfamajaaGreatDoorDyOpen
import Derived.Test.YtknomchkfamajaaGreatDoorDyNM
import Derived.WalkKit
import Derived.ProofKit
import Derived.OpenShut
import Derived.Handed
import Derived.SevenTiedAt
import Derived.Below
import Derived.ShutString
import Derived.ChangeOld
import Derived.Lib.SmallJoins
namespace Go.Proofs.YtknomchkfamajaaGreatDoor.dyadBounds
open Go.ChangeShapes Go.WideShapes Go.ChangeAt Go.RowKit
set_option linter.unusedVariables false

theorem own : ownKnob Tryz.prog.godebug = none := by kernel_rfl

set_option maxRecDepth 100000 in
theorem lifted (os : Os) (started : os.Started) (H : Type) (enc : TypeId × Value → H) :
    ReturnsInHanded {} Tryz.checked os 13 .any (fun w args => (Rows.dyadBoundsSpec.pre enc Tryz.prog Tryz.f13 Rows.dyadBoundsRow.domain false w args ∧ laidMet Tryz.prog laidTab w) ∧ sizedMet enc Tryz.prog Tryz.f13 (OpenSpec.ofChange Rows.dyadBoundsSpec) false w args) (Rows.dyadBoundsSpec.post enc Tryz.prog Tryz.f13 false true false false) := by
  refine returnsInHanded_of_change_and (C := Tryz.checked) (X := fun w _ => laidMet Tryz.prog laidTab w) (fun _ _ _ hh h => h.of_heap hh) own started (by kernel_rfl) Tryz.func13
    (ChangeSpec.witness_at (enc := enc) (C := Tryz.checked) (os := os) (X := fun w _ => laidMet Tryz.prog laidTab w) false (laidWorld3 os) #[] 8 rfl (by kernel_rfl) (by kernel_rfl) (by kernel_rfl) (by kernel_rfl) (by kernel_rfl) (laid_met3 os _)) ?_
  intro W base args ds gs before hval0 hW hcnd _ hL _
  have hT := tab_of_laid hL
  have hP := pow_of_laid hL
  have hval : ∀ (j : Nat) t v, Tryz.f13.params[j]? = some t → args[j]? = some v → Value.okWide Tryz.prog W .any base t v := hval0
  have hW' := hW
  obtain ⟨p, q, hA0, hV, rfl, hfz, hnd⟩ := hW
  have hA : DataW.TrodAll enc Tryz.prog W 0 (fun _ => true) true Tryz.f13.params.toList args.toList ds p := hA0
  rw [Tryz.params13] at hA hval
  obtain ⟨rfl, rfl, rfl⟩ := trodAll_none hA
  obtain ⟨rfl, rfl⟩ := trodVars_none hV
  clear hA0 hval0
  refine (bounds_law  W  hT hP).mono fun e W' ⟨he, bel⟩ => ?_
  subst he
  exact ⟨_, rfl, _, _, _, [], _, [], hW', trodAll_mk1 (shut_bool Tryz.underlying4 _), trodAll_mk0, rfl, bel.frame _, fun h => by cases h⟩

theorem over : Rows.dyadBoundsRow.holds Tryz.pinned (OpenSpec.ofChange Rows.dyadBoundsSpec) :=
  OpenClaim.holds_of_wide 13 Tryz.f13 rfl rfl rfl rfl rfl rfl rfl ⟨rfl, rfl, rfl, rfl, rfl⟩ rfl rfl rfl rfl rfl (by kernel_rfl) Tryz.func13 (by kernel_rfl)
    (of_decide_eq_true (by kernel_rfl)) (by unfold Func.isWrapper; first | (rw [if_pos (by decide +kernel)]; kernel_rfl) | (rw [if_neg (by decide +kernel)]; exact ⟨rfl, rfl⟩))
    (fun os started H enc _ => lifted os started H enc)

/-- the row -/
theorem proved : Rows.DyadBoundsSaid := over

/-- the statement: the row, and its tables tied to the text -/
theorem card : Rows.DyadBoundsCardSaid :=
  Claim7.holds_tied_plain_at .later [] [.data, .data, .data] true (true, "7e825e62e389103ca1ff23b039f49095b9ab417c35fd30da91813a226391f499") false
    over (fun _ h => by cases h) (by kernel_rfl) (fun _ h => by cases h) dyadBounds_row_tie rfl ⟨rfl, rfl⟩ (by kernel_rfl) rfl
    (fun f fn hf hfn => by
      obtain rfl : f = 13 := Option.some.inj ((show Tryz.prog.funcNamed "plumbline/plumblinelaw03.DyadBounds" = some 13 by kernel_rfl).symm.trans hf) |>.symm
      obtain rfl : fn = Tryz.f13 := (Option.some.inj (Tryz.func13.symm.trans hfn)).symm
      exact ⟨by kernel_rfl, fun j t ht => by
        rw [Tryz.params13] at ht
        simp at ht⟩)
    (by kernel_rfl)
end Go.Proofs.YtknomchkfamajaaGreatDoor.dyadBounds
