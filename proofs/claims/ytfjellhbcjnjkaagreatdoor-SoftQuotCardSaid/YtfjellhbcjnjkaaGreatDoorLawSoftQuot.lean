/- For every two dyads with room for at most 20 limbs each, the program's quotient and its error are the reference's, which divides bit by bit and rounds once; of longer ones nothing is said but the chapter's rows. Conditions: the words that come in are as Go has them, in memory that nobody else writes, and the table of the library is as the text lays it. Layer 4, stage 4. -/
import Derived.Test.YtfjellhbcjnjkaaGreatDoorRows
import Derived.Test.YtfjellhbcjnjkaaGreatDoorCards
import Derived.Test.YtfjellhbcjnjkaaGreatDoorTie
import Derived.Test.YtfjellhbcjnjkaaGreatDoorDone
import Derived.Test.YtfjellhbcjnjkaaGreatDoorSNR1
import Derived.Test.YtfjellhbcjnjkaaGreatDoorSDyOpen
import Derived.Test.YtfjellhbcjnjkaaGreatDoorSgS
import Derived.WalkKit
import Derived.ProofKit
import Derived.OpenShut
import Derived.Handed
import Derived.SevenTiedAt
import Derived.Below
import Derived.ShutString
import Derived.ChangeOld
import Derived.Lib.SmallJoins
namespace Go.Proofs.YtfjellhbcjnjkaaGreatDoor.softQuot
open Go.ChangeShapes Go.WideShapes Go.ChangeAt Go.RowKit
set_option linter.unusedVariables false

theorem own : ownKnob Tryz.prog.godebug = none := by kernel_rfl

set_option maxRecDepth 100000 in
theorem lifted (os : Os) (started : os.Started) (H : Type) (enc : TypeId × Value → H) :
    ReturnsInHanded {} Tryz.checked os 9 .any (fun w args => (Rows.softQuotSpec.pre enc Tryz.prog Tryz.f9 Rows.softQuotRow.domain false w args ∧ laidMet Tryz.prog laidTab w) ∧ sizedMet enc Tryz.prog Tryz.f9 (OpenSpec.ofChange Rows.softQuotSpec) false w args) (Rows.softQuotSpec.post enc Tryz.prog Tryz.f9 false true false false) := by
  refine returnsInHanded_of_change_and (C := Tryz.checked) (X := fun w _ => laidMet Tryz.prog laidTab w) (fun _ _ _ hh h => h.of_heap hh) own started (by kernel_rfl) Tryz.func9
    (ChangeSpec.witness_at (enc := enc) (C := Tryz.checked) (os := os) (X := fun w _ => laidMet Tryz.prog laidTab w) false (laidWorld os) #[.agg #[.bool false, .slice none 0 0, .int .i64 0], .agg #[.bool false, .slice none 0 0, .int .i64 0]] 8 rfl (by kernel_rfl) (by kernel_rfl) (by kernel_rfl) (by kernel_rfl) (by kernel_rfl) (laid_met os _)) ?_
  intro W base args ds gs before hval0 hW hcnd _ hL _
  have hT := tab_of_laid hL
  have hval : ∀ (j : Nat) t v, Tryz.f9.params[j]? = some t → args[j]? = some v → Value.okWide Tryz.prog W .any base t v := hval0
  have hW' := hW
  obtain ⟨p, q, hA0, hV, rfl, hfz, hnd⟩ := hW
  have hA : DataW.TrodAll enc Tryz.prog W 0 (fun _ => true) true Tryz.f9.params.toList args.toList ds p := hA0
  rw [Tryz.params9] at hA hval
  obtain ⟨v0, vs0, d0, ds0, p0, q0, hargs, rfl, rfl, h0, r0⟩ := trodAll_cons hA
  obtain ⟨v1, vs1, d1, ds1, p1, q1, rfl, rfl, rfl, h1, r1⟩ := trodAll_cons r0
  obtain ⟨rfl, rfl, rfl⟩ := trodAll_nil r1
  obtain rfl : args = #[v0, v1] := by cases args; simp_all
  obtain ⟨rfl, rfl⟩ := trodVars_none hV
  have k0 := h0
  have lt0 : ∀ x ∈ p0, x.block < W.heap.size := by obtain ⟨m, hm⟩ := k0; exact DataW.trod_lt m _ _ _ hm
  obtain ⟨b0, A0, n0, c0, x0, z0, rfl, g0, y0, u0⟩ := open_dyad (hval 0 35 v0 rfl rfl) h0
  have k1 := h1
  have lt1 : ∀ x ∈ p1, x.block < W.heap.size := by obtain ⟨m, hm⟩ := k1; exact DataW.trod_lt m _ _ _ hm
  obtain ⟨b1, A1, n1, c1, x1, z1, rfl, g1, y1, u1⟩ := open_dyad (hval 1 35 v1 rfl rfl) h1
  clear hA0 hval0
  refine (SoftQuot_law b0 A0 n0 c0 x0 z0 b1 A1 n1 c1 x1 z1 W g0 y0 u0 g1 y1 u1 hT).mono fun e W' ⟨he, bel⟩ => ?_
  subst he
  exact ⟨_, rfl, _, _, _, [], _, [], hW', trodAll_mk1 (shut_bool Tryz.underlying4 _), (trodAll_cons_mk (Below.trod laidOut (by kernel_rfl) (of_decide_eq_true (by kernel_rfl)) k0 bel lt0) (trodAll_cons_mk (Below.trod laidOut (by kernel_rfl) (of_decide_eq_true (by kernel_rfl)) k1 bel lt1) trodAll_mk0)), rfl, bel.frame _, fun h => by cases h⟩

theorem over : Rows.softQuotRow.holds Tryz.pinned (OpenSpec.ofChange Rows.softQuotSpec) :=
  OpenClaim.holds_of_wide 9 Tryz.f9 rfl rfl rfl rfl rfl rfl rfl ⟨rfl, rfl, rfl, rfl, rfl⟩ rfl rfl rfl rfl rfl (by kernel_rfl) Tryz.func9 (by kernel_rfl)
    (of_decide_eq_true (by kernel_rfl)) (by unfold Func.isWrapper; first | (rw [if_pos (by decide +kernel)]; kernel_rfl) | (rw [if_neg (by decide +kernel)]; exact ⟨rfl, rfl⟩))
    (fun os started H enc _ => lifted os started H enc)

/-- the row -/
theorem proved : Rows.SoftQuotSaid := over

/-- the statement: the row, and its tables tied to the text -/
theorem card : Rows.SoftQuotCardSaid :=
  Claim7.holds_tied_plain_at .later [] [.data] true (true, "36afa36813430cb64cd9e7983a119cc5ba7971b6a39fb9bb6af80adab1fd8510") false
    over (fun _ h => by cases h) (by kernel_rfl) (fun _ h => by cases h) softQuot_row_tie rfl ⟨rfl, rfl⟩ (by kernel_rfl) rfl
    (fun f fn hf hfn => by
      obtain rfl : f = 9 := Option.some.inj ((show Tryz.prog.funcNamed "plumbline/plumblinelaw04.SoftQuot" = some 9 by kernel_rfl).symm.trans hf) |>.symm
      obtain rfl : fn = Tryz.f9 := (Option.some.inj (Tryz.func9.symm.trans hfn)).symm
      exact ⟨by kernel_rfl, fun j t ht => by
        rw [Tryz.params9] at ht
        have ht := Array.mem_of_getElem? ht
        simp at ht
        have h2 : t = 35 := by
          first
            | exact ht
            | omega
        rcases h2 with rfl
        · exact (show Tryz.prog.wantsStandIn 35 = false by kernel_rfl)⟩)
    (by kernel_rfl)
end Go.Proofs.YtfjellhbcjnjkaaGreatDoor.softQuot
