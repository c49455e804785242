/-
  Layer 7: the law of a loop over a function that hands out what it reads from memory between two rounds; the body may leave by a return.
-/
import Derived.RangeFuncNested
import Derived.RangeFuncBound
import Derived.RangeFuncCalls
import Derived.RangeFuncLeaves
import Derived.RangeFuncBox
import Derived.Shelf.Abstract
import Derived.Shelf.RegionOpen
import Derived.WalkKit
import Derived.OwnWalkIn
import Derived.TacticsInMore
import Derived.LoopNIn
import Derived.LoopIn
import Derived.Maps.AppendAt
import Derived.Test.YtfelmkkkaphkpaaKVwJ
namespace Go.Proofs.Ytfelmkkkaphkpaa
open Go.RowKit Go.Shelf
set_option linter.unusedVariables false
set_option linter.unusedSimpArgs false

/-- how a round ends -/
def postV (B : Nat) (I : Nat → List Int → World → Prop) (Ix : World → Prop) (k : Nat) (W : World) : Exit → Act → World → Prop
  | .normal, _, W' => KeepsFrom B W W' ∧ ∃ l, I k l W'
  | .ret, _, W' => KeepsFrom B W W' ∧ Ix W'
  | _, _, _ => False
/-- it is all the same when something turns that is no cells, or what is new -/
def OwnV (B : Nat) (J : World → Prop) : Prop :=
  ∀ W W' row, J W → W.grownBy W' row → (∀ r, row = some r → B ≤ r ∧ ∃ o : Obj, W.heap[r]? = some o ∧ o.isCells = false) → J W'
theorem OwnV.put {B : Nat} {J : World → Prop} (h : OwnV B J) {W : World} {l : Nat} {o : Obj} (o' : Obj) (hs : J W) (hB : B ≤ l) (hl : W.heap[l]? = some o) (ho : o.isCells = false) : J (W.putObj l o') :=
  h W _ (some l) hs (grownBy_putObj' W l o') (fun r e => by cases e; exact ⟨hB, o, hl, ho⟩)

/-- what the function to loop over keeps: N rounds, each handed what 'enc' says of the world's list -/
def SeqV (n : Nat) (P : Program) (g : Nat) (lb : Array Value) (enc : Nat → List Int → Array Value) (N B : Nat) (R0 : List Int → World → Prop) : Prop :=
  ∀ (lp : Nat) (J : Nat → List Int → World → Prop) (Jx : World → Prop) (l : List Int) (W : World), (∀ k l W, J k l W → R0 l W) → (∀ k l W W', J k l W → Below W.heap.size W W' → J k l W') →
    (∀ k l W1, J k l W1 → k < N → YieldAt Fence.wide (n - 1) P lp (enc k l) W1 fun e W' => (e = .returned (.bool true) ∧ ∃ l', J (k + 1) l' W') ∨ (e = .returned (.bool false) ∧ Jx W')) →
    J 0 l W → CallsIn Fence.wide n P g (#[.func (.yield lp) #[] #[]] ++ lb) W fun e W' => (∃ v, e = .returned v) ∧ ((∃ l', J N l' W') ∨ Jx W')

set_option maxHeartbeats 1000000 in
theorem rangeFunc_V {n : Nat} {P : Program} {g : Operand} {ps : Array Tmp} {assign body : Code} {Q : Exit → Act → World → Prop} {a : Act} {w : World}
    (h1 : 1 ≤ n) {gf : Nat} {lb : Array Value} (hg : a.eval g = .func (.func gf) #[] lb) (eg : ∀ args w, (callFunc gf args).run P w = .ok (.enter gf args) w)
    {enc : Nat → List Int → Array Value} {N : Nat} {R0 : List Int → World → Prop} (hseq : SeqV (n - 1) P gf lb enc N w.heap.size R0)
    (hps : ∀ k l, (enc k l).size = ps.size)
    (I : Nat → List Int → World → Prop) (Ix : World → Prop) (hR : ∀ k l W, I k l W → R0 l W) (hI : ∀ k l, OwnV w.heap.size (I k l)) (hIx : OwnV w.heap.size Ix) {l0 : List Int} (h0 : I 0 l0 w) (Ax : Nat → List Int → Act → World → Prop) (hAx : ∀ k l a', OwnV w.heap.size (Ax k l a'))
    (hassign : ∀ (lp k : Nat) (l : List Int) (W : World) (K : Act → World → Prop), I k l W → (∀ a' W', KeepsFrom w.heap.size W W' → Ax k l a' W' → K a' W') →
      assign.wpIn (Fence.wide.inRound lp) (n - 1 - 1) P (Exit.then K (fun _ _ _ => False)) { tmps := (ps.zip (enc k l)).foldl (fun t (p, v) => t.setIfInBounds p v) a.tmps, defers := [] } W)
    (hbody : ∀ (lp k : Nat) (l : List Int) (a' : Act) (W : World), w.heap.size ≤ lp → Ax k l a' W → k < N → body.wpIn (Fence.wide.inRound lp) (n - 1 - 1) P (postV w.heap.size I Ix (k + 1) W) a' W)
    (hdone : ∀ (D : Nat) (l : List Int) (W : World), w.heap.size ≤ D → I N l W → W.heap[D]? = some (.deferred (some [])) → Q .normal { a with defers := { target := .collected D, args := #[] } :: a.defers } W)
    (hstop : ∀ (D : Nat) (W : World), w.heap.size ≤ D → Ix W → W.heap[D]? = some (.deferred (some [])) → Code.ret.wpIn Fence.wide n P Q { a with defers := { target := .collected D, args := #[] } :: a.defers } W) :
    (Code.rangeFunc g ps assign body).wpIn Fence.wide n P Q a w := by
  refine wpIn_rangeFunc fun fn hfn => ?_
  rw [show Fence.wide.round = none from rfl]
  obtain ⟨d, hd⟩ : ∃ d, w.heap.size = d := ⟨_, rfl⟩
  obtain ⟨rc, hrc⟩ : ∃ rc : LoopState → Option Code → Loop, rc = fun st pe => { state := st, pending := pe, fn, tmps := a.tmps, params := ps, assign, body, defers := d } := ⟨_, rfl⟩
  obtain ⟨W1, hW1⟩ : ∃ W1, (w.alloc (.deferred (some []))).alloc (.loop (rc .ready none)) = W1 := ⟨_, rfl⟩
  have hs1 : W1.heap.size = d + 2 := by rw [← hW1]; simp [hd]
  have hg1 : w.grownBy W1 none := by
    rw [← hW1]
    exact (World.grownBy_alloc w _ none).trans (World.grownBy_alloc _ _ none)
  have hL1 : W1.heap[d + 1]? = some (.loop (rc .ready none)) := by
    have := World.alloc_heap_new (w.alloc (.deferred (some []))) (.loop (rc .ready none))
    rw [World.size_alloc, hd] at this
    rw [← hW1]
    exact this
  have hK1 : W1.heap[d]? = some (.deferred (some [])) := by
    have := World.alloc_heap_new w (.deferred (some []))
    rw [hd] at this
    rw [← hW1]
    exact (Below.heap_alloc _ _ _ (by simp [hd])).trans this
  have hJ1 : I 0 l0 W1 := hI 0 l0 w W1 none h0 hg1 (fun r e => by cases e)
  have henter := run_enterLoop_outer (P := P) (w := w) fn a.tmps ps assign body
  rw [hd] at henter
  refine ⟨d + 1, [{ target := .collected d, args := #[] }], W1, { target := .fn (.func gf) lb, args := #[.func (.yield (d + 1)) #[] #[]] }, W1, gf,
    #[.func (.yield (d + 1)) #[] #[]] ++ lb, W1, by rw [henter, ← hW1, hrc], ?_, ?_, ?_, fun _ => h1, ?_⟩
  · simp only [resolve, hg]
    simp [go_sem]
  · intro f' hf'
    trivial
  · simp [invoke, go_sem, eg]
  · refine (hseq (d + 1) (fun k l W => I k l W ∧ W.heap[d + 1]? = some (.loop (rc .ready none)) ∧ W.heap[d]? = some (.deferred (some [])))
      (fun W => Ix W ∧ W.heap[d + 1]? = some (.loop (rc .done (some .ret))) ∧ W.heap[d]? = some (.deferred (some []))) l0 W1 (fun k l W h => hR k l W h.1) ?_ ?_ ⟨hJ1, hL1, hK1⟩).mono ?_
    · rintro k l X Y ⟨hi, hl, hk⟩ hb
      exact ⟨hI k l X Y none hi ⟨hb.os, hb.tape, hb.output, hb.size, fun i hi _ => hb.block i hi⟩ (fun r e => by cases e), (hb.block _ (lt_of_block hl)).trans hl, (hb.block _ (lt_of_block hk)).trans hk⟩
    · rintro k l W ⟨hi, hl, hk⟩ hlt0
      have hy := run_yield (P := P) (args := enc k l) hl (by rw [hrc]; exact hps k l)
      rw [hrc] at hy
      refine ⟨fn, _, assign, body, hy, roundIn_of_wpIn hfn (hassign _ k l W _ hi ?_)⟩
      clear hy
      intro a' Wa hka hax
      have hla := hka.same _ _ (by omega) hl rfl
      have hkk := hka.same _ _ (by omega) hk rfl
      have hlt : d + 1 < Wa.heap.size := lt_of_block hla
      obtain ⟨W2, hW2⟩ : ∃ W2, Wa.putObj (d + 1) (.loop (rc .busy none)) = W2 := ⟨_, rfl⟩
      have hl2 : W2.heap[d + 1]? = some (.loop (rc .busy none)) := by rw [← hW2]; exact World.putObj_heap_same hlt
      have hk2 : W2.heap[d]? = some (.deferred (some [])) := by rw [← hW2]; exact (World.putObj_heap_other (by omega)).trans hkk
      have hx2 : Ax k l a' W2 := by rw [← hW2]; exact (hAx k l a').put _ hax (by omega) hla rfl
      have hbegin : (Instr.beginRound (d + 1)).run P Wa = .ok () W2 := by
        rw [run_beginRound hla (by rw [hrc]), ← hW2, hrc]
      refine ⟨W2, hbegin, ?_⟩
      refine wpIn_mono (hbody (d + 1) k l a' W2 (by omega) hx2 hlt0) ?_
      rintro e a3 W3 hp
      cases e with
      | normal =>
        obtain ⟨hf3, l3, hi3⟩ := hp
        have hl3 := hf3.same _ _ (by omega) hl2 rfl
        have hk3 := hf3.same _ _ (by omega) hk2 rfl
        have hend := run_endRound (P := P) none hl3
        refine ⟨_, _, hend, .inl ⟨rfl, l3, (hI _ _).put _ hi3 (by omega) hl3 rfl, ?_, (World.putObj_heap_other (by omega)).trans hk3⟩⟩
        rw [World.putObj_heap_same (lt_of_block hl3), hrc]
        rfl
      | ret =>
        obtain ⟨hf3, hi3⟩ := hp
        have hl3 := hf3.same _ _ (by omega) hl2 rfl
        have hk3 := hf3.same _ _ (by omega) hk2 rfl
        have hend := run_endRound (P := P) (some .ret) hl3
        refine ⟨_, _, hend, .inr ⟨rfl, hIx.put _ hi3 (by omega) hl3 rfl, ?_, (World.putObj_heap_other (by omega)).trans hk3⟩⟩
        rw [World.putObj_heap_same (lt_of_block hl3), hrc]
        rfl
      | exit id => exact hp.elim
      | goto t => exact hp.elim
      | panic ch => exact hp.elim
      | outgrown => exact hp.elim
    · rintro e W2 ⟨⟨v, rfl⟩, (⟨l2, hi, hl, hk⟩ | ⟨hi, hl, hk⟩)⟩
      · have hend := run_endLoop (P := P) hl (by rw [hrc]; simp)
        refine ⟨none, _, by rw [hend, hrc], ?_⟩
        exact hdone d l2 _ (by omega) ((hI _ _).put _ hi (by omega) hl rfl) ((World.putObj_heap_other (by omega)).trans hk)
      · have hend := run_endLoop (P := P) hl (by rw [hrc]; simp)
        refine ⟨some .ret, _, by rw [hend, hrc], ?_⟩
        exact hstop d _ (by omega) (hIx.put _ hi (by omega) hl rfl) ((World.putObj_heap_other (by omega)).trans hk)
end Go.Proofs.Ytfelmkkkaphkpaa
