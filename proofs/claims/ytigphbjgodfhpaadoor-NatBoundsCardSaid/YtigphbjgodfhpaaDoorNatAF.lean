/-
  Layer 2, walks, part twenty-five: a loop over a function that keeps cells of its own between two rounds: the function owns the cells of one type (T), the loop's body what is of other types. The body never leaves the loop.
-/
import Derived.RangeFuncNested
import Derived.RangeFuncBound
import Derived.RangeFuncCalls
import Derived.RangeFuncLeaves
import Derived.RangeFuncBox
import Derived.Shelf.Abstract
import Derived.Shelf.RegionOpen
import Derived.WalkKit
import Derived.OwnWalkIn
import Derived.TacticsInMore
import Derived.LoopNIn
import Derived.LoopIn
import Derived.Maps.AppendAt
import Derived.Test.YtigphbjgodfhpaaDoorNatAE
namespace Go.Proofs.YtigphbjgodfhpaaDoor
open Go.RowKit
set_option linter.unusedVariables false

/-- the cells of type T lie as they lay -/
def KeepsT (T : TypeId) (W W' : World) : Prop := W.heap.size ≤ W'.heap.size ∧ ∀ (b : Nat) (c : Array Value) (z : Nat × Nat), W.heap[b]? = some (.cells c T z) → W'.heap[b]? = some (.cells c T z)
theorem KeepsT.refl (T : TypeId) (W : World) : KeepsT T W W := ⟨Nat.le_refl _, fun _ _ _ h => h⟩
theorem KeepsT.trans {T : TypeId} {X Y Z : World} (h : KeepsT T X Y) (k : KeepsT T Y Z) : KeepsT T X Z := ⟨Nat.le_trans h.1 k.1, fun b c z e => k.2 b c z (h.2 b c z e)⟩
theorem KeepsT.put {T : TypeId} {W : World} {l : Nat} {o : Obj} (o' : Obj) (hl : W.heap[l]? = some o) (ho : o.isCells = false) : KeepsT T W (W.putObj l o') := by
  refine ⟨by simp, fun b c z e => ?_⟩
  by_cases hb : b = l
  · subst hb
    rw [hl] at e
    cases e
    cases ho
  · rw [World.putObj_heap_other hb]
    exact e
theorem KeepsT.grown {T : TypeId} {W W' : World} {row : Option Nat} (hg : W.grownBy W' row) (hr : ∀ r, row = some r → ∀ c z, W.heap[r]? ≠ some (.cells c T z)) : KeepsT T W W' :=
  ⟨hg.size, fun b c z e => (hg.block b (lt_of_block e) (fun h => hr b h.symm c z e)).trans e⟩

/-- it is all the same to J when cells of type T turn that lie at or beyond B -/
def AbidesT {β : Type} (B : Nat) (T : TypeId) (J : β → World → Prop) : Prop :=
  ∀ s W W' row, J s W → W.grownBy W' row → (∀ r, row = some r → B ≤ r ∧ ∃ c z, W.heap[r]? = some (.cells c T z)) → J s W'
/-- .. or what is no cells at all -/
def OwnT {β : Type} (B : Nat) (T : TypeId) (I : β → World → Prop) : Prop :=
  ∀ s W W' row, I s W → W.grownBy W' row → (∀ r, row = some r → B ≤ r ∧ ∃ o : Obj, W.heap[r]? = some o ∧ (o.isCells = false ∨ ∃ c z, o = .cells c T z)) → I s W'
theorem OwnT.put {β : Type} {B : Nat} {T : TypeId} {I : β → World → Prop} (h : OwnT B T I) {s : β} {W : World} {l : Nat} {o : Obj} (o' : Obj) (hs : I s W) (hB : B ≤ l) (hl : W.heap[l]? = some o) (ho : o.isCells = false) : I s (W.putObj l o') :=
  h s W _ (some l) hs (grownBy_putObj' W l o') (fun r e => by cases e; exact ⟨hB, o, hl, .inl ho⟩)

/-- what a function to loop over keeps: it hands out all of xs, whatever the rounds do, if they leave the cells of type T -/
def StopsT {α : Type} (F : Fence) (n : Nat) (P : Program) (g : Nat) (lb : Array Value) (encs : α → Array Value) (T : TypeId) (S : List α → Prop) (N : Nat) (w : World) : Prop :=
  ∀ (l : Nat) (J : List α → World → Prop) (W : World), Below w.heap.size w W → AbidesT W.heap.size T J →
    (∀ pre x W1, J pre W1 → pre.length < N → YieldAt F (n - 1) P l (encs x) W1 fun e W' => e = .returned (.bool true) ∧ J (pre ++ [x]) W' ∧ KeepsT T W1 W') →
    J [] W → CallsIn F n P g (#[.func (.yield l) #[] #[]] ++ lb) W fun e W' => (∃ v, e = .returned v) ∧ ∃ xs, S xs ∧ J xs W'

/-- how a round ends -/
def postT {α : Type} (B : Nat) (T : TypeId) (I : List α → World → Prop) (xs : List α) (W : World) : Exit → Act → World → Prop
  | .normal, _, W' => KeepsFrom B W W' ∧ KeepsT T W W' ∧ I xs W'
  | _, _, _ => False

set_option maxHeartbeats 1000000 in
theorem rangeFunc_T {F : Fence} {n : Nat} {P : Program} {α : Type} {g : Operand} {ps : Array Tmp} {assign body : Code} {Q : Exit → Act → World → Prop} {a : Act} {w : World}
    (hro : F.round = none) (h1 : 1 ≤ n) {gf : Nat} {lb : Array Value} (hg : a.eval g = .func (.func gf) #[] lb) (hFg : F.fn gf) (eg : ∀ args w, (callFunc gf args).run P w = .ok (.enter gf args) w)
    {encs : α → Array Value} {T : TypeId} {S : List α → Prop} {N : Nat} {w0 : World} (hseq : StopsT F (n - 1) P gf lb encs T S N w0)
    (hb0 : Below w0.heap.size w0 w) (hps : ∀ x, (encs x).size = ps.size)
    (I : List α → World → Prop) (hI : OwnT w.heap.size T I) (h0 : I [] w) (a₁ : α → Act)
    (hassign : ∀ (l : Nat) (x : α) (W : World) (K : Act → World → Prop), K (a₁ x) W →
      assign.wpIn (F.inRound l) (n - 1 - 1) P (Exit.then K (fun _ _ _ => False)) { tmps := (ps.zip (encs x)).foldl (fun t (p, v) => t.setIfInBounds p v) a.tmps, defers := [] } W)
    (hbody : ∀ (l : Nat) (pre : List α) (x : α) (W : World), I pre W → pre.length < N → body.wpIn (F.inRound l) (n - 1 - 1) P (postT w.heap.size T I (pre ++ [x]) W) (a₁ x) W)
    (hdone : ∀ (D : Nat) (xs : List α) (W : World), w.heap.size ≤ D → S xs → I xs W → W.heap[D]? = some (.deferred (some [])) → Q .normal { a with defers := { target := .collected D, args := #[] } :: a.defers } W) :
    (Code.rangeFunc g ps assign body).wpIn F n P Q a w := by
  refine wpIn_rangeFunc fun fn hfn => ?_
  rw [hro]
  obtain ⟨d, hd⟩ : ∃ d, w.heap.size = d := ⟨_, rfl⟩
  obtain ⟨rc, hrc⟩ : ∃ rc : LoopState → Loop, rc = fun st => { state := st, pending := none, fn, tmps := a.tmps, params := ps, assign, body, defers := d } := ⟨_, rfl⟩
  obtain ⟨W1, hW1⟩ : ∃ W1, (w.alloc (.deferred (some []))).alloc (.loop (rc .ready)) = W1 := ⟨_, rfl⟩
  have hs1 : W1.heap.size = d + 2 := by rw [← hW1]; simp [hd]
  have hg1 : w.grownBy W1 none := by
    rw [← hW1]
    exact (World.grownBy_alloc w _ none).trans (World.grownBy_alloc _ _ none)
  have hL1 : W1.heap[d + 1]? = some (.loop (rc .ready)) := by
    have := World.alloc_heap_new (w.alloc (.deferred (some []))) (.loop (rc .ready))
    rw [World.size_alloc, hd] at this
    rw [← hW1]
    exact this
  have hK1 : W1.heap[d]? = some (.deferred (some [])) := by
    have := World.alloc_heap_new w (.deferred (some []))
    rw [hd] at this
    rw [← hW1]
    exact (Below.heap_alloc _ _ _ (by simp [hd])).trans this
  have hJ1 : I [] W1 := hI [] w W1 none h0 hg1 (fun r e => by cases e)
  have hb1 : Below w0.heap.size w0 W1 := by
    have := hb0.size
    exact hb0.grown hg1 (by omega) (fun k e => by cases e)
  have henter := run_enterLoop_outer (P := P) (w := w) fn a.tmps ps assign body
  rw [hd] at henter
  refine ⟨d + 1, [{ target := .collected d, args := #[] }], W1, { target := .fn (.func gf) lb, args := #[.func (.yield (d + 1)) #[] #[]] }, W1, gf,
    #[.func (.yield (d + 1)) #[] #[]] ++ lb, W1, by rw [henter, ← hW1, hrc], ?_, ?_, ?_, fun _ => h1, ?_⟩
  · simp only [resolve, hg]
    simp [go_sem]
  · intro f' hf'
    simp [Target.leads] at hf'
    subst hf'
    exact hFg
  · simp [invoke, go_sem, eg]
  · refine (hseq (d + 1) (fun pre W => I pre W ∧ W.heap[d + 1]? = some (.loop (rc .ready)) ∧ W.heap[d]? = some (.deferred (some []))) W1 hb1 ?_ ?_ ⟨hJ1, hL1, hK1⟩).mono ?_
    · rintro s X Y row ⟨hi, hl, hk⟩ hgr hr
      have key : ∀ k, k < d + 2 → some k ≠ row := fun k hk e => by
        have := (hr k e.symm).1
        omega
      refine ⟨hI s X Y row hi hgr (fun r e => ?_), (hgr.block _ (lt_of_block hl) (key _ (by omega))).trans hl, (hgr.block _ (lt_of_block hk) (key _ (by omega))).trans hk⟩
      obtain ⟨h1, c, z, h2⟩ := hr r e
      exact ⟨by omega, _, h2, .inr ⟨c, z, rfl⟩⟩
    · rintro pre x W ⟨hi, hl, hk⟩ hlen
      have hlt : d + 1 < W.heap.size := lt_of_block hl
      have hy := run_yield (P := P) (args := encs x) hl (by rw [hrc]; exact hps x)
      rw [hrc] at hy
      obtain ⟨W2, hW2⟩ : ∃ W2, W.putObj (d + 1) (.loop (rc .busy)) = W2 := ⟨_, rfl⟩
      have hl2 : W2.heap[d + 1]? = some (.loop (rc .busy)) := by rw [← hW2]; exact World.putObj_heap_same hlt
      have hk2 : W2.heap[d]? = some (.deferred (some [])) := by rw [← hW2]; exact (World.putObj_heap_other (by omega)).trans hk
      have hT2 : KeepsT T W W2 := by rw [← hW2]; exact KeepsT.put _ hl rfl
      have hi2 : I pre W2 := by rw [← hW2]; exact hI.put _ hi (by omega) hl rfl
      have hbegin : (Instr.beginRound (d + 1)).run P W = .ok () W2 := by
        rw [run_beginRound hl (by rw [hrc]), ← hW2, hrc]
      refine ⟨fn, _, assign, body, hy, roundIn_of_wpIn hfn (hassign _ x W _ ⟨W2, hbegin, ?_⟩)⟩
      refine wpIn_mono (hbody _ pre x W2 hi2 hlen) ?_
      rintro e a3 W3 hp
      cases e with
      | normal =>
        obtain ⟨hf3, hT3, hi3⟩ := hp
        have hl3 := hf3.same _ _ (by omega) hl2 rfl
        have hk3 := hf3.same _ _ (by omega) hk2 rfl
        have hend := run_endRound (P := P) none hl3
        refine ⟨_, _, hend, rfl, ⟨hI.put _ hi3 (by omega) hl3 rfl, ?_, (World.putObj_heap_other (by omega)).trans hk3⟩, (hT2.trans hT3).trans (KeepsT.put _ hl3 rfl)⟩
        rw [World.putObj_heap_same (lt_of_block hl3), hrc]
        rfl
      | ret => exact hp.elim
      | exit id => exact hp.elim
      | goto t => exact hp.elim
      | panic ch => exact hp.elim
      | outgrown => exact hp.elim
    · rintro e W2 ⟨⟨v, rfl⟩, xs, hS, hi, hl, hk⟩
      have hend := run_endLoop (P := P) hl (by rw [hrc]; simp)
      refine ⟨none, _, by rw [hend, hrc], ?_⟩
      rw [← hd] at hk hl ⊢
      exact hdone _ xs _ (Nat.le_refl _) hS (hI.put _ hi (by omega) hl rfl) ((World.putObj_heap_other (by omega)).trans hk)
end Go.Proofs.YtigphbjgodfhpaaDoor
