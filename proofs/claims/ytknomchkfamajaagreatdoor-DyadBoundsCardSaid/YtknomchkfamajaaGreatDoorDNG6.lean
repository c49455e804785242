/-
  Layer 2, joined (wip/tools/merge.py): NatAF NatAG NatAH NatAI NatAJ.
  Layer 2, walks, part twenty-five: a loop over a function that keeps cells of its own between two rounds: the function owns the cells of one type (T), the loop's body what is of other types. The body never leaves the loop.
  Layer 2, walks, part twenty-six: the function that hands out a number's digits, the lowest first.
  Layer 2, walks, part twenty-seven: the digits are handed out.
  Layer 2, walks, part twenty-eight: a slice of bytes is turned round.
  Layer 2, walks, part twenty-nine: Text.
-/
import Derived.RangeFuncNested
import Derived.RangeFuncBound
import Derived.RangeFuncCalls
import Derived.RangeFuncLeaves
import Derived.RangeFuncBox
import Derived.Shelf.Abstract
import Derived.Shelf.RegionOpen
import Derived.WalkKit
import Derived.OwnWalkIn
import Derived.TacticsInMore
import Derived.LoopNIn
import Derived.LoopIn
import Derived.Maps.AppendAt
import Derived.Test.YtknomchkfamajaaGreatDoorDNG5
import Derived.Shelf.RegionOpenPlain
import Derived.Deep.LoopGhost
import Derived.Lib.Walk
import Derived.Sort.WalkB12
import Derived.Lib.SlicesMore
import Derived.Laws.IdiomStrings
import Derived.Lib.OwnBridge
import Derived.Test.YtknomchkfamajaaGreatDoorDNG4
namespace Go.Proofs.YtknomchkfamajaaGreatDoor
open Go.RowKit
set_option linter.unusedVariables false

/-- the cells of type T lie as they lay -/
def KeepsT (T : TypeId) (W W' : World) : Prop := W.heap.size ≤ W'.heap.size ∧ ∀ (b : Nat) (c : Array Value) (z : Nat × Nat), W.heap[b]? = some (.cells c T z) → W'.heap[b]? = some (.cells c T z)
theorem KeepsT.refl (T : TypeId) (W : World) : KeepsT T W W := ⟨Nat.le_refl _, fun _ _ _ h => h⟩
theorem KeepsT.trans {T : TypeId} {X Y Z : World} (h : KeepsT T X Y) (k : KeepsT T Y Z) : KeepsT T X Z := ⟨Nat.le_trans h.1 k.1, fun b c z e => k.2 b c z (h.2 b c z e)⟩
theorem KeepsT.put {T : TypeId} {W : World} {l : Nat} {o : Obj} (o' : Obj) (hl : W.heap[l]? = some o) (ho : o.isCells = false) : KeepsT T W (W.putObj l o') := by
  refine ⟨by simp, fun b c z e => ?_⟩
  by_cases hb : b = l
  · subst hb
    rw [hl] at e
    cases e
    cases ho
  · rw [World.putObj_heap_other hb]
    exact e
theorem KeepsT.grown {T : TypeId} {W W' : World} {row : Option Nat} (hg : W.grownBy W' row) (hr : ∀ r, row = some r → ∀ c z, W.heap[r]? ≠ some (.cells c T z)) : KeepsT T W W' :=
  ⟨hg.size, fun b c z e => (hg.block b (lt_of_block e) (fun h => hr b h.symm c z e)).trans e⟩

/-- it is all the same to J when cells of type T turn that lie at or beyond B -/
def AbidesT {β : Type} (B : Nat) (T : TypeId) (J : β → World → Prop) : Prop :=
  ∀ s W W' row, J s W → W.grownBy W' row → (∀ r, row = some r → B ≤ r ∧ ∃ c z, W.heap[r]? = some (.cells c T z)) → J s W'
/-- .. or what is no cells at all -/
def OwnT {β : Type} (B : Nat) (T : TypeId) (I : β → World → Prop) : Prop :=
  ∀ s W W' row, I s W → W.grownBy W' row → (∀ r, row = some r → B ≤ r ∧ ∃ o : Obj, W.heap[r]? = some o ∧ (o.isCells = false ∨ ∃ c z, o = .cells c T z)) → I s W'
theorem OwnT.put {β : Type} {B : Nat} {T : TypeId} {I : β → World → Prop} (h : OwnT B T I) {s : β} {W : World} {l : Nat} {o : Obj} (o' : Obj) (hs : I s W) (hB : B ≤ l) (hl : W.heap[l]? = some o) (ho : o.isCells = false) : I s (W.putObj l o') :=
  h s W _ (some l) hs (grownBy_putObj' W l o') (fun r e => by cases e; exact ⟨hB, o, hl, .inl ho⟩)

/-- what a function to loop over keeps: it hands out all of xs, whatever the rounds do, if they leave the cells of type T -/
def StopsT {α : Type} (F : Fence) (n : Nat) (P : Program) (g : Nat) (lb : Array Value) (encs : α → Array Value) (T : TypeId) (S : List α → Prop) (N : Nat) (w : World) : Prop :=
  ∀ (l : Nat) (J : List α → World → Prop) (W : World), Below w.heap.size w W → AbidesT W.heap.size T J →
    (∀ pre x W1, J pre W1 → pre.length < N → YieldAt F (n - 1) P l (encs x) W1 fun e W' => e = .returned (.bool true) ∧ J (pre ++ [x]) W' ∧ KeepsT T W1 W') →
    J [] W → CallsIn F n P g (#[.func (.yield l) #[] #[]] ++ lb) W fun e W' => (∃ v, e = .returned v) ∧ ∃ xs, S xs ∧ J xs W'

/-- how a round ends -/
def postT {α : Type} (B : Nat) (T : TypeId) (I : List α → World → Prop) (xs : List α) (W : World) : Exit → Act → World → Prop
  | .normal, _, W' => KeepsFrom B W W' ∧ KeepsT T W W' ∧ I xs W'
  | _, _, _ => False

set_option maxHeartbeats 1000000 in
theorem rangeFunc_T {F : Fence} {n : Nat} {P : Program} {α : Type} {g : Operand} {ps : Array Tmp} {assign body : Code} {Q : Exit → Act → World → Prop} {a : Act} {w : World}
    (hro : F.round = none) (h1 : 1 ≤ n) {gf : Nat} {lb : Array Value} (hg : a.eval g = .func (.func gf) #[] lb) (hFg : F.fn gf) (eg : ∀ args w, (callFunc gf args).run P w = .ok (.enter gf args) w)
    {encs : α → Array Value} {T : TypeId} {S : List α → Prop} {N : Nat} {w0 : World} (hseq : StopsT F (n - 1) P gf lb encs T S N w0)
    (hb0 : Below w0.heap.size w0 w) (hps : ∀ x, (encs x).size = ps.size)
    (I : List α → World → Prop) (hI : OwnT w.heap.size T I) (h0 : I [] w) (a₁ : α → Act)
    (hassign : ∀ (l : Nat) (x : α) (W : World) (K : Act → World → Prop), K (a₁ x) W →
      assign.wpIn (F.inRound l) (n - 1 - 1) P (Exit.then K (fun _ _ _ => False)) { tmps := (ps.zip (encs x)).foldl (fun t (p, v) => t.setIfInBounds p v) a.tmps, defers := [] } W)
    (hbody : ∀ (l : Nat) (pre : List α) (x : α) (W : World), I pre W → pre.length < N → body.wpIn (F.inRound l) (n - 1 - 1) P (postT w.heap.size T I (pre ++ [x]) W) (a₁ x) W)
    (hdone : ∀ (D : Nat) (xs : List α) (W : World), w.heap.size ≤ D → S xs → I xs W → W.heap[D]? = some (.deferred (some [])) → Q .normal { a with defers := { target := .collected D, args := #[] } :: a.defers } W) :
    (Code.rangeFunc g ps assign body).wpIn F n P Q a w := by
  refine wpIn_rangeFunc fun fn hfn => ?_
  rw [hro]
  obtain ⟨d, hd⟩ : ∃ d, w.heap.size = d := ⟨_, rfl⟩
  obtain ⟨rc, hrc⟩ : ∃ rc : LoopState → Loop, rc = fun st => { state := st, pending := none, fn, tmps := a.tmps, params := ps, assign, body, defers := d } := ⟨_, rfl⟩
  obtain ⟨W1, hW1⟩ : ∃ W1, (w.alloc (.deferred (some []))).alloc (.loop (rc .ready)) = W1 := ⟨_, rfl⟩
  have hs1 : W1.heap.size = d + 2 := by rw [← hW1]; simp [hd]
  have hg1 : w.grownBy W1 none := by
    rw [← hW1]
    exact (World.grownBy_alloc w _ none).trans (World.grownBy_alloc _ _ none)
  have hL1 : W1.heap[d + 1]? = some (.loop (rc .ready)) := by
    have := World.alloc_heap_new (w.alloc (.deferred (some []))) (.loop (rc .ready))
    rw [World.size_alloc, hd] at this
    rw [← hW1]
    exact this
  have hK1 : W1.heap[d]? = some (.deferred (some [])) := by
    have := World.alloc_heap_new w (.deferred (some []))
    rw [hd] at this
    rw [← hW1]
    exact (Below.heap_alloc _ _ _ (by simp [hd])).trans this
  have hJ1 : I [] W1 := hI [] w W1 none h0 hg1 (fun r e => by cases e)
  have hb1 : Below w0.heap.size w0 W1 := by
    have := hb0.size
    exact hb0.grown hg1 (by omega) (fun k e => by cases e)
  have henter := run_enterLoop_outer (P := P) (w := w) fn a.tmps ps assign body
  rw [hd] at henter
  refine ⟨d + 1, [{ target := .collected d, args := #[] }], W1, { target := .fn (.func gf) lb, args := #[.func (.yield (d + 1)) #[] #[]] }, W1, gf,
    #[.func (.yield (d + 1)) #[] #[]] ++ lb, W1, by rw [henter, ← hW1, hrc], ?_, ?_, ?_, fun _ => h1, ?_⟩
  · simp only [resolve, hg]
    simp [go_sem]
  · intro f' hf'
    simp [Target.leads] at hf'
    subst hf'
    exact hFg
  · simp [invoke, go_sem, eg]
  · refine (hseq (d + 1) (fun pre W => I pre W ∧ W.heap[d + 1]? = some (.loop (rc .ready)) ∧ W.heap[d]? = some (.deferred (some []))) W1 hb1 ?_ ?_ ⟨hJ1, hL1, hK1⟩).mono ?_
    · rintro s X Y row ⟨hi, hl, hk⟩ hgr hr
      have key : ∀ k, k < d + 2 → some k ≠ row := fun k hk e => by
        have := (hr k e.symm).1
        omega
      refine ⟨hI s X Y row hi hgr (fun r e => ?_), (hgr.block _ (lt_of_block hl) (key _ (by omega))).trans hl, (hgr.block _ (lt_of_block hk) (key _ (by omega))).trans hk⟩
      obtain ⟨h1, c, z, h2⟩ := hr r e
      exact ⟨by omega, _, h2, .inr ⟨c, z, rfl⟩⟩
    · rintro pre x W ⟨hi, hl, hk⟩ hlen
      have hlt : d + 1 < W.heap.size := lt_of_block hl
      have hy := run_yield (P := P) (args := encs x) hl (by rw [hrc]; exact hps x)
      rw [hrc] at hy
      obtain ⟨W2, hW2⟩ : ∃ W2, W.putObj (d + 1) (.loop (rc .busy)) = W2 := ⟨_, rfl⟩
      have hl2 : W2.heap[d + 1]? = some (.loop (rc .busy)) := by rw [← hW2]; exact World.putObj_heap_same hlt
      have hk2 : W2.heap[d]? = some (.deferred (some [])) := by rw [← hW2]; exact (World.putObj_heap_other (by omega)).trans hk
      have hT2 : KeepsT T W W2 := by rw [← hW2]; exact KeepsT.put _ hl rfl
      have hi2 : I pre W2 := by rw [← hW2]; exact hI.put _ hi (by omega) hl rfl
      have hbegin : (Instr.beginRound (d + 1)).run P W = .ok () W2 := by
        rw [run_beginRound hl (by rw [hrc]), ← hW2, hrc]
      refine ⟨fn, _, assign, body, hy, roundIn_of_wpIn hfn (hassign _ x W _ ⟨W2, hbegin, ?_⟩)⟩
      refine wpIn_mono (hbody _ pre x W2 hi2 hlen) ?_
      rintro e a3 W3 hp
      cases e with
      | normal =>
        obtain ⟨hf3, hT3, hi3⟩ := hp
        have hl3 := hf3.same _ _ (by omega) hl2 rfl
        have hk3 := hf3.same _ _ (by omega) hk2 rfl
        have hend := run_endRound (P := P) none hl3
        refine ⟨_, _, hend, rfl, ⟨hI.put _ hi3 (by omega) hl3 rfl, ?_, (World.putObj_heap_other (by omega)).trans hk3⟩, (hT2.trans hT3).trans (KeepsT.put _ hl3 rfl)⟩
        rw [World.putObj_heap_same (lt_of_block hl3), hrc]
        rfl
      | ret => exact hp.elim
      | exit id => exact hp.elim
      | goto t => exact hp.elim
      | panic ch => exact hp.elim
      | outgrown => exact hp.elim
    · rintro e W2 ⟨⟨v, rfl⟩, xs, hS, hi, hl, hk⟩
      have hend := run_endLoop (P := P) hl (by rw [hrc]; simp)
      refine ⟨none, _, by rw [hend, hrc], ?_⟩
      rw [← hd] at hk hl ⊢
      exact hdone _ xs _ (Nat.le_refl _) hS (hI.put _ hi (by omega) hl rfl) ((World.putObj_heap_other (by omega)).trans hk)
end Go.Proofs.YtknomchkfamajaaGreatDoor
namespace Go.Proofs.YtknomchkfamajaaGreatDoor
open Go.RowKit Go.Shelf
set_option linter.unusedVariables false
attribute [local go_sem] Oper.semAt_some

/-- a decimal digit -/
abbrev Dgt := { x : Int // 0 ≤ x ∧ x < 10 }
def dv (ys : List Dgt) : List Int := ys.map (·.1)
theorem dv_nil : dv [] = [] := rfl
theorem dv_snoc (ys : List Dgt) (d : Dgt) : dv (ys ++ [d]) = dv ys ++ [d.1] := by simp [dv]
theorem dv_length (ys : List Dgt) : (dv ys).length = ys.length := by simp [dv]
theorem dv_lim (ys : List Dgt) : Lim 10 (dv ys) := fun x hx => by
  simp [dv] at hx
  obtain ⟨h, _⟩ := hx
  exact h

theorem ten_mono {a b : Nat} (h : a ≤ b) : (10 : Int) ^ a ≤ 10 ^ b := by
  have := Nat.pow_le_pow_right (show 0 < 10 by decide) h
  exact_mod_cast this

/-- how far the digits are: b is left of a block, cv of the number behind it -/
def St (V cv : Int) (m : Nat) (b : Int) (ys : List Dgt) : Prop :=
  m ≤ 19 ∧ 0 ≤ b ∧ b < 10 ^ (19 - m) ∧ V = val 10 (dv ys) + (cv * 10 ^ (19 - m) + b) * 10 ^ ys.length ∧ ((cv = 0 ∧ b = 0) → Normal (dv ys))

theorem St.bd {V cv : Int} {m : Nat} {b : Int} {ys : List Dgt} (h : St V cv m b ys) : b < 10000000000000000000 := by
  obtain ⟨_, _, h, _⟩ := h
  have h2 : (10 : Int) ^ (19 - m) ≤ 10 ^ 19 := ten_mono (by omega)
  have : (10 : Int) ^ 19 = 10000000000000000000 := by decide
  omega

theorem St.start {V cv r R : Int} {ys : List Dgt} (hV : V = val 10 (dv ys) + R * 10 ^ ys.length) (hR : R = cv * 10000000000000000000 + r) (h0 : 0 ≤ r) (h1 : r < 10000000000000000000) (hp : 0 < R) : St V cv 0 r ys := by
  have : (10 : Int) ^ 19 = 10000000000000000000 := by decide
  refine ⟨by omega, h0, by rw [Nat.sub_zero, this]; exact h1, by rw [Nat.sub_zero, this, ← hR]; exact hV, fun ⟨a, b⟩ => ?_⟩
  rw [a, b] at hR
  omega

theorem St.next {V cv : Int} {m : Nat} {b : Int} {ys : List Dgt} (h : St V cv m b ys) (hm : m < 19) (hn : ¬ (cv = 0 ∧ b = 0)) (hc : 0 ≤ cv) (d : Dgt) (hd : d.1 = b % 10) : St V cv (m + 1) (b / 10) (ys ++ [d]) := by
  obtain ⟨_, h0, h1, h2, h3⟩ := h
  obtain ⟨p, hp⟩ : ∃ p : Int, (10 : Int) ^ (19 - (m + 1)) = p := ⟨_, rfl⟩
  have hp2 : (10 : Int) ^ (19 - m) = p * 10 := by
    rw [show 19 - m = (19 - (m + 1)) + 1 by omega, Int.pow_succ, hp]
  rw [hp2] at h1 h2
  have hb := Int.emod_add_mul_ediv b 10
  refine ⟨by omega, by omega, by rw [hp]; omega, ?_, fun ⟨e1, e2⟩ => ?_⟩
  · rw [dv_snoc, val_append, hp, List.length_append, List.length_singleton, Int.pow_succ, dv_length, hd, h2]
    simp only [val_cons, val_nil]
    grind
  · rw [dv_snoc]
    refine .inr ?_
    rw [List.length_append, List.length_singleton, Nat.add_sub_cancel, D_append, if_neg (by omega), Nat.sub_self, D_cons_zero, hd]
    omega

theorem St.lt {V cv : Int} {m : Nat} {b : Int} {ys : List Dgt} (h : St V cv m b ys) (hn : ¬ (cv = 0 ∧ b = 0)) (hc : 0 ≤ cv) : ys.length < (digs V.toNat).length := by
  obtain ⟨_, h0, h1, h2, h3⟩ := h
  obtain ⟨d1, d2, d3⟩ := digs_spec V.toNat
  have hp : (0 : Int) < 10 ^ (19 - m) := Int.pow_pos (by omega)
  have hx : 1 ≤ cv * 10 ^ (19 - m) + b := by
    rcases Int.lt_or_le 0 cv with h | h
    · have : 1 * 1 ≤ cv * 10 ^ (19 - m) := Int.mul_le_mul (by omega) (by omega) (by omega) (by omega)
      omega
    · obtain rfl : cv = 0 := by omega
      have : b ≠ 0 := fun e => hn ⟨rfl, e⟩
      omega
  have hv := (val_bound (b := 10) (by omega) (dv_lim ys)).1
  have ht : (0 : Int) < 10 ^ ys.length := Int.pow_pos (by omega)
  have h4 : 1 * 10 ^ ys.length ≤ (cv * 10 ^ (19 - m) + b) * 10 ^ ys.length := Int.mul_le_mul_of_nonneg_right hx (by omega)
  have hb := (val_bound (b := 10) (by omega) d1).2
  rw [d3] at hb
  rcases Nat.lt_or_ge ys.length (digs V.toNat).length with h | h
  · exact h
  · have h5 : (10 : Int) ^ (digs V.toNat).length ≤ 10 ^ ys.length := ten_mono h
    omega

theorem St.over {V cv : Int} {b : Int} {ys : List Dgt} (h : St V cv 19 b ys) : V = val 10 (dv ys) + cv * 10 ^ ys.length ∧ (cv = 0 → Normal (dv ys)) := by
  obtain ⟨_, h0, h1, h2, h3⟩ := h
  simp at h1
  obtain rfl : b = 0 := by omega
  exact ⟨by simpa using h2, fun e => h3 ⟨e, rfl⟩⟩

theorem all_out {V : Int} {ys : List Dgt} (h : V = val 10 (dv ys) + 0 * 10 ^ ys.length) (hn : Normal (dv ys)) : dv ys = digs V.toNat := by
  have hv := (val_bound (b := 10) (by omega) (dv_lim ys)).1
  exact digs_unique (dv_lim ys) hn (by omega)

/-- the numbers R lie in a block of the function's own -/
def Mine (B : Nat) (W : World) (A : Option Addr) (c : Nat) (R : List Int) : Prop := R.length ≤ c ∧ c ≤ maxLen ∧ (R ≠ [] → ∃ g, A = some ⟨g, 0, none⟩ ∧ B ≤ g ∧ Pre W g c R)

theorem Mine.keeps {B c : Nat} {W W' : World} {A : Option Addr} {R : List Int} (h : Mine B W A c R) (k : KeepsT 35 W W') : Mine B W' A c R :=
  ⟨h.1, h.2.1, fun hR => by
    obtain ⟨g, h1, h2, cur, h3, h4, h5⟩ := h.2.2 hR
    exact ⟨g, h1, h2, cur, k.2 _ _ _ h3, h4, h5⟩⟩

theorem Own.mine {B c : Nat} {W : World} {A : Option Addr} {R : List Int} (h : Own W B A c R) : Mine B W A c R := by
  obtain ⟨h1, h2⟩ := h
  rcases h2 with ⟨e, e2⟩ | ⟨g, cap, cur, hv, hb, hg, h3, h4, h5, h6⟩
  · injection e with _ _ h3
    exact ⟨by omega, by unfold maxLen; omega, fun h => absurd (List.eq_nil_of_length_eq_zero e2) h⟩
  · cases hv
    exact ⟨h3, h4, fun _ => ⟨g, rfl, hb, cur, hg, by omega, by simpa using h6⟩⟩

theorem Pre.trimmed {B c c' g : Nat} {W : World} {A' : Option Addr} {C : List Int} (h : Pre W g c C) (hl : C.length ≤ c) (hm : c ≤ maxLen) (hB : B ≤ g) (t : Trims (some ⟨g, 0, none⟩) c A' c' (norm C)) : Mine B W A' c' (norm C) := by
  rcases t with ⟨rfl, rfl, e⟩ | ⟨rfl, rfl, _⟩
  · rw [e]
    exact ⟨by simp, by unfold maxLen; omega, fun h => absurd rfl h⟩
  · have hn := norm_length C
    refine ⟨by omega, hm, fun _ => ⟨g, rfl, hB, ?_⟩⟩
    obtain ⟨cur, h1, h2, h3⟩ := h
    refine ⟨cur, h1, h2, ?_⟩
    have : cur.toList.take (norm C).length = (cur.toList.take C.length).take (norm C).length := by rw [List.take_take, Nat.min_eq_left hn]
    rw [this, h3]
    conv => rhs; rw [norm_take C]
    simp [L]

theorem Pre.nums {w : World} {g c B : Nat} {l : List Int} (h : Pre w g c l) (hl : l.length ≤ c) (hm : c ≤ maxLen) (hB : g < B) : Nums w B (some ⟨g, 0, none⟩) c l :=
  ⟨hl, hm, fun _ => ⟨_, rfl, hB, fun k hk => by rw [add_at]; simpa using h.cell hk⟩⟩

set_option maxHeartbeats 1000000 in
theorem clone_grown (A : Option Addr) (c : Nat) (l : List Int) (w : World) (h : Nums w w.heap.size A c l) (hlen : l.length ≤ 1000000) :
    Calls Tryz.prog 164 #[.slice A l.length c] w fun e w' => ∃ A' c', e = .returned (.slice A' l.length c') ∧ Mine w.heap.size w' A' c' l ∧ w.grownBy w' none := by
  go_enter Tryz.func164, Tryz.ntmps164
  go_wp2_with (at_builtin; refine wpList_app _ rfl _ _ rfl w.heap.size none 0 [] rfl (Own.nil w _) w.heap.size A c l rfl h (by simp; omega) (Nat.le_refl _) ?_; intro A2 c2 w' hown hg hat)
  go_ret
  exact ⟨A2, c2, rfl, hown.mine, hg⟩

set_option maxHeartbeats 1000000 in
/-- the function that digits hands back -/
theorem digits_any (A : Option Addr) (n c : Nat) (w : World) :
    Calls Tryz.prog 153 #[.slice A n c] w fun e w' => e = .returned (.func (.func 163) #[] #[.pointer (some ⟨w.heap.size, 0, none⟩)]) ∧ w' = w.alloc (.cells #[.slice A n c] 22) := by
  go_enter Tryz.func153, Tryz.ntmps153
  go_wp2_with fail
  go_ret
  exact ⟨rfl, rfl⟩
end Go.Proofs.YtknomchkfamajaaGreatDoor
namespace Go.Proofs.YtknomchkfamajaaGreatDoor
open Go.RowKit Go.Shelf
set_option linter.unusedVariables false
attribute [local go_sem] Oper.semAt_some

def encd (d : Dgt) : Array Value := #[.int .u8 (48 + d.1)]

/-- the rounds that the loop grants -/
def Yields (l N : Nat) (J : List Dgt → World → Prop) (n : Nat) : Prop :=
  ∀ pre x W1, J pre W1 → pre.length < N → YieldAt Fence.wide n Tryz.prog l (encd x) W1 fun e W' => e = .returned (.bool true) ∧ J (pre ++ [x]) W' ∧ KeepsT 35 W1 W'

/-- between two blocks of digits -/
def OutRel (V : Int) (B : Nat) (J : List Dgt → World → Prop) (p : Value) (wr : World) : Prop :=
  ∃ (R : List Int) (A : Option Addr) (c : Nat) (ys : List Dgt), p = .slice A R.length c ∧ R.length ≤ 1000000 ∧ Mine B wr A c R ∧ Lim 18446744073709551616 R ∧ Normal R ∧ J ys wr ∧
    Hid (V = val 10 (dv ys) + val 18446744073709551616 R * 10 ^ ys.length ∧ (val 18446744073709551616 R = 0 → Normal (dv ys)))

/-- between two digits -/
def InRel (V cv : Int) (B : Nat) (J : List Dgt → World → Prop) (A : Option Addr) (c : Nat) (R : List Int) (i p : Value) (wr : World) : Prop :=
  ∃ (m : Nat) (b : Int) (ys : List Dgt), i = .int .i64 m ∧ p = .int .u64 b ∧ m ≤ 19 ∧ 0 ≤ b ∧ b < 10000000000000000000 ∧ Mine B wr A c R ∧ J ys wr ∧ Hid (St V cv m b ys)

theorem normal_pos {R : List Int} (hl : Lim 18446744073709551616 R) (hn : Normal R) (h : R ≠ []) : 0 < val 18446744073709551616 R := by
  have h0 := (val_bound (b := 18446744073709551616) (by omega) hl).1
  rcases Int.lt_or_le 0 (val 18446744073709551616 R) with h1 | h1
  · exact h1
  · exact absurd (normal_unique (b := 18446744073709551616) (by omega) hl (Lim.nil _) hn Normal.nil (by rw [val_nil]; omega)) h

/-- the number that a slice reads -/
def leftOf (w : World) (p : Value) : Nat := match p with
  | .slice (some ad) n _ => (val 18446744073709551616 ((List.range n).map fun k => match w.cell? (ad.add k) with | some (.int _ x) => x | _ => 0)).toNat
  | _ => 0

theorem left_eq {B c : Nat} {w : World} {A : Option Addr} {R : List Int} (h : Mine B w A c R) : leftOf w (.slice A R.length c) = (val 18446744073709551616 R).toNat := by
  by_cases hz : R = []
  · subst hz
    cases A <;> simp [leftOf, val_nil]
  · obtain ⟨g, rfl, _, hP⟩ := h.2.2 hz
    show (val 18446744073709551616 ((List.range R.length).map _)).toNat = _
    congr 2
    apply List.ext_getElem
    · simp
    · intro i h1 h2
      have := hP.cell (k := i) h2
      simp [add_at, this, D, h2]

theorem Pre.abides {g c B : Nat} {w w' : World} {R : List Int} {J : List Dgt → World → Prop} (h : Pre w g c R) (hJ : AbidesT B 35 J) (hB : B ≤ g) (hg : w.grownBy w' (some g)) {ys : List Dgt} (h0 : J ys w) : J ys w' := by
  obtain ⟨cur, h1, _⟩ := h
  exact hJ ys w w' (some g) h0 hg (fun r e => by cases e; exact ⟨hB, cur, _, h1⟩)

set_option maxRecDepth 100000 in
set_option maxHeartbeats 4000000 in
theorem digits1 (n : Nat) (hn : 1 ≤ n) (A : Option Addr) (c : Nat) (l : List Int) (Bn lp : Nat) (W : World) (hB : W.cell? ⟨Bn, 0, none⟩ = some (.slice A l.length c)) (h : Nums W W.heap.size A c l) (hl : Lim 18446744073709551616 l) (nl : Normal l) (hlen : l.length ≤ 4096)
    (J : List Dgt → World → Prop) (hJ : AbidesT W.heap.size 35 J) (hY : Yields lp (digs (val 18446744073709551616 l).toNat).length J (n - 1)) (h0 : J [] W) :
    CallsIn Fence.wide n Tryz.prog 163 #[.func (.yield lp) #[] #[], .pointer (some ⟨Bn, 0, none⟩)] W fun e W' => (∃ v, e = .returned v) ∧ ∃ ys, dv ys = digs (val 18446744073709551616 l).toNat ∧ J ys W' := by
  obtain ⟨V, hV⟩ : ∃ V, val 18446744073709551616 l = V := ⟨_, rfl⟩
  rw [hV] at hY ⊢
  refine callsIn_of_wp Tryz.func163 rfl trivial ?_ rfl
  simp only [Tryz.ntmps163, List.size_toArray, List.length_cons, List.length_nil, Nat.reduceAdd, Nat.reduceSub, Array.replicate_succ, Array.replicate_zero, List.push_toArray, List.append_toArray, List.nil_append, List.cons_append]
  gi_wp2_with (refine ⟨trivial, ?_⟩; gi_at_call 164; refine (callsIn_wide.2 (clone_grown A c l _ h (by omega))).mono ?_; rintro e w' ⟨A1, c1, rfl, hm1, hg1⟩)
  have hJ1 : J [] w' := hJ [] W w' none h0 hg1 (fun r e => by cases e)
  have hV1 := Lib.hid hV
  clear hV
  gi_loopw [3] (fun p wr => OutRel V W.heap.size J p wr) (fun p wr => leftOf wr p)
  case atStart => exact ⟨l, A1, c1, [], rfl, by omega, hm1, hl, nl, hJ1, by rw [dv_nil, val_nil, ← hV1.out]; simp, fun _ => by rw [dv_nil]; exact Normal.nil⟩
  case round =>
    obtain ⟨R, A2, c2, ys, rfl, hR1, hM, hRl, hRn, hJs, HV⟩ := hrel
    by_cases hz : R = []
    · subst hz
      gi_wp2
      go_end0
      exact ⟨⟨_, rfl⟩, ys, all_out (by have := HV.out.1; rwa [val_nil] at this) (HV.out.2 (val_nil _)), hJs⟩
    · have hlen2 : 0 < R.length := List.length_pos_iff.2 hz
      have hpos := Lib.hid (normal_pos hRl hRn hz)
      have HL := Lib.hid (left_eq hM)
      obtain ⟨g, rfl, hgB, hP⟩ := hM.2.2 hz
      have hM1 := hM.1
      have hM2 := hM.2.1
      clear hz
      gi_wp2_with (first
        | (refine ⟨trivial, ?_⟩; gi_at_call 165; refine (callsIn_wide.2 (quotients_same c2 R g 10000000000000000000 _ hP hRl hM1 hR1 (by omega) (by omega))).mono ?_; rintro e w2 ⟨C, r, rfl, r0, r1, hCl, hCL, hP2, hg2, HE⟩; have htr := trim_any (some ⟨g, 0, none⟩) c2 C w2 w2.heap.size (hP2.nums (by omega) hM2 hP2.lt) hCL; rw [hCl] at htr; have HT := Lib.hid htr; clear htr; have HC := Lib.hid hCl; clear hCl)
        | (refine ⟨trivial, ?_⟩; gi_at_call 112; refine (callsIn_wide.2 HT.out).mono ?_; rintro e w3 ⟨A3, c3, rfl, ht, rfl⟩))
      have hM3 := hP2.trimmed (by have := HC.out; omega) hM2 hgB ht
      have hJ2 := hP.abides hJ hgB hg2 hJs
      have hcl := norm_lim hCL
      have hcn := norm_normal C
      have hcv := norm_val 18446744073709551616 C
      have hcN := norm_length C
      have hE := HE.out
      rw [← hcv] at hE
      have hS := St.start HV.out.1 hE r0 r1 hpos.out
      obtain ⟨M, hMe⟩ : ∃ M, norm C = M := ⟨_, rfl⟩
      rw [hMe] at hM3 hcl hcn hE hS hcN ⊢
      have hM10 : M.length ≤ 1000000 := by have := HC.out; omega
      have HS0 := Lib.hid hS
      have HE2 := Lib.hid hE
      have hcv0 := (val_bound (b := 18446744073709551616) (by omega) hcl).1
      clear hS hE HE hMe hcv hcN HT HC ht hP hP2 hM HV hCL
      gi_loopw [15, 4] (fun i p wr => InRel V (val 18446744073709551616 M) W.heap.size J A3 c3 M i p wr) (fun i _ _ => 19 - (intOf i).toNat)
      case atStart => exact ⟨0, r, ys, rfl, rfl, by omega, r0, r1, hM3, hJ2, HS0⟩
      case round =>
        obtain ⟨m, b, zs, rfl, rfl, hm, b0, b1, hM4, hJ4, HS⟩ := hrel
        by_cases hm19 : m = 19
        · subst hm19
          gi_wp2
          go_roundw
          case rel =>
            have hov := HS.out.over
            exact ⟨M, A3, c3, zs, rfl, hM10, hM4, hcl, hcn, hJ4, hov⟩
          case measure =>
            rw [left_eq hM4, HL.out]
            have := HE2.out
            have := hpos.out
            omega
        · have hmlt : m < 19 := by omega
          have hmi : (m : Int) < 19 := by omega
          have hm0 : (0 : Int) ≤ m := by omega
          by_cases hz2 : M.length = 0
          · have hMn : M = [] := List.eq_nil_of_length_eq_zero hz2
            by_cases hb0 : b = 0
            · subst hb0
              gi_wp2
              refine bodyPost_ret (results_none rfl _ _ _) rfl ?_
              have hst := HS.out.2.2.2
              rw [hMn, val_nil, Int.zero_mul, Int.zero_add] at hst
              exact ⟨⟨_, rfl⟩, zs, all_out hst.1 (hst.2 ⟨rfl, rfl⟩), hJ4⟩
            · have hnz : ¬ (val 18446744073709551616 M = 0 ∧ b = 0) := fun h => hb0 h.2
              have hz3 : ((M.length : Int) == 0) = true := by rw [hz2]; rfl
              obtain ⟨fn, tmps, assign, body, hy, hR⟩ := hY zs ⟨b % 10, by omega, by omega⟩ _ hJ4 (HS.out.lt hnz hcv0)
              dsimp only [encd] at hy
              have HX := Lib.hid (HS.out.next hmlt hnz hcv0 ⟨b % 10, by omega, by omega⟩ rfl)
              have hd0 : 0 ≤ b % 10 := by omega
              have hd1 : b % 10 < 10 := by omega
              clear hz2 hMn hnz HS HE2 HL hpos HS0 hV1
              gi_wp2
              refine hR.mono ?_
              rintro e W3 ⟨rfl, hJ5, hk5⟩
              gi_wp2
              go_roundw
              case rel => exact ⟨m + 1, b / 10, zs ++ [⟨b % 10, by omega, by omega⟩], by go_num, rfl, by omega, by omega, by omega, hM4.keeps hk5, hJ5, HX⟩
              case measure => simp [intOf]; omega
          · have hnz : ¬ (val 18446744073709551616 M = 0 ∧ b = 0) := fun h => by
              have := normal_pos hcl hcn (fun e => hz2 (by rw [e]; rfl))
              omega
            have hml : 0 < M.length := by omega
            obtain ⟨fn, tmps, assign, body, hy, hR⟩ := hY zs ⟨b % 10, by omega, by omega⟩ _ hJ4 (HS.out.lt hnz hcv0)
            dsimp only [encd] at hy
            have HX := Lib.hid (HS.out.next hmlt hnz hcv0 ⟨b % 10, by omega, by omega⟩ rfl)
            have hd0 : 0 ≤ b % 10 := by omega
            have hd1 : b % 10 < 10 := by omega
            clear hnz HS HE2 HL hpos HS0 hV1
            gi_wp2
            refine hR.mono ?_
            rintro e W3 ⟨rfl, hJ5, hk5⟩
            gi_wp2
            go_roundw
            case rel => exact ⟨m + 1, b / 10, zs ++ [⟨b % 10, by omega, by omega⟩], by go_num, rfl, by omega, by omega, by omega, hM4.keeps hk5, hJ5, HX⟩
            case measure => simp [intOf]; omega
end Go.Proofs.YtknomchkfamajaaGreatDoor
namespace Go.Proofs.YtknomchkfamajaaGreatDoor
open Go.RowKit Go.Shelf Go.Lib Go.Sort
set_option linter.unusedVariables false

def encB (x : Int) : Value := .int .u8 x

set_option maxHeartbeats 4000000 in
set_option maxRecDepth 1000000 in
theorem reverse_arr (g cap : Nat) (d : Array Int) (w : World) (hH : Holds encB w g 0 d) (hsz : d.size ≤ 1000000) (hpos : 0 < d.size) :
    Calls Tryz.prog 154 #[.slice (some ⟨g, 0, none⟩) d.size cap] w fun e w' => e = .returned (.tuple #[]) ∧ ∃ n, w' = putRow encB (Sort.ahead w n) g 0 d.reverse := by
  go_enter Tryz.func154, Tryz.ntmps154
  go_wp2
  go_loopw [2, 3] (fun a b wr => ∃ (i j : Nat) (dk : Array Int) (n : Nat), a = .int .i64 i ∧ b = .int .i64 j ∧ j < d.size ∧ dk.size = d.size ∧ wr = putRow encB (Sort.ahead w n) g 0 dk ∧ reverseLoop i j dk = reverseLoop 0 (d.size - 1) d) (fun _ b _ => (RowKit.intOf b).toNat)
  case atStart => exact ⟨0, d.size - 1, d, 0, rfl, by go_num, by omega, rfl, (putRow_self encB w g 0 d hH).symm, rfl⟩
  case round =>
    obtain ⟨i, j, dk, n, rfl, rfl, hj, hds, hwr, heq⟩ := hrel
    by_cases hij : i < j
    · have hlt : (i : Int) < j := by omega
      have hHk : Holds encB wr g 0 dk := by rw [hwr]; exact holds_putRow encB _ g 0 d dk (holds_ahead encB w n g 0 d hH) hds
      obtain ⟨ci, fi⟩ := hHk i (by omega)
      obtain ⟨cj, fj⟩ := hHk j (by omega)
      rw [Nat.zero_add] at ci fi cj fj
      obtain ⟨x, hx⟩ : ∃ x, dk[i]! = x := ⟨_, rfl⟩
      obtain ⟨y, hy⟩ : ∃ y, dk[j]! = y := ⟨_, rfl⟩
      have ci' : wr.cell? ⟨g, i, none⟩ = some (.int .u8 x) := by rw [ci, hx]; rfl
      have cj' : wr.cell? ⟨g, j, none⟩ = some (.int .u8 y) := by rw [cj, hy]; rfl
      have HX := Lib.hid hx
      have HY := Lib.hid hy
      clear ci cj hx hy
      have A : Aside (wr = putRow encB (Sort.ahead w n) g 0 dk) := hwr
      have i0 : (0 : Int) ≤ i := by omega
      have i1 : (i : Int) < d.size := by omega
      have j0 : (0 : Int) ≤ j := by omega
      have j1 : (j : Int) < d.size := by omega
      clear hwr hHk hH
      go_wp2_with fail
      go_region
      go_wp2
      refine ⟨⟨i + 1, j - 1, swp dk i j, n + 1, by go_num, by go_num, by omega, by rw [size_swp]; exact hds, ?_, ?_⟩, by simp [RowKit.intOf]; omega⟩
      · have hsw := swap_world encB (i := i) (j := j) (by omega) (by omega) A.out (x := .int .u8 y) (y := .int .u8 x) (by rw [HY.out]; rfl) (by rw [HX.out]; rfl)
        rw [Nat.zero_add, Nat.zero_add] at hsw
        exact hsw
      · rw [reverseLoop, if_pos hij] at heq
        exact heq
    · go_wp2
      go_end0
      refine ⟨rfl, n, ?_⟩
      rw [reverseLoop, if_neg hij] at heq
      rw [← Lib.reverseLoop_reverse, ← heq]
end Go.Proofs.YtknomchkfamajaaGreatDoor
namespace Go.Proofs.YtknomchkfamajaaGreatDoor
open Go.RowKit Go.Shelf Go.Sort
set_option linter.unusedVariables false
attribute [local go_sem] Oper.semAt_some

theorem digits_stops (n : Nat) (hn : 1 ≤ n) (A : Option Addr) (c : Nat) (l : List Int) (Bn : Nat) (w : World) (hBn : Bn < w.heap.size) (hB : w.cell? ⟨Bn, 0, none⟩ = some (.slice A l.length c)) (h : Nums w w.heap.size A c l) (hl : Lim 18446744073709551616 l) (nl : Normal l) (hlen : l.length ≤ 4096) :
    StopsT Fence.wide n Tryz.prog 163 #[.pointer (some ⟨Bn, 0, none⟩)] encd 35 (fun ys => dv ys = digs (val 18446744073709551616 l).toNat) (digs (val 18446744073709551616 l).toNat).length w :=
  fun lp J W hW hJ hY h0 => digits1 n hn A c l Bn lp W ((hW.cell (p := ⟨Bn, 0, none⟩) hBn).trans hB) ((h.below hW).more hW.size) hl nl hlen J hJ hY h0

def TextPost (v : Int) (w : World) (e : Ending) (w' : World) : Prop :=
  e = .returned (.tuple #[.string ⟨(txt v.toNat).toArray⟩, .int .i64 0]) ∧ Below w.heap.size w w'

set_option maxHeartbeats 1000000 in
theorem Text_long (A : Option Addr) (c : Nat) (l : List Int) (w : World) (h : Nums w w.heap.size A c l) (hl : Lim 18446744073709551616 l) (hlen : 4096 < (norm l).length) :
    Calls Tryz.prog 143 #[.slice A l.length c] w fun e w' => e = .returned (.tuple #[.string ⟨#[]⟩, .int .i64 2]) ∧ w = w' := by
  go_enter Tryz.func143, Tryz.ntmps143
  go_wp2_with (go_at_call 102; ((with_reducible refine (taken_long A c l _ _ h hl hlen).mono ?_); rintro e w' ⟨rfl, rfl⟩))
  go_ret2
  exact ⟨rfl, rfl⟩

set_option maxHeartbeats 1000000 in
theorem Text_zero (A : Option Addr) (c : Nat) (l : List Int) (w : World) (h : Nums w w.heap.size A c l) (hl : Lim 18446744073709551616 l) (hz : norm l = []) :
    Calls Tryz.prog 143 #[.slice A l.length c] w (TextPost (val 18446744073709551616 l) w) := by
  have hv : val 18446744073709551616 l = 0 := by rw [← norm_val, hz, val_nil]
  rw [hv]
  have hk := taken_any A c l w _ h hl (by rw [hz]; simp)
  have hk2 : Calls Tryz.prog 102 #[.slice A l.length c] w fun e w' => ∃ A' c', e = .returned (.tuple #[.slice A' 0 c', .int .i64 0]) ∧ w = w' := by
    refine hk.mono ?_
    rintro e w' ⟨A', c', rfl, ht, rfl⟩
    exact ⟨A', c', by rw [hz]; rfl, rfl⟩
  clear hk hz
  go_enter Tryz.func143, Tryz.ntmps143
  go_wp2_with (go_at_call 102; ((with_reducible refine hk2.mono ?_); rintro e w' ⟨A', c', rfl, rfl⟩))
  go_ret2
  exact ⟨rfl, Below.refl _ _⟩

def encb (d : Dgt) : Value := .int .u8 (48 + d.1)

/-- what has been gathered -/
def Gath (B : Nat) (w : World) (pre : List Dgt) (W : World) : Prop :=
  (∃ v, Boxed W B 143 v ∧ W.ownsRow B 5 1 v pre.length (pre.map encb)) ∧ Below B w W

theorem gath_own (B : Nat) (w : World) (hB : w.heap.size = B) : OwnT (B + 2) 35 (Gath B w) := by
  rintro s X Y row ⟨⟨v, hv, hr⟩, hb⟩ hg hrow
  have hne : ∀ g c t z, t ≠ 35 → X.heap[g]? = some (.cells c t z) → some g ≠ row := fun g c t z ht hk e => by
    obtain ⟨_, o, h1, h2⟩ := hrow g e.symm
    rw [hk] at h1
    cases h1
    rcases h2 with h2 | ⟨c', z', h2⟩
    · cases h2
    · cases h2
      exact ht rfl
  refine ⟨⟨v, hv.kept hg (hne _ _ _ _ (by decide) hv), hr.kept hg ?_⟩, hb.grown hg (by have := hb.size; omega) (fun k e => by have := (hrow k e).1; omega)⟩
  rcases hr.2 with ⟨rfl, _⟩ | ⟨g, cap, cur, rfl, _, hgb, _⟩
  · exact .inl rfl
  · exact .inr (fun e => hne _ _ _ _ (by decide) hgb e)

theorem info_byte : (Tryz.prog.info? 5).map (fun i => (i.zero, i.size, i.bytes)) = some (some (.int .u8 0), 1, 1) := by kernel_rfl

theorem gath_keeps {W w1 : World} {B k b : Nat} {v v' u : Value} {xs : List Value} {tmp : Obj} (hrow : W.ownsRow B 5 1 v k xs) (hgrow : (W.alloc tmp).grownBy w1 v.ownBlock) (hv : Boxed w1 b 143 u) : KeepsT 35 W (w1.setCell ⟨b, 0, none⟩ v') := by
  refine ((KeepsT.grown (World.grownBy_alloc W tmp none) (fun r e => by cases e)).trans (KeepsT.grown hgrow (fun r e c z hk => ?_))).trans (KeepsT.grown (grownBy_setCell' w1 b v') (fun r e c z hk => ?_))
  · rcases (hrow.alloc tmp).2 with ⟨rfl, _⟩ | ⟨g, cap, cur, rfl, _, hgb, _⟩
    · simp [Value.ownBlock] at e
    · obtain rfl : g = r := by simpa [Value.ownBlock] using e
      rw [hgb] at hk
      injection hk with hk
      injection hk with _ hk
      exact absurd hk (by decide)
  · cases e
    have := (show w1.heap[b]? = _ from hv).symm.trans hk
    injection this with hk
    injection hk with _ hk
    exact absurd hk (by decide)

theorem digs_len78 {l : List Int} (hl : Lim 18446744073709551616 l) (hlen : l.length ≤ 4096) : (digs (val 18446744073709551616 l).toNat).length ≤ 81920 := by
  obtain ⟨h0, h1⟩ := val_bound (b := 18446744073709551616) (by omega) hl
  have h2 : 18446744073709551616 ^ l.length ≤ (10 ^ 20) ^ l.length := Nat.pow_le_pow_left (by decide) _
  rw [← Nat.pow_mul] at h2
  have h3 : ((18446744073709551616 ^ l.length : Nat) : Int) = 18446744073709551616 ^ l.length := Int.natCast_pow _ _
  have h4 := digs_len (v := (val 18446744073709551616 l).toNat) (n := 20 * l.length) (by rw [← h3] at h1; omega)
  omega

/-- the bytes of a text, and the digits that were gathered -/
theorem txt_bytes {V : Int} {ys : List Dgt} (h : dv ys = digs V.toNat) (hp : ys ≠ []) : (ys.map fun d => 48 + d.1).reverse = (txt V.toNat).map fun b => (b.toNat : Int) := by
  have hne : V.toNat ≠ 0 := fun e => by
    rw [e, digs_zero] at h
    exact hp (List.map_eq_nil_iff.1 h)
  unfold txt
  rw [if_neg hne, ← h, List.map_reverse]
  congr 1
  unfold dv
  rw [List.map_map, List.map_map]
  apply List.map_congr_left
  intro d _
  exact (chr_toNat d.2.1 d.2.2).symm

/-- what Reverse leaves -/
def Turned (B g D : Nat) (u : Value) (w : World) (bs : List UInt8) (e : Ending) (w' : World) : Prop :=
  e = .returned (.tuple #[]) ∧ Below B w w' ∧ Boxed w' B 143 u ∧ (∀ j (hj : j < bs.length), w'.cell? ((⟨g, 0, none⟩ : Addr).add j) = some (.int .u8 (bs[j].toNat : Int))) ∧ w'.heap[D]? = some (.deferred (some []))

theorem turned_any {V : Int} {ys : List Dgt} {B D : Nat} {v : Value} {w W : World} (hys : dv ys = digs V.toNat) (hp : ys ≠ []) (hlen : ys.length ≤ 1000000) (hv : Boxed W B 143 v) (hrow : W.ownsRow B 5 1 v ys.length (ys.map encb))
    (hB : Below B w W) (hK : W.heap[D]? = some (.deferred (some []))) : ∃ g cap, v = .slice (some ⟨g, 0, none⟩) ys.length cap ∧
      Calls Tryz.prog 154 #[.slice (some ⟨g, 0, none⟩) ys.length cap] W (Turned B g D v w (txt V.toNat)) := by
  have hl : ys.length ≠ 0 := fun e => hp (List.eq_nil_of_length_eq_zero e)
  have hm : ys.map encb = (ys.map fun d => 48 + d.1).map encB := by rw [List.map_map]; rfl
  have hr2 := hrow
  rw [hm] at hr2
  have hnot := hv.not_row (by decide) hrow
  obtain ⟨g, cap, e1, hb, hg, h1, h2, h3, hH⟩ := Lib.holds_of_ownsRow hr2 (by
    rintro rfl
    rcases hrow.2 with ⟨_, h0⟩ | ⟨_, _, _, e, _⟩
    · exact hl h0
    · cases e)
  subst e1
  refine ⟨g, cap, rfl, ?_⟩
  have hgD : g ≠ D := by
    rintro rfl
    rcases hrow.2 with ⟨e, _⟩ | ⟨g', _, _, e, _, h, _⟩
    · cases e
    · cases e
      rw [h] at hK
      cases hK
  have hgB : g ≠ B := fun e => hnot (by rw [← e]; rfl)
  have hrev := reverse_arr g cap (ys.map fun d => 48 + d.1).toArray W hH (by simp; omega) (by simp; omega)
  have hsz : (ys.map fun d => 48 + d.1).toArray.size = ys.length := by simp
  rw [hsz] at hrev
  refine hrev.mono ?_
  rintro e w' ⟨rfl, n, rfl⟩
  have hat : ∀ k, g ≠ k → (putRow encB (Sort.ahead W n) g 0 (ys.map fun d => 48 + d.1).toArray.reverse).heap[k]? = W.heap[k]? := fun k hk => by
    simp [putRow, mapBlock, Sort.ahead, Array.getElem?_modify, hk]
  have hHr := holds_putRow encB (Sort.ahead W n) g 0 _ (ys.map fun d => 48 + d.1).toArray.reverse (holds_ahead encB W n g 0 _ hH) (by simp)
  refine ⟨rfl, Lib.below_putRow hB hb, (hat _ hgB).trans hv, fun j hj => ?_, (hat _ hgD).trans hK⟩
  have htx := txt_bytes hys hp
  have hlt : (txt V.toNat).length = ys.length := by
    have := congrArg List.length htx
    simpa using this.symm
  have hc := (hHr j (by simp; omega)).1
  rw [add_at, hc]
  unfold encB
  congr 2
  rw [List.reverse_toArray, htx]
  simp [getElem!_pos, hj]

theorem conv_len {w : World} {g cap n : Nat} {bs : List UInt8} (hn : bs.length = n) (hcs : ∀ j (hj : j < bs.length), w.cell? ((⟨g, 0, none⟩ : Addr).add j) = some (.int .u8 (bs[j].toNat : Int))) :
    (convert 143 9 (.slice (some ⟨g, 0, none⟩) n cap)).run Tryz.prog w = .ok (.string ⟨bs.toArray⟩) w := by
  subst hn
  exact run_convert_bytes_back (P := Tryz.prog) w 143 9 5 ⟨g, 0, none⟩ cap bs Tryz.underlying143 Tryz.underlying5 Tryz.underlying9 hcs

set_option maxRecDepth 100000 in
set_option maxHeartbeats 4000000 in
theorem Text_pos (A : Option Addr) (c : Nat) (l : List Int) (w : World) (h : Nums w w.heap.size A c l) (hl : Lim 18446744073709551616 l) (hlen : (norm l).length ≤ 4096) (hz : norm l ≠ []) :
    Calls Tryz.prog 143 #[.slice A l.length c] w (TextPost (val 18446744073709551616 l) w) := by
  have e1 := norm_val 18446744073709551616 l
  rw [← e1]
  clear e1
  have hz1 : 0 < (norm l).length := List.length_pos_iff.2 hz
  have hn0 := norm_lim hl
  have hn1 := norm_normal l
  refine (callsIn_wide (n := 3)).1 ?_
  refine callsIn_of_wp_marks Tryz.func143 rfl trivial ?_ rfl
  simp only [Tryz.ntmps143, List.size_toArray, List.length_cons, List.length_nil, Nat.reduceAdd, Nat.reduceSub, Array.replicate_succ, Array.replicate_zero, List.push_toArray, List.append_toArray, List.nil_append, List.cons_append]
  gi_wp2_with (first
    | (refine ⟨trivial, ?_⟩; gi_at_call 102; refine (callsIn_wide.2 (taken_any A c l _ _ h hl hlen)).mono ?_; rintro e w' ⟨A', c', rfl, ht, rfl⟩; have hn := ht.nums h)
    | (refine ⟨trivial, ?_⟩; gi_at_call 153; refine (callsIn_wide.2 (digits_any A' (norm l).length c' _)).mono ?_; rintro e w' ⟨rfl, rfl⟩))
  obtain ⟨i0, hi, hz0, hz1, hz2⟩ := info_parts info_byte
  have bO := Boxed.new w 143 (.slice none 0 0)
  have bN := Boxed.new (w.alloc (.cells #[.slice none 0 0] 143)) 22 (.slice A' (norm l).length c')
  rw [World.size_alloc] at bN
  have hB0 : Below w.heap.size w ((w.alloc (.cells #[.slice none 0 0] 143)).alloc (.cells #[.slice A' (norm l).length c'] 22)) := ((Below.refl _ w).alloc (Nat.le_refl _) _).alloc (by simp) _
  have hN := digs_len78 hn0 hlen
  refine rangeFunc_T rfl (by omega) (gf := 163) (lb := #[.pointer (some ⟨w.heap.size + 1, 0, none⟩)]) rfl trivial (enters_of Tryz.func163 (by kernel_rfl) rfl)
    (digits_stops 2 (by omega) A' c' (norm l) (w.heap.size + 1) _ (by simp) bN.cell ((hn.below hB0).more (by simp; omega)) hn0 hn1 hlen) (Below.refl _ _) (fun _ => rfl)
    (Gath w.heap.size w) (by simp only [World.size_alloc]; exact gath_own w.heap.size w rfl) ⟨⟨_, bO.alloc _, World.ownsRow_nil _ _ _ _⟩, hB0⟩
    (fun x => { tmps := #[.slice A' (norm l).length c', undef, .string { data := #[] }, .int .i64 0,
          .int .i64 0, .pointer (some ⟨w.heap.size, 0, none⟩), .int .u8 (48 + x.1),
          .tuple #[.slice A' (norm l).length c', .int .i64 0], .slice A l.length c,
          .tuple #[.slice A' (norm l).length c', .int .i64 0], .slice A' (norm l).length c',
          .int .i64 0, .int .i64 0, .bool false, undef, .slice A' (norm l).length c',
          .int .i64 ((norm l).length : Nat), .bool false, .slice A' (norm l).length c',
          .func (.func 163) #[] #[.pointer (some ⟨w.heap.size + 1, 0, none⟩)], .int .u8 (48 + x.1), undef,
          undef, undef, undef, undef, undef, undef, undef], defers := [] }) ?assign ?body ?done
  case assign =>
    intro l x W K hK
    unfold encd
    gi_wp2
    exact hK
  case body =>
    rintro lp pre x W ⟨⟨v, hv, hrow⟩, hB⟩ hlt
    have hc := hv.cell
    have hpl : pre.length + 1 ≤ 81920 := by omega
    clear bO bN hn h ht hN
    gi_wp2_with (gi_at_builtin; refine wpListIn_append_own _ rfl _ _ 143 rfl w.heap.size 5 i0 (.int .u8 0) 1 1 Tryz.underlying143 hi hz0 hz1 hz2 rfl (by decide) _ _ _ rfl (hrow.alloc _) ⟨W.heap.size, 0, none⟩ 1 1 [encb x] rfl rfl (cell_one_new _ _ _) (by simp [Value.oneCell', encb]) (by unfold maxLen; omega) (by omega) (by have := hB.size; simp; omega) ?_; intro v' w1 hown' hgrow _; obtain ⟨g', cap', rfl⟩ := ownsRow_succ hown'; obtain ⟨hv1, hv2, hr2, hk2, hb2⟩ := hv.appended (by decide) hrow hB.size (Nat.le_refl _) hown' hgrow; have hc1 := hv1.cell; have hf1 := hv1.frozen)
    exact ⟨hk2.from _, gath_keeps hrow hgrow hv1, ⟨⟨_, hv2, by simpa using hr2⟩, hB.trans hb2⟩⟩
  case done =>
    rintro D ys W hD hys ⟨⟨v, hv, hrow⟩, hB⟩ hK
    have hc := hv.cell
    have hpos := normal_pos hn0 hn1 hz
    have hyl : ys.length ≤ 81920 := by
      have := congrArg List.length hys
      rw [dv_length] at this
      omega
    have hyp : ys ≠ [] := fun e => by
      subst e
      have := digs_nil hys.symm
      omega
    obtain ⟨g, cap, rfl, hT⟩ := turned_any hys hyp (by omega) hv hrow hB hK
    have htl : (txt (val 18446744073709551616 (norm l)).toNat).length = ys.length := by
      have := congrArg List.length (txt_bytes hys hyp)
      simpa using this.symm
    gi_wp2_with (refine ⟨trivial, ?_⟩; gi_at_call 154; refine (callsIn_wide.2 hT).mono ?_; rintro e w' ⟨rfl, hB', hv', hcs, hK'⟩; have hc' := hv'.cell; have hconv := conv_len (cap := cap) htl hcs)
    refine ⟨by simp, .inl ⟨_, _, rfl, run_takeDeferred hK', ?_⟩⟩
    exact ⟨_, results_tmp2 rfl _ _ _, rfl, hB'.trans (belowK_b (w := w) (Nat.le_refl _) _ D _ _ (by simp at hD; omega) hK' rfl rfl)⟩
theorem Text_any (A : Option Addr) (c : Nat) (l : List Int) (w : World) (h : Nums w w.heap.size A c l) (hl : Lim 18446744073709551616 l) (hlen : (norm l).length ≤ 4096) :
    Calls Tryz.prog 143 #[.slice A l.length c] w (TextPost (val 18446744073709551616 l) w) := by
  by_cases hz : norm l = []
  · exact Text_zero A c l w h hl hz
  · exact Text_pos A c l w h hl hlen hz
end Go.Proofs.YtknomchkfamajaaGreatDoor
