/-
  Layer 2, joined (wip/tools/merge.py): NatAF NatAG NatAH NatAI NatAJ.
  Layer 2, walks, part twenty-five: a loop over a function that keeps cells of its own between two rounds: the function owns the cells of one type (T), the loop's body what is of other types. The body never leaves the loop.
  Layer 2, walks, part twenty-six: the function that hands out a number's digits, the lowest first.
  Layer 2, walks, part twenty-seven: the digits are handed out.
  Layer 2, walks, part twenty-eight: a slice of bytes is turned round.
  Layer 2, walks, part twenty-nine: Text.
-/
import Derived.RangeFuncNested
import Derived.RangeFuncBound
import Derived.RangeFuncCalls
import Derived.RangeFuncLeaves
import Derived.RangeFuncBox
import Derived.Shelf.Abstract
import Derived.Shelf.RegionOpen
import Derived.WalkKit
import Derived.OwnWalkIn
import Derived.TacticsInMore
import Derived.LoopNIn
import Derived.LoopIn
import Derived.Maps.AppendAt
import Derived.Test.YtcdbjlmegkcaiaaGreatDoorZNG5
import Derived.Shelf.RegionOpenPlain
import Derived.Deep.LoopGhost
import Derived.Lib.Walk
import Derived.Sort.WalkB12
import Derived.Lib.SlicesMore
import Derived.Laws.IdiomStrings
import Derived.Lib.OwnBridge
import Derived.Test.YtcdbjlmegkcaiaaGreatDoorZNG4
namespace Go.Proofs.YtcdbjlmegkcaiaaGreatDoor
open Go.RowKit
set_option linter.unusedVariables false

/-- the cells of type T lie as they lay -/
def KeepsT (T : TypeId) (W W' : World) : Prop := W.heap.size ≤ W'.heap.size ∧ ∀ (b : Nat) (c : Array Value) (z : Nat × Nat), W.heap[b]? = some (.cells c T z) → W'.heap[b]? = some (.cells c T z)
theorem KeepsT.refl (T : TypeId) (W : World) : KeepsT T W W := ⟨Nat.le_refl _, fun _ _ _ h => h⟩
theorem KeepsT.trans {T : TypeId} {X Y Z : World} (h : KeepsT T X Y) (k : KeepsT T Y Z) : KeepsT T X Z := ⟨Nat.le_trans h.1 k.1, fun b c z e => k.2 b c z (h.2 b c z e)⟩
theorem KeepsT.put {T : TypeId} {W : World} {l : Nat} {o : Obj} (o' : Obj) (hl : W.heap[l]? = some o) (ho : o.isCells = false) : KeepsT T W (W.putObj l o') := by
  refine ⟨by simp, fun b c z e => ?_⟩
  by_cases hb : b = l
  · subst hb
    rw [hl] at e
    cases e
    cases ho
  · rw [World.putObj_heap_other hb]
    exact e
theorem KeepsT.grown {T : TypeId} {W W' : World} {row : Option Nat} (hg : W.grownBy W' row) (hr : ∀ r, row = some r → ∀ c z, W.heap[r]? ≠ some (.cells c T z)) : KeepsT T W W' :=
  ⟨hg.size, fun b c z e => (hg.block b (lt_of_block e) (fun h => hr b h.symm c z e)).trans e⟩

/-- it is all the same to J when cells of type T turn that lie at or beyond B -/
def AbidesT {β : Type} (B : Nat) (T : TypeId) (J : β → World → Prop) : Prop :=
  ∀ s W W' row, J s W → W.grownBy W' row → (∀ r, row = some r → B ≤ r ∧ ∃ c z, W.heap[r]? = some (.cells c T z)) → J s W'
/-- .. or what is no cells at all -/
def OwnT {β : Type} (B : Nat) (T : TypeId) (I : β → World → Prop) : Prop :=
  ∀ s W W' row, I s W → W.grownBy W' row → (∀ r, row = some r → B ≤ r ∧ ∃ o : Obj, W.heap[r]? = some o ∧ (o.isCells = false ∨ ∃ c z, o = .cells c T z)) → I s W'
theorem OwnT.put {β : Type} {B : Nat} {T : TypeId} {I : β → World → Prop} (h : OwnT B T I) {s : β} {W : World} {l : Nat} {o : Obj} (o' : Obj) (hs : I s W) (hB : B ≤ l) (hl : W.heap[l]? = some o) (ho : o.isCells = false) : I s (W.putObj l o') :=
  h s W _ (some l) hs (grownBy_putObj' W l o') (fun r e => by cases e; exact ⟨hB, o, hl, .inl ho⟩)

/-- what a function to loop over keeps: it hands out all of xs, whatever the rounds do, if they leave the cells of type T -/
def StopsT {α : Type} (F : Fence) (n : Nat) (P : Program) (g : Nat) (lb : Array Value) (encs : α → Array Value) (T : TypeId) (S : List α → Prop) (N : Nat) (w : World) : Prop :=
  ∀ (l : Nat) (J : List α → World → Prop) (W : World), Below w.heap.size w W → AbidesT W.heap.size T J →
    (∀ pre x W1, J pre W1 → pre.length < N → YieldAt F (n - 1) P l (encs x) W1 fun e W' => e = .returned (.bool true) ∧ J (pre ++ [x]) W' ∧ KeepsT T W1 W') →
    J [] W → CallsIn F n P g (#[.func (.yield l) #[] #[]] ++ lb) W fun e W' => (∃ v, e = .returned v) ∧ ∃ xs, S xs ∧ J xs W'

/-- how a round ends -/
def postT {α : Type} (B : Nat) (T : TypeId) (I : List α → World → Prop) (xs : List α) (W : World) : Exit → Act → World → Prop
  | .normal, _, W' => KeepsFrom B W W' ∧ KeepsT T W W' ∧ I xs W'
  | _, _, _ => False

set_option maxHeartbeats 1000000 in
theorem rangeFunc_T {F : Fence} {n : Nat} {P : Program} {α : Type} {g : Operand} {ps : Array Tmp} {assign body : Code} {Q : Exit → Act → World → Prop} {a : Act} {w : World}
    (hro : F.round = none) (h1 : 1 ≤ n) {gf : Nat} {lb : Array Value} (hg : a.eval g = .func (.func gf) #[] lb) (hFg : F.fn gf) (eg : ∀ args w, (callFunc gf args).run P w = .ok (.enter gf args) w)
    {encs : α → Array Value} {T : TypeId} {S : List α → Prop} {N : Nat} {w0 : World} (hseq : StopsT F (n - 1) P gf lb encs T S N w0)
    (hb0 : Below w0.heap.size w0 w) (hps : ∀ x, (encs x).size = ps.size)
    (I : List α → World → Prop) (hI : OwnT w.heap.size T I) (h0 : I [] w) (a₁ : α → Act)
    (hassign : ∀ (l : Nat) (x : α) (W : World) (K : Act → World → Prop), K (a₁ x) W →
      assign.wpIn (F.inRound l) (n - 1 - 1) P (Exit.then K (fun _ _ _ => False)) { tmps := (ps.zip (encs x)).foldl (fun t (p, v) => t.setIfInBounds p v) a.tmps, defers := [] } W)
    (hbody : ∀ (l : Nat) (pre : List α) (x : α) (W : World), I pre W → pre.length < N → body.wpIn (F.inRound l) (n - 1 - 1) P (postT w.heap.size T I (pre ++ [x]) W) (a₁ x) W)
    (hdone : ∀ (D : Nat) (xs : List α) (W : World), w.heap.size ≤ D → S xs → I xs W → W.heap[D]? = some (.deferred (some [])) → Q .normal { a with defers := { target := .collected D, args := #[] } :: a.defers } W) :
    (Code.rangeFunc g ps assign body).wpIn F n P Q a w := by
  refine wpIn_rangeFunc fun fn hfn => ?_
  rw [hro]
  obtain ⟨d, hd⟩ : ∃ d, w.heap.size = d := ⟨_, rfl⟩
  obtain ⟨rc, hrc⟩ : ∃ rc : LoopState → Loop, rc = fun st => { state := st, pending := none, fn, tmps := a.tmps, params := ps, assign, body, defers := d } := ⟨_, rfl⟩
  obtain ⟨W1, hW1⟩ : ∃ W1, (w.alloc (.deferred (some []))).alloc (.loop (rc .ready)) = W1 := ⟨_, rfl⟩
  have hs1 : W1.heap.size = d + 2 := by rw [← hW1]; simp [hd]
  have hg1 : w.grownBy W1 none := by
    rw [← hW1]
    exact (World.grownBy_alloc w _ none).trans (World.grownBy_alloc _ _ none)
  have hL1 : W1.heap[d + 1]? = some (.loop (rc .ready)) := by
    have := World.alloc_heap_new (w.alloc (.deferred (some []))) (.loop (rc .ready))
    rw [World.size_alloc, hd] at this
    rw [← hW1]
    exact this
  have hK1 : W1.heap[d]? = some (.deferred (some [])) := by
    have := World.alloc_heap_new w (.deferred (some []))
    rw [hd] at this
    rw [← hW1]
    exact (Below.heap_alloc _ _ _ (by simp [hd])).trans this
  have hJ1 : I [] W1 := hI [] w W1 none h0 hg1 (fun r e => by cases e)
  have hb1 : Below w0.heap.size w0 W1 := by
    have := hb0.size
    exact hb0.grown hg1 (by omega) (fun k e => by cases e)
  have henter := run_enterLoop_outer (P := P) (w := w) fn a.tmps ps assign body
  rw [hd] at henter
  refine ⟨d + 1, [{ target := .collected d, args := #[] }], W1, { target := .fn (.func gf) lb, args := #[.func (.yield (d + 1)) #[] #[]] }, W1, gf,
    #[.func (.yield (d + 1)) #[] #[]] ++ lb, W1, by rw [henter, ← hW1, hrc], ?_, ?_, ?_, fun _ => h1, ?_⟩
  · simp only [resolve, hg]
    simp [go_sem]
  · intro f' hf'
    simp [Target.leads] at hf'
    subst hf'
    exact hFg
  · simp [invoke, go_sem, eg]
  · refine (hseq (d + 1) (fun pre W => I pre W ∧ W.heap[d + 1]? = some (.loop (rc .ready)) ∧ W.heap[d]? = some (.deferred (some []))) W1 hb1 ?_ ?_ ⟨hJ1, hL1, hK1⟩).mono ?_
    · rintro s X Y row ⟨hi, hl, hk⟩ hgr hr
      have key : ∀ k, k < d + 2 → some k ≠ row := fun k hk e => by
        have := (hr k e.symm).1
        omega
      refine ⟨hI s X Y row hi hgr (fun r e => ?_), (hgr.block _ (lt_of_block hl) (key _ (by omega))).trans hl, (hgr.block _ (lt_of_block hk) (key _ (by omega))).trans hk⟩
      obtain ⟨h1, c, z, h2⟩ := hr r e
      exact ⟨by omega, _, h2, .inr ⟨c, z, rfl⟩⟩
    · rintro pre x W ⟨hi, hl, hk⟩ hlen
      have hlt : d + 1 < W.heap.size := lt_of_block hl
      have hy := run_yield (P := P) (args := encs x) hl (by rw [hrc]; exact hps x)
      rw [hrc] at hy
      obtain ⟨W2, hW2⟩ : ∃ W2, W.putObj (d + 1) (.loop (rc .busy)) = W2 := ⟨_, rfl⟩
      have hl2 : W2.heap[d + 1]? = some (.loop (rc .busy)) := by rw [← hW2]; exact World.putObj_heap_same hlt
      have hk2 : W2.heap[d]? = some (.deferred (some [])) := by rw [← hW2]; exact (World.putObj_heap_other (by omega)).trans hk
      have hT2 : KeepsT T W W2 := by rw [← hW2]; exact KeepsT.put _ hl rfl
      have hi2 : I pre W2 := by rw [← hW2]; exact hI.put _ hi (by omega) hl rfl
      have hbegin : (Instr.beginRound (d + 1)).run P W = .ok () W2 := by
        rw [run_beginRound hl (by rw [hrc]), ← hW2, hrc]
      refine ⟨fn, _, assign, body, hy, roundIn_of_wpIn hfn (hassign _ x W _ ⟨W2, hbegin, ?_⟩)⟩
      refine wpIn_mono (hbody _ pre x W2 hi2 hlen) ?_
      rintro e a3 W3 hp
      cases e with
      | normal =>
        obtain ⟨hf3, hT3, hi3⟩ := hp
        have hl3 := hf3.same _ _ (by omega) hl2 rfl
        have hk3 := hf3.same _ _ (by omega) hk2 rfl
        have hend := run_endRound (P := P) none hl3
        refine ⟨_, _, hend, rfl, ⟨hI.put _ hi3 (by omega) hl3 rfl, ?_, (World.putObj_heap_other (by omega)).trans hk3⟩, (hT2.trans hT3).trans (KeepsT.put _ hl3 rfl)⟩
        rw [World.putObj_heap_same (lt_of_block hl3), hrc]
        rfl
      | ret => exact hp.elim
      | exit id => exact hp.elim
      | goto t => exact hp.elim
      | panic ch => exact hp.elim
      | outgrown => exact hp.elim
    · rintro e W2 ⟨⟨v, rfl⟩, xs, hS, hi, hl, hk⟩
      have hend := run_endLoop (P := P) hl (by rw [hrc]; simp)
      refine ⟨none, _, by rw [hend, hrc], ?_⟩
      rw [← hd] at hk hl ⊢
      exact hdone _ xs _ (Nat.le_refl _) hS (hI.put _ hi (by omega) hl rfl) ((World.putObj_heap_other (by omega)).trans hk)
end Go.Proofs.YtcdbjlmegkcaiaaGreatDoor
namespace Go.Proofs.YtcdbjlmegkcaiaaGreatDoor
open Go.RowKit Go.Shelf
set_option linter.unusedVariables false
attribute [local go_sem] Oper.semAt_some

/-- a decimal digit -/
abbrev Dgt := { x : Int // 0 ≤ x ∧ x < 10 }
def dv (ys : List Dgt) : List Int := ys.map (·.1)
theorem dv_nil : dv [] = [] := rfl
theorem dv_snoc (ys : List Dgt) (d : Dgt) : dv (ys ++ [d]) = dv ys ++ [d.1] := by simp [dv]
theorem dv_length (ys : List Dgt) : (dv ys).length = ys.length := by simp [dv]
theorem dv_lim (ys : List Dgt) : Lim 10 (dv ys) := fun x hx => by
  simp [dv] at hx
  obtain ⟨h, _⟩ := hx
  exact h

theorem ten_mono {a b : Nat} (h : a ≤ b) : (10 : Int) ^ a ≤ 10 ^ b := by
  have := Nat.pow_le_pow_right (show 0 < 10 by decide) h
  exact_mod_cast this

/-- how far the digits are: b is left of a block, cv of the number behind it -/
def St (V cv : Int) (m : Nat) (b : Int) (ys : List Dgt) : Prop :=
  m ≤ 19 ∧ 0 ≤ b ∧ b < 10 ^ (19 - m) ∧ V = val 10 (dv ys) + (cv * 10 ^ (19 - m) + b) * 10 ^ ys.length ∧ ((cv = 0 ∧ b = 0) → Normal (dv ys))

theorem St.bd {V cv : Int} {m : Nat} {b : Int} {ys : List Dgt} (h : St V cv m b ys) : b < 10000000000000000000 := by
  obtain ⟨_, _, h, _⟩ := h
  have h2 : (10 : Int) ^ (19 - m) ≤ 10 ^ 19 := ten_mono (by omega)
  have : (10 : Int) ^ 19 = 10000000000000000000 := by decide
  omega

theorem St.start {V cv r R : Int} {ys : List Dgt} (hV : V = val 10 (dv ys) + R * 10 ^ ys.length) (hR : R = cv * 10000000000000000000 + r) (h0 : 0 ≤ r) (h1 : r < 10000000000000000000) (hp : 0 < R) : St V cv 0 r ys := by
  have : (10 : Int) ^ 19 = 10000000000000000000 := by decide
  refine ⟨by omega, h0, by rw [Nat.sub_zero, this]; exact h1, by rw [Nat.sub_zero, this, ← hR]; exact hV, fun ⟨a, b⟩ => ?_⟩
  rw [a, b] at hR
  omega

theorem St.next {V cv : Int} {m : Nat} {b : Int} {ys : List Dgt} (h : St V cv m b ys) (hm : m < 19) (hn : ¬ (cv = 0 ∧ b = 0)) (hc : 0 ≤ cv) (d : Dgt) (hd : d.1 = b % 10) : St V cv (m + 1) (b / 10) (ys ++ [d]) := by
  obtain ⟨_, h0, h1, h2, h3⟩ := h
  obtain ⟨p, hp⟩ : ∃ p : Int, (10 : Int) ^ (19 - (m + 1)) = p := ⟨_, rfl⟩
  have hp2 : (10 : Int) ^ (19 - m) = p * 10 := by
    rw [show 19 - m = (19 - (m + 1)) + 1 by omega, Int.pow_succ, hp]
  rw [hp2] at h1 h2
  have hb := Int.emod_add_mul_ediv b 10
  refine ⟨by omega, by omega, by rw [hp]; omega, ?_, fun ⟨e1, e2⟩ => ?_⟩
  · rw [dv_snoc, val_append, hp, List.length_append, List.length_singleton, Int.pow_succ, dv_length, hd, h2]
    simp only [val_cons, val_nil]
    grind
  · rw [dv_snoc]
    refine .inr ?_
    rw [List.length_append, List.length_singleton, Nat.add_sub_cancel, D_append, if_neg (by omega), Nat.sub_self, D_cons_zero, hd]
    omega

theorem St.lt {V cv : Int} {m : Nat} {b : Int} {ys : List Dgt} (h : St V cv m b ys) (hn : ¬ (cv = 0 ∧ b = 0)) (hc : 0 ≤ cv) : ys.length < (digs V.toNat).length := by
  obtain ⟨_, h0, h1, h2, h3⟩ := h
  obtain ⟨d1, d2, d3⟩ := digs_spec V.toNat
  have hp : (0 : Int) < 10 ^ (19 - m) := Int.pow_pos (by omega)
  have hx : 1 ≤ cv * 10 ^ (19 - m) + b := by
    rcases Int.lt_or_le 0 cv with h | h
    · have : 1 * 1 ≤ cv * 10 ^ (19 - m) := Int.mul_le_mul (by omega) (by omega) (by omega) (by omega)
      omega
    · obtain rfl : cv = 0 := by omega
      have : b ≠ 0 := fun e => hn ⟨rfl, e⟩
      omega
  have hv := (val_bound (b := 10) (by omega) (dv_lim ys)).1
  have ht : (0 : Int) < 10 ^ ys.length := Int.pow_pos (by omega)
  have h4 : 1 * 10 ^ ys.length ≤ (cv * 10 ^ (19 - m) + b) * 10 ^ ys.length := Int.mul_le_mul_of_nonneg_right hx (by omega)
  have hb := (val_bound (b := 10) (by omega) d1).2
  rw [d3] at hb
  rcases Nat.lt_or_ge ys.length (digs V.toNat).length with h | h
  · exact h
  · have h5 : (10 : Int) ^ (digs V.toNat).length ≤ 10 ^ ys.length := ten_mono h
    omega

theorem St.over {V cv : Int} {b : Int} {ys : List Dgt} (h : St V cv 19 b ys) : V = val 10 (dv ys) + cv * 10 ^ ys.length ∧ (cv = 0 → Normal (dv ys)) := by
  obtain ⟨_, h0, h1, h2, h3⟩ := h
  simp at h1
  obtain rfl : b = 0 := by omega
  exact ⟨by simpa using h2, fun e => h3 ⟨e, rfl⟩⟩

theorem all_out {V : Int} {ys : List Dgt} (h : V = val 10 (dv ys) + 0 * 10 ^ ys.length) (hn : Normal (dv ys)) : dv ys = digs V.toNat := by
  have hv := (val_bound (b := 10) (by omega) (dv_lim ys)).1
  exact digs_unique (dv_lim ys) hn (by omega)

/-- the numbers R lie in a block of the function's own -/
def Mine (B : Nat) (W : World) (A : Option Addr) (c : Nat) (R : List Int) : Prop := R.length ≤ c ∧ c ≤ maxLen ∧ (R ≠ [] → ∃ g, A = some ⟨g, 0, none⟩ ∧ B ≤ g ∧ Pre W g c R)

theorem Mine.keeps {B c : Nat} {W W' : World} {A : Option Addr} {R : List Int} (h : Mine B W A c R) (k : KeepsT 62 W W') : Mine B W' A c R :=
  ⟨h.1, h.2.1, fun hR => by
    obtain ⟨g, h1, h2, cur, h3, h4, h5⟩ := h.2.2 hR
    exact ⟨g, h1, h2, cur, k.2 _ _ _ h3, h4, h5⟩⟩

theorem Own.mine {B c : Nat} {W : World} {A : Option Addr} {R : List Int} (h : Own W B A c R) : Mine B W A c R := by
  obtain ⟨h1, h2⟩ := h
  rcases h2 with ⟨e, e2⟩ | ⟨g, cap, cur, hv, hb, hg, h3, h4, h5, h6⟩
  · injection e with _ _ h3
    exact ⟨by omega, by unfold maxLen; omega, fun h => absurd (List.eq_nil_of_length_eq_zero e2) h⟩
  · cases hv
    exact ⟨h3, h4, fun _ => ⟨g, rfl, hb, cur, hg, by omega, by simpa using h6⟩⟩

theorem Pre.trimmed {B c c' g : Nat} {W : World} {A' : Option Addr} {C : List Int} (h : Pre W g c C) (hl : C.length ≤ c) (hm : c ≤ maxLen) (hB : B ≤ g) (t : Trims (some ⟨g, 0, none⟩) c A' c' (norm C)) : Mine B W A' c' (norm C) := by
  rcases t with ⟨rfl, rfl, e⟩ | ⟨rfl, rfl, _⟩
  · rw [e]
    exact ⟨by simp, by unfold maxLen; omega, fun h => absurd rfl h⟩
  · have hn := norm_length C
    refine ⟨by omega, hm, fun _ => ⟨g, rfl, hB, ?_⟩⟩
    obtain ⟨cur, h1, h2, h3⟩ := h
    refine ⟨cur, h1, h2, ?_⟩
    have : cur.toList.take (norm C).length = (cur.toList.take C.length).take (norm C).length := by rw [List.take_take, Nat.min_eq_left hn]
    rw [this, h3]
    conv => rhs; rw [norm_take C]
    simp [L]

theorem Pre.nums {w : World} {g c B : Nat} {l : List Int} (h : Pre w g c l) (hl : l.length ≤ c) (hm : c ≤ maxLen) (hB : g < B) : Nums w B (some ⟨g, 0, none⟩) c l :=
  ⟨hl, hm, fun _ => ⟨_, rfl, hB, fun k hk => by rw [add_at]; simpa using h.cell hk⟩⟩

end Go.Proofs.YtcdbjlmegkcaiaaGreatDoor
namespace Go.Proofs.YtcdbjlmegkcaiaaGreatDoor
open Go.RowKit Go.Shelf
set_option linter.unusedVariables false
attribute [local go_sem] Oper.semAt_some

def encd (d : Dgt) : Array Value := #[.int .u8 (48 + d.1)]

/-- the rounds that the loop grants -/
def Yields (l N : Nat) (J : List Dgt → World → Prop) (n : Nat) : Prop :=
  ∀ pre x W1, J pre W1 → pre.length < N → YieldAt Fence.wide n Tryz.prog l (encd x) W1 fun e W' => e = .returned (.bool true) ∧ J (pre ++ [x]) W' ∧ KeepsT 62 W1 W'

/-- between two blocks of digits -/
def OutRel (V : Int) (B : Nat) (J : List Dgt → World → Prop) (p : Value) (wr : World) : Prop :=
  ∃ (R : List Int) (A : Option Addr) (c : Nat) (ys : List Dgt), p = .slice A R.length c ∧ R.length ≤ 1000000 ∧ Mine B wr A c R ∧ Lim 18446744073709551616 R ∧ Normal R ∧ J ys wr ∧
    Hid (V = val 10 (dv ys) + val 18446744073709551616 R * 10 ^ ys.length ∧ (val 18446744073709551616 R = 0 → Normal (dv ys)))

/-- between two digits -/
def InRel (V cv : Int) (B : Nat) (J : List Dgt → World → Prop) (A : Option Addr) (c : Nat) (R : List Int) (i p : Value) (wr : World) : Prop :=
  ∃ (m : Nat) (b : Int) (ys : List Dgt), i = .int .i64 m ∧ p = .int .u64 b ∧ m ≤ 19 ∧ 0 ≤ b ∧ b < 10000000000000000000 ∧ Mine B wr A c R ∧ J ys wr ∧ Hid (St V cv m b ys)

theorem normal_pos {R : List Int} (hl : Lim 18446744073709551616 R) (hn : Normal R) (h : R ≠ []) : 0 < val 18446744073709551616 R := by
  have h0 := (val_bound (b := 18446744073709551616) (by omega) hl).1
  rcases Int.lt_or_le 0 (val 18446744073709551616 R) with h1 | h1
  · exact h1
  · exact absurd (normal_unique (b := 18446744073709551616) (by omega) hl (Lim.nil _) hn Normal.nil (by rw [val_nil]; omega)) h

/-- the number that a slice reads -/
def leftOf (w : World) (p : Value) : Nat := match p with
  | .slice (some ad) n _ => (val 18446744073709551616 ((List.range n).map fun k => match w.cell? (ad.add k) with | some (.int _ x) => x | _ => 0)).toNat
  | _ => 0

theorem left_eq {B c : Nat} {w : World} {A : Option Addr} {R : List Int} (h : Mine B w A c R) : leftOf w (.slice A R.length c) = (val 18446744073709551616 R).toNat := by
  by_cases hz : R = []
  · subst hz
    cases A <;> simp [leftOf, val_nil]
  · obtain ⟨g, rfl, _, hP⟩ := h.2.2 hz
    show (val 18446744073709551616 ((List.range R.length).map _)).toNat = _
    congr 2
    apply List.ext_getElem
    · simp
    · intro i h1 h2
      have := hP.cell (k := i) h2
      simp [add_at, this, D, h2]

theorem Pre.abides {g c B : Nat} {w w' : World} {R : List Int} {J : List Dgt → World → Prop} (h : Pre w g c R) (hJ : AbidesT B 62 J) (hB : B ≤ g) (hg : w.grownBy w' (some g)) {ys : List Dgt} (h0 : J ys w) : J ys w' := by
  obtain ⟨cur, h1, _⟩ := h
  exact hJ ys w w' (some g) h0 hg (fun r e => by cases e; exact ⟨hB, cur, _, h1⟩)

end Go.Proofs.YtcdbjlmegkcaiaaGreatDoor
namespace Go.Proofs.YtcdbjlmegkcaiaaGreatDoor
open Go.RowKit Go.Shelf Go.Lib Go.Sort
set_option linter.unusedVariables false

def encB (x : Int) : Value := .int .u8 x

end Go.Proofs.YtcdbjlmegkcaiaaGreatDoor
namespace Go.Proofs.YtcdbjlmegkcaiaaGreatDoor
open Go.RowKit Go.Shelf Go.Sort
set_option linter.unusedVariables false
attribute [local go_sem] Oper.semAt_some

def TextPost (v : Int) (w : World) (e : Ending) (w' : World) : Prop :=
  e = .returned (.tuple #[.string ⟨(txt v.toNat).toArray⟩, .int .i64 0]) ∧ Below w.heap.size w w'

def encb (d : Dgt) : Value := .int .u8 (48 + d.1)

theorem info_byte : (Tryz.prog.info? 5).map (fun i => (i.zero, i.size, i.bytes)) = some (some (.int .u8 0), 1, 1) := by kernel_rfl

theorem digs_len78 {l : List Int} (hl : Lim 18446744073709551616 l) (hlen : l.length ≤ 4096) : (digs (val 18446744073709551616 l).toNat).length ≤ 81920 := by
  obtain ⟨h0, h1⟩ := val_bound (b := 18446744073709551616) (by omega) hl
  have h2 : 18446744073709551616 ^ l.length ≤ (10 ^ 20) ^ l.length := Nat.pow_le_pow_left (by decide) _
  rw [← Nat.pow_mul] at h2
  have h3 : ((18446744073709551616 ^ l.length : Nat) : Int) = 18446744073709551616 ^ l.length := Int.natCast_pow _ _
  have h4 := digs_len (v := (val 18446744073709551616 l).toNat) (n := 20 * l.length) (by rw [← h3] at h1; omega)
  omega

/-- the bytes of a text, and the digits that were gathered -/
theorem txt_bytes {V : Int} {ys : List Dgt} (h : dv ys = digs V.toNat) (hp : ys ≠ []) : (ys.map fun d => 48 + d.1).reverse = (txt V.toNat).map fun b => (b.toNat : Int) := by
  have hne : V.toNat ≠ 0 := fun e => by
    rw [e, digs_zero] at h
    exact hp (List.map_eq_nil_iff.1 h)
  unfold txt
  rw [if_neg hne, ← h, List.map_reverse]
  congr 1
  unfold dv
  rw [List.map_map, List.map_map]
  apply List.map_congr_left
  intro d _
  exact (chr_toNat d.2.1 d.2.2).symm

end Go.Proofs.YtcdbjlmegkcaiaaGreatDoor
