/-
  Layer 2, joined (wip/tools/merge.py): NatAF NatAG NatAH NatAI NatAJ.
  Layer 2, walks, part twenty-five: a loop over a function that keeps cells of its own between two rounds: the function owns the cells of one type (T), the loop's body what is of other types. The body never leaves the loop.
  Layer 2, walks, part twenty-six: the function that hands out a number's digits, the lowest first.
  Layer 2, walks, part twenty-seven: the digits are handed out.
  Layer 2, walks, part twenty-eight: a slice of bytes is turned round.
  Layer 2, walks, part twenty-nine: Text.
-/
import Derived.RangeFuncNested
import Derived.RangeFuncBound
import Derived.RangeFuncCalls
import Derived.RangeFuncLeaves
import Derived.RangeFuncBox
import Derived.Shelf.Abstract
import Derived.Shelf.RegionOpen
import Derived.WalkKit
import Derived.OwnWalkIn
import Derived.TacticsInMore
import Derived.LoopNIn
import Derived.LoopIn
import Derived.Maps.AppendAt
import Derived.Test.YtfjellhbcjnjkaaGreatDoorSNG5
import Derived.Shelf.RegionOpenPlain
import Derived.Deep.LoopGhost
import Derived.Lib.Walk
import Derived.Sort.WalkB12
import Derived.Lib.SlicesMore
import Derived.Laws.IdiomStrings
import Derived.Lib.OwnBridge
import Derived.Test.YtfjellhbcjnjkaaGreatDoorSNG4
namespace Go.Proofs.YtfjellhbcjnjkaaGreatDoor
open Go.RowKit
set_option linter.unusedVariables false

/-- the cells of type T lie as they lay -/
def KeepsT (T : TypeId) (W W' : World) : Prop := W.heap.size ≤ W'.heap.size ∧ ∀ (b : Nat) (c : Array Value) (z : Nat × Nat), W.heap[b]? = some (.cells c T z) → W'.heap[b]? = some (.cells c T z)
theorem KeepsT.refl (T : TypeId) (W : World) : KeepsT T W W := ⟨Nat.le_refl _, fun _ _ _ h => h⟩
theorem KeepsT.trans {T : TypeId} {X Y Z : World} (h : KeepsT T X Y) (k : KeepsT T Y Z) : KeepsT T X Z := ⟨Nat.le_trans h.1 k.1, fun b c z e => k.2 b c z (h.2 b c z e)⟩
theorem KeepsT.put {T : TypeId} {W : World} {l : Nat} {o : Obj} (o' : Obj) (hl : W.heap[l]? = some o) (ho : o.isCells = false) : KeepsT T W (W.putObj l o') := by
  refine ⟨by simp, fun b c z e => ?_⟩
  by_cases hb : b = l
  · subst hb
    rw [hl] at e
    cases e
    cases ho
  · rw [World.putObj_heap_other hb]
    exact e
theorem KeepsT.grown {T : TypeId} {W W' : World} {row : Option Nat} (hg : W.grownBy W' row) (hr : ∀ r, row = some r → ∀ c z, W.heap[r]? ≠ some (.cells c T z)) : KeepsT T W W' :=
  ⟨hg.size, fun b c z e => (hg.block b (lt_of_block e) (fun h => hr b h.symm c z e)).trans e⟩

/-- .. or what is no cells at all -/
def OwnT {β : Type} (B : Nat) (T : TypeId) (I : β → World → Prop) : Prop :=
  ∀ s W W' row, I s W → W.grownBy W' row → (∀ r, row = some r → B ≤ r ∧ ∃ o : Obj, W.heap[r]? = some o ∧ (o.isCells = false ∨ ∃ c z, o = .cells c T z)) → I s W'
theorem OwnT.put {β : Type} {B : Nat} {T : TypeId} {I : β → World → Prop} (h : OwnT B T I) {s : β} {W : World} {l : Nat} {o : Obj} (o' : Obj) (hs : I s W) (hB : B ≤ l) (hl : W.heap[l]? = some o) (ho : o.isCells = false) : I s (W.putObj l o') :=
  h s W _ (some l) hs (grownBy_putObj' W l o') (fun r e => by cases e; exact ⟨hB, o, hl, .inl ho⟩)

end Go.Proofs.YtfjellhbcjnjkaaGreatDoor
namespace Go.Proofs.YtfjellhbcjnjkaaGreatDoor
open Go.RowKit Go.Shelf
set_option linter.unusedVariables false
attribute [local go_sem] Oper.semAt_some

/-- a decimal digit -/
abbrev Dgt := { x : Int // 0 ≤ x ∧ x < 10 }
def dv (ys : List Dgt) : List Int := ys.map (·.1)
theorem dv_lim (ys : List Dgt) : Lim 10 (dv ys) := fun x hx => by
  simp [dv] at hx
  obtain ⟨h, _⟩ := hx
  exact h

theorem ten_mono {a b : Nat} (h : a ≤ b) : (10 : Int) ^ a ≤ 10 ^ b := by
  have := Nat.pow_le_pow_right (show 0 < 10 by decide) h
  exact_mod_cast this

/-- how far the digits are: b is left of a block, cv of the number behind it -/
def St (V cv : Int) (m : Nat) (b : Int) (ys : List Dgt) : Prop :=
  m ≤ 19 ∧ 0 ≤ b ∧ b < 10 ^ (19 - m) ∧ V = val 10 (dv ys) + (cv * 10 ^ (19 - m) + b) * 10 ^ ys.length ∧ ((cv = 0 ∧ b = 0) → Normal (dv ys))

theorem St.bd {V cv : Int} {m : Nat} {b : Int} {ys : List Dgt} (h : St V cv m b ys) : b < 10000000000000000000 := by
  obtain ⟨_, _, h, _⟩ := h
  have h2 : (10 : Int) ^ (19 - m) ≤ 10 ^ 19 := ten_mono (by omega)
  have : (10 : Int) ^ 19 = 10000000000000000000 := by decide
  omega

theorem St.start {V cv r R : Int} {ys : List Dgt} (hV : V = val 10 (dv ys) + R * 10 ^ ys.length) (hR : R = cv * 10000000000000000000 + r) (h0 : 0 ≤ r) (h1 : r < 10000000000000000000) (hp : 0 < R) : St V cv 0 r ys := by
  have : (10 : Int) ^ 19 = 10000000000000000000 := by decide
  refine ⟨by omega, h0, by rw [Nat.sub_zero, this]; exact h1, by rw [Nat.sub_zero, this, ← hR]; exact hV, fun ⟨a, b⟩ => ?_⟩
  rw [a, b] at hR
  omega

theorem St.lt {V cv : Int} {m : Nat} {b : Int} {ys : List Dgt} (h : St V cv m b ys) (hn : ¬ (cv = 0 ∧ b = 0)) (hc : 0 ≤ cv) : ys.length < (digs V.toNat).length := by
  obtain ⟨_, h0, h1, h2, h3⟩ := h
  obtain ⟨d1, d2, d3⟩ := digs_spec V.toNat
  have hp : (0 : Int) < 10 ^ (19 - m) := Int.pow_pos (by omega)
  have hx : 1 ≤ cv * 10 ^ (19 - m) + b := by
    rcases Int.lt_or_le 0 cv with h | h
    · have : 1 * 1 ≤ cv * 10 ^ (19 - m) := Int.mul_le_mul (by omega) (by omega) (by omega) (by omega)
      omega
    · obtain rfl : cv = 0 := by omega
      have : b ≠ 0 := fun e => hn ⟨rfl, e⟩
      omega
  have hv := (val_bound (b := 10) (by omega) (dv_lim ys)).1
  have ht : (0 : Int) < 10 ^ ys.length := Int.pow_pos (by omega)
  have h4 : 1 * 10 ^ ys.length ≤ (cv * 10 ^ (19 - m) + b) * 10 ^ ys.length := Int.mul_le_mul_of_nonneg_right hx (by omega)
  have hb := (val_bound (b := 10) (by omega) d1).2
  rw [d3] at hb
  rcases Nat.lt_or_ge ys.length (digs V.toNat).length with h | h
  · exact h
  · have h5 : (10 : Int) ^ (digs V.toNat).length ≤ 10 ^ ys.length := ten_mono h
    omega

theorem Pre.nums {w : World} {g c B : Nat} {l : List Int} (h : Pre w g c l) (hl : l.length ≤ c) (hm : c ≤ maxLen) (hB : g < B) : Nums w B (some ⟨g, 0, none⟩) c l :=
  ⟨hl, hm, fun _ => ⟨_, rfl, hB, fun k hk => by rw [add_at]; simpa using h.cell hk⟩⟩

end Go.Proofs.YtfjellhbcjnjkaaGreatDoor
namespace Go.Proofs.YtfjellhbcjnjkaaGreatDoor
open Go.RowKit Go.Shelf
set_option linter.unusedVariables false
attribute [local go_sem] Oper.semAt_some

end Go.Proofs.YtfjellhbcjnjkaaGreatDoor
namespace Go.Proofs.YtfjellhbcjnjkaaGreatDoor
open Go.RowKit Go.Shelf Go.Lib Go.Sort
set_option linter.unusedVariables false

end Go.Proofs.YtfjellhbcjnjkaaGreatDoor
namespace Go.Proofs.YtfjellhbcjnjkaaGreatDoor
open Go.RowKit Go.Shelf Go.Sort
set_option linter.unusedVariables false
attribute [local go_sem] Oper.semAt_some

end Go.Proofs.YtfjellhbcjnjkaaGreatDoor
