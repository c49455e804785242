/-
  Layer 2, words for memory: a slice that reads as a list of numbers (nil let in); a block that is known whole; a slice of the call's own.
-/
import Derived.Test.YtigphbjgodfhpaaDoorNatA
import Derived.Below
import Derived.OneCell
import Derived.Laws.OwnMore
import Derived.Laws.Rows
import Derived.Deep.AppendLies
import Derived.Deep.Draws
import Derived.OwnWalk
namespace Go.Proofs.YtigphbjgodfhpaaDoor
open Go.RowKit
set_option linter.unusedVariables false

def L (l : List Int) : List Value := l.map (Value.int .u64)
theorem L_length (l : List Int) : (L l).length = l.length := by simp [L]
theorem L_get {l : List Int} {k : Nat} (h : k < l.length) : (L l)[k]? = some (.int .u64 (D l k)) := by
  simp [L, D, h]
theorem L_one (l : List Int) : ∀ u ∈ L l, u.oneCell' = true := ints_oneCell .u64 l

theorem add_block (a : Addr) (n : Nat) : (a.add n).block = a.block := by unfold Addr.add; split <;> rfl
theorem add_add (a : Addr) (i j : Nat) : (a.add i).add j = a.add (i + j) := by
  unfold Addr.add
  by_cases hi : i = 0 <;> by_cases hj : j = 0 <;> simp [hi, hj, Nat.add_assoc]
theorem add_at (g o k : Nat) : (⟨g, o, none⟩ : Addr).add k = ⟨g, o + k, none⟩ := by
  unfold Addr.add
  by_cases hk : k = 0 <;> simp [hk]

/-- the slice '.slice A l.length c' reads as l, in a block below B -/
def Nums (w : World) (B : Nat) (A : Option Addr) (c : Nat) (l : List Int) : Prop :=
  l.length ≤ c ∧ c ≤ maxLen ∧ (0 < l.length → ∃ ad, A = some ad ∧ ad.block < B ∧ ∀ k, k < l.length → w.cell? (ad.add k) = some (.int .u64 (D l k)))

/-- the block g is just the numbers of l -/
def Row (w : World) (g : Nat) (l : List Int) : Prop := w.heap[g]? = some (.cells (L l).toArray 39 (0, 0))

/-- the slice '.slice A l.length c' is the call's own (from block 'base' on) and reads as l -/
def Own (w : World) (base : Nat) (A : Option Addr) (c : Nat) (l : List Int) : Prop := w.ownsRow base 39 1 (.slice A l.length c) l.length (L l)

section
variable {w w' : World} {B B' c g : Nat} {A : Option Addr} {l : List Int}

theorem Nums.nil (w : World) (B : Nat) : Nums w B none 0 [] := ⟨by simp, by unfold maxLen; omega, fun h => by simp at h⟩
theorem Nums.empty (w : World) (B : Nat) (A : Option Addr) (hc : c ≤ maxLen) : Nums w B A c [] := ⟨by simp, hc, fun h => by simp at h⟩
theorem Nums.le (h : Nums w B A c l) : l.length ≤ c := h.1
theorem Nums.max (h : Nums w B A c l) : c ≤ maxLen := h.2.1
theorem Nums.max' (h : Nums w B A c l) : c ≤ 9223372036854775807 := by have := h.2.1; unfold maxLen at this; omega
theorem Nums.at_ {k : Nat} (h : Nums w B A c l) (hk : k < l.length) : ∃ ad, A = some ad ∧ ad.block < B ∧ w.cell? (ad.add k) = some (.int .u64 (D l k)) := by
  obtain ⟨ad, e, hb, hc⟩ := h.2.2 (by omega)
  exact ⟨ad, e, hb, hc k hk⟩
theorem Nums.at_some {k : Nat} {ad : Addr} (h : Nums w B (some ad) c l) (hk : k < l.length) : w.cell? (ad.add k) = some (.int .u64 (D l k)) := by
  obtain ⟨ad', e, hb, hc⟩ := h.2.2 (by omega)
  injection e with e; subst e
  exact hc k hk
theorem Nums.some_ (h : Nums w B A c l) (hk : 0 < l.length) : ∃ ad, A = some ad ∧ ad.block < B := by
  obtain ⟨ad, e, hb, hc⟩ := h.2.2 (by omega)
  exact ⟨ad, e, hb⟩
theorem Nums.keep (h : Nums w B A c l) (hk : ∀ p : Addr, p.block < B → w'.cell? p = w.cell? p) : Nums w' B A c l :=
  ⟨h.1, h.2.1, fun hn => by
    obtain ⟨ad, e, hb, hc⟩ := h.2.2 hn
    exact ⟨ad, e, hb, fun k hk' => (hk _ (by rw [add_block]; exact hb)).trans (hc k hk')⟩⟩
theorem Nums.more (h : Nums w B A c l) (hB : B ≤ B') : Nums w B' A c l :=
  ⟨h.1, h.2.1, fun hn => by
    obtain ⟨ad, e, hb, hc⟩ := h.2.2 hn
    exact ⟨ad, e, by omega, hc⟩⟩
theorem Nums.below (h : Nums w B A c l) (hb : Below B w w') : Nums w' B A c l := h.keep fun _ hp => hb.cell hp
/-- what lay in the caller's memory, in the callee's world -/
theorem Nums.on (h : Nums w B A c l) (hb : Below B w w') (hB : B ≤ w.heap.size) : Nums w' w'.heap.size A c l := (h.below hb).more (by have := hb.size; omega)
theorem Nums.drew (h : Nums w B A c l) : Nums w.drew B A c l := h
theorem Nums.drewN (h : Nums w B A c l) (k : Nat) : Nums (w.drewN k) B A c l := h
theorem Nums.alloc (h : Nums w B A c l) (hB : B ≤ w.heap.size) (o : Obj) : Nums (w.alloc o) B A c l := h.keep fun p hp => World.cell?_alloc_lt w o p (by omega)
theorem Nums.setCell (h : Nums w B A c l) {p : Addr} (hB : B ≤ p.block) (u : Value) : Nums (w.setCell p u) B A c l :=
  h.keep fun q hq => World.cell?_setCell_other w p q u (fun e => by subst e; omega)
theorem Nums.grown (h : Nums w B A c l) {row : Option Nat} (hg : w.grownBy w' row) (hB : B ≤ w.heap.size) (hr : ∀ g, row = some g → B ≤ g) : Nums w' B A c l :=
  h.keep fun p hp => World.cell?_of_block (hg.block p.block (by omega) (fun e => by have := hr _ e.symm; omega))
theorem Nums.take (h : Nums w B A c l) (k : Nat) : Nums w B A c (l.take k) :=
  ⟨by rw [List.length_take]; have := h.1; omega, h.2.1, fun hn => by
    rw [List.length_take] at hn
    obtain ⟨ad, e, hb, hc⟩ := h.2.2 (by omega)
    refine ⟨ad, e, hb, fun j hj => ?_⟩
    rw [List.length_take] at hj
    rw [hc j (by omega), D_take, if_pos (by omega)]⟩
theorem Nums.length (h : Nums w B A c l) : l.length ≤ 9223372036854775807 := Nat.le_trans h.1 h.max'

theorem Row.lt (h : Row w g l) : g < w.heap.size := lt_of_block h
theorem Row.cell (h : Row w g l) {k : Nat} (hk : k < l.length) : w.cell? ⟨g, k, none⟩ = some (.int .u64 (D l k)) := by
  rw [cell_of_row w g k _ _ (0, 0) h]
  simpa using L_get hk
theorem Row.frozen (h : Row w g l) (k : Nat) : w.frozen? ⟨g, k, none⟩ = false := by
  unfold Row at h
  simp [World.frozen?, h]
theorem Row.new (w : World) (l : List Int) : Row (w.alloc (.cells (L l).toArray 39)) w.heap.size l := heap_alloc_new w _
theorem Row.one (w : World) (x : Int) : Row (w.alloc (.cells #[.int .u64 x] 39)) w.heap.size [x] := heap_alloc_new w _
theorem Row.drew (h : Row w g l) : Row w.drew g l := h
theorem Row.drewN (h : Row w g l) (n : Nat) : Row (w.drewN n) g l := h
theorem Row.alloc (h : Row w g l) (o : Obj) : Row (w.alloc o) g l := (Below.heap_alloc w o g h.lt).trans h
theorem Row.set_ (h : Row w g l) (k : Nat) (v : Int) : Row (w.setCell ⟨g, k, none⟩ (.int .u64 v)) g (l.set k v) := by
  unfold Row at h ⊢
  simp [World.setCell, Array.getElem?_modify, h, L, List.map_set]
theorem Row.far (h : Row w g l) {p : Addr} (hp : g ≠ p.block) (u : Value) : Row (w.setCell p u) g l := (Below.heap_setCell w p u g hp).trans h
theorem Row.below (h : Row w g l) (hb : Below B w w') (hg : g < B) : Row w' g l := (hb.block g hg).trans h
theorem Row.grown (h : Row w g l) {row : Option Nat} (hb : w.grownBy w' row) (hg : some g ≠ row) : Row w' g l := (hb.block g h.lt hg).trans h
theorem Row.nums (h : Row w g l) (o n : Nat) (hn : o + n ≤ l.length) (hc : n ≤ c) (hm : c ≤ maxLen) (hB : g < B) : Nums w B (some ⟨g, o, none⟩) c ((l.drop o).take n) := by
  have e : ((l.drop o).take n).length = n := by rw [List.length_take, List.length_drop]; omega
  refine ⟨by omega, hm, fun _ => ⟨_, rfl, hB, fun k hk => ?_⟩⟩
  rw [e] at hk
  rw [add_at, h.cell (by omega), D_take, if_pos hk, D_drop]
theorem Row.own (h : Row w g l) (n : Nat) (hn : n ≤ l.length) (hm : l.length ≤ maxLen) (hB : B ≤ g) : Own w B (some ⟨g, 0, none⟩) l.length (l.take n) := by
  have e : (l.take n).length = n := by rw [List.length_take]; omega
  unfold Own
  rw [e]
  refine ⟨by rw [L_length, e]; omega, .inr ⟨g, l.length, _, rfl, hB, h, hn, hm, by simp [L], ?_⟩⟩
  simp [L, List.map_take]
theorem Own.nil (w : World) (B : Nat) : Own w B none 0 [] := World.ownsRow_nil w B _ 1
theorem Own.nums (h : Own w B A c l) : Nums w w.heap.size A c l := by
  have hc : l.length ≤ c ∧ c ≤ maxLen := by
    rcases h.2 with ⟨h1, h2⟩ | ⟨g, cap, cur, hv, _, _, h3, h4, _⟩
    · injection h1 with _ _ h1; unfold maxLen; omega
    · injection hv with _ _ h1; omega
  refine ⟨hc.1, hc.2, fun hn => ?_⟩
  obtain ⟨g, cap, hv, _, hlt⟩ := World.ownsRow.form h hn
  have hA : A = some ⟨g, 0, none⟩ := by injection hv
  subst hA
  refine ⟨_, rfl, hlt, fun k hk => World.ownsRow.cells h (g := g) rfl k _ (L_get hk)⟩
theorem Own.below (h : Own w B A c l) (hb : Below w.heap.size w w') : Own w' B A c l := by
  rcases h with ⟨h1, h2⟩
  refine ⟨h1, h2.imp id fun ⟨g, cap, cur, hv, hg, hh, r⟩ => ⟨g, cap, cur, hv, hg, (hb.block g (lt_of_block hh)).trans hh, r⟩⟩
theorem Own.alloc_ (h : Own w B A c l) (o : Obj) : Own (w.alloc o) B A c l := World.ownsRow.alloc h o
theorem Own.less (h : Own w B A c l) (hB : B' ≤ B) : Own w B' A c l := by
  rcases h with ⟨h1, h2⟩
  exact ⟨h1, h2.imp id fun ⟨g, cap, cur, hv, hg, r⟩ => ⟨g, cap, cur, hv, by omega, r⟩⟩
theorem Own.form (h : Own w B A c l) (hn : 0 < l.length) : ∃ g, A = some ⟨g, 0, none⟩ ∧ B ≤ g ∧ g < w.heap.size := by
  obtain ⟨g, cap, hv, hg, hlt⟩ := World.ownsRow.form h hn
  injection hv with hA
  exact ⟨g, hA, hg, hlt⟩

/-- what 'trim' hands back: the same slice, shorter, or nil -/
def Trims (A : Option Addr) (c : Nat) (A' : Option Addr) (c' : Nat) (l : List Int) : Prop :=
  (A' = none ∧ c' = 0 ∧ l = []) ∨ (A' = A ∧ c' = c ∧ l ≠ [])
theorem Trims.nums {A' : Option Addr} {c' : Nat} (t : Trims A c A' c' (norm l)) (h : Nums w B A c l) : Nums w B A' c' (norm l) := by
  rcases t with ⟨rfl, rfl, e⟩ | ⟨rfl, rfl, _⟩
  · rw [e]; exact Nums.nil _ _
  · rw [norm_take l]; exact h.take _
theorem Trims.row {A' : Option Addr} {c' g : Nat} (t : Trims (some ⟨g, 0, none⟩) l.length A' c' (norm l)) (h : Row w g l) (hm : l.length ≤ maxLen) (hB : B ≤ g) : Own w B A' c' (norm l) := by
  rcases t with ⟨rfl, rfl, e⟩ | ⟨rfl, rfl, _⟩
  · rw [e]; exact Own.nil _ _
  · rw [norm_take l]; exact h.own _ (norm_length l) hm hB
end
end Go.Proofs.YtigphbjgodfhpaaDoor
