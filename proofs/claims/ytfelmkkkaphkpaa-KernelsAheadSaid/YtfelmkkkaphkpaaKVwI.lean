/-
  Layer 7, words for memory: lists of ints. (Written by wip/tools/gen_vwi.py.)
-/
import Derived.Test.YtfelmkkkaphkpaaKVwA
namespace Go.Proofs.Ytfelmkkkaphkpaa
open Go.RowKit Go.Bw
set_option linter.unusedVariables false
set_option linter.unusedSimpArgs false

def LI (l : List Int) : List Value := l.map (Value.int .i64)
theorem LI_length (l : List Int) : (LI l).length = l.length := by simp [LI]
theorem LI_get {l : List Int} {k : Nat} (h : k < l.length) : (LI l)[k]? = some (.int .i64 (D l k)) := by
  simp [LI, D, h]
theorem LI_one (l : List Int) : ∀ u ∈ LI l, u.oneCell' = true := ints_oneCell .i64 l

/-- the slice '.slice A l.length c' reads as l, in a block below B -/
def NumI (w : World) (B : Nat) (A : Option Addr) (c : Nat) (l : List Int) : Prop :=
  l.length ≤ c ∧ c ≤ maxLen ∧ (0 < l.length → ∃ ad, A = some ad ∧ ad.block < B ∧ ∀ k, k < l.length → w.cell? (ad.add k) = some (.int .i64 (D l k)))

/-- the block g is just the numbers of l -/
def RowI (w : World) (g : Nat) (l : List Int) : Prop := w.heap[g]? = some (.cells (LI l).toArray 3 (0, 0))

/-- the slice '.slice A l.length c' is the call's own (from block 'base' on) and reads as l -/
def OwnI (w : World) (base : Nat) (A : Option Addr) (c : Nat) (l : List Int) : Prop := w.ownsRow base 3 1 (.slice A l.length c) l.length (LI l)

section
variable {w w' : World} {B B' c g : Nat} {A : Option Addr} {l : List Int}

theorem NumI.nil (w : World) (B : Nat) : NumI w B none 0 [] := ⟨by simp, by unfold maxLen; omega, fun h => by simp at h⟩
theorem NumI.empty (w : World) (B : Nat) (A : Option Addr) (hc : c ≤ maxLen) : NumI w B A c [] := ⟨by simp, hc, fun h => by simp at h⟩
theorem NumI.le (h : NumI w B A c l) : l.length ≤ c := h.1
theorem NumI.max (h : NumI w B A c l) : c ≤ maxLen := h.2.1
theorem NumI.max' (h : NumI w B A c l) : c ≤ 9223372036854775807 := by have := h.2.1; unfold maxLen at this; omega
theorem NumI.at_ {k : Nat} (h : NumI w B A c l) (hk : k < l.length) : ∃ ad, A = some ad ∧ ad.block < B ∧ w.cell? (ad.add k) = some (.int .i64 (D l k)) := by
  obtain ⟨ad, e, hb, hc⟩ := h.2.2 (by omega)
  exact ⟨ad, e, hb, hc k hk⟩
theorem NumI.at_some {k : Nat} {ad : Addr} (h : NumI w B (some ad) c l) (hk : k < l.length) : w.cell? (ad.add k) = some (.int .i64 (D l k)) := by
  obtain ⟨ad', e, hb, hc⟩ := h.2.2 (by omega)
  injection e with e; subst e
  exact hc k hk
theorem NumI.some_ (h : NumI w B A c l) (hk : 0 < l.length) : ∃ ad, A = some ad ∧ ad.block < B := by
  obtain ⟨ad, e, hb, hc⟩ := h.2.2 (by omega)
  exact ⟨ad, e, hb⟩
theorem NumI.keep (h : NumI w B A c l) (hk : ∀ p : Addr, p.block < B → w'.cell? p = w.cell? p) : NumI w' B A c l :=
  ⟨h.1, h.2.1, fun hn => by
    obtain ⟨ad, e, hb, hc⟩ := h.2.2 hn
    exact ⟨ad, e, hb, fun k hk' => (hk _ (by rw [add_block]; exact hb)).trans (hc k hk')⟩⟩
theorem NumI.more (h : NumI w B A c l) (hB : B ≤ B') : NumI w B' A c l :=
  ⟨h.1, h.2.1, fun hn => by
    obtain ⟨ad, e, hb, hc⟩ := h.2.2 hn
    exact ⟨ad, e, by omega, hc⟩⟩
theorem NumI.below (h : NumI w B A c l) (hb : Below B w w') : NumI w' B A c l := h.keep fun _ hp => hb.cell hp
/-- what lay in the caller's memory, in the callee's world -/
theorem NumI.on (h : NumI w B A c l) (hb : Below B w w') (hB : B ≤ w.heap.size) : NumI w' w'.heap.size A c l := (h.below hb).more (by have := hb.size; omega)
theorem NumI.drew (h : NumI w B A c l) : NumI w.drew B A c l := h
theorem NumI.drewN (h : NumI w B A c l) (k : Nat) : NumI (w.drewN k) B A c l := h
theorem NumI.alloc (h : NumI w B A c l) (hB : B ≤ w.heap.size) (o : Obj) : NumI (w.alloc o) B A c l := h.keep fun p hp => World.cell?_alloc_lt w o p (by omega)
theorem NumI.setCell (h : NumI w B A c l) {p : Addr} (hB : B ≤ p.block) (u : Value) : NumI (w.setCell p u) B A c l :=
  h.keep fun q hq => World.cell?_setCell_other w p q u (fun e => by subst e; omega)
theorem NumI.grown (h : NumI w B A c l) {row : Option Nat} (hg : w.grownBy w' row) (hB : B ≤ w.heap.size) (hr : ∀ g, row = some g → B ≤ g) : NumI w' B A c l :=
  h.keep fun p hp => World.cell?_of_block (hg.block p.block (by omega) (fun e => by have := hr _ e.symm; omega))
theorem NumI.take (h : NumI w B A c l) (k : Nat) : NumI w B A c (l.take k) :=
  ⟨by rw [List.length_take]; have := h.1; omega, h.2.1, fun hn => by
    rw [List.length_take] at hn
    obtain ⟨ad, e, hb, hc⟩ := h.2.2 (by omega)
    refine ⟨ad, e, hb, fun j hj => ?_⟩
    rw [List.length_take] at hj
    rw [hc j (by omega), D_take, if_pos (by omega)]⟩
theorem NumI.length (h : NumI w B A c l) : l.length ≤ 9223372036854775807 := Nat.le_trans h.1 h.max'

theorem RowI.lt (h : RowI w g l) : g < w.heap.size := lt_of_block h
theorem RowI.cell (h : RowI w g l) {k : Nat} (hk : k < l.length) : w.cell? ⟨g, k, none⟩ = some (.int .i64 (D l k)) := by
  rw [cell_of_row w g k _ _ (0, 0) h]
  simpa using LI_get hk
theorem RowI.frozen (h : RowI w g l) (k : Nat) : w.frozen? ⟨g, k, none⟩ = false := by
  unfold RowI at h
  simp [World.frozen?, h]
theorem RowI.new (w : World) (l : List Int) : RowI (w.alloc (.cells (LI l).toArray 3)) w.heap.size l := heap_alloc_new w _
theorem RowI.one (w : World) (x : Int) : RowI (w.alloc (.cells #[.int .i64 x] 3)) w.heap.size [x] := heap_alloc_new w _
theorem RowI.drew (h : RowI w g l) : RowI w.drew g l := h
theorem RowI.drewN (h : RowI w g l) (n : Nat) : RowI (w.drewN n) g l := h
theorem RowI.alloc (h : RowI w g l) (o : Obj) : RowI (w.alloc o) g l := (Below.heap_alloc w o g h.lt).trans h
theorem RowI.set_ (h : RowI w g l) (k : Nat) (v : Int) : RowI (w.setCell ⟨g, k, none⟩ (.int .i64 v)) g (l.set k v) := by
  unfold RowI at h ⊢
  simp [World.setCell, Array.getElem?_modify, h, LI, List.map_set]
theorem RowI.far (h : RowI w g l) {p : Addr} (hp : g ≠ p.block) (u : Value) : RowI (w.setCell p u) g l := (Below.heap_setCell w p u g hp).trans h
theorem RowI.below (h : RowI w g l) (hb : Below B w w') (hg : g < B) : RowI w' g l := (hb.block g hg).trans h
theorem RowI.grown (h : RowI w g l) {row : Option Nat} (hb : w.grownBy w' row) (hg : some g ≠ row) : RowI w' g l := (hb.block g h.lt hg).trans h
theorem RowI.nums (h : RowI w g l) (o n : Nat) (hn : o + n ≤ l.length) (hc : n ≤ c) (hm : c ≤ maxLen) (hB : g < B) : NumI w B (some ⟨g, o, none⟩) c ((l.drop o).take n) := by
  have e : ((l.drop o).take n).length = n := by rw [List.length_take, List.length_drop]; omega
  refine ⟨by omega, hm, fun _ => ⟨_, rfl, hB, fun k hk => ?_⟩⟩
  rw [e] at hk
  rw [add_at, h.cell (by omega), D_take, if_pos hk, D_drop]
theorem RowI.own (h : RowI w g l) (n : Nat) (hn : n ≤ l.length) (hm : l.length ≤ maxLen) (hB : B ≤ g) : OwnI w B (some ⟨g, 0, none⟩) l.length (l.take n) := by
  have e : (l.take n).length = n := by rw [List.length_take]; omega
  unfold OwnI
  rw [e]
  refine ⟨by rw [LI_length, e]; omega, .inr ⟨g, l.length, _, rfl, hB, h, hn, hm, by simp [LI], ?_⟩⟩
  simp [LI, List.map_take]
theorem OwnI.nil (w : World) (B : Nat) : OwnI w B none 0 [] := World.ownsRow_nil w B _ 1
theorem OwnI.nums (h : OwnI w B A c l) : NumI w w.heap.size A c l := by
  have hc : l.length ≤ c ∧ c ≤ maxLen := by
    rcases h.2 with ⟨h1, h2⟩ | ⟨g, cap, cur, hv, _, _, h3, h4, _⟩
    · injection h1 with _ _ h1; unfold maxLen; omega
    · injection hv with _ _ h1; omega
  refine ⟨hc.1, hc.2, fun hn => ?_⟩
  obtain ⟨g, cap, hv, _, hlt⟩ := World.ownsRow.form h hn
  have hA : A = some ⟨g, 0, none⟩ := by injection hv
  subst hA
  refine ⟨_, rfl, hlt, fun k hk => World.ownsRow.cells h (g := g) rfl k _ (LI_get hk)⟩
theorem OwnI.below (h : OwnI w B A c l) (hb : Below w.heap.size w w') : OwnI w' B A c l := by
  rcases h with ⟨h1, h2⟩
  refine ⟨h1, h2.imp id fun ⟨g, cap, cur, hv, hg, hh, r⟩ => ⟨g, cap, cur, hv, hg, (hb.block g (lt_of_block hh)).trans hh, r⟩⟩
theorem OwnI.alloc_ (h : OwnI w B A c l) (o : Obj) : OwnI (w.alloc o) B A c l := World.ownsRow.alloc h o
theorem OwnI.less (h : OwnI w B A c l) (hB : B' ≤ B) : OwnI w B' A c l := by
  rcases h with ⟨h1, h2⟩
  exact ⟨h1, h2.imp id fun ⟨g, cap, cur, hv, hg, r⟩ => ⟨g, cap, cur, hv, by omega, r⟩⟩
theorem OwnI.form (h : OwnI w B A c l) (hn : 0 < l.length) : ∃ g, A = some ⟨g, 0, none⟩ ∧ B ≤ g ∧ g < w.heap.size := by
  obtain ⟨g, cap, hv, hg, hlt⟩ := World.ownsRow.form h hn
  injection hv with hA
  exact ⟨g, hA, hg, hlt⟩

end
theorem info39I : (Try.prog.info? 3).map (fun i => (i.zero, i.size, i.bytes)) = some (some (.int .i64 0), 1, 8) := by kernel_rfl

section
variable (w : World)
end

/-- a new block behind an append of the call's own -/
theorem below_appI {w w0 w' : World} {B : Nat} {A : Option Addr} {c : Nat} {l : List Int} (hb : Below B w0 w) (hown : OwnI w B A c l) (hg : w.grownBy w' (Value.slice A l.length c).ownBlock) (hB : B ≤ w.heap.size) : Below B w0 w' :=
  hb.grown hg hB fun k hk => (World.ownsRow.lt hown k hk).1
end Go.Proofs.Ytfelmkkkaphkpaa
