/-
  Layer 6, walks: lists of floats in memory; the length of several, by the reference. (Written by wip/tools/gen_afl.py.)
-/
import Derived.Below
import Derived.OneCell
import Derived.Laws.OwnMore
import Derived.Laws.Rows
import Derived.Deep.AppendLies
import Derived.Deep.Draws
import Derived.OwnWalk
import Derived.Test.YtmfikppnkjhmjaaProg
import Derived.Maps.AppendAt
import Derived.RegionTactic
import Derived.KernelRfl
import Derived.WalkKit
import Derived.WalkSpells
import Derived.WalkLawsBesides
import Derived.Deep.QuietTactic
import Derived.BigQuiet
import Derived.Lib.Hide
import Derived.Laws.Externs
import Derived.Outline
import Derived.Deep.RegionHeld3
import Derived.Deep.RegionWith
import Derived.Test.YtmfikppnkjhmjaaAfK
import Derived.WalkMore
namespace Go.Proofs.Ytmfikppnkjhmjaa
open Go Go.RowKit
set_option linter.unusedVariables false
set_option linter.unusedSimpArgs false

/-- the entry i of a list; 0, where there is none -/
def D (l : List Int) (i : Nat) : Int := l.getD i 0
theorem D_out {l : List Int} {i : Nat} (h : l.length ≤ i) : D l i = 0 := by simp [D, List.getElem?_eq_none h]
theorem D_in {l : List Int} {i : Nat} (h : i < l.length) : D l i = l[i] := by simp [D, h]
theorem D_cons_zero (x : Int) (l : List Int) : D (x :: l) 0 = x := by simp [D]
theorem D_cons_succ (x : Int) (l : List Int) (i : Nat) : D (x :: l) (i + 1) = D l i := by simp [D]
theorem D_set {l : List Int} {i : Nat} (v : Int) (j : Nat) (hi : i < l.length) : D (l.set i v) j = if j = i then v else D l j := by
  unfold D
  by_cases h : j = i
  · subst h; simp [hi]
  · rw [if_neg h, List.getD_eq_getElem?_getD, List.getD_eq_getElem?_getD, List.getElem?_set_ne (by omega)]
theorem D_take (l : List Int) (k j : Nat) : D (l.take k) j = if j < k then D l j else 0 := by
  unfold D
  rw [List.getD_eq_getElem?_getD, List.getD_eq_getElem?_getD, List.getElem?_take]
  split <;> simp
theorem D_drop (l : List Int) (k j : Nat) : D (l.drop k) j = D l (k + j) := by
  unfold D
  rw [List.getD_eq_getElem?_getD, List.getD_eq_getElem?_getD, List.getElem?_drop]
theorem D_append (l m : List Int) (j : Nat) : D (l ++ m) j = if j < l.length then D l j else D m (j - l.length) := by
  unfold D
  rw [List.getD_eq_getElem?_getD, List.getD_eq_getElem?_getD, List.getD_eq_getElem?_getD, List.getElem?_append]
  split <;> rfl
theorem add_block (a : Addr) (n : Nat) : (a.add n).block = a.block := by unfold Addr.add; split <;> rfl
theorem add_add (a : Addr) (i j : Nat) : (a.add i).add j = a.add (i + j) := by
  unfold Addr.add
  by_cases hi : i = 0 <;> by_cases hj : j = 0 <;> simp [hi, hj, Nat.add_assoc]
theorem add_at (g o k : Nat) : (⟨g, o, none⟩ : Addr).add k = ⟨g, o + k, none⟩ := by
  unfold Addr.add
  by_cases hk : k = 0 <;> simp [hk]

abbrev fV (x : Int) : Value := .float .f64 x.toNat
def LF (l : List Int) : List Value := l.map fV
theorem LF_length (l : List Int) : (LF l).length = l.length := by simp [LF]
theorem LF_get {l : List Int} {k : Nat} (h : k < l.length) : (LF l)[k]? = some (.float .f64 (D l k).toNat) := by
  simp [LF, D, h]
theorem LF_one (l : List Int) : ∀ u ∈ LF l, u.oneCell' = true := by intro u hu; unfold LF at hu; obtain ⟨x, _, rfl⟩ := List.mem_map.1 hu; rfl

/-- the slice '.slice A l.length c' reads as l, in a block below B -/
def NumF (w : World) (B : Nat) (A : Option Addr) (c : Nat) (l : List Int) : Prop :=
  l.length ≤ c ∧ c ≤ maxLen ∧ (0 < l.length → ∃ ad, A = some ad ∧ ad.block < B ∧ ∀ k, k < l.length → w.cell? (ad.add k) = some (.float .f64 (D l k).toNat))

/-- the block g is just the numbers of l -/
def RowF (w : World) (g : Nat) (l : List Int) : Prop := w.heap[g]? = some (.cells (LF l).toArray 22 (0, 0))

/-- the slice '.slice A l.length c' is the call's own (from block 'base' on) and reads as l -/
def OwnF (w : World) (base : Nat) (A : Option Addr) (c : Nat) (l : List Int) : Prop := w.ownsRow base 22 1 (.slice A l.length c) l.length (LF l)

section
variable {w w' : World} {B B' c g : Nat} {A : Option Addr} {l : List Int}

theorem NumF.nil (w : World) (B : Nat) : NumF w B none 0 [] := ⟨by simp, by unfold maxLen; omega, fun h => by simp at h⟩
theorem NumF.empty (w : World) (B : Nat) (A : Option Addr) (hc : c ≤ maxLen) : NumF w B A c [] := ⟨by simp, hc, fun h => by simp at h⟩
theorem NumF.le (h : NumF w B A c l) : l.length ≤ c := h.1
theorem NumF.max (h : NumF w B A c l) : c ≤ maxLen := h.2.1
theorem NumF.max' (h : NumF w B A c l) : c ≤ 9223372036854775807 := by have := h.2.1; unfold maxLen at this; omega
theorem NumF.at_ {k : Nat} (h : NumF w B A c l) (hk : k < l.length) : ∃ ad, A = some ad ∧ ad.block < B ∧ w.cell? (ad.add k) = some (.float .f64 (D l k).toNat) := by
  obtain ⟨ad, e, hb, hc⟩ := h.2.2 (by omega)
  exact ⟨ad, e, hb, hc k hk⟩
theorem NumF.at_some {k : Nat} {ad : Addr} (h : NumF w B (some ad) c l) (hk : k < l.length) : w.cell? (ad.add k) = some (.float .f64 (D l k).toNat) := by
  obtain ⟨ad', e, hb, hc⟩ := h.2.2 (by omega)
  injection e with e; subst e
  exact hc k hk
theorem NumF.some_ (h : NumF w B A c l) (hk : 0 < l.length) : ∃ ad, A = some ad ∧ ad.block < B := by
  obtain ⟨ad, e, hb, hc⟩ := h.2.2 (by omega)
  exact ⟨ad, e, hb⟩
theorem NumF.keep (h : NumF w B A c l) (hk : ∀ p : Addr, p.block < B → w'.cell? p = w.cell? p) : NumF w' B A c l :=
  ⟨h.1, h.2.1, fun hn => by
    obtain ⟨ad, e, hb, hc⟩ := h.2.2 hn
    exact ⟨ad, e, hb, fun k hk' => (hk _ (by rw [add_block]; exact hb)).trans (hc k hk')⟩⟩
theorem NumF.more (h : NumF w B A c l) (hB : B ≤ B') : NumF w B' A c l :=
  ⟨h.1, h.2.1, fun hn => by
    obtain ⟨ad, e, hb, hc⟩ := h.2.2 hn
    exact ⟨ad, e, by omega, hc⟩⟩
theorem NumF.below (h : NumF w B A c l) (hb : Below B w w') : NumF w' B A c l := h.keep fun _ hp => hb.cell hp
/-- what lay in the caller's memory, in the callee's world -/
theorem NumF.on (h : NumF w B A c l) (hb : Below B w w') (hB : B ≤ w.heap.size) : NumF w' w'.heap.size A c l := (h.below hb).more (by have := hb.size; omega)
theorem NumF.drew (h : NumF w B A c l) : NumF w.drew B A c l := h
theorem NumF.drewN (h : NumF w B A c l) (k : Nat) : NumF (w.drewN k) B A c l := h
theorem NumF.alloc (h : NumF w B A c l) (hB : B ≤ w.heap.size) (o : Obj) : NumF (w.alloc o) B A c l := h.keep fun p hp => World.cell?_alloc_lt w o p (by omega)
theorem NumF.setCell (h : NumF w B A c l) {p : Addr} (hB : B ≤ p.block) (u : Value) : NumF (w.setCell p u) B A c l :=
  h.keep fun q hq => World.cell?_setCell_other w p q u (fun e => by subst e; omega)
theorem NumF.grown (h : NumF w B A c l) {row : Option Nat} (hg : w.grownBy w' row) (hB : B ≤ w.heap.size) (hr : ∀ g, row = some g → B ≤ g) : NumF w' B A c l :=
  h.keep fun p hp => World.cell?_of_block (hg.block p.block (by omega) (fun e => by have := hr _ e.symm; omega))
theorem NumF.take (h : NumF w B A c l) (k : Nat) : NumF w B A c (l.take k) :=
  ⟨by rw [List.length_take]; have := h.1; omega, h.2.1, fun hn => by
    rw [List.length_take] at hn
    obtain ⟨ad, e, hb, hc⟩ := h.2.2 (by omega)
    refine ⟨ad, e, hb, fun j hj => ?_⟩
    rw [List.length_take] at hj
    rw [hc j (by omega), D_take, if_pos (by omega)]⟩
theorem NumF.length (h : NumF w B A c l) : l.length ≤ 9223372036854775807 := Nat.le_trans h.1 h.max'

theorem RowF.lt (h : RowF w g l) : g < w.heap.size := lt_of_block h
theorem RowF.cell (h : RowF w g l) {k : Nat} (hk : k < l.length) : w.cell? ⟨g, k, none⟩ = some (.float .f64 (D l k).toNat) := by
  rw [cell_of_row w g k _ _ (0, 0) h]
  simpa using LF_get hk
theorem RowF.frozen (h : RowF w g l) (k : Nat) : w.frozen? ⟨g, k, none⟩ = false := by
  unfold RowF at h
  simp [World.frozen?, h]
theorem RowF.new (w : World) (l : List Int) : RowF (w.alloc (.cells (LF l).toArray 22)) w.heap.size l := heap_alloc_new w _
theorem RowF.one (w : World) (x : Int) : RowF (w.alloc (.cells #[fV x] 22)) w.heap.size [x] := heap_alloc_new w _
theorem RowF.drew (h : RowF w g l) : RowF w.drew g l := h
theorem RowF.drewN (h : RowF w g l) (n : Nat) : RowF (w.drewN n) g l := h
theorem RowF.alloc (h : RowF w g l) (o : Obj) : RowF (w.alloc o) g l := (Below.heap_alloc w o g h.lt).trans h
theorem RowF.set_ (h : RowF w g l) (k : Nat) (v : Int) : RowF (w.setCell ⟨g, k, none⟩ (fV v)) g (l.set k v) := by
  unfold RowF at h ⊢
  simp [World.setCell, Array.getElem?_modify, h, LF, List.map_set]
theorem RowF.far (h : RowF w g l) {p : Addr} (hp : g ≠ p.block) (u : Value) : RowF (w.setCell p u) g l := (Below.heap_setCell w p u g hp).trans h
theorem RowF.below (h : RowF w g l) (hb : Below B w w') (hg : g < B) : RowF w' g l := (hb.block g hg).trans h
theorem RowF.grown (h : RowF w g l) {row : Option Nat} (hb : w.grownBy w' row) (hg : some g ≠ row) : RowF w' g l := (hb.block g h.lt hg).trans h
theorem RowF.nums (h : RowF w g l) (o n : Nat) (hn : o + n ≤ l.length) (hc : n ≤ c) (hm : c ≤ maxLen) (hB : g < B) : NumF w B (some ⟨g, o, none⟩) c ((l.drop o).take n) := by
  have e : ((l.drop o).take n).length = n := by rw [List.length_take, List.length_drop]; omega
  refine ⟨by omega, hm, fun _ => ⟨_, rfl, hB, fun k hk => ?_⟩⟩
  rw [e] at hk
  rw [add_at, h.cell (by omega), D_take, if_pos hk, D_drop]
theorem RowF.own (h : RowF w g l) (n : Nat) (hn : n ≤ l.length) (hm : l.length ≤ maxLen) (hB : B ≤ g) : OwnF w B (some ⟨g, 0, none⟩) l.length (l.take n) := by
  have e : (l.take n).length = n := by rw [List.length_take]; omega
  unfold OwnF
  rw [e]
  refine ⟨by rw [LF_length, e]; omega, .inr ⟨g, l.length, _, rfl, hB, h, hn, hm, by simp [LF], ?_⟩⟩
  simp [LF, List.map_take]
theorem OwnF.nil (w : World) (B : Nat) : OwnF w B none 0 [] := World.ownsRow_nil w B _ 1
theorem OwnF.nums (h : OwnF w B A c l) : NumF w w.heap.size A c l := by
  have hc : l.length ≤ c ∧ c ≤ maxLen := by
    rcases h.2 with ⟨h1, h2⟩ | ⟨g, cap, cur, hv, _, _, h3, h4, _⟩
    · injection h1 with _ _ h1; unfold maxLen; omega
    · injection hv with _ _ h1; omega
  refine ⟨hc.1, hc.2, fun hn => ?_⟩
  obtain ⟨g, cap, hv, _, hlt⟩ := World.ownsRow.form h hn
  have hA : A = some ⟨g, 0, none⟩ := by injection hv
  subst hA
  refine ⟨_, rfl, hlt, fun k hk => World.ownsRow.cells h (g := g) rfl k _ (LF_get hk)⟩
theorem OwnF.below (h : OwnF w B A c l) (hb : Below w.heap.size w w') : OwnF w' B A c l := by
  rcases h with ⟨h1, h2⟩
  refine ⟨h1, h2.imp id fun ⟨g, cap, cur, hv, hg, hh, r⟩ => ⟨g, cap, cur, hv, hg, (hb.block g (lt_of_block hh)).trans hh, r⟩⟩
theorem OwnF.alloc_ (h : OwnF w B A c l) (o : Obj) : OwnF (w.alloc o) B A c l := World.ownsRow.alloc h o
theorem OwnF.less (h : OwnF w B A c l) (hB : B' ≤ B) : OwnF w B' A c l := by
  rcases h with ⟨h1, h2⟩
  exact ⟨h1, h2.imp id fun ⟨g, cap, cur, hv, hg, r⟩ => ⟨g, cap, cur, hv, by omega, r⟩⟩
theorem OwnF.form (h : OwnF w B A c l) (hn : 0 < l.length) : ∃ g, A = some ⟨g, 0, none⟩ ∧ B ≤ g ∧ g < w.heap.size := by
  obtain ⟨g, cap, hv, hg, hlt⟩ := World.ownsRow.form h hn
  injection hv with hA
  exact ⟨g, hA, hg, hlt⟩

end
/-- words -/
def Wd (l : List Int) : Prop := ∀ x ∈ l, 0 ≤ x ∧ x ≤ 18446744073709551615
theorem Wd.at_ {l : List Int} (h : Wd l) (k : Nat) : 0 ≤ D l k ∧ D l k ≤ 18446744073709551615 := by
  rcases Nat.lt_or_ge k l.length with hk | hk
  · rw [D_in hk]; exact h _ (List.getElem_mem _)
  · rw [D_out hk]; decide
/-- a list of floats in memory -/
def FL (w : World) (A : Option Addr) (n c : Nat) (l : List Int) : Prop := l.length = n ∧ NumF w w.heap.size A c l ∧ Wd l
section
variable {w w' : World} {A : Option Addr} {n c : Nat} {l : List Int}
theorem FL.on (h : FL w A n c l) (hb : Below w.heap.size w w') : FL w' A n c l := ⟨h.1, h.2.1.on hb (Nat.le_refl _), h.2.2⟩
theorem FL.at_ (h : FL w A n c l) {k : Nat} (hk : k < n) : ∃ ad, A = some ad ∧ ad.block < w.heap.size ∧ w.cell? (ad.add k) = some (.float .f64 (D l k).toNat) := h.2.1.at_ (by rw [h.1]; exact hk)
theorem FL.max (h : FL w A n c l) : n ≤ 9223372036854775807 := by rw [← h.1]; exact h.2.1.length
theorem FL.nil (w : World) : FL w none 0 0 [] := ⟨rfl, NumF.nil _ _, fun x hx => by cases hx⟩
theorem FL.dr (h : FL w A n c l) (hd : Dr w w') : FL w' A n c l := by
  obtain ⟨k, rfl⟩ := hd
  exact h
theorem FL.alloc (h : FL w A n c l) (o : Obj) : FL (w.alloc o) A n c l := h.on ((Below.refl _ w).alloc (Nat.le_refl _) o)
theorem fl_built {W : World} {l : List Int} (hl : Wd l) (hm : l.length ≤ 1000) : FL (W.alloc (.cells (LF l).toArray 22)) (some ⟨W.heap.size, 0, none⟩) l.length l.length l := by
  have h := (RowF.new W l).nums (B := W.heap.size + 1) (c := l.length) 0 l.length (by omega) (Nat.le_refl _) (by unfold maxLen; omega) (by omega)
  refine ⟨rfl, ?_, hl⟩
  simpa using h
theorem take_next {k : Nat} (hk : k < l.length) : l.take (k + 1) = l.take k ++ [D l k] := by
  rw [List.take_add_one, D_in hk, List.getElem?_eq_getElem hk]; rfl
end
/-- scale and sum, one float on -/
def nrmS (p : Option Nat × Option Nat) (x : Option Nat) : Option Nat × Option Nat :=
  if eqA x (some 0) then p
  else if ltA p.1 (absA x) then (absA x, aop .add (some 4607182418800017408) (aop .mul (aop .mul p.2 (aop .quo p.1 (absA x))) (aop .quo p.1 (absA x))))
  else (p.1, aop .add p.2 (aop .mul (aop .quo (absA x) p.1) (aop .quo (absA x) p.1)))
def nrmL (l : List Int) : Option Nat × Option Nat := l.foldl (fun p x => nrmS p (af x.toNat)) (some 0, some 4607182418800017408)
def nrmA (l : List Int) : Option Nat := aop .mul (nrmL l).1 (asq (nrmL l).2)
theorem nrmL_next {l : List Int} {k : Nat} (hk : k < l.length) : nrmL (l.take (k + 1)) = nrmS (nrmL (l.take k)) (af (D l k).toNat) := by
  unfold nrmL
  rw [take_next hk, List.foldl_append]
  rfl
end Go.Proofs.Ytmfikppnkjhmjaa
