/-
  Layer 7, words for memory: lists of floats, a call's own list of floats, blocks, boxes of matrices. (Of layer 5's words, by a script.)
-/
import Derived.Below
import Derived.OneCell
import Derived.Laws.OwnMore
import Derived.Laws.Rows
import Derived.Deep.AppendLies
import Derived.Deep.Draws
import Derived.OwnWalk
import Derived.Test.YtbaeabmmokgomaaProg
import Derived.Maps.AppendAt
import Derived.RegionTactic
import Derived.KernelRfl
import Derived.WalkKit
import Derived.WalkSpells
import Derived.WalkLawsBesides
import Derived.Deep.QuietTactic
import Derived.BigQuiet
import Derived.Lib.Hide
import Derived.Laws.Externs
import Derived.Outline
import Derived.Deep.RegionHeld3
import Derived.Deep.RegionWith
import Derived.WalkMore
import Derived.Test.YtbaeabmmokgomaaMJBitsA
import Derived.Deep.Cut
namespace Go.Proofs.Ytbaeabmmokgomaa
open Go.RowKit Go.Bw
set_option linter.unusedVariables false
set_option linter.unusedSimpArgs false

/-- the entry i of a list; 0, where there is none -/
def D (l : List Int) (i : Nat) : Int := l.getD i 0
theorem D_out {l : List Int} {i : Nat} (h : l.length ≤ i) : D l i = 0 := by simp [D, List.getElem?_eq_none h]
theorem D_in {l : List Int} {i : Nat} (h : i < l.length) : D l i = l[i] := by simp [D, h]
theorem D_cons_zero (x : Int) (l : List Int) : D (x :: l) 0 = x := by simp [D]
theorem D_cons_succ (x : Int) (l : List Int) (i : Nat) : D (x :: l) (i + 1) = D l i := by simp [D]
theorem D_set {l : List Int} {i : Nat} (v : Int) (j : Nat) (hi : i < l.length) : D (l.set i v) j = if j = i then v else D l j := by
  unfold D
  by_cases h : j = i
  · subst h; simp [hi]
  · rw [if_neg h, List.getD_eq_getElem?_getD, List.getD_eq_getElem?_getD, List.getElem?_set_ne (by omega)]
theorem D_take (l : List Int) (k j : Nat) : D (l.take k) j = if j < k then D l j else 0 := by
  unfold D
  rw [List.getD_eq_getElem?_getD, List.getD_eq_getElem?_getD, List.getElem?_take]
  split <;> simp
theorem D_drop (l : List Int) (k j : Nat) : D (l.drop k) j = D l (k + j) := by
  unfold D
  rw [List.getD_eq_getElem?_getD, List.getD_eq_getElem?_getD, List.getElem?_drop]
theorem D_append (l m : List Int) (j : Nat) : D (l ++ m) j = if j < l.length then D l j else D m (j - l.length) := by
  unfold D
  rw [List.getD_eq_getElem?_getD, List.getD_eq_getElem?_getD, List.getD_eq_getElem?_getD, List.getElem?_append]
  split <;> rfl
theorem add_block (a : Addr) (n : Nat) : (a.add n).block = a.block := by unfold Addr.add; split <;> rfl
theorem add_add (a : Addr) (i j : Nat) : (a.add i).add j = a.add (i + j) := by
  unfold Addr.add
  by_cases hi : i = 0 <;> by_cases hj : j = 0 <;> simp [hi, hj, Nat.add_assoc]
theorem add_at (g o k : Nat) : (⟨g, o, none⟩ : Addr).add k = ⟨g, o + k, none⟩ := by
  unfold Addr.add
  by_cases hk : k = 0 <;> simp [hk]


abbrev fV (x : Int) : Value := .float .f64 x.toNat
def LF (l : List Int) : List Value := l.map fV
theorem LF_length (l : List Int) : (LF l).length = l.length := by simp [LF]
theorem LF_get {l : List Int} {k : Nat} (h : k < l.length) : (LF l)[k]? = some (.float .f64 (D l k).toNat) := by
  simp [LF, D, h]
theorem LF_one (l : List Int) : ∀ u ∈ LF l, u.oneCell' = true := by intro u hu; unfold LF at hu; obtain ⟨x, _, rfl⟩ := List.mem_map.1 hu; rfl

/-- the slice '.slice A l.length c' reads as l, in a block below B -/
def NumF (w : World) (B : Nat) (A : Option Addr) (c : Nat) (l : List Int) : Prop :=
  l.length ≤ c ∧ c ≤ maxLen ∧ (0 < l.length → ∃ ad, A = some ad ∧ ad.block < B ∧ ∀ k, k < l.length → w.cell? (ad.add k) = some (.float .f64 (D l k).toNat))

/-- the block g is just the numbers of l -/
def RowF (w : World) (g : Nat) (l : List Int) : Prop := w.heap[g]? = some (.cells (LF l).toArray 49 (0, 0))

/-- the slice '.slice A l.length c' is the call's own (from block 'base' on) and reads as l -/
def OwnF (w : World) (base : Nat) (A : Option Addr) (c : Nat) (l : List Int) : Prop := w.ownsRow base 49 1 (.slice A l.length c) l.length (LF l)

section
variable {w w' : World} {B B' c g : Nat} {A : Option Addr} {l : List Int}

theorem NumF.nil (w : World) (B : Nat) : NumF w B none 0 [] := ⟨by simp, by unfold maxLen; omega, fun h => by simp at h⟩
theorem NumF.empty (w : World) (B : Nat) (A : Option Addr) (hc : c ≤ maxLen) : NumF w B A c [] := ⟨by simp, hc, fun h => by simp at h⟩
theorem NumF.le (h : NumF w B A c l) : l.length ≤ c := h.1
theorem NumF.max (h : NumF w B A c l) : c ≤ maxLen := h.2.1
theorem NumF.max' (h : NumF w B A c l) : c ≤ 9223372036854775807 := by have := h.2.1; unfold maxLen at this; omega
theorem NumF.at_ {k : Nat} (h : NumF w B A c l) (hk : k < l.length) : ∃ ad, A = some ad ∧ ad.block < B ∧ w.cell? (ad.add k) = some (.float .f64 (D l k).toNat) := by
  obtain ⟨ad, e, hb, hc⟩ := h.2.2 (by omega)
  exact ⟨ad, e, hb, hc k hk⟩
theorem NumF.at_some {k : Nat} {ad : Addr} (h : NumF w B (some ad) c l) (hk : k < l.length) : w.cell? (ad.add k) = some (.float .f64 (D l k).toNat) := by
  obtain ⟨ad', e, hb, hc⟩ := h.2.2 (by omega)
  injection e with e; subst e
  exact hc k hk
theorem NumF.some_ (h : NumF w B A c l) (hk : 0 < l.length) : ∃ ad, A = some ad ∧ ad.block < B := by
  obtain ⟨ad, e, hb, hc⟩ := h.2.2 (by omega)
  exact ⟨ad, e, hb⟩
theorem NumF.keep (h : NumF w B A c l) (hk : ∀ p : Addr, p.block < B → w'.cell? p = w.cell? p) : NumF w' B A c l :=
  ⟨h.1, h.2.1, fun hn => by
    obtain ⟨ad, e, hb, hc⟩ := h.2.2 hn
    exact ⟨ad, e, hb, fun k hk' => (hk _ (by rw [add_block]; exact hb)).trans (hc k hk')⟩⟩
theorem NumF.more (h : NumF w B A c l) (hB : B ≤ B') : NumF w B' A c l :=
  ⟨h.1, h.2.1, fun hn => by
    obtain ⟨ad, e, hb, hc⟩ := h.2.2 hn
    exact ⟨ad, e, by omega, hc⟩⟩
theorem NumF.below (h : NumF w B A c l) (hb : Below B w w') : NumF w' B A c l := h.keep fun _ hp => hb.cell hp
/-- what lay in the caller's memory, in the callee's world -/
theorem NumF.on (h : NumF w B A c l) (hb : Below B w w') (hB : B ≤ w.heap.size) : NumF w' w'.heap.size A c l := (h.below hb).more (by have := hb.size; omega)
theorem NumF.drew (h : NumF w B A c l) : NumF w.drew B A c l := h
theorem NumF.drewN (h : NumF w B A c l) (k : Nat) : NumF (w.drewN k) B A c l := h
theorem NumF.alloc (h : NumF w B A c l) (hB : B ≤ w.heap.size) (o : Obj) : NumF (w.alloc o) B A c l := h.keep fun p hp => World.cell?_alloc_lt w o p (by omega)
theorem NumF.setCell (h : NumF w B A c l) {p : Addr} (hB : B ≤ p.block) (u : Value) : NumF (w.setCell p u) B A c l :=
  h.keep fun q hq => World.cell?_setCell_other w p q u (fun e => by subst e; omega)
theorem NumF.grown (h : NumF w B A c l) {row : Option Nat} (hg : w.grownBy w' row) (hB : B ≤ w.heap.size) (hr : ∀ g, row = some g → B ≤ g) : NumF w' B A c l :=
  h.keep fun p hp => World.cell?_of_block (hg.block p.block (by omega) (fun e => by have := hr _ e.symm; omega))
theorem NumF.take (h : NumF w B A c l) (k : Nat) : NumF w B A c (l.take k) :=
  ⟨by rw [List.length_take]; have := h.1; omega, h.2.1, fun hn => by
    rw [List.length_take] at hn
    obtain ⟨ad, e, hb, hc⟩ := h.2.2 (by omega)
    refine ⟨ad, e, hb, fun j hj => ?_⟩
    rw [List.length_take] at hj
    rw [hc j (by omega), D_take, if_pos (by omega)]⟩
theorem NumF.length (h : NumF w B A c l) : l.length ≤ 9223372036854775807 := Nat.le_trans h.1 h.max'

theorem RowF.lt (h : RowF w g l) : g < w.heap.size := lt_of_block h
theorem RowF.cell (h : RowF w g l) {k : Nat} (hk : k < l.length) : w.cell? ⟨g, k, none⟩ = some (.float .f64 (D l k).toNat) := by
  rw [cell_of_row w g k _ _ (0, 0) h]
  simpa using LF_get hk
theorem RowF.frozen (h : RowF w g l) (k : Nat) : w.frozen? ⟨g, k, none⟩ = false := by
  unfold RowF at h
  simp [World.frozen?, h]
theorem RowF.new (w : World) (l : List Int) : RowF (w.alloc (.cells (LF l).toArray 49)) w.heap.size l := heap_alloc_new w _
theorem RowF.one (w : World) (x : Int) : RowF (w.alloc (.cells #[fV x] 49)) w.heap.size [x] := heap_alloc_new w _
theorem RowF.drew (h : RowF w g l) : RowF w.drew g l := h
theorem RowF.drewN (h : RowF w g l) (n : Nat) : RowF (w.drewN n) g l := h
theorem RowF.alloc (h : RowF w g l) (o : Obj) : RowF (w.alloc o) g l := (Below.heap_alloc w o g h.lt).trans h
theorem RowF.set_ (h : RowF w g l) (k : Nat) (v : Int) : RowF (w.setCell ⟨g, k, none⟩ (fV v)) g (l.set k v) := by
  unfold RowF at h ⊢
  simp [World.setCell, Array.getElem?_modify, h, LF, List.map_set]
theorem RowF.far (h : RowF w g l) {p : Addr} (hp : g ≠ p.block) (u : Value) : RowF (w.setCell p u) g l := (Below.heap_setCell w p u g hp).trans h
theorem RowF.below (h : RowF w g l) (hb : Below B w w') (hg : g < B) : RowF w' g l := (hb.block g hg).trans h
theorem RowF.grown (h : RowF w g l) {row : Option Nat} (hb : w.grownBy w' row) (hg : some g ≠ row) : RowF w' g l := (hb.block g h.lt hg).trans h
theorem RowF.nums (h : RowF w g l) (o n : Nat) (hn : o + n ≤ l.length) (hc : n ≤ c) (hm : c ≤ maxLen) (hB : g < B) : NumF w B (some ⟨g, o, none⟩) c ((l.drop o).take n) := by
  have e : ((l.drop o).take n).length = n := by rw [List.length_take, List.length_drop]; omega
  refine ⟨by omega, hm, fun _ => ⟨_, rfl, hB, fun k hk => ?_⟩⟩
  rw [e] at hk
  rw [add_at, h.cell (by omega), D_take, if_pos hk, D_drop]
theorem RowF.own (h : RowF w g l) (n : Nat) (hn : n ≤ l.length) (hm : l.length ≤ maxLen) (hB : B ≤ g) : OwnF w B (some ⟨g, 0, none⟩) l.length (l.take n) := by
  have e : (l.take n).length = n := by rw [List.length_take]; omega
  unfold OwnF
  rw [e]
  refine ⟨by rw [LF_length, e]; omega, .inr ⟨g, l.length, _, rfl, hB, h, hn, hm, by simp [LF], ?_⟩⟩
  simp [LF, List.map_take]
theorem OwnF.nil (w : World) (B : Nat) : OwnF w B none 0 [] := World.ownsRow_nil w B _ 1
theorem OwnF.nums (h : OwnF w B A c l) : NumF w w.heap.size A c l := by
  have hc : l.length ≤ c ∧ c ≤ maxLen := by
    rcases h.2 with ⟨h1, h2⟩ | ⟨g, cap, cur, hv, _, _, h3, h4, _⟩
    · injection h1 with _ _ h1; unfold maxLen; omega
    · injection hv with _ _ h1; omega
  refine ⟨hc.1, hc.2, fun hn => ?_⟩
  obtain ⟨g, cap, hv, _, hlt⟩ := World.ownsRow.form h hn
  have hA : A = some ⟨g, 0, none⟩ := by injection hv
  subst hA
  refine ⟨_, rfl, hlt, fun k hk => World.ownsRow.cells h (g := g) rfl k _ (LF_get hk)⟩
theorem OwnF.below (h : OwnF w B A c l) (hb : Below w.heap.size w w') : OwnF w' B A c l := by
  rcases h with ⟨h1, h2⟩
  refine ⟨h1, h2.imp id fun ⟨g, cap, cur, hv, hg, hh, r⟩ => ⟨g, cap, cur, hv, hg, (hb.block g (lt_of_block hh)).trans hh, r⟩⟩
theorem OwnF.alloc_ (h : OwnF w B A c l) (o : Obj) : OwnF (w.alloc o) B A c l := World.ownsRow.alloc h o
theorem OwnF.less (h : OwnF w B A c l) (hB : B' ≤ B) : OwnF w B' A c l := by
  rcases h with ⟨h1, h2⟩
  exact ⟨h1, h2.imp id fun ⟨g, cap, cur, hv, hg, r⟩ => ⟨g, cap, cur, hv, by omega, r⟩⟩
theorem OwnF.form (h : OwnF w B A c l) (hn : 0 < l.length) : ∃ g, A = some ⟨g, 0, none⟩ ∧ B ≤ g ∧ g < w.heap.size := by
  obtain ⟨g, cap, hv, hg, hlt⟩ := World.ownsRow.form h hn
  injection hv with hA
  exact ⟨g, hA, hg, hlt⟩

end
theorem info39F : (Try.prog.info? 49).map (fun i => (i.zero, i.size, i.bytes)) = some (some (.float .f64 0), 1, 8) := by kernel_rfl

section
variable (w : World)
theorem run_app_nilF (base : Nat) (ty : TypeId) (A : Option Addr) (c : Nat) (l : List Int) (hown : OwnF w base A c l) (c' : Nat) :
    (Builtin.append_ #[22, 22] ty #[.slice A l.length c, .slice none 0 c']).run Try.prog w = .ok (.slice A l.length c) w := by
  obtain ⟨i, hi, hz0, hz1, hz2⟩ := info_parts info39F
  rcases hown.2 with ⟨h1, h2⟩ | ⟨g, cap, cur, h1, _, _, hnc, _⟩
  · rw [h1]
    simp [Builtin.append_, run_underlying Try.underlying22, sizeOf, typeInfo, hi, Builtin.lenOf, Builtin.firstCells]
  · rw [h1]
    simp [Builtin.append_, run_underlying Try.underlying22, sizeOf, typeInfo, hi, Builtin.lenOf, Builtin.firstCells, hnc, storeCells]

theorem run_appF (base : Nat) (ty : TypeId) (A : Option Addr) (c : Nat) (l : List Int) (hown : OwnF w base A c l) (B : Nat) (A' : Option Addr) (c' : Nat) (m : List Int) (hr : NumF w B A' c' m)
    (hlen : l.length + m.length ≤ 4000000) (hbase : base ≤ w.heap.size) :
    ∃ A2 c2 w', (Builtin.append_ #[22, 22] ty #[.slice A l.length c, .slice A' m.length c']).run Try.prog w = .ok (.slice A2 (l ++ m).length c2) w' ∧ OwnF w' base A2 c2 (l ++ m) ∧
      w.grownBy w' (Value.slice A l.length c).ownBlock ∧ ((Value.slice A2 (l ++ m).length c2).ownBlock = (Value.slice A l.length c).ownBlock ∨ (Value.slice A2 (l ++ m).length c2).ownBlock = some w.heap.size) := by
  obtain ⟨i, hi, hz0, hz1, hz2⟩ := info_parts info39F
  rcases A' with _ | ad
  · have hm : m = [] := by
      rcases Nat.eq_zero_or_pos m.length with h0 | h0
      · exact List.eq_nil_of_length_eq_zero h0
      · obtain ⟨ad, h, _⟩ := hr.2.2 h0
        cases h
    subst hm
    refine ⟨A, c, w, ?_, by simpa using hown, World.grownBy.refl w _, .inl (by simp)⟩
    simpa using run_app_nilF w base ty A c l hown c'
  · have hcells : ∀ j u, (LF m)[j]? = some u → w.cell? (ad.add j) = some u := by
      intro j u hu
      rcases Nat.lt_or_ge j m.length with h | h
      · rw [LF_get h] at hu
        rw [← hu]; exact hr.at_some h
      · rw [List.getElem?_eq_none (by rw [LF_length]; exact h)] at hu; cases hu
    obtain ⟨v', w', hrun, h2, h3, _, h5⟩ := run_append_own_at (P := Try.prog) w base 22 ty 49 i (.float .f64 0) 1 8 Try.underlying22 hi hz0 hz1 hz2 rfl (by decide) _ _ _ hown ad m.length c' (LF m) (by rw [LF_length]; omega) hcells (LF_one m) (by unfold maxLen; omega) (by omega) hbase
    have h2' := h2
    obtain ⟨g, cap, hv⟩ : ∃ g cap, v' = .slice g (l ++ m).length cap := by
      rcases h2'.2 with ⟨e, h0⟩ | ⟨g, cap, cur, e, _⟩
      · exact ⟨none, 0, by rw [e, List.length_append, h0]⟩
      · exact ⟨_, cap, by rw [e, List.length_append]⟩
    subst hv
    refine ⟨g, cap, w', hrun, ?_, h3, h5⟩
    unfold OwnF
    rw [List.length_append] at h2 ⊢
    have e : LF (l ++ m) = LF l ++ LF m := by simp [LF]
    rw [e]; exact h2

theorem wp_appF {o : Oper} {a : Act} {K : Act → World → Prop} {Q : Exit → Act → World → Prop} (s x : Operand)
    (ho : o.op = .call { callee := .builtin .append, args := #[s, x], argTypes := #[22, 22] })
    (base : Nat) (A : Option Addr) (c : Nat) (l : List Int) (hs : a.eval s = .slice A l.length c) (hown : OwnF w base A c l) (B : Nat) (A' : Option Addr) (c' : Nat) (m : List Int) (hx : a.eval x = .slice A' m.length c') (hr : NumF w B A' c' m)
    (hlen : l.length + m.length ≤ 4000000) (hbase : base ≤ w.heap.size)
    (h : ∀ A2 c2 w', OwnF w' base A2 c2 (l ++ m) → w.grownBy w' (Value.slice A l.length c).ownBlock → ((Value.slice A2 (l ++ m).length c2).ownBlock = (Value.slice A l.length c).ownBlock ∨ (Value.slice A2 (l ++ m).length c2).ownBlock = some w.heap.size) → K (a.put o.dst (.slice A2 (l ++ m).length c2)) w') : o.wp Try.prog a w K Q := by
  obtain ⟨A2, c2, w', hrun, h2, h3, h4⟩ := run_appF w base o.type A c l hown B A' c' m hr hlen hbase
  unfold Oper.wp execOp
  simp only [ho, resolve, invoke, builtin, Sem.run_bind, Sem.run_pure, Result.andThen_ok, List.map_toArray, List.map_cons, List.map_nil, hs, hx, hrun]
  exact h A2 c2 w' h2 h3 h4

theorem wpList_appF {ops : Array Oper} {rest : List Oper} {o : Oper} {a : Act} {Q : Exit → Act → World → Prop} (hgd : o.guard = none) (s x : Operand)
    (ho : o.op = .call { callee := .builtin .append, args := #[s, x], argTypes := #[22, 22] })
    (base : Nat) (A : Option Addr) (c : Nat) (l : List Int) (hs : a.eval s = .slice A l.length c) (hown : OwnF w base A c l) (B : Nat) (A' : Option Addr) (c' : Nat) (m : List Int) (hx : a.eval x = .slice A' m.length c') (hr : NumF w B A' c' m)
    (hlen : l.length + m.length ≤ 4000000) (hbase : base ≤ w.heap.size)
    (h : ∀ A2 c2 w', OwnF w' base A2 c2 (l ++ m) → w.grownBy w' (Value.slice A l.length c).ownBlock → ((Value.slice A2 (l ++ m).length c2).ownBlock = (Value.slice A l.length c).ownBlock ∨ (Value.slice A2 (l ++ m).length c2).ownBlock = some w.heap.size) → wpList Try.prog ops Q rest (a.put o.dst (.slice A2 (l ++ m).length c2)) w') : wpList Try.prog ops Q (o :: rest) a w :=
  wpList_plain hgd fun _ hK => wp_appF w s x ho base A c l hs hown B A' c' m hx hr hlen hbase fun A2 c2 w' h2 h3 h4 => hK _ _ (h A2 c2 w' h2 h3 h4)

theorem step_appF {ops : Array Oper} {o : Oper} {a : Act} {K : Act → World → Prop} {Q : Exit → Act → World → Prop} {E : Prop} (hgd : o.guard = none) (s x : Operand)
    (ho : o.op = .call { callee := .builtin .append, args := #[s, x], argTypes := #[22, 22] })
    (base : Nat) (A : Option Addr) (c : Nat) (l : List Int) (hs : a.eval s = .slice A l.length c) (hown : OwnF w base A c l) (B : Nat) (A' : Option Addr) (c' : Nat) (m : List Int) (hx : a.eval x = .slice A' m.length c') (hr : NumF w B A' c' m)
    (hlen : l.length + m.length ≤ 4000000) (hbase : base ≤ w.heap.size)
    (h : ∀ A2 c2 w', OwnF w' base A2 c2 (l ++ m) → w.grownBy w' (Value.slice A l.length c).ownBlock → ((Value.slice A2 (l ++ m).length c2).ownBlock = (Value.slice A l.length c).ownBlock ∨ (Value.slice A2 (l ++ m).length c2).ownBlock = some w.heap.size) → K (a.put o.dst (.slice A2 (l ++ m).length c2)) w') :
    if Region.wanted o (yielded ops a.tmps) = true then Oper.wp Try.prog o a w K Q else E := by
  have hw : Region.wanted o (yielded ops a.tmps) = true := by simp [Region.wanted, hgd]
  rw [if_pos hw]
  exact wp_appF w s x ho base A c l hs hown B A' c' m hx hr hlen hbase h
end

/-- a new block behind an append of the call's own -/
theorem below_appF {w w0 w' : World} {B : Nat} {A : Option Addr} {c : Nat} {l : List Int} (hb : Below B w0 w) (hown : OwnF w B A c l) (hg : w.grownBy w' (Value.slice A l.length c).ownBlock) (hB : B ≤ w.heap.size) : Below B w0 w' :=
  hb.grown hg hB fun k hk => (World.ownsRow.lt hown k hk).1
/-- the block g is just these cells, and free -/
def Blk (w : World) (g : Nat) (vs : List Value) : Prop := ∃ T, w.heap[g]? = some (.cells vs.toArray T (0, 0))
section
variable {w w' : World} {g g' B : Nat} {vs : List Value}
theorem Blk.new (w : World) (vs : List Value) (T : TypeId) : Blk (w.alloc (.cells vs.toArray T)) w.heap.size vs := ⟨T, heap_alloc_new w _⟩
theorem Blk.lt (h : Blk w g vs) : g < w.heap.size := by obtain ⟨T, h⟩ := h; exact lt_of_block h
theorem Blk.below (h : Blk w g vs) (hb : Below B w w') (hg : g < B) : Blk w' g vs := by
  obtain ⟨T, h⟩ := h
  exact ⟨T, (hb.block g hg).trans h⟩
theorem Blk.on (h : Blk w g vs) (hb : Below w.heap.size w w') : Blk w' g vs := h.below hb h.lt
theorem Blk.alloc (h : Blk w g vs) (o : Obj) : Blk (w.alloc o) g vs := h.on ((Below.refl _ w).alloc (Nat.le_refl _) o)
theorem Blk.drewN (h : Blk w g vs) (n : Nat) : Blk (w.drewN n) g vs := h
theorem Blk.cell (h : Blk w g vs) (i : Nat) {v : Value} (hv : vs[i]? = some v) : w.cell? ⟨g, i, none⟩ = some v := by
  obtain ⟨T, h⟩ := h
  simp [World.cell?, h, hv]
theorem Blk.free (h : Blk w g vs) (i : Nat) : w.frozen? ⟨g, i, none⟩ = false := by
  obtain ⟨T, h⟩ := h
  simp [World.frozen?, h]
theorem Blk.set_ (h : Blk w g vs) (i : Nat) (u : Value) : Blk (w.setCell ⟨g, i, none⟩ u) g (vs.set i u) := by
  obtain ⟨T, h⟩ := h
  refine ⟨T, ?_⟩
  simp [World.setCell, Array.getElem?_modify, h]
theorem Blk.far (h : Blk w g vs) {p : Addr} (hp : g ≠ p.block) (u : Value) : Blk (w.setCell p u) g vs := by
  obtain ⟨T, h⟩ := h
  exact ⟨T, (Below.heap_setCell w p u g hp).trans h⟩
/-- none of these is a word or a float -/
def NoU (vs : List Value) : Prop := ∀ i : Nat, (∀ y, vs[i]? ≠ some (Value.int .u64 y)) ∧ ∀ y, vs[i]? ≠ some (Value.float .f64 y)
theorem Blk.notU (h : Blk w g vs) (hu : NoU vs) {p : Addr} {y : Int} (hc : w.cell? p = some (.int .u64 y)) : p.block ≠ g := by
  intro e
  obtain ⟨T, h⟩ := h
  subst e
  unfold World.cell? at hc
  rw [h] at hc
  simp only at hc
  split at hc
  · cases hc
  · exact (hu p.off).1 y (by simpa using hc)
theorem Blk.notF (h : Blk w g vs) (hu : NoU vs) {p : Addr} {y : Nat} (hc : w.cell? p = some (.float .f64 y)) : p.block ≠ g := by
  intro e
  obtain ⟨T, h⟩ := h
  subst e
  unfold World.cell? at hc
  rw [h] at hc
  simp only at hc
  split at hc
  · cases hc
  · exact (hu p.off).2 y (by simpa using hc)
theorem NumF.setB {A : Option Addr} {c B : Nat} {l : List Int} (h : NumF w B A c l) (hg : Blk w g vs) (hu : NoU vs) (i : Nat) (u : Value) : NumF (w.setCell ⟨g, i, none⟩ u) B A c l := by
  refine ⟨h.1, h.2.1, fun hn => ?_⟩
  obtain ⟨ad, e, hb, hc⟩ := h.2.2 hn
  refine ⟨ad, e, hb, fun k hk => ?_⟩
  have hne := hg.notF hu (hc k hk)
  rw [World.cell?_setCell_other _ _ _ _ (fun e2 => hne (by rw [← e2])), hc k hk]
end
/-- words -/
def Wd (l : List Int) : Prop := ∀ x ∈ l, 0 ≤ x ∧ x ≤ 18446744073709551615
theorem Wd.at_ {l : List Int} (h : Wd l) (k : Nat) : 0 ≤ D l k ∧ D l k ≤ 18446744073709551615 := by
  rcases Nat.lt_or_ge k l.length with hk | hk
  · rw [D_in hk]; exact h _ (List.getElem_mem _)
  · rw [D_out hk]; decide
/-- a list of floats in memory -/
def FL (w : World) (A : Option Addr) (n c : Nat) (l : List Int) : Prop := l.length = n ∧ NumF w w.heap.size A c l ∧ Wd l
section
variable {w w' : World} {A : Option Addr} {n c : Nat} {l : List Int}
theorem FL.on (h : FL w A n c l) (hb : Below w.heap.size w w') : FL w' A n c l := ⟨h.1, h.2.1.on hb (Nat.le_refl _), h.2.2⟩
theorem FL.at_ (h : FL w A n c l) {k : Nat} (hk : k < n) : ∃ ad, A = some ad ∧ ad.block < w.heap.size ∧ w.cell? (ad.add k) = some (.float .f64 (D l k).toNat) := h.2.1.at_ (by rw [h.1]; exact hk)
theorem FL.max (h : FL w A n c l) : n ≤ 9223372036854775807 := by rw [← h.1]; exact h.2.1.length
theorem FL.nil (w : World) : FL w none 0 0 [] := ⟨rfl, NumF.nil _ _, fun x hx => by cases hx⟩
theorem FL.drewN (h : FL w A n c l) (k : Nat) : FL (w.drewN k) A n c l := h
theorem FL.alloc (h : FL w A n c l) (o : Obj) : FL (w.alloc o) A n c l := h.on ((Below.refl _ w).alloc (Nat.le_refl _) o)
theorem FL.setB {g : Nat} {vs : List Value} (h : FL w A n c l) (hg : Blk w g vs) (hu : NoU vs) (i : Nat) (u : Value) : FL (w.setCell ⟨g, i, none⟩ u) A n c l := ⟨h.1, by simpa using h.2.1.setB hg hu i u, h.2.2⟩
end
/-- a matrix as Go has it -/
abbrev mV (r s : Int) (A : Option Addr) (n c : Nat) : Value := .agg #[.int .i64 r, .int .i64 s, .slice A n c]
/-- a block that holds a matrix -/
abbrev Mbx (w : World) (g : Nat) (r s : Int) (A : Option Addr) (n c : Nat) : Prop := Blk w g [.int .i64 r, .int .i64 s, .slice A n c]
theorem noM (r s : Int) (A : Option Addr) (n c : Nat) : NoU [.int .i64 r, .int .i64 s, .slice A n c] := by
  intro i
  rcases i with _ | _ | _ | i <;> simp
section
variable {w : World} {g : Nat} {r s : Int} {A : Option Addr} {n c : Nat}
theorem Mbx.cells (h : Mbx w g r s A n c) : w.cell? ⟨g, 0, none⟩ = some (.int .i64 r) ∧ w.cell? ⟨g, 1, none⟩ = some (.int .i64 s) ∧ w.cell? ⟨g, 2, none⟩ = some (.slice A n c) ∧ w.frozen? ⟨g, 0, none⟩ = false ∧ w.frozen? ⟨g, 1, none⟩ = false ∧ w.frozen? ⟨g, 2, none⟩ = false :=
  ⟨Blk.cell h 0 rfl, Blk.cell h 1 rfl, Blk.cell h 2 rfl, Blk.free h 0, Blk.free h 1, Blk.free h 2⟩
theorem Mbx.put (h : Mbx w g r s A n c) (r' s' : Int) (A' : Option Addr) (n' c' : Nat) :
    Mbx (((w.setCell ⟨g, 0, none⟩ (.int .i64 r')).setCell ⟨g, 1, none⟩ (.int .i64 s')).setCell ⟨g, 2, none⟩ (.slice A' n' c')) g r' s' A' n' c' :=
  ((Blk.set_ h 0 _).set_ 1 _).set_ 2 _
theorem Mbx.putD (h : Mbx w g r s A n c) (A' : Option Addr) (n' c' : Nat) : Mbx (w.setCell ⟨g, 2, none⟩ (.slice A' n' c')) g r s A' n' c' := Blk.set_ h 2 _
theorem FL.put {A2 : Option Addr} {n2 c2 : Nat} {l : List Int} (h : FL w A2 n2 c2 l) (hg : Mbx w g r s A n c) (r' s' : Int) (A' : Option Addr) (n' c' : Nat) :
    FL (((w.setCell ⟨g, 0, none⟩ (.int .i64 r')).setCell ⟨g, 1, none⟩ (.int .i64 s')).setCell ⟨g, 2, none⟩ (.slice A' n' c')) A2 n2 c2 l :=
  ((h.setB hg (noM _ _ _ _ _) 0 _).setB (Blk.set_ hg 0 _) (noM r' s A n c) 1 _).setB ((Blk.set_ hg 0 _).set_ 1 _) (noM r' s' A n c) 2 _
theorem Blk.putO {w : World} {g' : Nat} {vs : List Value} (h : Blk w g' vs) (hne : g' ≠ g) (u v r : Value) :
    Blk (((w.setCell ⟨g, 0, none⟩ u).setCell ⟨g, 1, none⟩ v).setCell ⟨g, 2, none⟩ r) g' vs := ((h.far hne _).far hne _).far hne _
end
end Go.Proofs.Ytbaeabmmokgomaa
