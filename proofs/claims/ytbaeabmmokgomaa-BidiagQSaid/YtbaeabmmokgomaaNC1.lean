/-
  Joined (by wip/tools/joinM.py) of CVwI, CVwB, CVwC, CVwD, CVwE, CVwF.
-/
import Derived.Test.YtbaeabmmokgomaaMJTdG
import Derived.Test.YtbaeabmmokgomaaMJRfJ
import Derived.Test.YtbaeabmmokgomaaMJBdB
import Derived.Test.YtbaeabmmokgomaaMJRfD
import Derived.Below
import Derived.OneCell
import Derived.Laws.OwnMore
import Derived.Laws.Rows
import Derived.Deep.AppendLies
import Derived.Deep.Draws
import Derived.OwnWalk
import Derived.Test.YtbaeabmmokgomaaProg
import Derived.Maps.AppendAt
import Derived.RegionTactic
import Derived.KernelRfl
import Derived.WalkKit
import Derived.WalkSpells
import Derived.WalkLawsBesides
import Derived.Deep.QuietTactic
import Derived.BigQuiet
import Derived.Lib.Hide
import Derived.Laws.Externs
import Derived.Outline
import Derived.Deep.RegionHeld3
import Derived.Deep.RegionWith
import Derived.WalkMore
import Derived.Deep.Cut
import Derived.Handy
import Derived.Lib.QuietBelow
import Derived.BigRegion
namespace Go.Proofs.Ytbaeabmmokgomaa
open Go.RowKit Go.Bw
set_option linter.unusedVariables false
set_option linter.unusedSimpArgs false
def LI (l : List Int) : List Value := l.map (Value.int .i64)
theorem LI_length (l : List Int) : (LI l).length = l.length := by simp [LI]
theorem LI_get {l : List Int} {k : Nat} (h : k < l.length) : (LI l)[k]? = some (.int .i64 (D l k)) := by
  simp [LI, D, h]
/-- the slice '.slice A l.length c' reads as l, in a block below B -/
def NumI (w : World) (B : Nat) (A : Option Addr) (c : Nat) (l : List Int) : Prop :=
  l.length ≤ c ∧ c ≤ maxLen ∧ (0 < l.length → ∃ ad, A = some ad ∧ ad.block < B ∧ ∀ k, k < l.length → w.cell? (ad.add k) = some (.int .i64 (D l k)))
/-- the block g is just the numbers of l -/
def RowI (w : World) (g : Nat) (l : List Int) : Prop := w.heap[g]? = some (.cells (LI l).toArray 3 (0, 0))
/-- the slice '.slice A l.length c' is the call's own (from block 'base' on) and reads as l -/
def OwnI (w : World) (base : Nat) (A : Option Addr) (c : Nat) (l : List Int) : Prop := w.ownsRow base 3 1 (.slice A l.length c) l.length (LI l)
section
variable {w w' : World} {B B' c g : Nat} {A : Option Addr} {l : List Int}

theorem NumI.nil (w : World) (B : Nat) : NumI w B none 0 [] := ⟨by simp, by unfold maxLen; omega, fun h => by simp at h⟩
theorem NumI.max (h : NumI w B A c l) : c ≤ maxLen := h.2.1
theorem NumI.max' (h : NumI w B A c l) : c ≤ 9223372036854775807 := by have := h.2.1; unfold maxLen at this; omega
theorem NumI.at_ {k : Nat} (h : NumI w B A c l) (hk : k < l.length) : ∃ ad, A = some ad ∧ ad.block < B ∧ w.cell? (ad.add k) = some (.int .i64 (D l k)) := by
  obtain ⟨ad, e, hb, hc⟩ := h.2.2 (by omega)
  exact ⟨ad, e, hb, hc k hk⟩
theorem NumI.some_ (h : NumI w B A c l) (hk : 0 < l.length) : ∃ ad, A = some ad ∧ ad.block < B := by
  obtain ⟨ad, e, hb, hc⟩ := h.2.2 (by omega)
  exact ⟨ad, e, hb⟩
theorem NumI.keep (h : NumI w B A c l) (hk : ∀ p : Addr, p.block < B → w'.cell? p = w.cell? p) : NumI w' B A c l :=
  ⟨h.1, h.2.1, fun hn => by
    obtain ⟨ad, e, hb, hc⟩ := h.2.2 hn
    exact ⟨ad, e, hb, fun k hk' => (hk _ (by rw [add_block]; exact hb)).trans (hc k hk')⟩⟩
theorem NumI.more (h : NumI w B A c l) (hB : B ≤ B') : NumI w B' A c l :=
  ⟨h.1, h.2.1, fun hn => by
    obtain ⟨ad, e, hb, hc⟩ := h.2.2 hn
    exact ⟨ad, e, by omega, hc⟩⟩
theorem NumI.below (h : NumI w B A c l) (hb : Below B w w') : NumI w' B A c l := h.keep fun _ hp => hb.cell hp
/-- what lay in the caller's memory, in the callee's world -/
theorem NumI.on (h : NumI w B A c l) (hb : Below B w w') (hB : B ≤ w.heap.size) : NumI w' w'.heap.size A c l := (h.below hb).more (by have := hb.size; omega)
theorem NumI.drew (h : NumI w B A c l) : NumI w.drew B A c l := h
theorem NumI.drewN (h : NumI w B A c l) (k : Nat) : NumI (w.drewN k) B A c l := h
theorem NumI.alloc (h : NumI w B A c l) (hB : B ≤ w.heap.size) (o : Obj) : NumI (w.alloc o) B A c l := h.keep fun p hp => World.cell?_alloc_lt w o p (by omega)
theorem NumI.setCell (h : NumI w B A c l) {p : Addr} (hB : B ≤ p.block) (u : Value) : NumI (w.setCell p u) B A c l :=
  h.keep fun q hq => World.cell?_setCell_other w p q u (fun e => by subst e; omega)
theorem NumI.grown (h : NumI w B A c l) {row : Option Nat} (hg : w.grownBy w' row) (hB : B ≤ w.heap.size) (hr : ∀ g, row = some g → B ≤ g) : NumI w' B A c l :=
  h.keep fun p hp => World.cell?_of_block (hg.block p.block (by omega) (fun e => by have := hr _ e.symm; omega))
theorem NumI.take (h : NumI w B A c l) (k : Nat) : NumI w B A c (l.take k) :=
  ⟨by rw [List.length_take]; have := h.1; omega, h.2.1, fun hn => by
    rw [List.length_take] at hn
    obtain ⟨ad, e, hb, hc⟩ := h.2.2 (by omega)
    refine ⟨ad, e, hb, fun j hj => ?_⟩
    rw [List.length_take] at hj
    rw [hc j (by omega), D_take, if_pos (by omega)]⟩
theorem NumI.length (h : NumI w B A c l) : l.length ≤ 9223372036854775807 := Nat.le_trans h.1 h.max'
theorem RowI.lt (h : RowI w g l) : g < w.heap.size := lt_of_block h
theorem RowI.cell (h : RowI w g l) {k : Nat} (hk : k < l.length) : w.cell? ⟨g, k, none⟩ = some (.int .i64 (D l k)) := by
  rw [cell_of_row w g k _ _ (0, 0) h]
  simpa using LI_get hk
theorem RowI.frozen (h : RowI w g l) (k : Nat) : w.frozen? ⟨g, k, none⟩ = false := by
  unfold RowI at h
  simp [World.frozen?, h]
theorem RowI.new (w : World) (l : List Int) : RowI (w.alloc (.cells (LI l).toArray 3)) w.heap.size l := heap_alloc_new w _
theorem RowI.one (w : World) (x : Int) : RowI (w.alloc (.cells #[.int .i64 x] 3)) w.heap.size [x] := heap_alloc_new w _
theorem RowI.drew (h : RowI w g l) : RowI w.drew g l := h
theorem RowI.drewN (h : RowI w g l) (n : Nat) : RowI (w.drewN n) g l := h
theorem RowI.alloc (h : RowI w g l) (o : Obj) : RowI (w.alloc o) g l := (Below.heap_alloc w o g h.lt).trans h
theorem RowI.set_ (h : RowI w g l) (k : Nat) (v : Int) : RowI (w.setCell ⟨g, k, none⟩ (.int .i64 v)) g (l.set k v) := by
  unfold RowI at h ⊢
  simp [World.setCell, Array.getElem?_modify, h, LI, List.map_set]
theorem RowI.far (h : RowI w g l) {p : Addr} (hp : g ≠ p.block) (u : Value) : RowI (w.setCell p u) g l := (Below.heap_setCell w p u g hp).trans h
theorem RowI.below (h : RowI w g l) (hb : Below B w w') (hg : g < B) : RowI w' g l := (hb.block g hg).trans h
theorem RowI.grown (h : RowI w g l) {row : Option Nat} (hb : w.grownBy w' row) (hg : some g ≠ row) : RowI w' g l := (hb.block g h.lt hg).trans h
theorem RowI.nums (h : RowI w g l) (o n : Nat) (hn : o + n ≤ l.length) (hc : n ≤ c) (hm : c ≤ maxLen) (hB : g < B) : NumI w B (some ⟨g, o, none⟩) c ((l.drop o).take n) := by
  have e : ((l.drop o).take n).length = n := by rw [List.length_take, List.length_drop]; omega
  refine ⟨by omega, hm, fun _ => ⟨_, rfl, hB, fun k hk => ?_⟩⟩
  rw [e] at hk
  rw [add_at, h.cell (by omega), D_take, if_pos hk, D_drop]
theorem RowI.own (h : RowI w g l) (n : Nat) (hn : n ≤ l.length) (hm : l.length ≤ maxLen) (hB : B ≤ g) : OwnI w B (some ⟨g, 0, none⟩) l.length (l.take n) := by
  have e : (l.take n).length = n := by rw [List.length_take]; omega
  unfold OwnI
  rw [e]
  refine ⟨by rw [LI_length, e]; omega, .inr ⟨g, l.length, _, rfl, hB, h, hn, hm, by simp [LI], ?_⟩⟩
  simp [LI, List.map_take]
theorem OwnI.nil (w : World) (B : Nat) : OwnI w B none 0 [] := World.ownsRow_nil w B _ 1
theorem OwnI.nums (h : OwnI w B A c l) : NumI w w.heap.size A c l := by
  have hc : l.length ≤ c ∧ c ≤ maxLen := by
    rcases h.2 with ⟨h1, h2⟩ | ⟨g, cap, cur, hv, _, _, h3, h4, _⟩
    · injection h1 with _ _ h1; unfold maxLen; omega
    · injection hv with _ _ h1; omega
  refine ⟨hc.1, hc.2, fun hn => ?_⟩
  obtain ⟨g, cap, hv, _, hlt⟩ := World.ownsRow.form h hn
  have hA : A = some ⟨g, 0, none⟩ := by injection hv
  subst hA
  refine ⟨_, rfl, hlt, fun k hk => World.ownsRow.cells h (g := g) rfl k _ (LI_get hk)⟩
theorem OwnI.below (h : OwnI w B A c l) (hb : Below w.heap.size w w') : OwnI w' B A c l := by
  rcases h with ⟨h1, h2⟩
  refine ⟨h1, h2.imp id fun ⟨g, cap, cur, hv, hg, hh, r⟩ => ⟨g, cap, cur, hv, hg, (hb.block g (lt_of_block hh)).trans hh, r⟩⟩
theorem OwnI.alloc_ (h : OwnI w B A c l) (o : Obj) : OwnI (w.alloc o) B A c l := World.ownsRow.alloc h o
theorem OwnI.less (h : OwnI w B A c l) (hB : B' ≤ B) : OwnI w B' A c l := by
  rcases h with ⟨h1, h2⟩
  exact ⟨h1, h2.imp id fun ⟨g, cap, cur, hv, hg, r⟩ => ⟨g, cap, cur, hv, by omega, r⟩⟩
theorem OwnI.form (h : OwnI w B A c l) (hn : 0 < l.length) : ∃ g, A = some ⟨g, 0, none⟩ ∧ B ≤ g ∧ g < w.heap.size := by
  obtain ⟨g, cap, hv, hg, hlt⟩ := World.ownsRow.form h hn
  injection hv with hA
  exact ⟨g, hA, hg, hlt⟩
end
section
variable (w : World)
end

end Go.Proofs.Ytbaeabmmokgomaa
namespace Go.Proofs.Ytbaeabmmokgomaa
open Go.RowKit Go.Bw
set_option linter.unusedVariables false
set_option linter.unusedSimpArgs false
theorem ret_boolC {a b : Bool} (h : a = b) : Ending.returned (.bool a) = .returned (.bool b) := by rw [h]
theorem below_step {w w' : World} {o : Obj} (h : Below (w.alloc o).heap.size (w.alloc o) w') : Below w.heap.size w w' :=
  ((Below.refl _ w).alloc (Nat.le_refl _) o).trans (h.mono (by simp))
theorem below_drewNC {B : Nat} {w w' : World} (h : Below B w w') (k : Nat) : Below B w (w'.drewN k) := ⟨h.os, h.tape, h.output, h.size, h.block⟩
theorem set_grown {w w' : World} (h : Below w.heap.size w w') {g : Nat} (hg : g < w.heap.size) (k : Nat) (u : Value) : w.grownBy (w'.setCell ⟨g, k, none⟩ u) (some g) :=
  ⟨h.os, h.tape, h.output, by rw [World.size_setCell]; exact h.size, fun b hb hne => by
    rw [Below.heap_setCell w' ⟨g, k, none⟩ u b (fun e => hne (by rw [e]))]
    exact h.block b hb⟩
theorem setb_grownC {w w' : World} {g : Nat} (h : w.grownBy w' (some g)) (k : Nat) (u : Value) : w.grownBy (w'.setCell ⟨g, k, none⟩ u) (some g) :=
  ⟨h.os, h.tape, h.output, by rw [World.size_setCell]; exact h.size, fun b hb hne => by
    rw [Below.heap_setCell w' ⟨g, k, none⟩ u b (fun e => hne (by rw [e]))]
    exact h.block b hb hne⟩
theorem drew_grown {w w' : World} {row : Option Nat} (h : w.grownBy w' row) : w.grownBy w'.drew row := ⟨h.os, h.tape, h.output, h.size, h.block⟩
/-- a view as Go has it: where its store is; the first place; the steps down and right; rows and columns -/
structure Vu where
  p : Option Addr
  f0 : Int
  f1 : Int
  d0 : Int
  d1 : Int
  r0 : Int
  r1 : Int
  R : Int
  C : Int
abbrev Vu.zero : Vu := ⟨none, 0, 0, 0, 0, 0, 0, 0, 0⟩
abbrev Vu.L (v : Vu) : List Value := [.pointer v.p, .int .i64 v.f0, .int .i64 v.f1, .int .i64 v.d0, .int .i64 v.d1, .int .i64 v.r0, .int .i64 v.r1, .int .i64 v.R, .int .i64 v.C]
abbrev Vu.V (v : Vu) : Value := .agg #[.pointer v.p, .int .i64 v.f0, .int .i64 v.f1, .int .i64 v.d0, .int .i64 v.d1, .int .i64 v.r0, .int .i64 v.r1, .int .i64 v.R, .int .i64 v.C]
/-- a block that holds a view -/
abbrev Vbx (w : World) (g : Nat) (v : Vu) : Prop := Blk w g v.L
theorem Vbx.cells {w : World} {g : Nat} {v : Vu} (h : Vbx w g v) :
    w.cell? ⟨g, 0, none⟩ = some (.pointer v.p) ∧ w.cell? ⟨g, 1, none⟩ = some (.int .i64 v.f0) ∧ w.cell? ⟨g, 2, none⟩ = some (.int .i64 v.f1) ∧ w.cell? ⟨g, 3, none⟩ = some (.int .i64 v.d0) ∧ w.cell? ⟨g, 4, none⟩ = some (.int .i64 v.d1) ∧ w.cell? ⟨g, 5, none⟩ = some (.int .i64 v.r0) ∧ w.cell? ⟨g, 6, none⟩ = some (.int .i64 v.r1) ∧ w.cell? ⟨g, 7, none⟩ = some (.int .i64 v.R) ∧ w.cell? ⟨g, 8, none⟩ = some (.int .i64 v.C) :=
  ⟨Blk.cell h 0 rfl, Blk.cell h 1 rfl, Blk.cell h 2 rfl, Blk.cell h 3 rfl, Blk.cell h 4 rfl, Blk.cell h 5 rfl, Blk.cell h 6 rfl, Blk.cell h 7 rfl, Blk.cell h 8 rfl⟩
theorem Vbx.free {w : World} {g : Nat} {v : Vu} (h : Vbx w g v) :
    w.frozen? ⟨g, 0, none⟩ = false ∧ w.frozen? ⟨g, 1, none⟩ = false ∧ w.frozen? ⟨g, 2, none⟩ = false ∧ w.frozen? ⟨g, 3, none⟩ = false ∧ w.frozen? ⟨g, 4, none⟩ = false ∧ w.frozen? ⟨g, 5, none⟩ = false ∧ w.frozen? ⟨g, 6, none⟩ = false ∧ w.frozen? ⟨g, 7, none⟩ = false ∧ w.frozen? ⟨g, 8, none⟩ = false :=
  ⟨Blk.free h 0, Blk.free h 1, Blk.free h 2, Blk.free h 3, Blk.free h 4, Blk.free h 5, Blk.free h 6, Blk.free h 7, Blk.free h 8⟩
/-- where the place i, j lies -/
def Vu.p0 (v : Vu) (i j : Int) : Int := v.f0 + i * v.d0 + j * v.r0
def Vu.p1 (v : Vu) (i j : Int) : Int := v.f1 + i * v.d1 + j * v.r1
/-- the numbers of a view are small -/
structure Bd (v : Vu) (K : Int) : Prop where
  f0 : 0 ≤ v.f0 ∧ v.f0 ≤ 4096 * K
  f1 : 0 ≤ v.f1 ∧ v.f1 ≤ 4096 * K
  d0 : 0 ≤ v.d0 ∧ v.d0 ≤ K
  d1 : 0 ≤ v.d1 ∧ v.d1 ≤ K
  r0 : 0 ≤ v.r0 ∧ v.r0 ≤ K
  r1 : 0 ≤ v.r1 ∧ v.r1 ≤ K
  R : 0 ≤ v.R ∧ v.R ≤ 512
  C : 0 ≤ v.C ∧ v.C ≤ 512
  K : 1 ≤ K ∧ K ≤ 1099511627776
theorem prod_bd {i d K : Int} (h0 : 0 ≤ i) (h1 : i ≤ 512) (d0 : 0 ≤ d) (d1 : d ≤ K) : 0 ≤ i * d ∧ i * d ≤ 512 * K :=
  ⟨Int.mul_nonneg h0 d0, Int.mul_le_mul h1 d1 d0 (by omega)⟩
section
variable {w : World} {v : Vu} {K : Int}
set_option maxHeartbeats 1000000 in
theorem none_any (v : Vu) (w : World) : Calls Try.prog 90 #[v.V] w (Ans w (.bool (v.p == none))) := by
  have DB := Blk.new w v.L 57
  obtain ⟨p, f0, f1, d0, d1, r0, r1, R, C⟩ := v
  obtain ⟨c0, c1, c2, c3, c4, c5, c6, c7, c8⟩ := Vbx.cells DB
  clear DB
  go_enter Try.func90, Try.ntmps90
  go_wp2_with fail
  go_ret
  exact ⟨by cases p <;> rfl, by go_grown⟩
/-- is the place i, j one of it? -/
def Vu.has (v : Vu) (i j : Int) : Bool := decide (0 ≤ i ∧ i < v.R ∧ 0 ≤ j ∧ j < v.C)
set_option maxHeartbeats 1000000 in
theorem has_any (v : Vu) (i j : Int) (w : World) : Calls Try.prog 91 #[v.V, .int .i64 i, .int .i64 j] w (Ans w (.bool (v.has i j))) := by
  have DB := Blk.new w v.L 57
  obtain ⟨B, hB⟩ : ∃ B, v.has i j = B := ⟨_, rfl⟩
  have HB := Lib.hid hB
  rw [hB]
  clear hB
  obtain ⟨p, f0, f1, d0, d1, r0, r1, R, C⟩ := v
  have close : ∀ b : Bool, b = decide (0 ≤ i ∧ i < R ∧ 0 ≤ j ∧ j < C) → b = B := fun b h => by rw [h, ← HB.out]; rfl
  have CL := Lib.hid close
  clear close HB
  obtain ⟨c0, c1, c2, c3, c4, c5, c6, c7, c8⟩ := Vbx.cells DB
  clear DB
  by_cases h1 : 0 ≤ i
  · by_cases h2 : i < R
    · by_cases h3 : 0 ≤ j
      · go_enter Try.func91, Try.ntmps91
        go_wp2_with fail
        go_ret
        exact ⟨ret_boolC (CL.out _ (by simp [h1, h2, h3])), by go_grown⟩
      · go_enter Try.func91, Try.ntmps91
        go_wp2_with fail
        go_ret
        exact ⟨ret_boolC (CL.out _ (by simp; omega)), by go_grown⟩
    · go_enter Try.func91, Try.ntmps91
      go_wp2_with fail
      go_ret
      exact ⟨ret_boolC (CL.out _ (by simp; omega)), by go_grown⟩
  · go_enter Try.func91, Try.ntmps91
    go_wp2_with fail
    go_ret
    exact ⟨ret_boolC (CL.out _ (by simp; omega)), by go_grown⟩
set_option maxHeartbeats 1000000 in
theorem place_any (hv : Bd v K) {i j : Int} (i0 : 0 ≤ i) (i1 : i ≤ 512) (j0 : 0 ≤ j) (j1 : j ≤ 512) (w : World) :
    Calls Try.prog 89 #[v.V, .int .i64 i, .int .i64 j] w (Ans w (.agg #[.int .i64 (v.p0 i j), .int .i64 (v.p1 i j)])) := by
  have DB := (Blk.new w v.L 57).alloc (.cells #[.int .i64 0, .int .i64 0] 55)
  have a1 := prod_bd i0 i1 hv.d0.1 hv.d0.2
  have a2 := prod_bd j0 j1 hv.r0.1 hv.r0.2
  have a3 := prod_bd i0 i1 hv.d1.1 hv.d1.2
  have a4 := prod_bd j0 j1 hv.r1.1 hv.r1.2
  have b1 := hv.f0
  have b2 := hv.f1
  have b3 := hv.K
  have HP : Hid (v.p0 i j = v.f0 + i * v.d0 + j * v.r0 ∧ v.p1 i j = v.f1 + i * v.d1 + j * v.r1) := Lib.hid ⟨rfl, rfl⟩
  obtain ⟨P0, hP0⟩ : ∃ P, v.p0 i j = P := ⟨_, rfl⟩
  obtain ⟨P1, hP1⟩ : ∃ P, v.p1 i j = P := ⟨_, rfl⟩
  rw [hP0, hP1]
  rw [hP0, hP1] at HP
  clear hv hP0 hP1
  obtain ⟨p, f0, f1, d0, d1, r0, r1, R, C⟩ := v
  obtain ⟨X1, hX1⟩ : ∃ X, i * d0 = X := ⟨_, rfl⟩
  obtain ⟨X2, hX2⟩ : ∃ X, j * r0 = X := ⟨_, rfl⟩
  obtain ⟨X3, hX3⟩ : ∃ X, i * d1 = X := ⟨_, rfl⟩
  obtain ⟨X4, hX4⟩ : ∃ X, j * r1 = X := ⟨_, rfl⟩
  simp only at a1 a2 a3 a4 b1 b2
  simp only [hX1, hX2, hX3, hX4] at a1 a2 a3 a4 HP
  obtain ⟨c0, c1, c2, c3, c4, c5, c6, c7, c8⟩ := Vbx.cells DB
  clear DB
  go_enter Try.func89, Try.ntmps89
  go_wp2_with fail
  refine bodyPost_ret (v := .agg #[.int .i64 (f0 + X1 + X2), .int .i64 (f1 + X3 + X4)]) (by simp [results, Try.results89, go_sem]) rfl ?_
  exact ⟨by rw [HP.out.1, HP.out.2], by go_grown⟩
set_option maxHeartbeats 1000000 in
theorem along_any (v : Vu) (i : Int) (w : World) : Calls Try.prog 65 #[v.V, .int .i64 i] w (Ans w (.tuple #[.int .i64 (if v.C = 1 then i else 0), .int .i64 (if v.C = 1 then 0 else i)])) := by
  obtain ⟨p, f0, f1, d0, d1, r0, r1, R, C⟩ := v
  by_cases h : C = 1
  · subst h
    go_enter Try.func65, Try.ntmps65
    go_wp2_with fail
    go_ret2
    exact ⟨by simp, by go_grown⟩
  · have hb : (C == 1) = false := by simp [h]
    go_enter Try.func65, Try.ntmps65
    go_wp2_with fail
    go_ret2
    exact ⟨by simp [h], by go_grown⟩
/-- is it a vector? -/
def Vu.vec (v : Vu) : Bool := v.R == 1 || v.C == 1 || v.R == 0 && v.C == 0 && !(v.p == none)
set_option maxHeartbeats 1000000 in
theorem Vector_any (v : Vu) (w : World) : Calls Try.prog 63 #[v.V] w (Ans w (.bool v.vec)) := by
  obtain ⟨B, hB⟩ : ∃ B, v.vec = B := ⟨_, rfl⟩
  have HB := Lib.hid hB
  rw [hB]
  clear hB
  obtain ⟨p, f0, f1, d0, d1, r0, r1, R, C⟩ := v
  have close : ∀ b : Bool, b = (R == 1 || C == 1 || R == 0 && C == 0 && !(p == none)) → b = B := fun b h => by rw [h, ← HB.out]; rfl
  have CL := Lib.hid close
  clear close HB
  cases h1 : (R == 1)
  · cases h2 : (C == 1)
    · cases h3 : (R == 0)
      · go_enter Try.func63, Try.ntmps63
        go_wp2_with fail
        go_ret
        exact ⟨ret_boolC (CL.out _ (by simp [h1, h2, h3])), by go_grown⟩
      · cases h4 : (C == 0)
        · go_enter Try.func63, Try.ntmps63
          go_wp2_with fail
          go_ret
          exact ⟨ret_boolC (CL.out _ (by simp [h1, h2, h3, h4])), by go_grown⟩
        · have pn := none_any ⟨p, f0, f1, d0, d1, r0, r1, R, C⟩
          go_enter Try.func63, Try.ntmps63
          go_wp2_with fail
          with_reducible refine (pn _).mono ?_
          rintro e w1 ⟨rfl, hb⟩
          go_wp2_with fail
          go_ret
          exact ⟨ret_boolC (CL.out _ (by simp [h1, h2, h3, h4])), below_step hb⟩
    · go_enter Try.func63, Try.ntmps63
      go_wp2_with fail
      go_ret
      exact ⟨ret_boolC (CL.out _ (by simp [h1, h2])), by go_grown⟩
  · go_enter Try.func63, Try.ntmps63
    go_wp2_with fail
    go_ret
    exact ⟨ret_boolC (CL.out _ (by simp [h1])), by go_grown⟩
def Vu.len (v : Vu) : Int := if v.vec then v.R * v.C else 0
end
end Go.Proofs.Ytbaeabmmokgomaa
namespace Go.Proofs.Ytbaeabmmokgomaa
open Go.RowKit Go.Bw
set_option linter.unusedVariables false
set_option linter.unusedSimpArgs false
/-- the block s is a store of c columns, whose floats are l: in the block g, from B on -/
structure St (w : World) (B s g cap c : Nat) (l : List Int) : Prop where
  box : Blk w s [.int .i64 c, .slice (some ⟨g, 0, none⟩) l.length cap]
  own : OwnF w B (some ⟨g, 0, none⟩) cap l
  ne : g ≠ s
  wd : Wd l
  lo : B ≤ s
  len : l.length ≤ 262144
  col : c ≤ 512
section
variable {w w' : World} {B s g cap c : Nat} {A : Option Addr} {l : List Int}
theorem St.on (h : St w B s g cap c l) (hb : Below w.heap.size w w') : St w' B s g cap c l := ⟨h.box.on hb, h.own.below hb, h.ne, h.wd, h.lo, h.len, h.col⟩
theorem St.lt (h : St w B s g cap c l) : s < w.heap.size := h.box.lt
theorem St.at_ (h : St w B s g cap c l) {k : Nat} (hk : k < l.length) : w.cell? ⟨g, k, none⟩ = some (.float .f64 (D l k).toNat) ∧ w.frozen? ⟨g, k, none⟩ = false := by
  obtain ⟨g', e, h1, h2⟩ := h.own.at_ hk
  cases e
  exact ⟨h1, h2⟩
theorem St.gt (h : St w B s g cap c l) : B ≤ g ∧ g < w.heap.size := OwnF.gt h.own rfl
theorem St.set_ (h : St w B s g cap c l) {x : Int} (x0 : 0 ≤ x) (x1 : x ≤ 18446744073709551615) (k : Nat) : St (w.setCell ⟨g, k, none⟩ (fV x)) B s g cap c (l.set k x) :=
  ⟨by rw [List.length_set]; exact h.box.far (p := ⟨g, k, none⟩) (fun e => h.ne e.symm) _, h.own.set_ k x, h.ne, wd_set h.wd x0 x1 k, h.lo, by rw [List.length_set]; exact h.len, h.col⟩
end

section
variable {w : World} {v : Vu} {K : Int} {B s g cap c : Nat} {l : List Int}
/-- the number of the place i, j in a store of c columns -/
def Vu.ix (v : Vu) (c : Nat) (i j : Int) : Int := v.p0 i j * c + v.p1 i j
theorem Bd.p (hv : Bd v K) {i j : Int} (i0 : 0 ≤ i) (i1 : i ≤ 512) (j0 : 0 ≤ j) (j1 : j ≤ 512) : (0 ≤ v.p0 i j ∧ v.p0 i j ≤ 5120 * K) ∧ 0 ≤ v.p1 i j ∧ v.p1 i j ≤ 5120 * K := by
  have a1 := prod_bd i0 i1 hv.d0.1 hv.d0.2
  have a2 := prod_bd j0 j1 hv.r0.1 hv.r0.2
  have a3 := prod_bd i0 i1 hv.d1.1 hv.d1.2
  have a4 := prod_bd j0 j1 hv.r1.1 hv.r1.2
  have b1 := hv.f0
  have b2 := hv.f1
  unfold Vu.p0 Vu.p1
  omega
set_option maxHeartbeats 2000000 in
theorem cell_any (hv : Bd v K) (h : St w B s g cap c l) (hp : v.p = some ⟨s, 0, none⟩) {i j : Int} (i0 : 0 ≤ i) (i1 : i ≤ 512) (j0 : 0 ≤ j) (j1 : j ≤ 512) {k : Nat} (hk : v.ix c i j = k) (hl : k < l.length) :
    Calls Try.prog 92 #[v.V, .int .i64 i, .int .i64 j] w (Ans w (.pointer (some ⟨g, k, none⟩))) := by
  have pp := place_any hv i0 i1 j0 j1
  obtain ⟨⟨a0, a1⟩, b0, b1⟩ := hv.p i0 i1 j0 j1
  unfold Vu.ix at hk
  obtain ⟨P0, hP0⟩ : ∃ P, v.p0 i j = P := ⟨_, rfl⟩
  obtain ⟨P1, hP1⟩ : ∃ P, v.p1 i j = P := ⟨_, rfl⟩
  rw [hP0, hP1] at hk pp
  rw [hP0] at a0
  rw [hP1] at b0
  have hk0 := Lib.hid hv.K
  clear hP0 hP1 a1 b1 hv
  obtain ⟨hc, hf⟩ := h.at_ hl
  have hn := h.len
  have hc0 : 0 ≤ P0 * (c : Int) := Int.mul_nonneg a0 (by omega)
  obtain ⟨X, hX⟩ : ∃ X, P0 * (c : Int) = X := ⟨_, rfl⟩
  rw [hX] at hk hc0
  have DB := Blk.new w v.L 57
  have hs1 := h.on ((Below.refl _ w).alloc (Nat.le_refl _) (.cells v.L.toArray 57))
  have bw : Below w.heap.size w (w.alloc (.cells v.L.toArray 57)) := by go_grown
  obtain ⟨p, f0, f1, d0, d1, r0, r1, R, C⟩ := v
  obtain rfl : p = some ⟨s, 0, none⟩ := hp
  clear h hc hf
  go_enter Try.func92, Try.ntmps92
  go_wp2_with fail
  with_reducible refine (pp _).mono ?_
  rintro e w1 ⟨rfl, hb⟩
  replace DB := (DB.on hb).alloc (.cells #[.int .i64 P0, .int .i64 P1] 55)
  have hs2 := (hs1.on hb).on ((Below.refl _ w1).alloc (Nat.le_refl _) (.cells #[.int .i64 P0, .int .i64 P1] 55))
  have DC := Blk.new w1 [.int .i64 P0, .int .i64 P1] 55
  have q0 := Blk.cell DC 0 rfl
  have q1 := Blk.cell DC 1 rfl
  have bz : Below w.heap.size w (w1.alloc (.cells #[.int .i64 P0, .int .i64 P1] 55)) := (bw.trans (hb.mono (by simp))).alloc (by have := hb.size; simp at this; omega) _
  clear hs1 bw pp hb
  go_upto_region 2 with fail
  generalize w1.alloc (.cells #[.int .i64 P0, .int .i64 P1] 55) = W at DB hs2 DC q0 q1 bz ⊢
  obtain ⟨c0, c1, c2, c3, c4, c5, c6, c7, c8⟩ := Vbx.cells DB
  have s0 := Blk.cell hs2.box 0 rfl
  have s1 := Blk.cell hs2.box 1 rfl
  have k0 : (0 : Int) ≤ k := by omega
  have k1 : (k : Int) < l.length := by omega
  clear c1 c2 c3 c4 c5 c6 c7 c8 DB DC hs2
  go_quiet (fail)
  go_wp2_with fail
  go_ret
  exact ⟨rfl, below_drewNC bz _⟩
/-- all places of a view lie in its store -/
def Ins (v : Vu) (c n : Nat) : Prop := ∀ i j : Int, v.has i j = true → ∃ k : Nat, v.ix c i j = k ∧ k < n ∧ v.p1 i j < c
/-- a view of the store s, or none -/
structure Vk (v : Vu) (s c n : Nat) (K : Int) : Prop where
  bd : Bd v K
  p : v = Vu.zero ∨ v.p = some ⟨s, 0, none⟩
  ins : Ins v c n
/-- the float at i, j; 0, if there is none -/
def Vu.at_ (v : Vu) (c : Nat) (l : List Int) (i j : Int) : Int := if v.has i j then D l (v.ix c i j).toNat else 0
theorem Vu.has_zero (i j : Int) : Vu.zero.has i j = false := by unfold Vu.has Vu.zero; simp
theorem has_bd {v : Vu} {i j : Int} (hb : Bd v K) (h : v.has i j = true) : (0 ≤ i ∧ i ≤ 512) ∧ 0 ≤ j ∧ j ≤ 512 := by
  unfold Vu.has at h
  have h := of_decide_eq_true h
  have h1 := hb.R
  have h2 := hb.C
  omega
set_option maxHeartbeats 1000000 in
theorem At_out {i j : Int} (hh : v.has i j = false) (w : World) : Calls Try.prog 64 #[v.V, .int .i64 i, .int .i64 j] w (Ans w (.float .f64 0)) := by
  have ph := has_any v i j
  rw [hh] at ph
  clear hh
  obtain ⟨p, f0, f1, d0, d1, r0, r1, R, C⟩ := v
  go_enter Try.func64, Try.ntmps64
  go_wp2_with fail
  with_reducible refine (ph _).mono ?_
  rintro e w1 ⟨rfl, hb⟩
  go_wp2_with fail
  go_ret
  exact ⟨rfl, below_step hb⟩
set_option maxHeartbeats 1000000 in
theorem At_any (h : St w B s g cap c l) (hv : Vk v s c l.length K) (i j : Int) :
    Calls Try.prog 64 #[v.V, .int .i64 i, .int .i64 j] w (Ans w (.float .f64 (v.at_ c l i j).toNat)) := by
  have ph := has_any v i j
  cases hh : v.has i j
  · have e : v.at_ c l i j = 0 := by unfold Vu.at_; rw [hh]; rfl
    rw [e]
    exact At_out hh w
  · obtain ⟨k, hk, hl, _⟩ := hv.ins i j hh
    have hz : v.p = some ⟨s, 0, none⟩ := by
      rcases hv.p with rfl | h
      · rw [Vu.has_zero] at hh; cases hh
      · exact h
    obtain ⟨⟨i0, i1⟩, j0, j1⟩ := has_bd hv.bd hh
    have pc := fun W (h : St W B s g cap c l) => cell_any (w := W) hv.bd h hz i0 i1 j0 j1 hk hl
    have e : v.at_ c l i j = D l k := by unfold Vu.at_; rw [hh, hk]; rfl
    rw [hh] at ph
    rw [e]
    clear e hh hv hz i0 i1 j0 j1 hk
    have DB := Blk.new w v.L 57
    have hs1 := h.on ((Below.refl _ w).alloc (Nat.le_refl _) (.cells v.L.toArray 57))
    have hn := hs1.len
    obtain ⟨p, f0, f1, d0, d1, r0, r1, R, C⟩ := v
    go_enter Try.func64, Try.ntmps64
    go_wp2_with fail
    with_reducible refine (ph _).mono ?_
    rintro e w1 ⟨rfl, hb⟩
    replace DB := DB.on hb
    replace hs1 := hs1.on hb
    obtain ⟨c0, c1, c2, c3, c4, c5, c6, c7, c8⟩ := Vbx.cells DB
    go_wp2_with fail
    with_reducible refine (pc _ hs1).mono ?_
    rintro e w2 ⟨rfl, hb2⟩
    replace hs1 := hs1.on hb2
    obtain ⟨hc, hf⟩ := hs1.at_ hl
    go_wp2_with fail
    go_ret
    exact ⟨rfl, below_step (hb.trans (hb2.mono hb.size))⟩
theorem Vk.none_ {v : Vu} {s c n : Nat} {K : Int} (hv : Vk v s c n K) (h : v.p = none) : v = Vu.zero := by
  rcases hv.p with e | e
  · exact e
  · rw [e] at h; cases h
end
end Go.Proofs.Ytbaeabmmokgomaa
namespace Go.Proofs.Ytbaeabmmokgomaa
open Go.RowKit Go.Bw Go.Sort
set_option linter.unusedVariables false
set_option linter.unusedSimpArgs false
attribute [local go_sem] run_store_float
theorem mixed : Try.prog.follows .mixedOrders = true := by kernel_rfl
section
variable {w : World} {v : Vu} {K : Int} {B s g cap c : Nat} {l : List Int}
/-- the row and the column of a vector's place -/
def Vu.ai (v : Vu) (i : Int) : Int := if v.C = 1 then i else 0
def Vu.aj (v : Vu) (i : Int) : Int := if v.C = 1 then 0 else i
/-- a vector's float -/
def Vu.get (v : Vu) (c : Nat) (l : List Int) (i : Int) : Int := if v.vec then v.at_ c l (v.ai i) (v.aj i) else 0
set_option maxHeartbeats 1000000 in
theorem Get_any (h : St w B s g cap c l) (hv : Vk v s c l.length K) (i : Int) :
    Calls Try.prog 33 #[v.V, .int .i64 i] w (Ans w (.float .f64 (v.get c l i).toNat)) := by
  have ph := Vector_any v
  cases hh : v.vec
  · have e : v.get c l i = 0 := by unfold Vu.get; rw [hh]; rfl
    rw [hh] at ph
    rw [e]
    clear e hh hv
    obtain ⟨p, f0, f1, d0, d1, r0, r1, R, C⟩ := v
    go_enter Try.func33, Try.ntmps33
    go_wp2_with fail
    with_reducible refine (ph _).mono ?_
    rintro e w1 ⟨rfl, hb⟩
    go_wp2_with fail
    go_ret
    exact ⟨rfl, below_step hb⟩
  · have e : v.get c l i = v.at_ c l (v.ai i) (v.aj i) := by unfold Vu.get; rw [hh]; rfl
    rw [hh] at ph
    rw [e]
    clear e hh
    have pa : ∀ W, Calls Try.prog 65 #[v.V, .int .i64 i] W (Ans W (.tuple #[.int .i64 (v.ai i), .int .i64 (v.aj i)])) := fun W => along_any v i W
    obtain ⟨I, hI⟩ : ∃ I, v.ai i = I := ⟨_, rfl⟩
    obtain ⟨J, hJ⟩ : ∃ J, v.aj i = J := ⟨_, rfl⟩
    rw [hI, hJ] at pa ⊢
    clear hI hJ
    have pt := fun W (h : St W B s g cap c l) => At_any (w := W) h hv I J
    obtain ⟨X, hX⟩ : ∃ X, v.at_ c l I J = X := ⟨_, rfl⟩
    rw [hX] at pt ⊢
    clear hX hv
    have DB := Blk.new w v.L 57
    have hs1 := h.on ((Below.refl _ w).alloc (Nat.le_refl _) (.cells v.L.toArray 57))
    clear h
    obtain ⟨p, f0, f1, d0, d1, r0, r1, R, C⟩ := v
    go_enter Try.func33, Try.ntmps33
    go_wp2_with fail
    with_reducible refine (ph _).mono ?_
    rintro e w1 ⟨rfl, hb⟩
    replace DB := DB.on hb
    replace hs1 := hs1.on hb
    go_wp2_with fail
    obtain ⟨c0, c1, c2, c3, c4, c5, c6, c7, c8⟩ := Vbx.cells DB
    have k0 := cell_regrown c0
    have k1 := cell_regrown c1
    have k2 := cell_regrown c2
    have k3 := cell_regrown c3
    have k4 := cell_regrown c4
    have k5 := cell_regrown c5
    have k6 := cell_regrown c6
    have k7 := cell_regrown c7
    have k8 := cell_regrown c8
    have qA := fun d os => Calls.regrown_of (w := w1) (d := d) (os := os) (pa _)
    have qB := fun d os => Calls.regrown_of (w := w1) (d := d) (os := os) (pt _ (hs1.on (below_regrown w1 d os)))
    refine wp_region_quiet_below mixed (by kernel_rfl) ?_
    repeat (quiet_step (first | (with_reducible exact qA _ _) | (with_reducible exact qB _ _)))
    refine wpQuiet_nil ?_
    intro _ hw'
    obtain ⟨⟨dq, osq⟩, hw''⟩ := hw'
    subst hw''
    have hb2 := below_regrown w1 dq osq
    generalize grow (redrawn w1 dq) osq = w2 at hb2 ⊢
    go_wp2_with fail
    go_ret
    exact ⟨rfl, below_step (hb.trans (hb2.mono hb.size))⟩
/-- what Set answers -/
def Vu.setE (v : Vu) (i j : Int) : Int := if v.p == none then 1 else if v.has i j then 0 else 2
/-- and the floats behind it -/
def Vu.setL (v : Vu) (c : Nat) (l : List Int) (i j x : Int) : List Int := if v.has i j then l.set (v.ix c i j).toNat x else l
/-- the call answers code and writes the store -/
def Wrote (w : World) (B s g cap c : Nat) (code : Int) (l : List Int) (e : Ending) (w' : World) : Prop := e = .returned (.int .i64 code) ∧ St w' B s g cap c l ∧ w.grownBy w' (some g)
end
end Go.Proofs.Ytbaeabmmokgomaa
namespace Go.Proofs.Ytbaeabmmokgomaa
open Go.RowKit Go.Bw Go.Sort
set_option linter.unusedVariables false
set_option linter.unusedSimpArgs false
attribute [local go_sem] run_store_float

section
variable {w : World} {v : Vu} {K : Int} {B s g cap c : Nat} {l : List Int}
def Vu.T (v : Vu) : Vu := ⟨v.p, v.f0, v.f1, v.r0, v.r1, v.d0, v.d1, v.C, v.R⟩
/-- a part -/
def Vu.part (v : Vu) (i j r n : Int) : Vu := ⟨v.p, v.p0 i j, v.p1 i j, v.d0, v.d1, v.r0, v.r1, r, n⟩
set_option maxHeartbeats 2000000 in
theorem Part1_any (hv : Bd v K) {b b1 a2 a3 a4 a5 : Nat} {i j r n : Int} (i0 : 0 ≤ i) (i1 : i ≤ 512) (j0 : 0 ≤ j) (j1 : j ≤ 512) (h : Vbx w b v) (h1 : Vbx w b1 v) (hne : b1 ≠ b)
    (h2 : Blk w a2 [.int .i64 i]) (h3 : Blk w a3 [.int .i64 j]) (h4 : Blk w a4 [.int .i64 r]) (h5 : Blk w a5 [.int .i64 n]) (n4 : a4 ≠ b) (n5 : a5 ≠ b) :
    Calls Try.prog 88 #[.pointer (some ⟨b, 0, none⟩), .pointer (some ⟨b1, 0, none⟩), .pointer (some ⟨a2, 0, none⟩), .pointer (some ⟨a3, 0, none⟩), .pointer (some ⟨a4, 0, none⟩), .pointer (some ⟨a5, 0, none⟩)] w fun e w' => e = .returned (.tuple #[]) ∧ Vbx w' b (v.part i j r n) ∧ w.grownBy w' (some b) := by
  have pp := place_any hv i0 i1 j0 j1
  have HP : Hid (v.part i j r n = ⟨v.p, v.p0 i j, v.p1 i j, v.d0, v.d1, v.r0, v.r1, r, n⟩) := Lib.hid rfl
  obtain ⟨P0, hP0⟩ : ∃ P, v.p0 i j = P := ⟨_, rfl⟩
  obtain ⟨P1, hP1⟩ : ∃ P, v.p1 i j = P := ⟨_, rfl⟩
  rw [hP0, hP1] at pp HP
  clear hP0 hP1 hv
  rw [HP.out]
  have bb := Blk.lt h
  obtain ⟨p, f0, f1, d0, d1, r0, r1, R, C⟩ := v
  obtain ⟨k0, k1, k2, k3, k4, k5, k6, k7, k8⟩ := Vbx.cells h1
  have e2 := Blk.cell h2 0 rfl
  have e3 := Blk.cell h3 0 rfl
  go_enter Try.func88, Try.ntmps88
  go_wp2_with fail
  with_reducible refine (pp _).mono ?_
  rintro e w1 ⟨rfl, hb⟩
  have m1 := Blk.on h hb
  replace h4 := Blk.on h4 hb
  replace h5 := Blk.on h5 hb
  obtain ⟨c0, c1, c2, c3, c4, c5, c6, c7, c8⟩ := Vbx.cells m1
  obtain ⟨z0, z1, z2, z3, z4, z5, z6, z7, z8⟩ := Vbx.free m1
  clear k0 k1 k2 k3 k4 k5 k6 k7 k8 h h1 h2 h3 e2 e3
  have g1 := setb_grownC (setb_grownC (grown_below hb (some b)) 1 (.int .i64 P0)) 2 (.int .i64 P1)
  replace m1 : Vbx _ b ⟨p, P0, P1, d0, d1, r0, r1, R, C⟩ := (Blk.set_ m1 1 (.int .i64 P0)).set_ 2 (.int .i64 P1)
  replace h4 := (Blk.far h4 (p := ⟨b, 1, none⟩) n4 (.int .i64 P0)).far (p := ⟨b, 2, none⟩) n4 (.int .i64 P1)
  replace h5 := (Blk.far h5 (p := ⟨b, 1, none⟩) n5 (.int .i64 P0)).far (p := ⟨b, 2, none⟩) n5 (.int .i64 P1)
  clear hb
  go_upto_region 1 with fail
  clear c0 c1 c2 c3 c4 c5 c6 c7 c8 z0 z1 z2 z3 z4 z5 z6 z7 z8
  generalize (w1.setCell ⟨b, 1, none⟩ (.int .i64 P0)).setCell ⟨b, 2, none⟩ (.int .i64 P1) = W at g1 m1 h4 h5 ⊢
  obtain ⟨c0, c1, c2, c3, c4, c5, c6, c7, c8⟩ := Vbx.cells m1
  obtain ⟨z0, z1, z2, z3, z4, z5, z6, z7, z8⟩ := Vbx.free m1
  have e4 := Blk.cell h4 0 rfl
  have e5 := Blk.cell h5 0 rfl
  go_region
  replace g1 := setb_grownC (setb_grownC g1 7 (.int .i64 r)) 8 (.int .i64 n)
  replace m1 := (Blk.set_ m1 7 (.int .i64 r)).set_ 8 (.int .i64 n)
  go_wp2_with fail
  go_end0
  exact ⟨rfl, m1.drew, drew_grown g1⟩
/-- the diagonal -/
def Vu.diag (v : Vu) : Vu := ⟨v.p, v.f0, v.f1, v.d0 + v.r0, v.d1 + v.r1, v.r0, v.r1, min v.R v.C, 1⟩
set_option maxHeartbeats 4000000 in
theorem Diag1_any (hv : Bd v K) {b t1 : Nat} (h : Vbx w b v) (h1 : Vbx w t1 v) (hne : t1 ≠ b) :
    Calls Try.prog 96 #[.pointer (some ⟨b, 0, none⟩), .pointer (some ⟨t1, 0, none⟩)] w fun e w' => e = .returned (.tuple #[]) ∧ Vbx w' b v.diag ∧ w.grownBy w' (some b) := by
  have b0 := hv.K
  have b1 := hv.d0
  have b2 := hv.d1
  have b3 := hv.r0
  have b4 := hv.r1
  have b5 := hv.R
  have b6 := hv.C
  clear hv
  have hM : (v.R ≤ v.C ∧ min v.R v.C = v.R) ∨ (v.C < v.R ∧ min v.R v.C = v.C) := by omega
  unfold Vu.diag
  obtain ⟨M, eM⟩ : ∃ M, min v.R v.C = M := ⟨_, rfl⟩
  rw [eM] at hM ⊢
  clear eM
  obtain ⟨p, f0, f1, d0, d1, r0, r1, R, C⟩ := v
  simp only at b1 b2 b3 b4 b5 b6 hM ⊢
  obtain ⟨c0, c1, c2, c3, c4, c5, c6, c7, c8⟩ := Vbx.cells h
  obtain ⟨z0, z1, z2, z3, z4, z5, z6, z7, z8⟩ := Vbx.free h
  obtain ⟨k0, k1, k2, k3, k4, k5, k6, k7, k8⟩ := Vbx.cells h1
  have g1 := setb_grownC (setb_grownC (World.grownBy.refl w (some b)) 7 (.int .i64 M)) 8 (.int .i64 1)
  have m1 : Vbx _ b ⟨p, f0, f1, d0, d1, r0, r1, M, 1⟩ := (Blk.set_ h 7 (.int .i64 M)).set_ 8 (.int .i64 1)
  have m2 : Vbx _ t1 ⟨p, f0, f1, d0, d1, r0, r1, R, C⟩ := (Blk.far h1 (p := ⟨b, 7, none⟩) hne (.int .i64 M)).far (p := ⟨b, 8, none⟩) hne (.int .i64 1)
  rcases hM with ⟨hM, rfl⟩ | ⟨hM, rfl⟩
  · go_enter Try.func96, Try.ntmps96
    go_wp2_with fail
    clear c0 c1 c2 c3 c4 c5 c6 c7 c8 z0 z1 z2 z3 z4 z5 z6 z7 z8 k0 k1 k2 k3 k4 k5 k6 k7 k8 h h1
    generalize (w.setCell ⟨b, 7, none⟩ (.int .i64 M)).setCell ⟨b, 8, none⟩ (.int .i64 1) = W at g1 m1 m2 ⊢
    go_loopw [15] (fun i wr => ((i = .int .i64 0 ∧ Vbx wr b ⟨p, f0, f1, d0, d1, r0, r1, M, 1⟩) ∨ (i = .int .i64 1 ∧ Vbx wr b ⟨p, f0, f1, d0 + r0, d1, r0, r1, M, 1⟩) ∨ (i = .int .i64 2 ∧ Vbx wr b ⟨p, f0, f1, d0 + r0, d1 + r1, r0, r1, M, 1⟩)) ∧ Vbx wr t1 ⟨p, f0, f1, d0, d1, r0, r1, M, C⟩ ∧ w.grownBy wr (some b)) (fun i _ => 2 - (intOf i).toNat)
    case atStart => exact ⟨.inl ⟨rfl, m1⟩, m2, g1⟩
    case round =>
      clear g1 m1 m2
      obtain ⟨⟨rfl, m1⟩ | ⟨rfl, m1⟩ | ⟨rfl, m1⟩, m2, g1⟩ := hrel
      · obtain ⟨c0, c1, c2, c3, c4, c5, c6, c7, c8⟩ := Vbx.cells m1
        obtain ⟨z0, z1, z2, z3, z4, z5, z6, z7, z8⟩ := Vbx.free m1
        obtain ⟨k0, k1, k2, k3, k4, k5, k6, k7, k8⟩ := Vbx.cells m2
        go_wp2_with fail
        go_region
        have m3 := Blk.set_ m1 3 (.int .i64 (d0 + r0))
        have m4 := Blk.far m2 (p := ⟨b, 3, none⟩) hne (.int .i64 (d0 + r0))
        replace g1 := setb_grownC g1 3 (.int .i64 (d0 + r0))
        go_wp2_with fail
        go_roundw
        case rel => exact ⟨.inr (.inl ⟨rfl, m3.drew⟩), m4.drew, drew_grown g1⟩
        case measure => simp [intOf]
      · obtain ⟨c0, c1, c2, c3, c4, c5, c6, c7, c8⟩ := Vbx.cells m1
        obtain ⟨z0, z1, z2, z3, z4, z5, z6, z7, z8⟩ := Vbx.free m1
        obtain ⟨k0, k1, k2, k3, k4, k5, k6, k7, k8⟩ := Vbx.cells m2
        go_wp2_with fail
        go_region
        have m3 := Blk.set_ m1 4 (.int .i64 (d1 + r1))
        have m4 := Blk.far m2 (p := ⟨b, 4, none⟩) hne (.int .i64 (d1 + r1))
        replace g1 := setb_grownC g1 4 (.int .i64 (d1 + r1))
        go_wp2_with fail
        go_roundw
        case rel => exact ⟨.inr (.inr ⟨rfl, m3.drew⟩), m4.drew, drew_grown g1⟩
        case measure => simp [intOf]
      · go_wp2_with fail
        go_end0
        exact ⟨rfl, m1, g1⟩
  · go_enter Try.func96, Try.ntmps96
    go_wp2_with fail
    clear c0 c1 c2 c3 c4 c5 c6 c7 c8 z0 z1 z2 z3 z4 z5 z6 z7 z8 k0 k1 k2 k3 k4 k5 k6 k7 k8 h h1
    generalize (w.setCell ⟨b, 7, none⟩ (.int .i64 M)).setCell ⟨b, 8, none⟩ (.int .i64 1) = W at g1 m1 m2 ⊢
    go_loopw [15] (fun i wr => ((i = .int .i64 0 ∧ Vbx wr b ⟨p, f0, f1, d0, d1, r0, r1, M, 1⟩) ∨ (i = .int .i64 1 ∧ Vbx wr b ⟨p, f0, f1, d0 + r0, d1, r0, r1, M, 1⟩) ∨ (i = .int .i64 2 ∧ Vbx wr b ⟨p, f0, f1, d0 + r0, d1 + r1, r0, r1, M, 1⟩)) ∧ Vbx wr t1 ⟨p, f0, f1, d0, d1, r0, r1, R, M⟩ ∧ w.grownBy wr (some b)) (fun i _ => 2 - (intOf i).toNat)
    case atStart => exact ⟨.inl ⟨rfl, m1⟩, m2, g1⟩
    case round =>
      clear g1 m1 m2
      obtain ⟨⟨rfl, m1⟩ | ⟨rfl, m1⟩ | ⟨rfl, m1⟩, m2, g1⟩ := hrel
      · obtain ⟨c0, c1, c2, c3, c4, c5, c6, c7, c8⟩ := Vbx.cells m1
        obtain ⟨z0, z1, z2, z3, z4, z5, z6, z7, z8⟩ := Vbx.free m1
        obtain ⟨k0, k1, k2, k3, k4, k5, k6, k7, k8⟩ := Vbx.cells m2
        go_wp2_with fail
        go_region
        have m3 := Blk.set_ m1 3 (.int .i64 (d0 + r0))
        have m4 := Blk.far m2 (p := ⟨b, 3, none⟩) hne (.int .i64 (d0 + r0))
        replace g1 := setb_grownC g1 3 (.int .i64 (d0 + r0))
        go_wp2_with fail
        go_roundw
        case rel => exact ⟨.inr (.inl ⟨rfl, m3.drew⟩), m4.drew, drew_grown g1⟩
        case measure => simp [intOf]
      · obtain ⟨c0, c1, c2, c3, c4, c5, c6, c7, c8⟩ := Vbx.cells m1
        obtain ⟨z0, z1, z2, z3, z4, z5, z6, z7, z8⟩ := Vbx.free m1
        obtain ⟨k0, k1, k2, k3, k4, k5, k6, k7, k8⟩ := Vbx.cells m2
        go_wp2_with fail
        go_region
        have m3 := Blk.set_ m1 4 (.int .i64 (d1 + r1))
        have m4 := Blk.far m2 (p := ⟨b, 4, none⟩) hne (.int .i64 (d1 + r1))
        replace g1 := setb_grownC g1 4 (.int .i64 (d1 + r1))
        go_wp2_with fail
        go_roundw
        case rel => exact ⟨.inr (.inr ⟨rfl, m3.drew⟩), m4.drew, drew_grown g1⟩
        case measure => simp [intOf]
      · go_wp2_with fail
        go_end0
        exact ⟨rfl, m1, g1⟩
end
end Go.Proofs.Ytbaeabmmokgomaa
namespace Go.Proofs.Ytbaeabmmokgomaa
open Go.RowKit Go.Bw Go.Sort
set_option linter.unusedVariables false
set_option linter.unusedSimpArgs false
attribute [local go_sem] run_store_float

/-- n places from the place at on are all among the first size ones -/
def withinB (i n m : Int) : Bool := decide (0 ≤ i ∧ 0 ≤ n ∧ n ≤ m - i)
set_option maxHeartbeats 400000 in
theorem within_any (i n m : Int) (i1 : i ≤ 9223372036854775807) (m0 : 0 ≤ m) (m1 : m ≤ 512) (w : World) :
    Calls Try.prog 87 #[.int .i64 i, .int .i64 n, .int .i64 m] w fun e w' => e = .returned (.bool (withinB i n m)) ∧ w' = w := by
  obtain ⟨B, hB⟩ : ∃ B, withinB i n m = B := ⟨_, rfl⟩
  have HB := Lib.hid hB
  rw [hB]
  clear hB
  have close : ∀ b : Bool, b = decide (0 ≤ i ∧ 0 ≤ n ∧ n ≤ m - i) → b = B := fun b h => by rw [h, ← HB.out]; rfl
  have C := Lib.hid close
  clear close HB
  by_cases c1 : 0 ≤ i
  · by_cases c2 : 0 ≤ n
    · go_enter Try.func87, Try.ntmps87
      go_wp2
      go_ret
      exact ⟨ret_boolC (C.out _ (by simp [c1, c2])), rfl⟩
    · go_enter Try.func87, Try.ntmps87
      go_wp2
      go_ret
      exact ⟨ret_boolC (C.out _ (by simp; omega)), rfl⟩
  · go_enter Try.func87, Try.ntmps87
    go_wp2
    go_ret
    exact ⟨ret_boolC (C.out _ (by simp; omega)), rfl⟩
section
variable {w : World} {v : Vu} {K : Int}
set_option maxHeartbeats 2000000 in
theorem cut_no {fv : Value} {b : Bool} (hz : (v.p == none) = true ∨ b = false) :
    Calls Try.prog 86 #[v.V, .bool b, fv] w (Ans w Vu.zero.V) := by
  have pn := none_any v
  have DZ := Blk.new (w.alloc (.cells v.L.toArray 57)) Vu.zero.L 57
  rw [World.size_alloc] at DZ
  have bz := ((Below.refl _ w).alloc (Nat.le_refl _) (.cells v.L.toArray 57)).alloc (by simp) (.cells Vu.zero.L.toArray 57)
  obtain ⟨B, hB⟩ : ∃ B, (v.p == none) = B := ⟨_, rfl⟩
  rw [hB] at pn hz
  clear hB
  obtain ⟨p, f0, f1, d0, d1, r0, r1, R, C⟩ := v
  cases B
  · obtain rfl : b = false := by rcases hz with h | h; cases h; exact h
    go_enter Try.func86, Try.ntmps86
    go_wp2_with fail
    with_reducible refine (pn _).mono ?_
    rintro e w1 ⟨rfl, hb⟩
    replace DZ := DZ.on hb
    replace bz := bz.trans (hb.mono (by simp; omega))
    obtain ⟨c0, c1, c2, c3, c4, c5, c6, c7, c8⟩ := Vbx.cells DZ
    obtain ⟨z0, z1, z2, z3, z4, z5, z6, z7, z8⟩ := Vbx.free DZ
    go_wp2_with fail
    refine bodyPost_ret (v := (.agg #[.pointer none, .int .i64 0, .int .i64 0, .int .i64 0, .int .i64 0, .int .i64 0, .int .i64 0, .int .i64 0, .int .i64 0])) (by simp [results, Try.results86, go_sem, c0, c1, c2, c3, c4, c5, c6, c7, c8]) rfl ?_
    exact ⟨rfl, by go_grown⟩
  · go_enter Try.func86, Try.ntmps86
    go_wp2_with fail
    with_reducible refine (pn _).mono ?_
    rintro e w1 ⟨rfl, hb⟩
    replace DZ := DZ.on hb
    replace bz := bz.trans (hb.mono (by simp; omega))
    obtain ⟨c0, c1, c2, c3, c4, c5, c6, c7, c8⟩ := Vbx.cells DZ
    obtain ⟨z0, z1, z2, z3, z4, z5, z6, z7, z8⟩ := Vbx.free DZ
    go_wp2_with fail
    refine bodyPost_ret (v := (.agg #[.pointer none, .int .i64 0, .int .i64 0, .int .i64 0, .int .i64 0, .int .i64 0, .int .i64 0, .int .i64 0, .int .i64 0])) (by simp [results, Try.results86, go_sem, c0, c1, c2, c3, c4, c5, c6, c7, c8]) rfl ?_
    exact ⟨rfl, by go_grown⟩
set_option maxHeartbeats 2000000 in
theorem cutD (hz : (v.p == none) = false) (hv : Bd v K) {b1 : Nat} (h1 : Vbx w b1 v) :
    Calls Try.prog 86 #[v.V, .bool true, .func (.func 96) #[] #[.pointer (some ⟨b1, 0, none⟩)]] w (Ans w (v.diag).V) := by
  have pn := none_any v
  rw [hz] at pn
  have DB := Blk.new w v.L 57
  have bw := (Below.refl _ w).alloc (Nat.le_refl _) (.cells v.L.toArray 57)
  have DZ := Blk.new (w.alloc (.cells v.L.toArray 57)) Vu.zero.L 57
  replace DB := DB.alloc (.cells Vu.zero.L.toArray 57)
  have bz := bw.alloc (by simp) (.cells Vu.zero.L.toArray 57)
  rw [World.size_alloc] at DZ
  clear bw hz
  have pc : ∀ W, Below w.heap.size w W → Vbx W (W.heap.size - 1) v → w.heap.size + 2 < W.heap.size → Calls Try.prog 96 #[.pointer (some ⟨W.heap.size - 1, 0, none⟩), .pointer (some ⟨b1, 0, none⟩)] W fun e w' => e = .returned (.tuple #[]) ∧ Vbx w' (W.heap.size - 1) (v.diag) ∧ W.grownBy w' (some (W.heap.size - 1)) := fun W hb hv2 hlt => by
    have h2 := h1.below hb h1.lt
    have h3 := h1.lt
    exact Diag1_any hv hv2 h2 (by omega)
  obtain ⟨V2, hV2⟩ : ∃ V2, v.diag = V2 := ⟨_, rfl⟩
  rw [hV2]
  rw [hV2] at pc
  clear hV2
  obtain ⟨p2, t0, t1, t2, t3, t4, t5, t6, t7⟩ := V2
  obtain ⟨p, f0, f1, d0, d1, r0, r1, R, C⟩ := v
  go_enter Try.func86, Try.ntmps86
  go_wp2_with fail
  with_reducible refine (pn _).mono ?_
  rintro e w1 ⟨rfl, hb⟩
  replace DB := DB.on hb
  replace DZ := DZ.on hb
  replace bz := bz.trans (hb.mono (by simp; omega))
  have hsz := hb.size
  simp only [World.size_alloc] at hsz
  obtain ⟨c0, c1, c2, c3, c4, c5, c6, c7, c8⟩ := Vbx.cells DB
  go_wp2_with fail
  have PB := Blk.new w1 (Vu.L ⟨p, f0, f1, d0, d1, r0, r1, R, C⟩) 57
  have pc1 := pc _ (bz.alloc (by omega) (.cells (Vu.L ⟨p, f0, f1, d0, d1, r0, r1, R, C⟩).toArray 57)) (by simpa using PB) (by simp; omega)
  replace DZ := DZ.alloc (.cells (Vu.L ⟨p, f0, f1, d0, d1, r0, r1, R, C⟩).toArray 57)
  replace bz := bz.alloc (by omega) (.cells (Vu.L ⟨p, f0, f1, d0, d1, r0, r1, R, C⟩).toArray 57)
  simp only [World.size_alloc, Nat.add_sub_cancel] at pc1
  clear pc PB DB c0 c1 c2 c3 c4 c5 c6 c7 c8
  with_reducible refine pc1.mono ?_
  rintro e w2 ⟨rfl, PB, hg⟩
  replace DZ := DZ.grown hg (fun e => by injection e with e; omega)
  replace bz : Below w.heap.size w w2 := bz.grown hg (by simp; omega) (fun k e => by cases e; omega)
  obtain ⟨c0, c1, c2, c3, c4, c5, c6, c7, c8⟩ := Vbx.cells PB
  obtain ⟨k0, k1, k2, k3, k4, k5, k6, k7, k8⟩ := Vbx.cells DZ
  obtain ⟨z0, z1, z2, z3, z4, z5, z6, z7, z8⟩ := Vbx.free DZ
  go_wp2_with fail
  refine bodyPost_ret (v := (.agg #[.pointer p2, .int .i64 t0, .int .i64 t1, .int .i64 t2, .int .i64 t3, .int .i64 t4, .int .i64 t5, .int .i64 t6, .int .i64 t7])) (by simp [results, Try.results86, go_sem, k0, k1, k2, k3, k4, k5, k6, k7, k8]) rfl ?_
  exact ⟨rfl, by go_grown⟩
set_option maxHeartbeats 2000000 in
theorem cutP (hz : (v.p == none) = false) (hv : Bd v K) {i j r n : Int} (i0 : 0 ≤ i) (i1 : i ≤ 512) (j0 : 0 ≤ j) (j1 : j ≤ 512) {b1 a2 a3 a4 a5 : Nat} (h1 : Vbx w b1 v) (h2 : Blk w a2 [.int .i64 i]) (h3 : Blk w a3 [.int .i64 j]) (h4 : Blk w a4 [.int .i64 r]) (h5 : Blk w a5 [.int .i64 n]) :
    Calls Try.prog 86 #[v.V, .bool true, .func (.func 88) #[] #[.pointer (some ⟨b1, 0, none⟩), .pointer (some ⟨a2, 0, none⟩), .pointer (some ⟨a3, 0, none⟩), .pointer (some ⟨a4, 0, none⟩), .pointer (some ⟨a5, 0, none⟩)]] w (Ans w (v.part i j r n).V) := by
  have pn := none_any v
  rw [hz] at pn
  have DB := Blk.new w v.L 57
  have bw := (Below.refl _ w).alloc (Nat.le_refl _) (.cells v.L.toArray 57)
  have DZ := Blk.new (w.alloc (.cells v.L.toArray 57)) Vu.zero.L 57
  replace DB := DB.alloc (.cells Vu.zero.L.toArray 57)
  have bz := bw.alloc (by simp) (.cells Vu.zero.L.toArray 57)
  rw [World.size_alloc] at DZ
  clear bw hz
  have pc : ∀ W, Below w.heap.size w W → Vbx W (W.heap.size - 1) v → w.heap.size + 2 < W.heap.size → Calls Try.prog 88 #[.pointer (some ⟨W.heap.size - 1, 0, none⟩), .pointer (some ⟨b1, 0, none⟩), .pointer (some ⟨a2, 0, none⟩), .pointer (some ⟨a3, 0, none⟩), .pointer (some ⟨a4, 0, none⟩), .pointer (some ⟨a5, 0, none⟩)] W fun e w' => e = .returned (.tuple #[]) ∧ Vbx w' (W.heap.size - 1) (v.part i j r n) ∧ W.grownBy w' (some (W.heap.size - 1)) := fun W hb hv2 hlt => by
    have e1 := h1.below hb h1.lt
    have e2 := h2.below hb h2.lt
    have e3 := h3.below hb h3.lt
    have e4 := h4.below hb h4.lt
    have e5 := h5.below hb h5.lt
    have l1 := h1.lt
    have l4 := h4.lt
    have l5 := h5.lt
    exact Part1_any hv i0 i1 j0 j1 hv2 e1 (by omega) e2 e3 e4 e5 (by omega) (by omega)
  obtain ⟨V2, hV2⟩ : ∃ V2, v.part i j r n = V2 := ⟨_, rfl⟩
  rw [hV2]
  rw [hV2] at pc
  clear hV2
  obtain ⟨p2, t0, t1, t2, t3, t4, t5, t6, t7⟩ := V2
  obtain ⟨p, f0, f1, d0, d1, r0, r1, R, C⟩ := v
  go_enter Try.func86, Try.ntmps86
  go_wp2_with fail
  with_reducible refine (pn _).mono ?_
  rintro e w1 ⟨rfl, hb⟩
  replace DB := DB.on hb
  replace DZ := DZ.on hb
  replace bz := bz.trans (hb.mono (by simp; omega))
  have hsz := hb.size
  simp only [World.size_alloc] at hsz
  obtain ⟨c0, c1, c2, c3, c4, c5, c6, c7, c8⟩ := Vbx.cells DB
  go_wp2_with fail
  have PB := Blk.new w1 (Vu.L ⟨p, f0, f1, d0, d1, r0, r1, R, C⟩) 57
  have pc1 := pc _ (bz.alloc (by omega) (.cells (Vu.L ⟨p, f0, f1, d0, d1, r0, r1, R, C⟩).toArray 57)) (by simpa using PB) (by simp; omega)
  replace DZ := DZ.alloc (.cells (Vu.L ⟨p, f0, f1, d0, d1, r0, r1, R, C⟩).toArray 57)
  replace bz := bz.alloc (by omega) (.cells (Vu.L ⟨p, f0, f1, d0, d1, r0, r1, R, C⟩).toArray 57)
  simp only [World.size_alloc, Nat.add_sub_cancel] at pc1
  clear pc PB DB c0 c1 c2 c3 c4 c5 c6 c7 c8
  with_reducible refine pc1.mono ?_
  rintro e w2 ⟨rfl, PB, hg⟩
  replace DZ := DZ.grown hg (fun e => by injection e with e; omega)
  replace bz : Below w.heap.size w w2 := bz.grown hg (by simp; omega) (fun k e => by cases e; omega)
  obtain ⟨c0, c1, c2, c3, c4, c5, c6, c7, c8⟩ := Vbx.cells PB
  obtain ⟨k0, k1, k2, k3, k4, k5, k6, k7, k8⟩ := Vbx.cells DZ
  obtain ⟨z0, z1, z2, z3, z4, z5, z6, z7, z8⟩ := Vbx.free DZ
  go_wp2_with fail
  refine bodyPost_ret (v := (.agg #[.pointer p2, .int .i64 t0, .int .i64 t1, .int .i64 t2, .int .i64 t3, .int .i64 t4, .int .i64 t5, .int .i64 t6, .int .i64 t7])) (by simp [results, Try.results86, go_sem, k0, k1, k2, k3, k4, k5, k6, k7, k8]) rfl ?_
  exact ⟨rfl, by go_grown⟩
end
end Go.Proofs.Ytbaeabmmokgomaa
