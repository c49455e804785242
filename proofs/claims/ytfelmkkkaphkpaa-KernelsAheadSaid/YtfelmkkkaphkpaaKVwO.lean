/-
  Layer 7, walks: two views that are the same. (Written by wip/tools/gen_vwo.py.)
-/
import Derived.Test.YtfelmkkkaphkpaaKVwN

namespace Go.Proofs.Ytfelmkkkaphkpaa
open Go.RowKit Go.Bw Go.Sort Go.Shelf
set_option linter.unusedVariables false
set_option linter.unusedSimpArgs false
attribute [local go_sem] Oper.semAt_some

/-! ### what abides a block that is no cells -/
/-- rows that turn are no cells -/
def NoCells (B : Nat) (W : World) (row : Option Nat) : Prop := ∀ r, row = some r → B ≤ r ∧ ∃ o : Obj, W.heap[r]? = some o ∧ o.isCells = false
theorem Blk.ownV {B g : Nat} {vs : List Value} {W W' : World} {row : Option Nat} (h : Blk W g vs) (hg : W.grownBy W' row) (hr : NoCells B W row) : Blk W' g vs :=
  h.grown hg (fun e => by
    obtain ⟨T, h⟩ := h
    obtain ⟨_, o, ho, hc⟩ := hr g e.symm
    rw [h] at ho
    cases ho
    cases hc)
theorem OwnF.ownV {B B' cap : Nat} {A : Option Addr} {l : List Int} {W W' : World} {row : Option Nat} (h : OwnF W B' A cap l) (hg : W.grownBy W' row) (hr : NoCells B W row) : OwnF W' B' A cap l := by
  rcases h with ⟨h1, h2⟩
  refine ⟨h1, h2.imp id fun ⟨g, cap, cur, hv, hb, hh, r⟩ => ⟨g, cap, cur, hv, hb, (hg.block g (lt_of_block hh) (fun e => ?_)).trans hh, r⟩⟩
  obtain ⟨_, o, ho, hc⟩ := hr g e.symm
  rw [hh] at ho
  cases ho
  cases hc
theorem St.ownV {B B' s g cap c : Nat} {l : List Int} {W W' : World} {row : Option Nat} (h : St W B' s g cap c l) (hg : W.grownBy W' row) (hr : NoCells B W row) : St W' B' s g cap c l :=
  ⟨h.box.ownV hg hr, h.own.ownV hg hr, h.ne, h.wd, h.lo, h.len, h.col⟩
theorem below_ownV {B : Nat} {w W W' : World} {row : Option Nat} (h : Below w.heap.size w W) (hg : W.grownBy W' row) (hr : NoCells B W row) (hB : w.heap.size ≤ B) : Below w.heap.size w W' :=
  h.grown hg h.size (fun k e => by have := (hr k e).1; omega)
theorem keepsFrom_below {B : Nat} {W W' : World} (h : Below W.heap.size W W') : KeepsFrom B W W' := KeepsFrom.of_grownBy (grown_below h none) (fun j e => by cases e)
theorem noCells_put {W : World} {D : Nat} {o : Obj} (hD : W.heap[D]? = some o) (ho : o.isCells = false) : NoCells D W (some D) := fun r e => by cases e; exact ⟨Nat.le_refl _, o, hD, ho⟩

/-- the floats of a view, row by row -/
def Vu.fl (v : Vu) (c : Nat) (l : List Int) : List Int := (List.range (v.R * v.C).toNat).map fun k => v.at_ c l (v.ei k) (v.ej k)
theorem fl_length (v : Vu) (c : Nat) (l : List Int) : (v.fl c l).length = (v.R * v.C).toNat := by simp [Vu.fl]
theorem fl_D (v : Vu) (c : Nat) (l : List Int) {k : Nat} (hk : k < (v.R * v.C).toNat) : D (v.fl c l) k = v.at_ c l (v.ei k) (v.ej k) := by
  rw [D_in (by rw [fl_length]; exact hk)]
  simp [Vu.fl]
theorem at_bd {v : Vu} {c : Nat} {l : List Int} (h : v.p ≠ none → Wd l) (hz : v.p = none → v = Vu.zero) (i j : Int) : 0 ≤ v.at_ c l i j ∧ v.at_ c l i j ≤ 18446744073709551615 := by
  unfold Vu.at_
  split
  · rename_i hh
    by_cases hp : v.p = none
    · rw [hz hp, Vu.has_zero] at hh; cases hh
    · exact (h hp).at_ _
  · omega
/-- two lists of floats are the same, all NaNs being one -/
def sameL (a b : List Int) : Bool := decide (a.map one = b.map one)
theorem sameL_yes {a b : List Int} (hl : a.length = b.length) (h : ∀ k, k < a.length → alikeB (D a k) (D b k) = true) : sameL a b = true := by
  unfold sameL
  rw [decide_eq_true_iff]
  apply List.ext_getElem
  · simp [hl]
  · intro i h1 h2
    simp only [List.length_map] at h1 h2
    have := of_decide_eq_true (h i h1)
    rw [D_in h1, D_in h2] at this
    simpa using this
theorem sameL_no {a b : List Int} {k : Nat} (ha : k < a.length) (hb : k < b.length) (h : alikeB (D a k) (D b k) = false) : sameL a b = false := by
  unfold sameL
  rw [decide_eq_false_iff_not]
  intro e
  have := congrArg (fun l => l[k]?) e
  simp only [List.getElem?_map, List.getElem?_eq_getElem ha, List.getElem?_eq_getElem hb, Option.map_some, Option.some.injEq] at this
  rw [D_in ha, D_in hb] at h
  exact of_decide_eq_false h this
/-- two views are the same -/
def sameV (v : Vu) (c : Nat) (l : List Int) (u : Vu) (c2 : Nat) (l2 : List Int) : Bool :=
  if (v.p == none) != (u.p == none) || v.R != u.R || v.C != u.C then false else sameL (v.fl c l) (u.fl c2 l2)

section
variable {w : World} {v u : Vu} {K K2 : Int} {B s g cap c n B2 s2 g2 cap2 c2 n2 : Nat} {l l2 : List Int}
set_option maxRecDepth 100000 in
set_option maxHeartbeats 4000000 in
theorem Same_no_a {z : Bool} (hz1 : (v.p == none) = z) (hz2 : (u.p == none) = !z) (w : World) : Calls Try.prog 55 #[v.V, u.V] w (Ans w (.bool false)) := by
  have DV := Blk.new w v.L 30
  have DU := Blk.new (w.alloc (.cells v.L.toArray 30)) u.L 30
  rw [World.size_alloc] at DU
  replace DV := DV.alloc (.cells u.L.toArray 30)
  have bw := ((Below.refl _ w).alloc (Nat.le_refl _) (.cells v.L.toArray 30)).alloc (by simp) (.cells u.L.toArray 30)
  have hsz : ((w.alloc (.cells v.L.toArray 30)).alloc (.cells u.L.toArray 30)).heap.size = w.heap.size + 2 := by simp
  have DR := Blk.new ((w.alloc (.cells v.L.toArray 30)).alloc (.cells u.L.toArray 30)) [.bool false] 4
  rw [hsz] at DR
  replace DV := DV.alloc (.cells #[.bool false] 4)
  replace DU := DU.alloc (.cells #[.bool false] 4)
  replace bw := bw.alloc (by simp; omega) (.cells #[.bool false] 4)
  replace hsz : (((w.alloc (.cells v.L.toArray 30)).alloc (.cells u.L.toArray 30)).alloc (.cells #[.bool false] 4)).heap.size = w.heap.size + 3 := by simp
  have pv := none_any v
  have pu := none_any u
  rw [hz1] at pv
  rw [hz2] at pu
  clear hz1 hz2
  obtain ⟨p, f0, f1, d0, d1, r0, r1, R, C⟩ := v
  obtain ⟨p', f0', f1', d0', d1', r0', r1', R', C'⟩ := u
  cases z
  all_goals
    try simp only [Bool.not_true, Bool.not_false] at pu
    go_enter Try.func55, Try.ntmps55
    go_wp2_with fail
    generalize (((w.alloc (.cells (Vu.L ⟨p, f0, f1, d0, d1, r0, r1, R, C⟩).toArray 30)).alloc (.cells (Vu.L ⟨p', f0', f1', d0', d1', r0', r1', R', C'⟩).toArray 30)).alloc (.cells #[.bool false] 4)) = W at DV DU DR bw hsz ⊢
    obtain ⟨v0, v1, v2, v3, v4, v5, v6, v7, v8⟩ := Vbx.cells DV
    have v0r := cell_regrown v0
    have v1r := cell_regrown v1
    have v2r := cell_regrown v2
    have v3r := cell_regrown v3
    have v4r := cell_regrown v4
    have v5r := cell_regrown v5
    have v6r := cell_regrown v6
    have v7r := cell_regrown v7
    have v8r := cell_regrown v8
    obtain ⟨u0, u1, u2, u3, u4, u5, u6, u7, u8⟩ := Vbx.cells DU
    have u0r := cell_regrown u0
    have u1r := cell_regrown u1
    have u2r := cell_regrown u2
    have u3r := cell_regrown u3
    have u4r := cell_regrown u4
    have u5r := cell_regrown u5
    have u6r := cell_regrown u6
    have u7r := cell_regrown u7
    have u8r := cell_regrown u8
    have qA := fun d os => Calls.regrown_of (w := W) (d := d) (os := os) (pv _)
    have qB := fun d os => Calls.regrown_of (w := W) (d := d) (os := os) (pu _)
    refine wp_region_quiet_below mixed (by kernel_rfl) ?_
    repeat (quiet_step (first | (with_reducible exact qA _ _) | (with_reducible exact qB _ _)))
    refine wpQuiet_nil ?_
    intro _ hw'
    obtain ⟨⟨dq, osq⟩, hw''⟩ := hw'
    subst hw''
    have hb2 := below_regrown W dq osq
    clear v0 v0r v1 v1r v2 v2r v3 v3r v4 v4r v5 v5r v6 v6r v7 v7r v8 v8r
    clear u0 u0r u1 u1r u2 u2r u3 u3r u4 u4r u5 u5r u6 u6r u7 u7r u8 u8r
    clear qA qB
    generalize grow (redrawn W dq) osq = w1 at hb2 ⊢
    replace DV := DV.on hb2
    replace DU := DU.on hb2
    replace DR := DR.on hb2
    replace bw : Below w.heap.size w w1 := bw.trans (hb2.mono (by omega))
    have hsz1 := hb2.size
    clear hb2
    have x0 := Blk.cell DR 0 rfl
    have y0 := Blk.free DR 0
    go_wp2_with fail
    refine bodyPost_ret (v := .bool false) (by simp [results, Try.results55, go_sem, x0]) rfl ?_
    exact ⟨rfl, by go_grown⟩
set_option maxRecDepth 100000 in
set_option maxHeartbeats 4000000 in
theorem Same_no_b {z : Bool} (hz1 : (v.p == none) = z) (hz2 : (u.p == none) = z) (hd : (v.R != u.R) = true) (w : World) : Calls Try.prog 55 #[v.V, u.V] w (Ans w (.bool false)) := by
  have DV := Blk.new w v.L 30
  have DU := Blk.new (w.alloc (.cells v.L.toArray 30)) u.L 30
  rw [World.size_alloc] at DU
  replace DV := DV.alloc (.cells u.L.toArray 30)
  have bw := ((Below.refl _ w).alloc (Nat.le_refl _) (.cells v.L.toArray 30)).alloc (by simp) (.cells u.L.toArray 30)
  have hsz : ((w.alloc (.cells v.L.toArray 30)).alloc (.cells u.L.toArray 30)).heap.size = w.heap.size + 2 := by simp
  have DR := Blk.new ((w.alloc (.cells v.L.toArray 30)).alloc (.cells u.L.toArray 30)) [.bool false] 4
  rw [hsz] at DR
  replace DV := DV.alloc (.cells #[.bool false] 4)
  replace DU := DU.alloc (.cells #[.bool false] 4)
  replace bw := bw.alloc (by simp; omega) (.cells #[.bool false] 4)
  replace hsz : (((w.alloc (.cells v.L.toArray 30)).alloc (.cells u.L.toArray 30)).alloc (.cells #[.bool false] 4)).heap.size = w.heap.size + 3 := by simp
  have pv := none_any v
  have pu := none_any u
  rw [hz1] at pv
  rw [hz2] at pu
  clear hz1 hz2
  obtain ⟨p, f0, f1, d0, d1, r0, r1, R, C⟩ := v
  obtain ⟨p', f0', f1', d0', d1', r0', r1', R', C'⟩ := u
  cases z
  all_goals
    try simp only [Bool.not_true, Bool.not_false] at pu
    go_enter Try.func55, Try.ntmps55
    go_wp2_with fail
    generalize (((w.alloc (.cells (Vu.L ⟨p, f0, f1, d0, d1, r0, r1, R, C⟩).toArray 30)).alloc (.cells (Vu.L ⟨p', f0', f1', d0', d1', r0', r1', R', C'⟩).toArray 30)).alloc (.cells #[.bool false] 4)) = W at DV DU DR bw hsz ⊢
    obtain ⟨v0, v1, v2, v3, v4, v5, v6, v7, v8⟩ := Vbx.cells DV
    have v0r := cell_regrown v0
    have v1r := cell_regrown v1
    have v2r := cell_regrown v2
    have v3r := cell_regrown v3
    have v4r := cell_regrown v4
    have v5r := cell_regrown v5
    have v6r := cell_regrown v6
    have v7r := cell_regrown v7
    have v8r := cell_regrown v8
    obtain ⟨u0, u1, u2, u3, u4, u5, u6, u7, u8⟩ := Vbx.cells DU
    have u0r := cell_regrown u0
    have u1r := cell_regrown u1
    have u2r := cell_regrown u2
    have u3r := cell_regrown u3
    have u4r := cell_regrown u4
    have u5r := cell_regrown u5
    have u6r := cell_regrown u6
    have u7r := cell_regrown u7
    have u8r := cell_regrown u8
    have qA := fun d os => Calls.regrown_of (w := W) (d := d) (os := os) (pv _)
    have qB := fun d os => Calls.regrown_of (w := W) (d := d) (os := os) (pu _)
    refine wp_region_quiet_below mixed (by kernel_rfl) ?_
    repeat (quiet_step (first | (with_reducible exact qA _ _) | (with_reducible exact qB _ _)))
    refine wpQuiet_nil ?_
    intro _ hw'
    obtain ⟨⟨dq, osq⟩, hw''⟩ := hw'
    subst hw''
    have hb2 := below_regrown W dq osq
    clear v0 v0r v1 v1r v2 v2r v3 v3r v4 v4r v5 v5r v6 v6r v7 v7r v8 v8r
    clear u0 u0r u1 u1r u2 u2r u3 u3r u4 u4r u5 u5r u6 u6r u7 u7r u8 u8r
    clear qA qB
    generalize grow (redrawn W dq) osq = w1 at hb2 ⊢
    replace DV := DV.on hb2
    replace DU := DU.on hb2
    replace DR := DR.on hb2
    replace bw : Below w.heap.size w w1 := bw.trans (hb2.mono (by omega))
    have hsz1 := hb2.size
    clear hb2
    have x0 := Blk.cell DR 0 rfl
    have y0 := Blk.free DR 0
    go_wp2_with fail
    refine bodyPost_ret (v := .bool false) (by simp [results, Try.results55, go_sem, x0]) rfl ?_
    exact ⟨rfl, by go_grown⟩
set_option maxRecDepth 100000 in
set_option maxHeartbeats 4000000 in
theorem Same_no_c {z : Bool} (hz1 : (v.p == none) = z) (hz2 : (u.p == none) = z) (hd : (v.R != u.R) = false) (he : (v.C != u.C) = true) (w : World) : Calls Try.prog 55 #[v.V, u.V] w (Ans w (.bool false)) := by
  have DV := Blk.new w v.L 30
  have DU := Blk.new (w.alloc (.cells v.L.toArray 30)) u.L 30
  rw [World.size_alloc] at DU
  replace DV := DV.alloc (.cells u.L.toArray 30)
  have bw := ((Below.refl _ w).alloc (Nat.le_refl _) (.cells v.L.toArray 30)).alloc (by simp) (.cells u.L.toArray 30)
  have hsz : ((w.alloc (.cells v.L.toArray 30)).alloc (.cells u.L.toArray 30)).heap.size = w.heap.size + 2 := by simp
  have DR := Blk.new ((w.alloc (.cells v.L.toArray 30)).alloc (.cells u.L.toArray 30)) [.bool false] 4
  rw [hsz] at DR
  replace DV := DV.alloc (.cells #[.bool false] 4)
  replace DU := DU.alloc (.cells #[.bool false] 4)
  replace bw := bw.alloc (by simp; omega) (.cells #[.bool false] 4)
  replace hsz : (((w.alloc (.cells v.L.toArray 30)).alloc (.cells u.L.toArray 30)).alloc (.cells #[.bool false] 4)).heap.size = w.heap.size + 3 := by simp
  have pv := none_any v
  have pu := none_any u
  rw [hz1] at pv
  rw [hz2] at pu
  clear hz1 hz2
  obtain ⟨p, f0, f1, d0, d1, r0, r1, R, C⟩ := v
  obtain ⟨p', f0', f1', d0', d1', r0', r1', R', C'⟩ := u
  cases z
  all_goals
    try simp only [Bool.not_true, Bool.not_false] at pu
    go_enter Try.func55, Try.ntmps55
    go_wp2_with fail
    generalize (((w.alloc (.cells (Vu.L ⟨p, f0, f1, d0, d1, r0, r1, R, C⟩).toArray 30)).alloc (.cells (Vu.L ⟨p', f0', f1', d0', d1', r0', r1', R', C'⟩).toArray 30)).alloc (.cells #[.bool false] 4)) = W at DV DU DR bw hsz ⊢
    obtain ⟨v0, v1, v2, v3, v4, v5, v6, v7, v8⟩ := Vbx.cells DV
    have v0r := cell_regrown v0
    have v1r := cell_regrown v1
    have v2r := cell_regrown v2
    have v3r := cell_regrown v3
    have v4r := cell_regrown v4
    have v5r := cell_regrown v5
    have v6r := cell_regrown v6
    have v7r := cell_regrown v7
    have v8r := cell_regrown v8
    obtain ⟨u0, u1, u2, u3, u4, u5, u6, u7, u8⟩ := Vbx.cells DU
    have u0r := cell_regrown u0
    have u1r := cell_regrown u1
    have u2r := cell_regrown u2
    have u3r := cell_regrown u3
    have u4r := cell_regrown u4
    have u5r := cell_regrown u5
    have u6r := cell_regrown u6
    have u7r := cell_regrown u7
    have u8r := cell_regrown u8
    have qA := fun d os => Calls.regrown_of (w := W) (d := d) (os := os) (pv _)
    have qB := fun d os => Calls.regrown_of (w := W) (d := d) (os := os) (pu _)
    refine wp_region_quiet_below mixed (by kernel_rfl) ?_
    repeat (quiet_step (first | (with_reducible exact qA _ _) | (with_reducible exact qB _ _)))
    refine wpQuiet_nil ?_
    intro _ hw'
    obtain ⟨⟨dq, osq⟩, hw''⟩ := hw'
    subst hw''
    have hb2 := below_regrown W dq osq
    clear v0 v0r v1 v1r v2 v2r v3 v3r v4 v4r v5 v5r v6 v6r v7 v7r v8 v8r
    clear u0 u0r u1 u1r u2 u2r u3 u3r u4 u4r u5 u5r u6 u6r u7 u7r u8 u8r
    clear qA qB
    generalize grow (redrawn W dq) osq = w1 at hb2 ⊢
    replace DV := DV.on hb2
    replace DU := DU.on hb2
    replace DR := DR.on hb2
    replace bw : Below w.heap.size w w1 := bw.trans (hb2.mono (by omega))
    have hsz1 := hb2.size
    clear hb2
    have x0 := Blk.cell DR 0 rfl
    have y0 := Blk.free DR 0
    go_wp2_with fail
    refine bodyPost_ret (v := .bool false) (by simp [results, Try.results55, go_sem, x0]) rfl ?_
    exact ⟨rfl, by go_grown⟩

/-- between two rounds -/
def SameI (w : World) (v u : Vu) (B s g cap c n B2 s2 g2 cap2 c2 n2 : Nat) (l l2 : List Int) (Bn : Nat) (k : Nat) (lx : List Int) (W : World) : Prop :=
  lx = l ∧ Rd v B s g cap c n Bn l W ∧ Vbx W (w.heap.size + 1) u ∧ (u.p ≠ none → St W B2 s2 g2 cap2 c2 l2 ∧ l2.length = n2) ∧ Blk W (w.heap.size + 2) [.bool false] ∧ Below w.heap.size w W ∧ Hid (∀ j, j < k → alikeB (D (v.fl c l) j) (D (u.fl c2 l2) j) = true)
theorem SameI.ownV {BB Bn k : Nat} {lx : List Int} (hB : w.heap.size ≤ BB) : OwnV BB (SameI w v u B s g cap c n B2 s2 g2 cap2 c2 n2 l l2 Bn k lx) := by
  rintro W W' row ⟨e, h1, h2, h3, h4, h5, h6⟩ hg hr
  exact ⟨e, ⟨h1.1.ownV hg hr, fun hp => ⟨(h1.2 hp).1.ownV hg hr, (h1.2 hp).2⟩⟩, h2.ownV hg hr, fun hp => ⟨(h3 hp).1.ownV hg hr, (h3 hp).2⟩, h4.ownV hg hr, below_ownV h5 hg hr hB, h6⟩
theorem SameI.on {Bn k : Nat} {lx : List Int} {W W' : World} (h : SameI w v u B s g cap c n B2 s2 g2 cap2 c2 n2 l l2 Bn k lx W) (hb : Below W.heap.size W W') : SameI w v u B s g cap c n B2 s2 g2 cap2 c2 n2 l l2 Bn k lx W' := by
  obtain ⟨e, h1, h2, h3, h4, h5, h6⟩ := h
  exact ⟨e, h1.on hb, h2.on hb, fun hp => ⟨(h3 hp).1.on hb, (h3 hp).2⟩, h4.on hb, h5.trans (hb.mono h5.size), h6⟩
/-- within one -/
def SameX (w : World) (v u : Vu) (B s g cap c n B2 s2 g2 cap2 c2 n2 : Nat) (l l2 : List Int) (Bn : Nat) (k : Nat) (lx : List Int) (a' : Act) (W : World) : Prop :=
  SameI w v u B s g cap c n B2 s2 g2 cap2 c2 n2 l l2 Bn k lx W ∧ ∃ (bx : Nat) (X0 X1 X2 X7 X8 X9 X10 X11 X12 X13 X14 X15 X16 X17 X18 X19 X20 X21 X22 X23 X24 X25 X26 X27 X28 X29 X30 X31 X32 X33 X34 X35 X36 X37 X38 : Value), Blk W bx [.int .i64 (v.ei k), .int .i64 (v.ej k)] ∧ a' = { tmps := #[X0, X1, X2, .pointer (some ⟨w.heap.size + 1, 0, none⟩), .pointer (some ⟨w.heap.size + 2, 0, none⟩), .pointer (some ⟨bx, 0, none⟩), .float .f64 (v.at_ c l (v.ei k) (v.ej k)).toNat, X7, X8, X9, X10, X11, X12, X13, X14, X15, X16, X17, X18, X19, X20, X21, X22, X23, X24, X25, X26, X27, X28, X29, X30, X31, X32, X33, X34, X35, X36, X37, X38], defers := [] }
theorem SameX.ownV {BB Bn k : Nat} {lx : List Int} {a' : Act} (hB : w.heap.size ≤ BB) : OwnV BB (SameX w v u B s g cap c n B2 s2 g2 cap2 c2 n2 l l2 Bn k lx a') := by
  rintro W W' row ⟨hI, bx, X0, X1, X2, X7, X8, X9, X10, X11, X12, X13, X14, X15, X16, X17, X18, X19, X20, X21, X22, X23, X24, X25, X26, X27, X28, X29, X30, X31, X32, X33, X34, X35, X36, X37, X38, hb, e⟩ hg hr
  exact ⟨SameI.ownV hB W W' row hI hg hr, bx, X0, X1, X2, X7, X8, X9, X10, X11, X12, X13, X14, X15, X16, X17, X18, X19, X20, X21, X22, X23, X24, X25, X26, X27, X28, X29, X30, X31, X32, X33, X34, X35, X36, X37, X38, hb.ownV hg hr, e⟩
/-- left, as two floats part -/
def SameE (w : World) (v u : Vu) (c c2 : Nat) (l l2 : List Int) (W : World) : Prop := Blk W (w.heap.size + 2) [.bool false] ∧ Below w.heap.size w W ∧ sameL (v.fl c l) (u.fl c2 l2) = false
theorem SameE.ownV {BB : Nat} (hB : w.heap.size ≤ BB) : OwnV BB (SameE w v u c c2 l l2) := by
  rintro W W' row ⟨h4, h5, h6⟩ hg hr
  exact ⟨h4.ownV hg hr, below_ownV h5 hg hr hB, h6⟩

set_option maxRecDepth 100000 in
set_option maxHeartbeats 4000000 in
theorem Same_yes (hv : Vk v s c n K) (hs : v.p ≠ none → St w B s g cap c l ∧ l.length = n) (hu : Vk u s2 c2 n2 K2) (hs2 : u.p ≠ none → St w B2 s2 g2 cap2 c2 l2 ∧ l2.length = n2)
    {z : Bool} (hz1 : (v.p == none) = z) (hz2 : (u.p == none) = z) (hd : (v.R != u.R) = false) (he : (v.C != u.C) = false) : Calls Try.prog 55 #[v.V, u.V] w (Ans w (.bool (sameL (v.fl c l) (u.fl c2 l2)))) := by
  have DV := Blk.new w v.L 30
  have DU := Blk.new (w.alloc (.cells v.L.toArray 30)) u.L 30
  rw [World.size_alloc] at DU
  replace DV := DV.alloc (.cells u.L.toArray 30)
  have bw := ((Below.refl _ w).alloc (Nat.le_refl _) (.cells v.L.toArray 30)).alloc (by simp) (.cells u.L.toArray 30)
  have hsz : ((w.alloc (.cells v.L.toArray 30)).alloc (.cells u.L.toArray 30)).heap.size = w.heap.size + 2 := by simp
  have DR := Blk.new ((w.alloc (.cells v.L.toArray 30)).alloc (.cells u.L.toArray 30)) [.bool false] 4
  rw [hsz] at DR
  replace DV := DV.alloc (.cells #[.bool false] 4)
  replace DU := DU.alloc (.cells #[.bool false] 4)
  replace bw := bw.alloc (by simp; omega) (.cells #[.bool false] 4)
  replace hsz : (((w.alloc (.cells v.L.toArray 30)).alloc (.cells u.L.toArray 30)).alloc (.cells #[.bool false] 4)).heap.size = w.heap.size + 3 := by simp
  have pv := none_any v
  have pu := none_any u
  rw [hz1] at pv
  rw [hz2] at pu
  clear hz1 hz2
  replace hs : v.p ≠ none → St (((w.alloc (.cells v.L.toArray 30)).alloc (.cells u.L.toArray 30)).alloc (.cells #[.bool false] 4)) B s g cap c l ∧ l.length = n := fun hp => ⟨(hs hp).1.on bw, (hs hp).2⟩
  replace hs2 : u.p ≠ none → St (((w.alloc (.cells v.L.toArray 30)).alloc (.cells u.L.toArray 30)).alloc (.cells #[.bool false] 4)) B2 s2 g2 cap2 c2 l2 ∧ l2.length = n2 := fun hp => ⟨(hs2 hp).1.on bw, (hs2 hp).2⟩
  have HV := Lib.hid hv
  have HU := Lib.hid hu
  have HN : Hid ((v.R * v.C).toNat = (u.R * u.C).toNat ∧ v.C = u.C) := Lib.hid (by simp at hd he; rw [hd, he]; exact ⟨rfl, rfl⟩)
  have HWv : Hid (∀ i j, 0 ≤ v.at_ c l i j ∧ v.at_ c l i j ≤ 18446744073709551615) := Lib.hid (fun i j => at_bd (fun hp => (hs hp).1.wd) hv.none_ i j)
  have HWu : Hid (∀ i j, 0 ≤ u.at_ c2 l2 i j ∧ u.at_ c2 l2 i j ≤ 18446744073709551615) := Lib.hid (fun i j => at_bd (fun hp => (hs2 hp).1.wd) hu.none_ i j)
  have pall := All_any v
  obtain ⟨V, hV⟩ : ∃ V, v = V := ⟨_, rfl⟩
  obtain ⟨U, hU⟩ : ∃ U, u = U := ⟨_, rfl⟩
  rw [hV] at HV HN HWv
  rw [hU] at HU HN HWu
  have HhV := Lib.hid hV
  have HhU := Lib.hid hU
  clear hv hu hV hU
  refine (callsIn_wide (n := 5)).1 ?_
  refine callsIn_of_wp_marks Try.func55 rfl trivial ?_ rfl
  simp only [Try.ntmps55, List.size_toArray, List.length_cons, List.length_nil, Nat.reduceAdd, Nat.reduceSub, Array.replicate_succ, Array.replicate_zero, List.push_toArray, List.append_toArray, List.nil_append, List.cons_append]
  obtain ⟨p, f0, f1, d0, d1, r0, r1, R, C⟩ := v
  obtain ⟨p', f0', f1', d0', d1', r0', r1', R', C'⟩ := u
  cases z
  all_goals
    gi_wp2
    generalize (((w.alloc (.cells (Vu.L ⟨p, f0, f1, d0, d1, r0, r1, R, C⟩).toArray 30)).alloc (.cells (Vu.L ⟨p', f0', f1', d0', d1', r0', r1', R', C'⟩).toArray 30)).alloc (.cells #[.bool false] 4)) = W at DV DU DR bw hsz hs hs2 ⊢
    obtain ⟨v0, v1, v2, v3, v4, v5, v6, v7, v8⟩ := Vbx.cells DV
    have v0r := cell_regrown v0
    have v1r := cell_regrown v1
    have v2r := cell_regrown v2
    have v3r := cell_regrown v3
    have v4r := cell_regrown v4
    have v5r := cell_regrown v5
    have v6r := cell_regrown v6
    have v7r := cell_regrown v7
    have v8r := cell_regrown v8
    obtain ⟨u0, u1, u2, u3, u4, u5, u6, u7, u8⟩ := Vbx.cells DU
    have u0r := cell_regrown u0
    have u1r := cell_regrown u1
    have u2r := cell_regrown u2
    have u3r := cell_regrown u3
    have u4r := cell_regrown u4
    have u5r := cell_regrown u5
    have u6r := cell_regrown u6
    have u7r := cell_regrown u7
    have u8r := cell_regrown u8
    have qA := fun d os => Calls.regrown_of (w := W) (d := d) (os := os) (pv _)
    have qB := fun d os => Calls.regrown_of (w := W) (d := d) (os := os) (pu _)
    refine wpIn_wide.2 ?_
    refine wp_region_quiet_below mixed (by kernel_rfl) ?_
    repeat (quiet_step (first | (with_reducible exact qA _ _) | (with_reducible exact qB _ _)))
    refine wpQuiet_nil ?_
    intro _ hw'
    obtain ⟨⟨dq, osq⟩, hw''⟩ := hw'
    subst hw''
    have hb2 := below_regrown W dq osq
    clear v0 v0r v1 v1r v2 v2r v3 v3r v4 v4r v5 v5r v6 v6r v7 v7r v8 v8r
    clear u0 u0r u1 u1r u2 u2r u3 u3r u4 u4r u5 u5r u6 u6r u7 u7r u8 u8r
    clear qA qB
    generalize grow (redrawn W dq) osq = w1 at hb2 ⊢
    replace DV := DV.on hb2
    replace DU := DU.on hb2
    replace DR := DR.on hb2
    replace bw : Below w.heap.size w w1 := bw.trans (hb2.mono (by omega))
    have hsz1 := hb2.size
    replace hs : V.p ≠ none → St w1 B s g cap c l ∧ l.length = n := fun hp => by rw [← HhV.out] at hp; exact ⟨(hs hp).1.on hb2, (hs hp).2⟩
    replace hs2 : U.p ≠ none → St w1 B2 s2 g2 cap2 c2 l2 ∧ l2.length = n2 := fun hp => by rw [← HhU.out] at hp; exact ⟨(hs2 hp).1.on hb2, (hs2 hp).2⟩
    clear hb2
    obtain ⟨v0, v1, v2, v3, v4, v5, v6, v7, v8⟩ := Vbx.cells DV
    gi_wp2_with (refine ⟨trivial, ?_⟩; gi_at_call 93; refine (callsIn_wide.2 (pall _)).mono ?_; rintro e w2 ⟨rfl, rfl⟩)
    rw [HhV.out, HhU.out]
    rw [HhV.out] at DV
    rw [HhU.out] at DU
    have DB := Blk.new w1 V.L 30
    have bl := (Below.refl _ w1).alloc (Nat.le_refl _) (.cells V.L.toArray 30)
    replace DU := DU.on bl
    replace DR := DR.on bl
    replace bw := bw.trans (bl.mono (by omega))
    replace hs : V.p ≠ none → St _ B s g cap c l ∧ l.length = n := fun hp => ⟨(hs hp).1.on bl, (hs hp).2⟩
    replace hs2 : U.p ≠ none → St _ B2 s2 g2 cap2 c2 l2 ∧ l2.length = n2 := fun hp => ⟨(hs2 hp).1.on bl, (hs2 hp).2⟩
    have hsz2 : (w1.alloc (.cells V.L.toArray 30)).heap.size = w1.heap.size + 1 := World.size_alloc _ _
    have hBB : w.heap.size ≤ (w1.alloc (.cells V.L.toArray 30)).heap.size := by omega
    have hs3 : w.heap.size + 3 ≤ w1.heap.size := by omega
    clear bl DV v0 v1 v2 v3 v4 v5 v6 v7 v8 pall pv pu hd he hsz1 hsz
    generalize w1.alloc (.cells V.L.toArray 30) = W0 at DB DU DR bw hs hs2 hsz2 hBB ⊢
    obtain ⟨Bn, hBn⟩ : ∃ Bn, w1.heap.size = Bn := ⟨_, rfl⟩
    rw [hBn] at DB ⊢
    have h0 : SameI w V U B s g cap c n B2 s2 g2 cap2 c2 n2 l l2 Bn 0 l W0 := ⟨rfl, ⟨DB, hs⟩, DU, hs2, DR, bw, Lib.hid (fun j hj => by omega)⟩
    clear DB DU DR bw hs hs2
    refine rangeFunc_V (by omega) (gf := 109) (lb := #[.pointer (some ⟨Bn, 0, none⟩)]) rfl (enters_of Try.func109 (by kernel_rfl) rfl)
      (all_seq (v := V) (B := B) (s := s) (g := g) (cap := cap) (c := c) (N0 := n) (Bn := Bn) (by omega) HV.out) (fun _ _ => rfl)
      (SameI w V U B s g cap c n B2 s2 g2 cap2 c2 n2 l l2 Bn) (SameE w V U c c2 l l2) (fun k lx W h => by rw [h.1]; exact h.2.1) (fun _ _ => SameI.ownV hBB) (SameE.ownV hBB) h0
      (SameX w V U B s g cap c n B2 s2 g2 cap2 c2 n2 l l2 Bn) (fun _ _ _ => SameX.ownV hBB) ?assign ?body ?done ?stop
    case assign =>
      intro lp k lx W K hI hK
      unfold enc
      gi_wp2
      obtain rfl := hI.1
      exact hK _ _ (keepsFrom_below ((Below.refl _ W).alloc (Nat.le_refl _) _)) ⟨hI.on ((Below.refl _ W).alloc (Nat.le_refl _) _), W.heap.size, _, _, _, _, _, _, _, _, _, _, _, _, _, _, _, _, _, _, _, _, _, _, _, _, _, _, _, _, _, _, _, _, _, _, _, Blk.new W [.int .i64 _, .int .i64 _] _, rfl⟩
    case body =>
      rintro lp k lx a' W hlp ⟨⟨rfl, h1, h2, h3, h4, h5, h6⟩, bx, X0, X1, X2, X7, X8, X9, X10, X11, X12, X13, X14, X15, X16, X17, X18, X19, X20, X21, X22, X23, X24, X25, X26, X27, X28, X29, X30, X31, X32, X33, X34, X35, X36, X37, X38, hbx, rfl⟩ hk
      have HNo := HN.out
      have hkv : k < (V.fl c lx).length := by rw [fl_length]; exact hk
      have hku : k < (U.fl c2 l2).length := by rw [fl_length, ← HNo.1]; exact hk
      have eV := fl_D V c lx hk
      have eU : D (U.fl c2 l2) k = U.at_ c2 l2 (V.ei k) (V.ej k) := by
        rw [fl_D U c2 l2 (by rw [← HNo.1]; exact hk)]
        unfold Vu.ei Vu.ej
        rw [HNo.2]
      obtain ⟨x0, x1⟩ := HWv.out (V.ei k) (V.ej k)
      obtain ⟨y0, y1⟩ := HWu.out (V.ei k) (V.ej k)
      have pt := fun W' (hb : Below W.heap.size W W') => At_sv (fun hp => ((h3 hp).1.on hb)) (v := U) (c := c2) (l := l2) (by
        by_cases hp : U.p = none
        · have hU := HU.out
          exact ⟨hU.bd, hU.p, by have e := hU.none_ hp; rw [e]; intro i j hh; rw [Vu.has_zero] at hh; cases hh⟩
        · rw [(h3 hp).2]; exact HU.out) (V.ei k) (V.ej k)
      have pk := alike_any x0 x1 y0 y1
      have HA := Lib.hid eV
      have HB := Lib.hid eU
      obtain ⟨X, hX⟩ : ∃ X, V.at_ c lx (V.ei k) (V.ej k) = X := ⟨_, rfl⟩
      obtain ⟨Y, hY⟩ : ∃ Y, U.at_ c2 l2 (V.ei k) (V.ej k) = Y := ⟨_, rfl⟩
      rw [hX] at HA pk
      rw [hY] at HB pk pt
      rw [hX]
      obtain ⟨b, hb9⟩ : ∃ b, alikeB X Y = b := ⟨_, rfl⟩
      have HC := Lib.hid hb9
      rw [hb9] at pk
      clear hX hY hb9 eV eU x0 x1 y0 y1
      obtain ⟨u0, u1, u2, u3, u4, u5, u6, u7, u8⟩ := Vbx.cells h2
      have q0 := Blk.cell hbx 0 rfl
      have q1 := Blk.cell hbx 1 rfl
      have hsW := h5.size
      cases b
      · gi_wp2_with (first
          | (refine ⟨trivial, ?_⟩; gi_at_call 87; refine (CallsIn.inRound lp (callsIn_wide.2 (pt _ (Below.refl _ _)))).mono ?_; rintro e w2 ⟨rfl, hb⟩; have r0 := Blk.cell (h4.on hb) 0 rfl; have f0 := Blk.free (h4.on hb) 0)
          | (refine ⟨trivial, ?_⟩; gi_at_call 94; refine (CallsIn.inRound lp (callsIn_wide.2 (pk _))).mono ?_; rintro e w3 ⟨rfl, rfl⟩))
        refine ⟨(keepsFrom_below hb).trans ((KeepsOthers.setCell _ _ _).from _), Blk.set_ (h4.on hb) 0 _, (h5.trans (hb.mono hsW)).setCell (p := ⟨w.heap.size + 2, 0, none⟩) (by simp) _, ?_⟩
        exact sameL_no hkv hku (by rw [HA.out, HB.out]; exact HC.out)
      · gi_wp2_with (first
          | (refine ⟨trivial, ?_⟩; gi_at_call 87; refine (CallsIn.inRound lp (callsIn_wide.2 (pt _ (Below.refl _ _)))).mono ?_; rintro e w2 ⟨rfl, hb⟩)
          | (refine ⟨trivial, ?_⟩; gi_at_call 94; refine (CallsIn.inRound lp (callsIn_wide.2 (pk _))).mono ?_; rintro e w3 ⟨rfl, rfl⟩))
        refine ⟨keepsFrom_below hb, lx, SameI.on (k := k + 1) ⟨rfl, h1, h2, h3, h4, h5, Lib.hid (fun j hj => ?_)⟩ hb⟩
        rcases Nat.lt_or_ge j k with hlt | hge
        · exact h6.out j hlt
        · obtain rfl : j = k := by omega
          rw [HA.out, HB.out]; exact HC.out
    case done =>
      rintro D lx W hD ⟨rfl, h1, h2, h3, h4, h5, h6⟩ hK
      have q0 := Blk.cell h4 0 rfl
      have q1 := Blk.free h4 0
      have HNo := HN.out
      have hres : sameL (V.fl c lx) (U.fl c2 l2) = true := sameL_yes (by rw [fl_length, fl_length, HNo.1]) (fun j hj => h6.out j (by rw [fl_length] at hj; exact hj))
      gi_wp2
      have hK' : (W.setCell ⟨w.heap.size + 2, 0, none⟩ (.bool true)).heap[D]? = some (.deferred (some [])) := (KeepsOthers.setCell W ⟨w.heap.size + 2, 0, none⟩ _).same D _ hK rfl
      refine ⟨by simp, .inl ⟨_, _, rfl, run_takeDeferred hK', ?_⟩⟩
      have m1 : Blk _ (w.heap.size + 2) [.bool true] := (Blk.set_ h4 0 (.bool true)).ownV (grownBy_putObj' _ D (.deferred none)) (noCells_put hK' rfl)
      have m2 := Blk.cell m1 0 rfl
      refine ⟨.bool true, by simp [results, Try.results55, go_sem, m2], by rw [HhV.out, HhU.out, hres], ?_⟩
      exact below_ownV ((h5.setCell (p := ⟨w.heap.size + 2, 0, none⟩) (by simp) _)) (grownBy_putObj' _ D (.deferred none)) (noCells_put hK' rfl) (by omega)
    case stop =>
      rintro D W hD ⟨h4, h5, h6⟩ hK
      gi_wp2
      refine ⟨by simp, .inl ⟨_, _, rfl, run_takeDeferred hK, ?_⟩⟩
      have m1 : Blk _ (w.heap.size + 2) [.bool false] := h4.ownV (grownBy_putObj' _ D (.deferred none)) (noCells_put hK rfl)
      have m2 := Blk.cell m1 0 rfl
      refine ⟨.bool false, by simp [results, Try.results55, go_sem, m2], by rw [h6], ?_⟩
      exact below_ownV h5 (grownBy_putObj' _ D (.deferred none)) (noCells_put hK rfl) (by omega)

theorem Same_any (hv : Vk v s c n K) (hs : v.p ≠ none → St w B s g cap c l ∧ l.length = n) (hu : Vk u s2 c2 n2 K2) (hs2 : u.p ≠ none → St w B2 s2 g2 cap2 c2 l2 ∧ l2.length = n2) :
    Calls Try.prog 55 #[v.V, u.V] w (Ans w (.bool (sameV v c l u c2 l2))) := by
  unfold sameV
  cases h1 : (v.p == none) != (u.p == none)
  · have h1' : (u.p == none) = (v.p == none) := by revert h1; cases (v.p == none) <;> cases (u.p == none) <;> simp
    cases h2 : v.R != u.R
    · cases h3 : v.C != u.C
      · exact Same_yes hv hs hu hs2 rfl h1' h2 h3
      · exact Same_no_c rfl h1' h2 h3 w
    · exact Same_no_b rfl h1' h2 w
  · exact Same_no_a rfl (by revert h1; cases (v.p == none) <;> cases (u.p == none) <;> simp) w
end
end Go.Proofs.Ytfelmkkkaphkpaa
