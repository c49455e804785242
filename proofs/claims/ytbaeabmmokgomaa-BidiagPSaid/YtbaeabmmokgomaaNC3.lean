/-
  Joined (by wip/tools/joinM.py) of CVwO, CVwP, CVwQ, CVwR.
-/
import Derived.Test.YtbaeabmmokgomaaMJTdG
import Derived.Test.YtbaeabmmokgomaaMJRfJ
import Derived.Test.YtbaeabmmokgomaaMJBdB
import Derived.Test.YtbaeabmmokgomaaMJRfD
import Derived.Test.YtbaeabmmokgomaaNC2
namespace Go.Proofs.Ytbaeabmmokgomaa
open Go.RowKit Go.Bw Go.Sort Go.Shelf
set_option linter.unusedVariables false
set_option linter.unusedSimpArgs false
attribute [local go_sem] Oper.semAt_some

/-! ### what abides a block that is no cells -/
/-- rows that turn are no cells -/
def NoCells (B : Nat) (W : World) (row : Option Nat) : Prop := ∀ r, row = some r → B ≤ r ∧ ∃ o : Obj, W.heap[r]? = some o ∧ o.isCells = false
theorem Blk.ownV {B g : Nat} {vs : List Value} {W W' : World} {row : Option Nat} (h : Blk W g vs) (hg : W.grownBy W' row) (hr : NoCells B W row) : Blk W' g vs :=
  h.grown hg (fun e => by
    obtain ⟨T, h⟩ := h
    obtain ⟨_, o, ho, hc⟩ := hr g e.symm
    rw [h] at ho
    cases ho
    cases hc)
theorem OwnF.ownV {B B' cap : Nat} {A : Option Addr} {l : List Int} {W W' : World} {row : Option Nat} (h : OwnF W B' A cap l) (hg : W.grownBy W' row) (hr : NoCells B W row) : OwnF W' B' A cap l := by
  rcases h with ⟨h1, h2⟩
  refine ⟨h1, h2.imp id fun ⟨g, cap, cur, hv, hb, hh, r⟩ => ⟨g, cap, cur, hv, hb, (hg.block g (lt_of_block hh) (fun e => ?_)).trans hh, r⟩⟩
  obtain ⟨_, o, ho, hc⟩ := hr g e.symm
  rw [hh] at ho
  cases ho
  cases hc
theorem St.ownV {B B' s g cap c : Nat} {l : List Int} {W W' : World} {row : Option Nat} (h : St W B' s g cap c l) (hg : W.grownBy W' row) (hr : NoCells B W row) : St W' B' s g cap c l :=
  ⟨h.box.ownV hg hr, h.own.ownV hg hr, h.ne, h.wd, h.lo, h.len, h.col⟩
theorem below_ownV {B : Nat} {w W W' : World} {row : Option Nat} (h : Below w.heap.size w W) (hg : W.grownBy W' row) (hr : NoCells B W row) (hB : w.heap.size ≤ B) : Below w.heap.size w W' :=
  h.grown hg h.size (fun k e => by have := (hr k e).1; omega)
theorem keepsFrom_below {B : Nat} {W W' : World} (h : Below W.heap.size W W') : KeepsFrom B W W' := KeepsFrom.of_grownBy (grown_below h none) (fun j e => by cases e)
theorem noCells_put {W : World} {D : Nat} {o : Obj} (hD : W.heap[D]? = some o) (ho : o.isCells = false) : NoCells D W (some D) := fun r e => by cases e; exact ⟨Nat.le_refl _, o, hD, ho⟩
/-- the floats of a view, row by row -/
def Vu.fl (v : Vu) (c : Nat) (l : List Int) : List Int := (List.range (v.R * v.C).toNat).map fun k => v.at_ c l (v.ei k) (v.ej k)
theorem fl_length (v : Vu) (c : Nat) (l : List Int) : (v.fl c l).length = (v.R * v.C).toNat := by simp [Vu.fl]
theorem fl_D (v : Vu) (c : Nat) (l : List Int) {k : Nat} (hk : k < (v.R * v.C).toNat) : D (v.fl c l) k = v.at_ c l (v.ei k) (v.ej k) := by
  rw [D_in (by rw [fl_length]; exact hk)]
  simp [Vu.fl]
/-- two lists of floats are the same, all NaNs being one -/
def sameLC (a b : List Int) : Bool := decide (a.map one = b.map one)
section
variable {w : World} {v u : Vu} {K K2 : Int} {B s g cap c n B2 s2 g2 cap2 c2 n2 : Nat} {l l2 : List Int}
/-- between two rounds -/
def SameI (w : World) (v u : Vu) (B s g cap c n B2 s2 g2 cap2 c2 n2 : Nat) (l l2 : List Int) (Bn : Nat) (k : Nat) (lx : List Int) (W : World) : Prop :=
  lx = l ∧ Rd v B s g cap c n Bn l W ∧ Vbx W (w.heap.size + 1) u ∧ (u.p ≠ none → St W B2 s2 g2 cap2 c2 l2 ∧ l2.length = n2) ∧ Blk W (w.heap.size + 2) [.bool false] ∧ Below w.heap.size w W ∧ Hid (∀ j, j < k → alikeBC (D (v.fl c l) j) (D (u.fl c2 l2) j) = true)
theorem SameI.ownV {BB Bn k : Nat} {lx : List Int} (hB : w.heap.size ≤ BB) : OwnV BB (SameI w v u B s g cap c n B2 s2 g2 cap2 c2 n2 l l2 Bn k lx) := by
  rintro W W' row ⟨e, h1, h2, h3, h4, h5, h6⟩ hg hr
  exact ⟨e, ⟨h1.1.ownV hg hr, fun hp => ⟨(h1.2 hp).1.ownV hg hr, (h1.2 hp).2⟩⟩, h2.ownV hg hr, fun hp => ⟨(h3 hp).1.ownV hg hr, (h3 hp).2⟩, h4.ownV hg hr, below_ownV h5 hg hr hB, h6⟩
theorem SameI.on {Bn k : Nat} {lx : List Int} {W W' : World} (h : SameI w v u B s g cap c n B2 s2 g2 cap2 c2 n2 l l2 Bn k lx W) (hb : Below W.heap.size W W') : SameI w v u B s g cap c n B2 s2 g2 cap2 c2 n2 l l2 Bn k lx W' := by
  obtain ⟨e, h1, h2, h3, h4, h5, h6⟩ := h
  exact ⟨e, h1.on hb, h2.on hb, fun hp => ⟨(h3 hp).1.on hb, (h3 hp).2⟩, h4.on hb, h5.trans (hb.mono h5.size), h6⟩
/-- within one -/
def SameX (w : World) (v u : Vu) (B s g cap c n B2 s2 g2 cap2 c2 n2 : Nat) (l l2 : List Int) (Bn : Nat) (k : Nat) (lx : List Int) (a' : Act) (W : World) : Prop :=
  SameI w v u B s g cap c n B2 s2 g2 cap2 c2 n2 l l2 Bn k lx W ∧ ∃ (bx : Nat) (X0 X1 X2 X7 X8 X9 X10 X11 X12 X13 X14 X15 X16 X17 X18 X19 X20 X21 X22 X23 X24 X25 X26 X27 X28 X29 X30 X31 X32 X33 X34 X35 X36 X37 X38 : Value), Blk W bx [.int .i64 (v.ei k), .int .i64 (v.ej k)] ∧ a' = { tmps := #[X0, X1, X2, .pointer (some ⟨w.heap.size + 1, 0, none⟩), .pointer (some ⟨w.heap.size + 2, 0, none⟩), .pointer (some ⟨bx, 0, none⟩), .float .f64 (v.at_ c l (v.ei k) (v.ej k)).toNat, X7, X8, X9, X10, X11, X12, X13, X14, X15, X16, X17, X18, X19, X20, X21, X22, X23, X24, X25, X26, X27, X28, X29, X30, X31, X32, X33, X34, X35, X36, X37, X38], defers := [] }
theorem SameX.ownV {BB Bn k : Nat} {lx : List Int} {a' : Act} (hB : w.heap.size ≤ BB) : OwnV BB (SameX w v u B s g cap c n B2 s2 g2 cap2 c2 n2 l l2 Bn k lx a') := by
  rintro W W' row ⟨hI, bx, X0, X1, X2, X7, X8, X9, X10, X11, X12, X13, X14, X15, X16, X17, X18, X19, X20, X21, X22, X23, X24, X25, X26, X27, X28, X29, X30, X31, X32, X33, X34, X35, X36, X37, X38, hb, e⟩ hg hr
  exact ⟨SameI.ownV hB W W' row hI hg hr, bx, X0, X1, X2, X7, X8, X9, X10, X11, X12, X13, X14, X15, X16, X17, X18, X19, X20, X21, X22, X23, X24, X25, X26, X27, X28, X29, X30, X31, X32, X33, X34, X35, X36, X37, X38, hb.ownV hg hr, e⟩
/-- left, as two floats part -/
def SameE (w : World) (v u : Vu) (c c2 : Nat) (l l2 : List Int) (W : World) : Prop := Blk W (w.heap.size + 2) [.bool false] ∧ Below w.heap.size w W ∧ sameLC (v.fl c l) (u.fl c2 l2) = false
theorem SameE.ownV {BB : Nat} (hB : w.heap.size ≤ BB) : OwnV BB (SameE w v u c c2 l l2) := by
  rintro W W' row ⟨h4, h5, h6⟩ hg hr
  exact ⟨h4.ownV hg hr, below_ownV h5 hg hr hB, h6⟩
end
end Go.Proofs.Ytbaeabmmokgomaa
namespace Go.Proofs.Ytbaeabmmokgomaa
open Go.RowKit Go.Bw Go.Sort Go.Shelf
set_option linter.unusedVariables false
set_option linter.unusedSimpArgs false
attribute [local go_sem] Oper.semAt_some

section
variable {w : World} {v : Vu} {K : Int} {B s g cap c n : Nat} {l : List Int}
/-- a matrix of a call's own is handed back -/
def MatA (w : World) (R C : Int) (l : List Int) (e : Ending) (w' : World) : Prop := ∃ A cap, e = .returned (mV R C A l.length cap) ∧ OwnF w' w.heap.size A cap l ∧ (A = none → R = 0 ∧ C = 0) ∧ Below w.heap.size w w'
def MatS (w : World) (R C : Int) (l : List Int) (e : Ending) (w' : World) : Prop := ∃ g cap, e = .returned (mV R C (some ⟨g, 0, none⟩) l.length cap) ∧ OwnF w' w.heap.size (some ⟨g, 0, none⟩) cap l ∧ Below w.heap.size w w'
set_option maxHeartbeats 2000000 in
theorem Matrix_none (hp : v.p = none) (w : World) : Calls Try.prog 74 #[v.V] w (MatA w 0 0 []) := by
  have pv := none_any v
  rw [show (v.p == none) = true by rw [hp]; rfl] at pv
  clear hp
  have DZ := Blk.new (w.alloc (.cells v.L.toArray 57)) [.int .i64 0, .int .i64 0, .slice none 0 0] 24
  rw [World.size_alloc] at DZ
  have bz := ((Below.refl _ w).alloc (Nat.le_refl _) (.cells v.L.toArray 57)).alloc (by simp) (.cells #[.int .i64 0, .int .i64 0, .slice none 0 0] 24)
  obtain ⟨p, f0, f1, d0, d1, r0, r1, R, C⟩ := v
  go_enter Try.func74, Try.ntmps74
  go_wp2_with fail
  with_reducible refine (pv _).mono ?_
  rintro e w1 ⟨rfl, hb⟩
  replace DZ := DZ.on hb
  replace bz := bz.trans (hb.mono (by simp; omega))
  obtain ⟨c0, c1, c2, f0, f1, f2⟩ := Mbx.cells DZ
  go_wp2_with fail
  refine bodyPost_ret (v := mV 0 0 none 0 0) (by simp [results, Try.results74, go_sem, c0, c1, c2]) rfl ?_
  exact ⟨none, 0, rfl, OwnF.nil _ _, fun _ => ⟨rfl, rfl⟩, by go_grown⟩
theorem wpListIn_appF {lp n : Nat} {w : World} {ops : Array Oper} {rest : List Oper} {o : Oper} {a : Act} {Q : Exit → Act → World → Prop} (hgd : o.guard = none) (s x : Operand)
    (ho : o.op = .call { callee := .builtin .append, args := #[s, x], argTypes := #[22, 22] })
    (base : Nat) (A : Option Addr) (c : Nat) (l : List Int) (hs : a.eval s = .slice A l.length c) (hown : OwnF w base A c l) (B : Nat) (A' : Option Addr) (c' : Nat) (m : List Int) (hx : a.eval x = .slice A' m.length c') (hr : NumF w B A' c' m)
    (hlen : l.length + m.length ≤ 4000000) (hbase : base ≤ w.heap.size)
    (h : ∀ A2 c2 w', OwnF w' base A2 c2 (l ++ m) → w.grownBy w' (Value.slice A l.length c).ownBlock → ((Value.slice A2 (l ++ m).length c2).ownBlock = (Value.slice A l.length c).ownBlock ∨ (Value.slice A2 (l ++ m).length c2).ownBlock = some w.heap.size) → wpListIn (Fence.wide.inRound lp) n Try.prog ops Q rest (a.put o.dst (.slice A2 (l ++ m).length c2)) w') : wpListIn (Fence.wide.inRound lp) n Try.prog ops Q (o :: rest) a w :=
  wpListIn_plain hgd fun _ hK => wpIn_of_wp (by rw [ho]; intro c hc; cases hc) (wp_appF w s x ho base A c l hs hown B A' c' m hx hr hlen hbase fun A2 c2 w' h2 h3 h4 => hK _ _ (h A2 c2 w' h2 h3 h4))
theorem keepsFrom_own {B B' g cap : Nat} {w w' : World} {l : List Int} (h : OwnF w B' (some ⟨g, 0, none⟩) cap l) (hg : w.grownBy w' (some g)) : KeepsFrom B w w' :=
  ⟨hg.size, fun k o _ hk ho => (hg.block k (lt_of_block hk) (fun e => by
    injection e with e
    subst e
    rcases h.2 with ⟨e1, _⟩ | ⟨g', cap', cur, hv, _, hh, _⟩
    · injection e1 with e1; cases e1
    · injection hv with e1
      injection e1 with e1
      injection e1 with e1
      subst e1
      rw [hh] at hk
      cases hk
      cases ho)).trans hk⟩
theorem St.grown {B s g cap c x : Nat} {l : List Int} {w w' : World} (h : St w B s g cap c l) (hg : w.grownBy w' (some x)) (h1 : s ≠ x) (h2 : g ≠ x) : St w' B s g cap c l :=
  ⟨h.box.grown hg (fun e => h1 (by injection e)), by
    rcases h.own with ⟨o1, o2⟩
    refine ⟨o1, o2.imp id fun ⟨g', cap', cur, hv, hb, hh, r⟩ => ⟨g', cap', cur, hv, hb, (hg.block g' (lt_of_block hh) (fun e => ?_)).trans hh, r⟩⟩
    injection hv with e1
    injection e1 with e1
    injection e1 with e1
    injection e with e
    exact h2 (e1.trans e), h.ne, h.wd, h.lo, h.len, h.col⟩
/-- between two rounds -/
def MatI (w : World) (v : Vu) (B s g cap c n : Nat) (l : List Int) (Bn a3 : Nat) (k : Nat) (lx : List Int) (W : World) : Prop :=
  lx = l ∧ Rd v B s g cap c n Bn l W ∧ Mbx W (w.heap.size + 1) 0 0 none 0 0 ∧ Below w.heap.size w W ∧ ∃ g' cap', Mbx W a3 v.R v.C (some ⟨g', 0, none⟩) ((v.fl c l).take k).length cap' ∧ OwnF W w.heap.size (some ⟨g', 0, none⟩) cap' ((v.fl c l).take k) ∧ a3 ≠ g' ∧ Bn ≠ g' ∧ w.heap.size + 1 ≠ g'
theorem MatI.ownV {BB Bn a3 k : Nat} {lx : List Int} (hB : w.heap.size ≤ BB) : OwnV BB (MatI w v B s g cap c n l Bn a3 k lx) := by
  rintro W W' row ⟨e, h1, h2, h3, g', cap', h4, h5, h6⟩ hg hr
  exact ⟨e, ⟨h1.1.ownV hg hr, fun hp => ⟨(h1.2 hp).1.ownV hg hr, (h1.2 hp).2⟩⟩, h2.ownV hg hr, below_ownV h3 hg hr hB, g', cap', h4.ownV hg hr, h5.ownV hg hr, h6⟩
/-- within one -/
def MatX (w : World) (v : Vu) (B s g cap c n : Nat) (l : List Int) (Bn a3 : Nat) (k : Nat) (lx : List Int) (a' : Act) (W : World) : Prop :=
  MatI w v B s g cap c n l Bn a3 k lx W ∧ ∃ (X0 X1 X2 X4 X6 X7 X8 X9 X10 X11 X12 X13 X14 X15 X16 X17 X18 X19 X20 X21 X22 X23 X24 X25 X26 X27 X28 X29 X30 : Value), a' = { tmps := #[X0, X1, X2, .pointer (some ⟨a3, 0, none⟩), X4, .float .f64 (v.at_ c l (v.ei k) (v.ej k)).toNat, X6, X7, X8, X9, X10, X11, X12, X13, X14, X15, X16, X17, X18, X19, X20, X21, X22, X23, X24, X25, X26, X27, X28, X29, X30], defers := [] }
theorem MatX.ownV {BB Bn a3 k : Nat} {lx : List Int} {a' : Act} (hB : w.heap.size ≤ BB) : OwnV BB (MatX w v B s g cap c n l Bn a3 k lx a') := by
  rintro W W' row ⟨hI, X0, X1, X2, X4, X6, X7, X8, X9, X10, X11, X12, X13, X14, X15, X16, X17, X18, X19, X20, X21, X22, X23, X24, X25, X26, X27, X28, X29, X30, e⟩ hg hr
  exact ⟨MatI.ownV hB W W' row hI hg hr, X0, X1, X2, X4, X6, X7, X8, X9, X10, X11, X12, X13, X14, X15, X16, X17, X18, X19, X20, X21, X22, X23, X24, X25, X26, X27, X28, X29, X30, e⟩
set_option maxRecDepth 100000 in
set_option maxHeartbeats 4000000 in
theorem Matrix_yes (hv : Vk v s c n K) (hs : St w B s g cap c l) (hl : l.length = n) (hp : v.p ≠ none) : Calls Try.prog 74 #[v.V] w (MatS w v.R v.C (v.fl c l)) := by
  have pv := none_any v
  rw [show (v.p == none) = false by cases h : v.p; exact absurd h hp; rfl] at pv
  have HP := Lib.hid hp
  have HV := Lib.hid hv
  have pall := All_any v
  obtain ⟨_, ⟨R0, R1⟩, C0, C1⟩ : True ∧ (0 ≤ v.R ∧ v.R ≤ 512) ∧ 0 ≤ v.C ∧ v.C ≤ 512 := ⟨trivial, hv.bd.R, hv.bd.C⟩
  have p0 := prod_bd R0 R1 C0 C1
  obtain ⟨N, hN⟩ := Int.eq_ofNat_of_zero_le p0.1
  have hN2 : N ≤ 262144 := by omega
  have hmk := run_makeF0 N (by omega)
  have HL : Hid ((v.fl c l).length = N) := Lib.hid (by rw [fl_length, hN]; rfl)
  have DV := Blk.new w v.L 57
  have bw := (Below.refl _ w).alloc (Nat.le_refl _) (.cells v.L.toArray 57)
  have DZ := Blk.new (w.alloc (.cells v.L.toArray 57)) [.int .i64 0, .int .i64 0, .slice none 0 0] 24
  rw [World.size_alloc] at DZ
  replace DV := DV.alloc (.cells #[.int .i64 0, .int .i64 0, .slice none 0 0] 24)
  replace bw := bw.alloc (by simp) (.cells #[.int .i64 0, .int .i64 0, .slice none 0 0] 24)
  have hsz : ((w.alloc (.cells v.L.toArray 57)).alloc (.cells #[.int .i64 0, .int .i64 0, .slice none 0 0] 24)).heap.size = w.heap.size + 2 := by simp
  have hg0w := hs.gt.2
  have hs0w := hs.lt
  replace hs := hs.on bw
  clear hp hv p0 R0 R1 C0 C1
  obtain ⟨V, hV⟩ : ∃ V, v = V := ⟨_, rfl⟩
  rw [hV] at HV HL HP ⊢
  have HhV := Lib.hid hV
  rw [← hV]
  clear hV
  refine (callsIn_wide (n := 5)).1 ?_
  refine callsIn_of_wp_marks Try.func74 rfl trivial ?_ rfl
  simp only [Try.ntmps74, List.size_toArray, List.length_cons, List.length_nil, Nat.reduceAdd, Nat.reduceSub, Array.replicate_succ, Array.replicate_zero, List.push_toArray, List.append_toArray, List.nil_append, List.cons_append]
  obtain ⟨p, f0, f1, d0, d1, r0, r1, R, C⟩ := v
  simp only at hN
  gi_wp2_with (refine ⟨trivial, ?_⟩; gi_at_call 90; refine (callsIn_wide.2 (pv _)).mono ?_; rintro e w1 ⟨rfl, hb⟩; replace DV := DV.on hb; replace DZ := DZ.on hb; replace hs := hs.on hb; replace bw := bw.trans (hb.mono (by simp; omega)); have hsz1 := hb.size; obtain ⟨v0, v1, v2, v3, v4, v5, v6, v7, v8⟩ := Vbx.cells DV)
  have hwr : IntKind.i64.wrap (N : Int) = (N : Int) := by rw [IntKind.wrap_i64]; omega
  have ltV := DV.lt
  have ltZ := DZ.lt
  refine wpIn_wide.2 (wp_only ?_)
  refine wp_region_held_drew (S := fun w9 : World => Vbx w9 w.heap.size ⟨p, f0, f1, d0, d1, r0, r1, R, C⟩) (by kernel_rfl) DV.drew (fun hS => ?_)
  refine wpAnyH_take (i := 0) (v := ?v0_1) rfl (by kernel_rfl) (by kernel_rfl) (by kernel_rfl) (fun _ _ _ h => h) (Or.inl ⟨by rfl, ?hy0_1⟩) (by assumption) ?rest0_1
  case hy0_1 => (intro w9 hSw; clear hSw; go_simp; try with_reducible rfl)
  try simp only [Act.put, List.setIfInBounds_toArray, List.set_cons_zero, List.set_cons_succ, List.getElem_toArray, List.getElem_cons_zero, List.getElem_cons_succ]
  refine wpAnyH_take (i := 1) (v := ?v1_2) rfl (by kernel_rfl) (by kernel_rfl) (by kernel_rfl) (fun _ _ _ h => h) (Or.inl ⟨by rfl, ?hy1_2⟩) (by assumption) ?rest1_2
  case hy1_2 => (intro w9 hSw; obtain ⟨c0, c1, c2, c3, c4, c5, c6, c7, c8⟩ := Vbx.cells (show Vbx w9 w.heap.size ⟨p, f0, f1, d0, d1, r0, r1, R, C⟩ from hSw); clear hSw; go_simp; try with_reducible rfl)
  try simp only [Act.put, List.setIfInBounds_toArray, List.set_cons_zero, List.set_cons_succ, List.getElem_toArray, List.getElem_cons_zero, List.getElem_cons_succ]
  refine wpAnyH_take (i := 2) (v := ?v2_3) rfl (by kernel_rfl) (by kernel_rfl) (by kernel_rfl) (fun _ _ _ h => h) (Or.inl ⟨by rfl, ?hy2_3⟩) (by assumption) ?rest2_3
  case hy2_3 => (intro w9 hSw; clear hSw; go_simp; try with_reducible rfl)
  try simp only [Act.put, List.setIfInBounds_toArray, List.set_cons_zero, List.set_cons_succ, List.getElem_toArray, List.getElem_cons_zero, List.getElem_cons_succ]
  refine wpAnyH_take (i := 3) (v := ?v3_4) rfl (by kernel_rfl) (by kernel_rfl) (by kernel_rfl) (fun _ _ _ h => h) (Or.inl ⟨by rfl, ?hy3_4⟩) (by assumption) ?rest3_4
  case hy3_4 => (intro w9 hSw; obtain ⟨c0, c1, c2, c3, c4, c5, c6, c7, c8⟩ := Vbx.cells (show Vbx w9 w.heap.size ⟨p, f0, f1, d0, d1, r0, r1, R, C⟩ from hSw); clear hSw; go_simp; try with_reducible rfl)
  try simp only [Act.put, List.setIfInBounds_toArray, List.set_cons_zero, List.set_cons_succ, List.getElem_toArray, List.getElem_cons_zero, List.getElem_cons_succ]
  refine wpAnyH_take (i := 4) (v := ?v4_5) rfl (by kernel_rfl) (by kernel_rfl) (by kernel_rfl) (fun _ _ _ h => h) (Or.inl ⟨by rfl, ?hy4_5⟩) (by assumption) ?rest4_5
  case hy4_5 => (intro w9 hSw; clear hSw; go_simp; try with_reducible rfl)
  try simp only [Act.put, List.setIfInBounds_toArray, List.set_cons_zero, List.set_cons_succ, List.getElem_toArray, List.getElem_cons_zero, List.getElem_cons_succ]
  refine wpAnyH_take (i := 5) (v := ?v5_6) rfl (by kernel_rfl) (by kernel_rfl) (by kernel_rfl) (fun _ _ _ h => h) (Or.inl ⟨by rfl, ?hy5_6⟩) (by assumption) ?rest5_6
  case hy5_6 => (intro w9 hSw; obtain ⟨c0, c1, c2, c3, c4, c5, c6, c7, c8⟩ := Vbx.cells (show Vbx w9 w.heap.size ⟨p, f0, f1, d0, d1, r0, r1, R, C⟩ from hSw); clear hSw; go_simp; try with_reducible rfl)
  try simp only [Act.put, List.setIfInBounds_toArray, List.set_cons_zero, List.set_cons_succ, List.getElem_toArray, List.getElem_cons_zero, List.getElem_cons_succ]
  refine wpAnyH_take (i := 6) (v := ?v6_7) rfl (by kernel_rfl) (by kernel_rfl) (by kernel_rfl) (fun _ _ _ h => h) (Or.inl ⟨by rfl, ?hy6_7⟩) (by assumption) ?rest6_7
  case hy6_7 => (intro w9 hSw; clear hSw; go_simp; try with_reducible rfl)
  try simp only [Act.put, List.setIfInBounds_toArray, List.set_cons_zero, List.set_cons_succ, List.getElem_toArray, List.getElem_cons_zero, List.getElem_cons_succ]
  refine wpAnyH_take (i := 7) (v := ?v7_8) rfl (by kernel_rfl) (by kernel_rfl) (by kernel_rfl) (fun _ _ _ h => h) (Or.inl ⟨by rfl, ?hy7_8⟩) (by assumption) ?rest7_8
  case hy7_8 => (intro w9 hSw; obtain ⟨c0, c1, c2, c3, c4, c5, c6, c7, c8⟩ := Vbx.cells (show Vbx w9 w.heap.size ⟨p, f0, f1, d0, d1, r0, r1, R, C⟩ from hSw); clear hSw; go_simp; try with_reducible rfl)
  try simp only [Act.put, List.setIfInBounds_toArray, List.set_cons_zero, List.set_cons_succ, List.getElem_toArray, List.getElem_cons_zero, List.getElem_cons_succ]
  refine wpAnyH_take (i := 8) (v := ?v8_9) rfl (by kernel_rfl) (by kernel_rfl) (by kernel_rfl) (fun _ _ _ h => h) (Or.inl ⟨by rfl, ?hy8_9⟩) (by assumption) ?rest8_9
  case hy8_9 => (intro w9 hSw; clear hSw; go_simp; try with_reducible rfl)
  try simp only [Act.put, List.setIfInBounds_toArray, List.set_cons_zero, List.set_cons_succ, List.getElem_toArray, List.getElem_cons_zero, List.getElem_cons_succ]
  refine wpAnyH_ready (rs := [9, 11]) (by kernel_rfl) (by simp) ?_
  refine AllReadyH.cons rfl (fun K hK => ?_) (AllReadyH.cons rfl (fun K hK => ?_) AllReadyH.nil)
  · go_simp
    refine hK.out _ _ (DV.alloc _).drew (fun hH => ?_)
    clear hK K hS
    have hS := hH
    clear hH
    try simp only [Act.put, List.setIfInBounds_toArray, List.set_cons_zero, List.set_cons_succ, List.getElem_toArray, List.getElem_cons_zero, List.getElem_cons_succ]
    refine wpAnyH_take (i := 10) (v := ?v10_10) rfl (by kernel_rfl) (by kernel_rfl) (by kernel_rfl) (fun _ _ _ h => h) (Or.inl ⟨by rfl, ?hy10_10⟩) (by assumption) ?rest10_10
    case hy10_10 => (intro w9 hSw; clear hSw; go_simp; try with_reducible rfl)
    try simp only [Act.put, List.setIfInBounds_toArray, List.set_cons_zero, List.set_cons_succ, List.getElem_toArray, List.getElem_cons_zero, List.getElem_cons_succ]
    refine wpAnyH_ready (rs := [11]) (by kernel_rfl) (by simp) ?_
    refine AllReadyH.cons rfl (fun K hK => ?_) AllReadyH.nil
    go_simp
    refine hK.out _ _ ((DV.alloc _).alloc _).drew (fun hH => ?_)
    clear hK K hS
    have hS := hH
    clear hH
    try simp only [Act.put, List.setIfInBounds_toArray, List.set_cons_zero, List.set_cons_succ, List.getElem_toArray, List.getElem_cons_zero, List.getElem_cons_succ]
    refine wpAnyH_ready (rs := [12]) (by kernel_rfl) (by simp) ?_
    refine AllReadyH.cons rfl (fun K hK => ?_) AllReadyH.nil
    go_simp
    refine hK.out _ _ ((DV.alloc _).alloc _).drew (fun hH => ?_)
    clear hK K hS
    have hS := hH
    clear hH
    try simp only [Act.put, List.setIfInBounds_toArray, List.set_cons_zero, List.set_cons_succ, List.getElem_toArray, List.getElem_cons_zero, List.getElem_cons_succ]
    refine wpAnyH_done (by kernel_rfl) ?_ _
    have hsz9 : w.heap.size + 2 ≤ w1.heap.size := by simp at hsz1; omega
    have e5 : (((w1.alloc (.cells (LF (List.replicate N 0)).toArray 49)).alloc (.cells #[.int .i64 R, .int .i64 C, .slice (some ⟨w1.heap.size, 0, none⟩) 0 N] 24)).drew).heap.size = w1.heap.size + 2 := by simp
    have bl : Below w1.heap.size w1 (((w1.alloc (.cells (LF (List.replicate N 0)).toArray 49)).alloc (.cells #[.int .i64 R, .int .i64 C, .slice (some ⟨w1.heap.size, 0, none⟩) 0 N] 24)).drew) := by go_grown
    have DZ1 : Mbx (((w1.alloc (.cells (LF (List.replicate N 0)).toArray 49)).alloc (.cells #[.int .i64 R, .int .i64 C, .slice (some ⟨w1.heap.size, 0, none⟩) 0 N] 24)).drew) (w.heap.size + 1) 0 0 none 0 0 := DZ.on bl
    have hs1 := hs.on bl
    have bw1 : Below w.heap.size w (((w1.alloc (.cells (LF (List.replicate N 0)).toArray 49)).alloc (.cells #[.int .i64 R, .int .i64 C, .slice (some ⟨w1.heap.size, 0, none⟩) 0 N] 24)).drew) := bw.trans (bl.mono (by omega))
    have DM : Mbx (((w1.alloc (.cells (LF (List.replicate N 0)).toArray 49)).alloc (.cells #[.int .i64 R, .int .i64 C, .slice (some ⟨w1.heap.size, 0, none⟩) 0 N] 24)).drew) ((w1.heap.size + 1)) R C (some ⟨w1.heap.size, 0, none⟩) 0 N := by have h9 := Blk.new (w1.alloc (.cells (LF (List.replicate N 0)).toArray 49)) [.int .i64 R, .int .i64 C, .slice (some ⟨w1.heap.size, 0, none⟩) 0 N] 24; rw [World.size_alloc] at h9; exact h9.drew
    have HO : OwnF (((w1.alloc (.cells (LF (List.replicate N 0)).toArray 49)).alloc (.cells #[.int .i64 R, .int .i64 C, .slice (some ⟨w1.heap.size, 0, none⟩) 0 N] 24)).drew) w.heap.size (some ⟨w1.heap.size, 0, none⟩) N [] := by have h9 := (RowF.new w1 (List.replicate N 0)).own (B := w.heap.size) 0 (by omega) (by unfold maxLen; rw [List.length_replicate]; omega) (by omega); rw [List.take_zero, List.length_replicate] at h9; exact (h9.alloc_ _)
    have na3 : ((w1.heap.size + 1)) ≠ w1.heap.size := by omega
    have l3 : w1.heap.size ≤ ((w1.heap.size + 1)) ∧ w1.heap.size ≤ w1.heap.size ∧ (w1.heap.size + 1) < w1.heap.size + 2 ∧ w1.heap.size < w1.heap.size + 2 := by omega
    clear hS
    replace DV : Vbx (((w1.alloc (.cells (LF (List.replicate N 0)).toArray 49)).alloc (.cells #[.int .i64 R, .int .i64 C, .slice (some ⟨w1.heap.size, 0, none⟩) 0 N] 24)).drew) w.heap.size ⟨p, f0, f1, d0, d1, r0, r1, R, C⟩ := DV.on bl
    clear ltV ltZ v0 v1 v2 v3 v4 v5 v6 v7 v8 hmk
    clear bl DZ hs bw
    generalize ((w1.alloc (.cells (LF (List.replicate N 0)).toArray 49)).alloc (.cells #[.int .i64 R, .int .i64 C, .slice (some ⟨w1.heap.size, 0, none⟩) 0 N] 24)).drew = W3 at DZ1 hs1 bw1 DM HO e5 DV ⊢
    dsimp only [onlyN]
    obtain ⟨v0, v1, v2, v3, v4, v5, v6, v7, v8⟩ := Vbx.cells DV
    gi_wp2_with (refine ⟨trivial, ?_⟩; gi_at_call 97; refine (callsIn_wide.2 (pall _)).mono ?_; rintro e w2 ⟨rfl, rfl⟩)
    rw [HhV.out] at DV
    have DB := Blk.new W3 V.L 57
    have bl := (Below.refl _ W3).alloc (Nat.le_refl _) (.cells V.L.toArray 57)
    replace DZ1 := DZ1.on bl
    replace hs1 := hs1.on bl
    replace DM := DM.on bl
    replace HO := HO.on_ bl
    replace bw1 := bw1.trans (bl.mono (by omega))
    have hsz2 : (W3.alloc (.cells V.L.toArray 57)).heap.size = W3.heap.size + 1 := World.size_alloc _ _
    have hBB : w.heap.size ≤ (W3.alloc (.cells V.L.toArray 57)).heap.size := by omega
    rw [HhV.out]
    clear bl DV v0 v1 v2 v3 v4 v5 v6 v7 v8 pall pv hb hsz1
    generalize W3.alloc (.cells V.L.toArray 57) = W0 at DB DZ1 DM HO hs1 bw1 hsz2 hBB ⊢
    rw [e5] at DB hsz2
    have hRV : R = V.R ∧ C = V.C := by rw [← HhV.out]; exact ⟨rfl, rfl⟩
    have h0 : MatI w V B s g cap c n l (w1.heap.size + 2) ((w1.heap.size + 1)) 0 l W0 := by
      refine ⟨rfl, ⟨DB, fun _ => ⟨hs1, hl⟩⟩, DZ1, bw1, w1.heap.size, N, ?_, by rw [List.take_zero]; exact HO, na3, by omega, by omega⟩
      rw [List.take_zero, ← hRV.1, ← hRV.2]
      exact DM
    clear DB DZ1 DM HO bw1
    have hnR : (V.R * V.C).toNat = N := by rw [← hRV.1, ← hRV.2, hN]; rfl
    have hgs := hs1.gt
    have hss := hs1.lo
    clear hs1
    refine rangeFunc_V (by omega) (gf := 101) (lb := #[.pointer (some ⟨w1.heap.size + 2, 0, none⟩)]) rfl (enters_of Try.func101 (by kernel_rfl) rfl)
      (all_seq (v := V) (B := B) (s := s) (g := g) (cap := cap) (c := c) (N0 := n) (Bn := w1.heap.size + 2) (by omega) HV.out) (fun _ _ => rfl)
      (MatI w V B s g cap c n l (w1.heap.size + 2) ((w1.heap.size + 1))) (fun _ => False) (fun k lx W h => by rw [h.1]; exact h.2.1) (fun _ _ => MatI.ownV hBB) (fun _ _ _ h _ _ => h) h0
      (MatX w V B s g cap c n l (w1.heap.size + 2) ((w1.heap.size + 1))) (fun _ _ _ => MatX.ownV hBB) ?assign ?body ?done ?stop
    case assign =>
      intro lp k lx W K hI hK
      unfold enc
      gi_wp2
      obtain rfl := hI.1
      exact hK _ _ (KeepsFrom.refl _ _) ⟨hI, _, _, _, _, _, _, _, _, _, _, _, _, _, _, _, _, _, _, _, _, _, _, _, _, _, _, _, _, _, rfl⟩
    case body =>
      rintro lp k lx a' W hlp ⟨⟨rfl, h1, h2, h3, g', cap', h4, h5, h6, h7, h8⟩, X0, X1, X2, X4, X6, X7, X8, X9, X10, X11, X12, X13, X14, X15, X16, X17, X18, X19, X20, X21, X22, X23, X24, X25, X26, X27, X28, X29, X30, rfl⟩ hk
      have hkv : k < (V.fl c lx).length := by rw [fl_length]; exact hk
      have eV := fl_D V c lx hk
      have hT := Lib.hid (take_next hkv)
      rw [eV] at hT
      obtain ⟨X, hX⟩ : ∃ X, V.at_ c lx (V.ei k) (V.ej k) = X := ⟨_, rfl⟩
      obtain ⟨T, hT2⟩ : ∃ T, (V.fl c lx).take k = T := ⟨_, rfl⟩
      have hTl : T.length ≤ 262144 := by rw [← hT2, List.length_take, HL.out]; omega
      rw [hX, hT2] at hT
      rw [hT2] at h4 h5
      rw [hX]
      clear eV hX hT2
      have hsW := h3.size
      have h3x : w.heap.size + 3 ≤ W.heap.size := by have := Blk.lt h4; have := h1.1.lt; omega
      obtain ⟨m0, m1, m2, n0, n1, n2⟩ := Mbx.cells h4
      obtain ⟨o, hoe⟩ : ∃ o, Obj.cells #[fV X] 49 = o := ⟨_, rfl⟩
      have hsrc : NumF (W.alloc o) (W.heap.size + 1) (some ⟨W.heap.size, 0, none⟩) 1 [X] := by
        have := (RowF.one W X).nums (B := W.heap.size + 1) (c := 1) 0 1 (by simp) (by omega) (by unfold maxLen; omega) (by omega)
        rw [← hoe]
        simpa using this
      have ho1 := h5.alloc_ o
      have hm1 := h4.alloc o
      have hg9 : w.heap.size ≤ g' ∧ g' < W.heap.size := h5.gt rfl
      have lt4 := h4.lt
      have lt1 := h1.1.lt
      have ltZ := h2.lt
      have hbo : Below W.heap.size W (W.alloc o) := (Below.refl _ W).alloc (Nat.le_refl _) o
      obtain ⟨q0, q1, q2, p0, p1, p2⟩ := Mbx.cells hm1
      subst hoe
      gi_wp2_with (gi_at_builtin; refine wpListIn_appF rfl _ _ rfl w.heap.size (some ⟨g', 0, none⟩) cap' T rfl ho1 _ (some ⟨W.heap.size, 0, none⟩) 1 [X] rfl hsrc (by simp; omega) (by simp; omega) ?_; intro A4 c4 w4 hown4 hg4 hat; obtain ⟨g4, rfl⟩ := hown4.some_ (by rintro rfl; simp [Value.ownBlock] at hat); have hM4 := hm1.grown hg4 (by simp [Value.ownBlock]; omega); obtain ⟨e0, e1, e2, f0, f1, f2⟩ := Mbx.cells hM4)
      have hg5 : World.grownBy _ w4 (some g') := hg4
      have hg4x : g4 = g' ∨ g4 = W.heap.size + 1 := by simpa [Value.ownBlock] using hat
      have e4 := hg4.size
      rw [World.size_alloc] at e4
      have hbw4 : Below w.heap.size w w4 := below_appF (h3.trans (hbo.mono hsW)) ho1 hg4 (by simp <;> omega)
      refine ⟨((keepsFrom_below hbo).trans (keepsFrom_own ho1 hg5)).trans ((KeepsOthers.setCell _ _ _).from _), lx, rfl, ⟨((h1.1.alloc _).grown hg5 (fun e => h7 (by injection e))).far (p := ⟨(w1.heap.size + 1), 2, none⟩) (by simp <;> omega) _, fun hp => ⟨(((h1.2 hp).1.on hbo).grown hg5 (by omega) (by omega)).farG (p := ⟨(w1.heap.size + 1), 2, none⟩) (by simp <;> omega) (by simp <;> omega) _, (h1.2 hp).2⟩⟩, ((h2.alloc _).grown hg5 (fun e => h8 (by injection e))).far (p := ⟨(w1.heap.size + 1), 2, none⟩) (by simp <;> omega) _, hbw4.setCell (p := ⟨(w1.heap.size + 1), 2, none⟩) (by simp <;> omega) _, g4, c4, ?_, ?_, by omega, by omega, by omega⟩
      · rw [hT.out, List.length_append]
        exact Blk.set_ hM4 2 _
      · rw [hT.out]
        exact hown4.farG (p := ⟨(w1.heap.size + 1), 2, none⟩) (by simp <;> omega) _
    case done =>
      rintro D lx W hD ⟨rfl, h1, h2, h3, g', cap', h4, h5, h6, h7, h8⟩ hK
      have hfull : (V.fl c lx).take (V.R * V.C).toNat = V.fl c lx := by rw [← fl_length V c lx, List.take_length]
      rw [hfull] at h4 h5
      obtain ⟨m0, m1, m2, n0, n1, n2⟩ := Mbx.cells h4
      obtain ⟨q0, q1, q2, p0, p1, p2⟩ := Mbx.cells h2
      have hg9 : w.heap.size ≤ g' ∧ g' < W.heap.size := h5.gt rfl
      gi_wp2
      have hK' : (((W.setCell ⟨w.heap.size + 1, 0, none⟩ (.int .i64 V.R)).setCell ⟨w.heap.size + 1, 1, none⟩ (.int .i64 V.C)).setCell ⟨w.heap.size + 1, 2, none⟩ (.slice (some ⟨g', 0, none⟩) (V.fl c lx).length cap')).heap[D]? = some (.deferred (some [])) := (((KeepsOthers.setCell W ⟨w.heap.size + 1, 0, none⟩ _).trans (KeepsOthers.setCell _ ⟨w.heap.size + 1, 1, none⟩ _)).trans (KeepsOthers.setCell _ ⟨w.heap.size + 1, 2, none⟩ _)).same D _ hK rfl
      refine ⟨by simp, .inl ⟨_, _, rfl, run_takeDeferred hK', ?_⟩⟩
      have mz : Mbx _ (w.heap.size + 1) V.R V.C (some ⟨g', 0, none⟩) (V.fl c lx).length cap' := (h2.put V.R V.C (some ⟨g', 0, none⟩) (V.fl c lx).length cap').ownV (grownBy_putObj' _ D (.deferred none)) (noCells_put hK' rfl)
      obtain ⟨z0, z1, z2, _, _, _⟩ := Mbx.cells mz
      have hO := (((h5.farG (p := ⟨w.heap.size + 1, 0, none⟩) (by simp <;> omega) (.int .i64 V.R)).farG (p := ⟨w.heap.size + 1, 1, none⟩) (by simp <;> omega) (.int .i64 V.C)).farG (p := ⟨w.heap.size + 1, 2, none⟩) (by simp <;> omega) (.slice (some ⟨g', 0, none⟩) (V.fl c lx).length cap')).ownV (grownBy_putObj' _ D (.deferred none)) (noCells_put hK' rfl)
      refine ⟨mV V.R V.C (some ⟨g', 0, none⟩) (V.fl c lx).length cap', by simp [results, Try.results74, go_sem, z0, z1, z2], ?_⟩
      obtain ⟨rfl, rfl⟩ := hRV
      rw [HhV.out]
      refine ⟨g', cap', rfl, hO, ?_⟩
      exact below_ownV (((h3.setCell (p := ⟨w.heap.size + 1, 0, none⟩) (by simp) _).setCell (p := ⟨w.heap.size + 1, 1, none⟩) (by simp) _).setCell (p := ⟨w.heap.size + 1, 2, none⟩) (by simp) _) (grownBy_putObj' _ D (.deferred none)) (noCells_put hK' rfl) (by omega)
    case stop => exact fun D W _ h _ => h.elim
  · go_simp
    refine hK.out _ _ (DV.alloc _).drew (fun hH => ?_)
    clear hK K hS
    have hS := hH
    clear hH
    try simp only [Act.put, List.setIfInBounds_toArray, List.set_cons_zero, List.set_cons_succ, List.getElem_toArray, List.getElem_cons_zero, List.getElem_cons_succ]
    refine wpAnyH_ready (rs := [9]) (by kernel_rfl) (by simp) ?_
    refine AllReadyH.cons rfl (fun K hK => ?_) AllReadyH.nil
    go_simp
    refine hK.out _ _ ((DV.alloc _).alloc _).drew (fun hH => ?_)
    clear hK K hS
    have hS := hH
    clear hH
    try simp only [Act.put, List.setIfInBounds_toArray, List.set_cons_zero, List.set_cons_succ, List.getElem_toArray, List.getElem_cons_zero, List.getElem_cons_succ]
    refine wpAnyH_take (i := 10) (v := ?v10_11) rfl (by kernel_rfl) (by kernel_rfl) (by kernel_rfl) (fun _ _ _ h => h) (Or.inl ⟨by rfl, ?hy10_11⟩) (by assumption) ?rest10_11
    case hy10_11 => (intro w9 hSw; clear hSw; go_simp; try with_reducible rfl)
    try simp only [Act.put, List.setIfInBounds_toArray, List.set_cons_zero, List.set_cons_succ, List.getElem_toArray, List.getElem_cons_zero, List.getElem_cons_succ]
    refine wpAnyH_ready (rs := [12]) (by kernel_rfl) (by simp) ?_
    refine AllReadyH.cons rfl (fun K hK => ?_) AllReadyH.nil
    go_simp
    refine hK.out _ _ ((DV.alloc _).alloc _).drew (fun hH => ?_)
    clear hK K hS
    have hS := hH
    clear hH
    try simp only [Act.put, List.setIfInBounds_toArray, List.set_cons_zero, List.set_cons_succ, List.getElem_toArray, List.getElem_cons_zero, List.getElem_cons_succ]
    refine wpAnyH_done (by kernel_rfl) ?_ _
    have hsz9 : w.heap.size + 2 ≤ w1.heap.size := by simp at hsz1; omega
    have e5 : (((w1.alloc (.cells #[.int .i64 R, .int .i64 C, .slice (some ⟨w1.heap.size + 1, 0, none⟩) 0 N] 24)).alloc (.cells (LF (List.replicate N 0)).toArray 49)).drew).heap.size = w1.heap.size + 2 := by simp
    have bl : Below w1.heap.size w1 (((w1.alloc (.cells #[.int .i64 R, .int .i64 C, .slice (some ⟨w1.heap.size + 1, 0, none⟩) 0 N] 24)).alloc (.cells (LF (List.replicate N 0)).toArray 49)).drew) := by go_grown
    have DZ1 : Mbx (((w1.alloc (.cells #[.int .i64 R, .int .i64 C, .slice (some ⟨w1.heap.size + 1, 0, none⟩) 0 N] 24)).alloc (.cells (LF (List.replicate N 0)).toArray 49)).drew) (w.heap.size + 1) 0 0 none 0 0 := DZ.on bl
    have hs1 := hs.on bl
    have bw1 : Below w.heap.size w (((w1.alloc (.cells #[.int .i64 R, .int .i64 C, .slice (some ⟨w1.heap.size + 1, 0, none⟩) 0 N] 24)).alloc (.cells (LF (List.replicate N 0)).toArray 49)).drew) := bw.trans (bl.mono (by omega))
    have DM : Mbx (((w1.alloc (.cells #[.int .i64 R, .int .i64 C, .slice (some ⟨w1.heap.size + 1, 0, none⟩) 0 N] 24)).alloc (.cells (LF (List.replicate N 0)).toArray 49)).drew) (w1.heap.size) R C (some ⟨(w1.heap.size + 1), 0, none⟩) 0 N := by have h9 := Blk.new w1 [.int .i64 R, .int .i64 C, .slice (some ⟨w1.heap.size + 1, 0, none⟩) 0 N] 24; exact (h9.alloc _).drew
    have HO : OwnF (((w1.alloc (.cells #[.int .i64 R, .int .i64 C, .slice (some ⟨w1.heap.size + 1, 0, none⟩) 0 N] 24)).alloc (.cells (LF (List.replicate N 0)).toArray 49)).drew) w.heap.size (some ⟨(w1.heap.size + 1), 0, none⟩) N [] := by have h9 := (RowF.new (w1.alloc (.cells #[.int .i64 R, .int .i64 C, .slice (some ⟨w1.heap.size + 1, 0, none⟩) 0 N] 24)) (List.replicate N 0)).own (B := w.heap.size) 0 (by omega) (by unfold maxLen; rw [List.length_replicate]; omega) (by simp; omega); rw [List.take_zero, List.length_replicate, World.size_alloc] at h9; exact h9
    have na3 : (w1.heap.size) ≠ (w1.heap.size + 1) := by omega
    have l3 : w1.heap.size ≤ (w1.heap.size) ∧ w1.heap.size ≤ (w1.heap.size + 1) ∧ w1.heap.size < w1.heap.size + 2 ∧ (w1.heap.size + 1) < w1.heap.size + 2 := by omega
    clear hS
    replace DV : Vbx (((w1.alloc (.cells #[.int .i64 R, .int .i64 C, .slice (some ⟨w1.heap.size + 1, 0, none⟩) 0 N] 24)).alloc (.cells (LF (List.replicate N 0)).toArray 49)).drew) w.heap.size ⟨p, f0, f1, d0, d1, r0, r1, R, C⟩ := DV.on bl
    clear ltV ltZ v0 v1 v2 v3 v4 v5 v6 v7 v8 hmk
    clear bl DZ hs bw
    generalize ((w1.alloc (.cells #[.int .i64 R, .int .i64 C, .slice (some ⟨w1.heap.size + 1, 0, none⟩) 0 N] 24)).alloc (.cells (LF (List.replicate N 0)).toArray 49)).drew = W3 at DZ1 hs1 bw1 DM HO e5 DV ⊢
    dsimp only [onlyN]
    obtain ⟨v0, v1, v2, v3, v4, v5, v6, v7, v8⟩ := Vbx.cells DV
    gi_wp2_with (refine ⟨trivial, ?_⟩; gi_at_call 97; refine (callsIn_wide.2 (pall _)).mono ?_; rintro e w2 ⟨rfl, rfl⟩)
    rw [HhV.out] at DV
    have DB := Blk.new W3 V.L 57
    have bl := (Below.refl _ W3).alloc (Nat.le_refl _) (.cells V.L.toArray 57)
    replace DZ1 := DZ1.on bl
    replace hs1 := hs1.on bl
    replace DM := DM.on bl
    replace HO := HO.on_ bl
    replace bw1 := bw1.trans (bl.mono (by omega))
    have hsz2 : (W3.alloc (.cells V.L.toArray 57)).heap.size = W3.heap.size + 1 := World.size_alloc _ _
    have hBB : w.heap.size ≤ (W3.alloc (.cells V.L.toArray 57)).heap.size := by omega
    rw [HhV.out]
    clear bl DV v0 v1 v2 v3 v4 v5 v6 v7 v8 pall pv hb hsz1
    generalize W3.alloc (.cells V.L.toArray 57) = W0 at DB DZ1 DM HO hs1 bw1 hsz2 hBB ⊢
    rw [e5] at DB hsz2
    have hRV : R = V.R ∧ C = V.C := by rw [← HhV.out]; exact ⟨rfl, rfl⟩
    have h0 : MatI w V B s g cap c n l (w1.heap.size + 2) (w1.heap.size) 0 l W0 := by
      refine ⟨rfl, ⟨DB, fun _ => ⟨hs1, hl⟩⟩, DZ1, bw1, (w1.heap.size + 1), N, ?_, by rw [List.take_zero]; exact HO, na3, by omega, by omega⟩
      rw [List.take_zero, ← hRV.1, ← hRV.2]
      exact DM
    clear DB DZ1 DM HO bw1
    have hnR : (V.R * V.C).toNat = N := by rw [← hRV.1, ← hRV.2, hN]; rfl
    have hgs := hs1.gt
    have hss := hs1.lo
    clear hs1
    refine rangeFunc_V (by omega) (gf := 101) (lb := #[.pointer (some ⟨w1.heap.size + 2, 0, none⟩)]) rfl (enters_of Try.func101 (by kernel_rfl) rfl)
      (all_seq (v := V) (B := B) (s := s) (g := g) (cap := cap) (c := c) (N0 := n) (Bn := w1.heap.size + 2) (by omega) HV.out) (fun _ _ => rfl)
      (MatI w V B s g cap c n l (w1.heap.size + 2) (w1.heap.size)) (fun _ => False) (fun k lx W h => by rw [h.1]; exact h.2.1) (fun _ _ => MatI.ownV hBB) (fun _ _ _ h _ _ => h) h0
      (MatX w V B s g cap c n l (w1.heap.size + 2) (w1.heap.size)) (fun _ _ _ => MatX.ownV hBB) ?assign ?body ?done ?stop
    case assign =>
      intro lp k lx W K hI hK
      unfold enc
      gi_wp2
      obtain rfl := hI.1
      exact hK _ _ (KeepsFrom.refl _ _) ⟨hI, _, _, _, _, _, _, _, _, _, _, _, _, _, _, _, _, _, _, _, _, _, _, _, _, _, _, _, _, _, rfl⟩
    case body =>
      rintro lp k lx a' W hlp ⟨⟨rfl, h1, h2, h3, g', cap', h4, h5, h6, h7, h8⟩, X0, X1, X2, X4, X6, X7, X8, X9, X10, X11, X12, X13, X14, X15, X16, X17, X18, X19, X20, X21, X22, X23, X24, X25, X26, X27, X28, X29, X30, rfl⟩ hk
      have hkv : k < (V.fl c lx).length := by rw [fl_length]; exact hk
      have eV := fl_D V c lx hk
      have hT := Lib.hid (take_next hkv)
      rw [eV] at hT
      obtain ⟨X, hX⟩ : ∃ X, V.at_ c lx (V.ei k) (V.ej k) = X := ⟨_, rfl⟩
      obtain ⟨T, hT2⟩ : ∃ T, (V.fl c lx).take k = T := ⟨_, rfl⟩
      have hTl : T.length ≤ 262144 := by rw [← hT2, List.length_take, HL.out]; omega
      rw [hX, hT2] at hT
      rw [hT2] at h4 h5
      rw [hX]
      clear eV hX hT2
      have hsW := h3.size
      have h3x : w.heap.size + 3 ≤ W.heap.size := by have := Blk.lt h4; have := h1.1.lt; omega
      obtain ⟨m0, m1, m2, n0, n1, n2⟩ := Mbx.cells h4
      obtain ⟨o, hoe⟩ : ∃ o, Obj.cells #[fV X] 49 = o := ⟨_, rfl⟩
      have hsrc : NumF (W.alloc o) (W.heap.size + 1) (some ⟨W.heap.size, 0, none⟩) 1 [X] := by
        have := (RowF.one W X).nums (B := W.heap.size + 1) (c := 1) 0 1 (by simp) (by omega) (by unfold maxLen; omega) (by omega)
        rw [← hoe]
        simpa using this
      have ho1 := h5.alloc_ o
      have hm1 := h4.alloc o
      have hg9 : w.heap.size ≤ g' ∧ g' < W.heap.size := h5.gt rfl
      have lt4 := h4.lt
      have lt1 := h1.1.lt
      have ltZ := h2.lt
      have hbo : Below W.heap.size W (W.alloc o) := (Below.refl _ W).alloc (Nat.le_refl _) o
      obtain ⟨q0, q1, q2, p0, p1, p2⟩ := Mbx.cells hm1
      subst hoe
      gi_wp2_with (gi_at_builtin; refine wpListIn_appF rfl _ _ rfl w.heap.size (some ⟨g', 0, none⟩) cap' T rfl ho1 _ (some ⟨W.heap.size, 0, none⟩) 1 [X] rfl hsrc (by simp; omega) (by simp; omega) ?_; intro A4 c4 w4 hown4 hg4 hat; obtain ⟨g4, rfl⟩ := hown4.some_ (by rintro rfl; simp [Value.ownBlock] at hat); have hM4 := hm1.grown hg4 (by simp [Value.ownBlock]; omega); obtain ⟨e0, e1, e2, f0, f1, f2⟩ := Mbx.cells hM4)
      have hg5 : World.grownBy _ w4 (some g') := hg4
      have hg4x : g4 = g' ∨ g4 = W.heap.size + 1 := by simpa [Value.ownBlock] using hat
      have e4 := hg4.size
      rw [World.size_alloc] at e4
      have hbw4 : Below w.heap.size w w4 := below_appF (h3.trans (hbo.mono hsW)) ho1 hg4 (by simp <;> omega)
      refine ⟨((keepsFrom_below hbo).trans (keepsFrom_own ho1 hg5)).trans ((KeepsOthers.setCell _ _ _).from _), lx, rfl, ⟨((h1.1.alloc _).grown hg5 (fun e => h7 (by injection e))).far (p := ⟨w1.heap.size, 2, none⟩) (by simp <;> omega) _, fun hp => ⟨(((h1.2 hp).1.on hbo).grown hg5 (by omega) (by omega)).farG (p := ⟨w1.heap.size, 2, none⟩) (by simp <;> omega) (by simp <;> omega) _, (h1.2 hp).2⟩⟩, ((h2.alloc _).grown hg5 (fun e => h8 (by injection e))).far (p := ⟨w1.heap.size, 2, none⟩) (by simp <;> omega) _, hbw4.setCell (p := ⟨w1.heap.size, 2, none⟩) (by simp <;> omega) _, g4, c4, ?_, ?_, by omega, by omega, by omega⟩
      · rw [hT.out, List.length_append]
        exact Blk.set_ hM4 2 _
      · rw [hT.out]
        exact hown4.farG (p := ⟨w1.heap.size, 2, none⟩) (by simp <;> omega) _
    case done =>
      rintro D lx W hD ⟨rfl, h1, h2, h3, g', cap', h4, h5, h6, h7, h8⟩ hK
      have hfull : (V.fl c lx).take (V.R * V.C).toNat = V.fl c lx := by rw [← fl_length V c lx, List.take_length]
      rw [hfull] at h4 h5
      obtain ⟨m0, m1, m2, n0, n1, n2⟩ := Mbx.cells h4
      obtain ⟨q0, q1, q2, p0, p1, p2⟩ := Mbx.cells h2
      have hg9 : w.heap.size ≤ g' ∧ g' < W.heap.size := h5.gt rfl
      gi_wp2
      have hK' : (((W.setCell ⟨w.heap.size + 1, 0, none⟩ (.int .i64 V.R)).setCell ⟨w.heap.size + 1, 1, none⟩ (.int .i64 V.C)).setCell ⟨w.heap.size + 1, 2, none⟩ (.slice (some ⟨g', 0, none⟩) (V.fl c lx).length cap')).heap[D]? = some (.deferred (some [])) := (((KeepsOthers.setCell W ⟨w.heap.size + 1, 0, none⟩ _).trans (KeepsOthers.setCell _ ⟨w.heap.size + 1, 1, none⟩ _)).trans (KeepsOthers.setCell _ ⟨w.heap.size + 1, 2, none⟩ _)).same D _ hK rfl
      refine ⟨by simp, .inl ⟨_, _, rfl, run_takeDeferred hK', ?_⟩⟩
      have mz : Mbx _ (w.heap.size + 1) V.R V.C (some ⟨g', 0, none⟩) (V.fl c lx).length cap' := (h2.put V.R V.C (some ⟨g', 0, none⟩) (V.fl c lx).length cap').ownV (grownBy_putObj' _ D (.deferred none)) (noCells_put hK' rfl)
      obtain ⟨z0, z1, z2, _, _, _⟩ := Mbx.cells mz
      have hO := (((h5.farG (p := ⟨w.heap.size + 1, 0, none⟩) (by simp <;> omega) (.int .i64 V.R)).farG (p := ⟨w.heap.size + 1, 1, none⟩) (by simp <;> omega) (.int .i64 V.C)).farG (p := ⟨w.heap.size + 1, 2, none⟩) (by simp <;> omega) (.slice (some ⟨g', 0, none⟩) (V.fl c lx).length cap')).ownV (grownBy_putObj' _ D (.deferred none)) (noCells_put hK' rfl)
      refine ⟨mV V.R V.C (some ⟨g', 0, none⟩) (V.fl c lx).length cap', by simp [results, Try.results74, go_sem, z0, z1, z2], ?_⟩
      obtain ⟨rfl, rfl⟩ := hRV
      rw [HhV.out]
      refine ⟨g', cap', rfl, hO, ?_⟩
      exact below_ownV (((h3.setCell (p := ⟨w.heap.size + 1, 0, none⟩) (by simp) _).setCell (p := ⟨w.heap.size + 1, 1, none⟩) (by simp) _).setCell (p := ⟨w.heap.size + 1, 2, none⟩) (by simp) _) (grownBy_putObj' _ D (.deferred none)) (noCells_put hK' rfl) (by omega)
    case stop => exact fun D W _ h _ => h.elim
end
end Go.Proofs.Ytbaeabmmokgomaa
namespace Go.Proofs.Ytbaeabmmokgomaa
open Go.RowKit Go.Bw Go.Sort Go.Shelf
set_option linter.unusedVariables false
set_option linter.unusedSimpArgs false
section
variable {w : World} {v : Vu} {K : Int} {B s g cap c n : Nat} {l : List Int}
theorem fl_zero (c : Nat) (l : List Int) : Vu.zero.fl c l = [] := by unfold Vu.fl; simp
theorem Matrix_any (hv : Vk v s c n K) (hs : v.p ≠ none → St w B s g cap c l ∧ l.length = n) : Calls Try.prog 74 #[v.V] w (MatA w v.R v.C (v.fl c l)) := by
  by_cases hp : v.p = none
  · have e := hv.none_ hp
    subst e
    rw [fl_zero]
    exact Matrix_none hp w
  · refine (Matrix_yes hv (hs hp).1 (hs hp).2 hp).mono ?_
    rintro e w' ⟨g, cap, rfl, h1, h2⟩
    exact ⟨_, cap, rfl, h1, (fun h => by cases h), h2⟩
end
end Go.Proofs.Ytbaeabmmokgomaa
namespace Go.Proofs.Ytbaeabmmokgomaa
open Go.RowKit Go.Bw Go.Sort Go.Shelf
set_option linter.unusedVariables false
set_option linter.unusedSimpArgs false
attribute [local go_sem] Oper.semAt_some run_store_float

/-- the floats of a store, behind k places of a view set, row by row -/
def setTo (v : Vu) (c : Nat) (xs : Nat → Int) (l : List Int) (k : Nat) : List Int := (List.range k).foldl (fun l j => l.set (v.ix c (v.ei j) (v.ej j)).toNat (xs j)) l
theorem setTo_succ (v : Vu) (c : Nat) (xs : Nat → Int) (l : List Int) (k : Nat) : setTo v c xs l (k + 1) = (setTo v c xs l k).set (v.ix c (v.ei k) (v.ej k)).toNat (xs k) := by
  unfold setTo
  rw [List.range_succ, List.foldl_append]
  rfl
theorem setTo_len (v : Vu) (c : Nat) (xs : Nat → Int) (l : List Int) (k : Nat) : (setTo v c xs l k).length = l.length := by
  induction k with
  | zero => rfl
  | succ k ih => rw [setTo_succ, List.length_set, ih]
theorem grown_ownV {BB g : Nat} {w W W' : World} {row : Option Nat} (h : w.grownBy W (some g)) (hg : W.grownBy W' row) (hr : NoCells BB W row) (hB : w.heap.size ≤ BB) : w.grownBy W' (some g) :=
  ⟨hg.os.trans h.os, hg.tape.trans h.tape, hg.output.trans h.output, Nat.le_trans h.size hg.size, fun k hk hne => (hg.block k (Nat.lt_of_lt_of_le hk h.size) (fun e => by have := (hr k e.symm).1; omega)).trans (h.block k hk hne)⟩
/-- a place of a view, by its number -/
theorem ei_bd {v : Vu} {K : Int} (hb : Bd v K) {k : Nat} (hk : k < (v.R * v.C).toNat) : v.has (v.ei k) (v.ej k) = true := by
  obtain ⟨m, hm⟩ := Int.eq_ofNat_of_zero_le hb.R.1
  obtain ⟨q, hq⟩ := Int.eq_ofNat_of_zero_le hb.C.1
  have e : (v.R * v.C).toNat = m * q := by rw [hm, hq]; rfl
  rw [e] at hk
  have hq0 : 0 < q := by rcases Nat.eq_zero_or_pos q with h | h; rw [h, Nat.mul_zero] at hk; omega; exact h
  unfold Vu.has Vu.ei Vu.ej
  have eq2 : v.C.toNat = q := by omega
  rw [eq2, hm, hq, decide_eq_true_iff]
  have h1 : k / q < m := Nat.div_lt_of_lt_mul (by rw [Nat.mul_comm]; exact hk)
  have h2 := Nat.mod_lt k hq0
  exact ⟨Int.natCast_nonneg _, Int.ofNat_lt.2 h1, Int.natCast_nonneg _, Int.ofNat_lt.2 h2⟩
section
variable {w : World} {v : Vu} {K : Int} {B s g cap c n : Nat} {l : List Int} {x : Int}
def Vu.fillL (v : Vu) (c : Nat) (l : List Int) (x : Int) : List Int := setTo v c (fun _ => x) l (v.R * v.C).toNat
/-- between two rounds -/
def FillI (w : World) (v : Vu) (B s g cap c n : Nat) (l : List Int) (x : Int) (Bn : Nat) (k : Nat) (lx : List Int) (W : World) : Prop :=
  lx = setTo v c (fun _ => x) l k ∧ Vbx W Bn v ∧ (St W B s g cap c lx ∧ lx.length = n) ∧ Vbx W w.heap.size v ∧ Blk W (w.heap.size + 1) [.float .f64 x.toNat] ∧ w.grownBy W (some g)
theorem FillI.ownV {BB Bn k : Nat} {lx : List Int} (hB : w.heap.size ≤ BB) : OwnV BB (FillI w v B s g cap c n l x Bn k lx) := by
  rintro W W' row ⟨e, h1, h2, h3, h4, h5⟩ hg hr
  exact ⟨e, h1.ownV hg hr, ⟨h2.1.ownV hg hr, h2.2⟩, h3.ownV hg hr, h4.ownV hg hr, grown_ownV h5 hg hr hB⟩
theorem FillI.on {Bn k : Nat} {lx : List Int} {W W' : World} (h : FillI w v B s g cap c n l x Bn k lx W) (hb : Below W.heap.size W W') : FillI w v B s g cap c n l x Bn k lx W' := by
  obtain ⟨e, h1, h2, h3, h4, h5⟩ := h
  exact ⟨e, h1.on hb, ⟨h2.1.on hb, h2.2⟩, h3.on hb, h4.on hb, grown_on h5 hb⟩
/-- within one -/
def FillX (w : World) (v : Vu) (B s g cap c n : Nat) (l : List Int) (x : Int) (Bn : Nat) (k : Nat) (lx : List Int) (a' : Act) (W : World) : Prop :=
  FillI w v B s g cap c n l x Bn k lx W ∧ ∃ (bx : Nat) (X0 X1 X4 X6 X7 X8 X9 X10 X11 X12 X13 X14 X15 X16 X17 X18 X19 : Value), Blk W bx [.int .i64 (v.ei k), .int .i64 (v.ej k)] ∧ w.heap.size < bx ∧ a' = { tmps := #[X0, X1, .pointer (some ⟨w.heap.size, 0, none⟩), .pointer (some ⟨w.heap.size + 1, 0, none⟩), X4, .pointer (some ⟨bx, 0, none⟩), X6, X7, X8, X9, X10, X11, X12, X13, X14, X15, X16, X17, X18, X19], defers := [] }
theorem FillX.ownV {BB Bn k : Nat} {lx : List Int} {a' : Act} (hB : w.heap.size ≤ BB) : OwnV BB (FillX w v B s g cap c n l x Bn k lx a') := by
  rintro W W' row ⟨hI, bx, X0, X1, X4, X6, X7, X8, X9, X10, X11, X12, X13, X14, X15, X16, X17, X18, X19, hb, hn, e⟩ hg hr
  exact ⟨FillI.ownV hB W W' row hI hg hr, bx, X0, X1, X4, X6, X7, X8, X9, X10, X11, X12, X13, X14, X15, X16, X17, X18, X19, hb.ownV hg hr, hn, e⟩
set_option maxRecDepth 100000 in
set_option maxHeartbeats 4000000 in
theorem Fill_yes (hv : Vk v s c n K) (hs : St w B s g cap c l) (hl : l.length = n) (hp : v.p ≠ none) (x0 : 0 ≤ x) (x1 : x ≤ 18446744073709551615) :
    Calls Try.prog 73 #[v.V, .float .f64 x.toNat] w (Wrote w B s g cap c 0 (v.fillL c l x)) := by
  have pv := none_any v
  rw [show (v.p == none) = false by cases h : v.p; exact absurd h hp; rfl] at pv
  have hps : v.p = some ⟨s, 0, none⟩ := by
    rcases hv.p with e | e
    · exact absurd (by rw [e]) hp
    · exact e
  have HV := Lib.hid hv
  have HS := Lib.hid hps
  have HX : Hid (0 ≤ x ∧ x ≤ 18446744073709551615) := Lib.hid ⟨x0, x1⟩
  have pall := All_any v
  have hgw := hs.gt.2
  have hsw := hs.lt
  have DV := (Blk.new w v.L 57).alloc (.cells #[.float .f64 x.toNat] 49)
  have DX := Blk.new (w.alloc (.cells v.L.toArray 57)) [.float .f64 x.toNat] 49
  rw [World.size_alloc] at DX
  have bw := ((Below.refl _ w).alloc (Nat.le_refl _) (.cells v.L.toArray 57)).alloc (by simp) (.cells #[.float .f64 x.toNat] 49)
  replace hs := hs.on bw
  obtain ⟨xn, hxn⟩ : ∃ y, x.toNat = y := ⟨_, rfl⟩
  have HXN := Lib.hid hxn
  rw [hxn] at DX DV bw hs ⊢
  clear hp hv hps x0 x1 hxn
  obtain ⟨V, hV⟩ : ∃ V, v = V := ⟨_, rfl⟩
  have HhV := Lib.hid hV
  rw [hV] at HV HS
  clear hV
  refine (callsIn_wide (n := 5)).1 ?_
  refine callsIn_of_wp_marks Try.func73 rfl trivial ?_ rfl
  simp only [Try.ntmps73, List.size_toArray, List.length_cons, List.length_nil, Nat.reduceAdd, Nat.reduceSub, Array.replicate_succ, Array.replicate_zero, List.push_toArray, List.append_toArray, List.nil_append, List.cons_append]
  obtain ⟨p, f0, f1, d0, d1, r0, r1, R, C⟩ := v
  gi_wp2_with (first
    | (refine ⟨trivial, ?_⟩; gi_at_call 90; refine (callsIn_wide.2 (pv _)).mono ?_; rintro e w1 ⟨rfl, hb⟩; replace DV := DV.on hb; replace DX := DX.on hb; replace hs := hs.on hb; replace bw := bw.trans (hb.mono (by simp; omega)); have hsz1 := hb.size; obtain ⟨v0, v1, v2, v3, v4, v5, v6, v7, v8⟩ := Vbx.cells DV)
    | (refine ⟨trivial, ?_⟩; gi_at_call 97; refine (callsIn_wide.2 (pall _)).mono ?_; rintro e w2 ⟨rfl, rfl⟩))
  simp only [World.size_alloc] at hsz1
  rw [HhV.out]
  rw [HhV.out] at DV
  have DB := Blk.new w1 V.L 57
  have bl := (Below.refl _ w1).alloc (Nat.le_refl _) (.cells V.L.toArray 57)
  replace hs := hs.on bl
  replace DV := DV.on bl
  replace DX := DX.on bl
  replace bw := bw.trans (bl.mono (by omega))
  have hsz2 : (w1.alloc (.cells V.L.toArray 57)).heap.size = w1.heap.size + 1 := World.size_alloc _ _
  have hBB : w.heap.size ≤ (w1.alloc (.cells V.L.toArray 57)).heap.size := by omega
  clear bl v0 v1 v2 v3 v4 v5 v6 v7 v8 pall pv hb
  generalize w1.alloc (.cells V.L.toArray 57) = W0 at DB DV DX hs bw hsz2 hBB ⊢
  obtain ⟨Bn, hBn⟩ : ∃ Bn, w1.heap.size = Bn := ⟨_, rfl⟩
  rw [hBn] at DB hsz2 hsz1 ⊢
  rw [← HXN.out] at DX
  have h0 : FillI w V B s g cap c n l x Bn 0 l W0 := ⟨rfl, DB, ⟨hs, hl⟩, DV, DX, grown_below bw _⟩
  clear DB DV DX hs bw
  refine rangeFunc_V (by omega) (gf := 101) (lb := #[.pointer (some ⟨Bn, 0, none⟩)]) rfl (enters_of Try.func101 (by kernel_rfl) rfl)
    (all_seq (v := V) (B := B) (s := s) (g := g) (cap := cap) (c := c) (N0 := n) (Bn := Bn) (by omega) HV.out) (fun _ _ => rfl)
    (FillI w V B s g cap c n l x Bn) (fun _ => False) (fun k lx W h => ⟨h.2.1, fun _ => h.2.2.1⟩) (fun _ _ => FillI.ownV hBB) (fun _ _ _ h _ _ => h) h0
    (FillX w V B s g cap c n l x Bn) (fun _ _ _ => FillX.ownV hBB) ?assign ?body ?done ?stop
  case assign =>
    intro lp k lx W K hI hK
    unfold enc
    gi_wp2
    have hI2 := hI.on ((Below.refl _ W).alloc (Nat.le_refl _) (.cells #[.int .i64 (V.ei k), .int .i64 (V.ej k)] 55))
    exact hK _ _ (keepsFrom_below ((Below.refl _ W).alloc (Nat.le_refl _) _)) ⟨hI2, W.heap.size, _, _, _, _, _, _, _, _, _, _, _, _, _, _, _, _, _, Blk.new W [.int .i64 _, .int .i64 _] _, hI.2.2.2.1.lt, rfl⟩
  case body =>
    rintro lp k lx a' W hlp ⟨⟨he, h1, h2, h3, h4, h5⟩, bx, X0, X1, X4, X6, X7, X8, X9, X10, X11, X12, X13, X14, X15, X16, X17, X18, X19, hbx, hbn, rfl⟩ hk
    have hhas := ei_bd HV.out.bd hk
    obtain ⟨kk, hkk, hkl, _⟩ := HV.out.ins _ _ hhas
    obtain ⟨⟨i0, i1⟩, j0, j1⟩ := has_bd HV.out.bd hhas
    have pc := fun W' (h : St W' B s g cap c lx) => cell_any (w := W') HV.out.bd h HS.out i0 i1 j0 j1 hkk (by rw [h2.2]; exact hkl)
    have HE : Hid (setTo V c (fun _ => x) l (k + 1) = lx.set kk x) := Lib.hid (by rw [setTo_succ, ← he, hkk]; rfl)
    obtain ⟨I, hI⟩ : ∃ I, V.ei k = I := ⟨_, rfl⟩
    obtain ⟨J, hJ⟩ : ∃ J, V.ej k = J := ⟨_, rfl⟩
    rw [hI, hJ] at pc hbx
    clear hI hJ i0 i1 j0 j1 hkk hhas he
    have hkx : kk < lx.length := by rw [h2.2]; exact hkl
    obtain ⟨hst, hsl⟩ := h2
    have hgW := hst.gt.2
    have hbl := hbx.lt
    have h3l := h3.lt
    have h4l := h4.lt
    gi_wp2
    refine wpIn_region_S (S := fun w9 : World => Vbx w9 w.heap.size V ∧ Blk w9 bx [.int .i64 I, .int .i64 J] ∧ Blk w9 (w.heap.size + 1) [.float .f64 x.toNat]) (by kernel_rfl) (by kernel_rfl) ⟨h3.drew, hbx.drew, h4.drew⟩ (fun hS => ?_)
    refine wpAnyS_take (i := 0) (v := ?v0_1) rfl (by kernel_rfl) (by kernel_rfl) (by kernel_rfl) (fun _ _ _ h => h) (Or.inl ⟨by rfl, ?hy0_1⟩) (by assumption) ?rest0_1
    case hy0_1 => (intro w9 hSw; obtain ⟨m0, m1, m2⟩ := hSw; obtain ⟨c0, c1, c2, c3, c4, c5, c6, c7, c8⟩ := Vbx.cells m0; go_simp; try with_reducible rfl)
    try simp only [Act.put, List.setIfInBounds_toArray, List.set_cons_zero, List.set_cons_succ, List.getElem_toArray, List.getElem_cons_zero, List.getElem_cons_succ]
    refine wpAnyS_take (i := 1) (v := ?v1_2) rfl (by kernel_rfl) (by kernel_rfl) (by kernel_rfl) (fun _ _ _ h => h) (Or.inl ⟨by rfl, ?hy1_2⟩) (by assumption) ?rest1_2
    case hy1_2 => (intro w9 hSw; clear hSw; go_simp; try with_reducible rfl)
    try simp only [Act.put, List.setIfInBounds_toArray, List.set_cons_zero, List.set_cons_succ, List.getElem_toArray, List.getElem_cons_zero, List.getElem_cons_succ]
    refine wpAnyS_take (i := 2) (v := ?v2_3) rfl (by kernel_rfl) (by kernel_rfl) (by kernel_rfl) (fun _ _ _ h => h) (Or.inl ⟨by rfl, ?hy2_3⟩) (by assumption) ?rest2_3
    case hy2_3 => (intro w9 hSw; obtain ⟨m0, m1, m2⟩ := hSw; have c0 := Blk.cell m1 0 rfl; go_simp; try with_reducible rfl)
    try simp only [Act.put, List.setIfInBounds_toArray, List.set_cons_zero, List.set_cons_succ, List.getElem_toArray, List.getElem_cons_zero, List.getElem_cons_succ]
    refine wpAnyS_take (i := 3) (v := ?v3_4) rfl (by kernel_rfl) (by kernel_rfl) (by kernel_rfl) (fun _ _ _ h => h) (Or.inl ⟨by rfl, ?hy3_4⟩) (by assumption) ?rest3_4
    case hy3_4 => (intro w9 hSw; clear hSw; go_simp; try with_reducible rfl)
    try simp only [Act.put, List.setIfInBounds_toArray, List.set_cons_zero, List.set_cons_succ, List.getElem_toArray, List.getElem_cons_zero, List.getElem_cons_succ]
    refine wpAnyS_take (i := 4) (v := ?v4_5) rfl (by kernel_rfl) (by kernel_rfl) (by kernel_rfl) (fun _ _ _ h => h) (Or.inl ⟨by rfl, ?hy4_5⟩) (by assumption) ?rest4_5
    case hy4_5 => (intro w9 hSw; obtain ⟨m0, m1, m2⟩ := hSw; have c0 := Blk.cell m1 1 rfl; go_simp; try with_reducible rfl)
    try simp only [Act.put, List.setIfInBounds_toArray, List.set_cons_zero, List.set_cons_succ, List.getElem_toArray, List.getElem_cons_zero, List.getElem_cons_succ]
    refine wpAnyS_take (i := 6) (v := ?v6_6) rfl (by kernel_rfl) (by kernel_rfl) (by kernel_rfl) (fun _ _ _ h => h) (Or.inl ⟨by rfl, ?hy6_6⟩) (by assumption) ?rest6_6
    case hy6_6 => (intro w9 hSw; obtain ⟨m0, m1, m2⟩ := hSw; have c0 := Blk.cell m2 0 rfl; go_simp; try with_reducible rfl)
    try simp only [Act.put, List.setIfInBounds_toArray, List.set_cons_zero, List.set_cons_succ, List.getElem_toArray, List.getElem_cons_zero, List.getElem_cons_succ]
    refine wpAnyS_ready (rs := [5]) (by kernel_rfl) (by simp) ?_
    refine AllReadyS.cons rfl (fun K hK => ?_) AllReadyS.nil
    go_simp
    with_reducible refine (pc _ (hst.on (Below.refl _ W).drew)).mono ?_
    rintro e w2 ⟨rfl, hb⟩
    have h32 := h3.drew.on hb
    have hbx2 := hbx.drew.on hb
    have h42 := h4.drew.on hb
    have hst2 := (hst.on (Below.refl _ W).drew).on hb
    refine hK.out _ _ ⟨h32, hbx2, h42⟩ (fun hH => ?_)
    clear hK K hS
    have hS := hH
    clear hH
    try simp only [Act.put, List.setIfInBounds_toArray, List.set_cons_zero, List.set_cons_succ, List.getElem_toArray, List.getElem_cons_zero, List.getElem_cons_succ]
    obtain ⟨hc, hf⟩ := hst2.at_ hkx
    refine wpAnyS_take (i := 7) (v := ?v7_7) rfl (by kernel_rfl) (by kernel_rfl) (by kernel_rfl) (fun _ _ _ h => h) (Or.inl ⟨by rfl, ?hy7_7⟩) (by assumption) ?rest7_7
    case hy7_7 => (intro w9 hSw; clear hSw; go_simp; try with_reducible rfl)
    try simp only [Act.put, List.setIfInBounds_toArray, List.set_cons_zero, List.set_cons_succ, List.getElem_toArray, List.getElem_cons_zero, List.getElem_cons_succ]
    refine wpAnyS_ready (rs := [8]) (by kernel_rfl) (by simp) ?_
    refine AllReadyS.cons rfl (fun K hK => ?_) AllReadyS.nil
    go_simp
    refine hK.out _ _ ⟨Blk.far h32 (p := ⟨g, kk, none⟩) (by simp; omega) _, Blk.far hbx2 (p := ⟨g, kk, none⟩) (by simp; omega) _, Blk.far h42 (p := ⟨g, kk, none⟩) (by simp; omega) _⟩ (fun hH => ?_)
    clear hK K hS
    have hS := hH
    clear hH
    try simp only [Act.put, List.setIfInBounds_toArray, List.set_cons_zero, List.set_cons_succ, List.getElem_toArray, List.getElem_cons_zero, List.getElem_cons_succ]
    refine wpAnyS_done (by kernel_rfl) ?_ _
    obtain ⟨x0, x1⟩ := HX.out
    exact ⟨((keepsFrom_below (Below.refl _ W).drew).trans (keepsFrom_below hb)).trans ((KeepsOthers.setCell _ _ _).from _), lx.set kk x, HE.out.symm, Blk.far (h1.drew.on hb) (p := ⟨g, kk, none⟩) (by simp; omega) _, ⟨hst2.set_ x0 x1 kk, by rw [List.length_set]; exact hsl⟩, Blk.far h32 (p := ⟨g, kk, none⟩) (by simp; omega) _, Blk.far h42 (p := ⟨g, kk, none⟩) (by simp; omega) _, setb_grownC (grown_on (drew_grown h5) hb) kk _⟩
  case done =>
    rintro D lx W hD ⟨rfl, h1, h2, h3, h4, h5⟩ hK
    gi_wp2
    refine ⟨by simp, .inl ⟨_, _, rfl, run_takeDeferred hK, ?_⟩⟩
    refine ⟨_, results_tmp rfl _ _ _, rfl, ?_, grown_ownV h5 (grownBy_putObj' _ D (.deferred none)) (noCells_put hK rfl) (by omega)⟩
    rw [HhV.out]
    exact h2.1.ownV (grownBy_putObj' _ D (.deferred none)) (noCells_put hK rfl)
  case stop => exact fun D W _ h _ => h.elim
end
end Go.Proofs.Ytbaeabmmokgomaa
