/-
  Layer 7, walks: a view's matrix, in new memory. (Written by wip/tools/gen_vwp.py.)
-/
import Derived.Test.YtfelmkkkaphkpaaKVwO
namespace Go.Proofs.Ytfelmkkkaphkpaa
open Go.RowKit Go.Bw Go.Sort Go.Shelf
set_option linter.unusedVariables false
set_option linter.unusedSimpArgs false
attribute [local go_sem] Oper.semAt_some

section
variable {w : World} {v : Vu} {K : Int} {B s g cap c n : Nat} {l : List Int}
/-- a matrix of a call's own is handed back -/
def MatA (w : World) (R C : Int) (l : List Int) (e : Ending) (w' : World) : Prop := ∃ A cap, e = .returned (mV R C A l.length cap) ∧ OwnF w' w.heap.size A cap l ∧ (A = none → R = 0 ∧ C = 0) ∧ Below w.heap.size w w'
def MatS (w : World) (R C : Int) (l : List Int) (e : Ending) (w' : World) : Prop := ∃ g cap, e = .returned (mV R C (some ⟨g, 0, none⟩) l.length cap) ∧ OwnF w' w.heap.size (some ⟨g, 0, none⟩) cap l ∧ Below w.heap.size w w'
set_option maxHeartbeats 2000000 in
theorem Matrix_none (hp : v.p = none) (w : World) : Calls Try.prog 51 #[v.V] w (MatA w 0 0 []) := by
  have pv := none_any v
  rw [show (v.p == none) = true by rw [hp]; rfl] at pv
  clear hp
  have DZ := Blk.new (w.alloc (.cells v.L.toArray 30)) [.int .i64 0, .int .i64 0, .slice none 0 0] 24
  rw [World.size_alloc] at DZ
  have bz := ((Below.refl _ w).alloc (Nat.le_refl _) (.cells v.L.toArray 30)).alloc (by simp) (.cells #[.int .i64 0, .int .i64 0, .slice none 0 0] 24)
  obtain ⟨p, f0, f1, d0, d1, r0, r1, R, C⟩ := v
  go_enter Try.func51, Try.ntmps51
  go_wp2_with fail
  with_reducible refine (pv _).mono ?_
  rintro e w1 ⟨rfl, hb⟩
  replace DZ := DZ.on hb
  replace bz := bz.trans (hb.mono (by simp; omega))
  obtain ⟨c0, c1, c2, f0, f1, f2⟩ := Mbx.cells DZ
  go_wp2_with fail
  refine bodyPost_ret (v := mV 0 0 none 0 0) (by simp [results, Try.results51, go_sem, c0, c1, c2]) rfl ?_
  exact ⟨none, 0, rfl, OwnF.nil _ _, fun _ => ⟨rfl, rfl⟩, by go_grown⟩

theorem wpListIn_appF {lp n : Nat} {w : World} {ops : Array Oper} {rest : List Oper} {o : Oper} {a : Act} {Q : Exit → Act → World → Prop} (hgd : o.guard = none) (s x : Operand)
    (ho : o.op = .call { callee := .builtin .append, args := #[s, x], argTypes := #[22, 22] })
    (base : Nat) (A : Option Addr) (c : Nat) (l : List Int) (hs : a.eval s = .slice A l.length c) (hown : OwnF w base A c l) (B : Nat) (A' : Option Addr) (c' : Nat) (m : List Int) (hx : a.eval x = .slice A' m.length c') (hr : NumF w B A' c' m)
    (hlen : l.length + m.length ≤ 4000000) (hbase : base ≤ w.heap.size)
    (h : ∀ A2 c2 w', OwnF w' base A2 c2 (l ++ m) → w.grownBy w' (Value.slice A l.length c).ownBlock → ((Value.slice A2 (l ++ m).length c2).ownBlock = (Value.slice A l.length c).ownBlock ∨ (Value.slice A2 (l ++ m).length c2).ownBlock = some w.heap.size) → wpListIn (Fence.wide.inRound lp) n Try.prog ops Q rest (a.put o.dst (.slice A2 (l ++ m).length c2)) w') : wpListIn (Fence.wide.inRound lp) n Try.prog ops Q (o :: rest) a w :=
  wpListIn_plain hgd fun _ hK => wpIn_of_wp (by rw [ho]; intro c hc; cases hc) (wp_appF w s x ho base A c l hs hown B A' c' m hx hr hlen hbase fun A2 c2 w' h2 h3 h4 => hK _ _ (h A2 c2 w' h2 h3 h4))
theorem keepsFrom_own {B B' g cap : Nat} {w w' : World} {l : List Int} (h : OwnF w B' (some ⟨g, 0, none⟩) cap l) (hg : w.grownBy w' (some g)) : KeepsFrom B w w' :=
  ⟨hg.size, fun k o _ hk ho => (hg.block k (lt_of_block hk) (fun e => by
    injection e with e
    subst e
    rcases h.2 with ⟨e1, _⟩ | ⟨g', cap', cur, hv, _, hh, _⟩
    · injection e1 with e1; cases e1
    · injection hv with e1
      injection e1 with e1
      injection e1 with e1
      subst e1
      rw [hh] at hk
      cases hk
      cases ho)).trans hk⟩
theorem St.grown {B s g cap c x : Nat} {l : List Int} {w w' : World} (h : St w B s g cap c l) (hg : w.grownBy w' (some x)) (h1 : s ≠ x) (h2 : g ≠ x) : St w' B s g cap c l :=
  ⟨h.box.grown hg (fun e => h1 (by injection e)), by
    rcases h.own with ⟨o1, o2⟩
    refine ⟨o1, o2.imp id fun ⟨g', cap', cur, hv, hb, hh, r⟩ => ⟨g', cap', cur, hv, hb, (hg.block g' (lt_of_block hh) (fun e => ?_)).trans hh, r⟩⟩
    injection hv with e1
    injection e1 with e1
    injection e1 with e1
    injection e with e
    exact h2 (e1.trans e), h.ne, h.wd, h.lo, h.len, h.col⟩
theorem take_next {l : List Int} {k : Nat} (hk : k < l.length) : l.take (k + 1) = l.take k ++ [D l k] := by
  rw [List.take_add_one, D_in hk, List.getElem?_eq_getElem hk]; rfl

/-- between two rounds -/
def MatI (w : World) (v : Vu) (B s g cap c n : Nat) (l : List Int) (Bn a3 : Nat) (k : Nat) (lx : List Int) (W : World) : Prop :=
  lx = l ∧ Rd v B s g cap c n Bn l W ∧ Mbx W (w.heap.size + 1) 0 0 none 0 0 ∧ Below w.heap.size w W ∧ ∃ g' cap', Mbx W a3 v.R v.C (some ⟨g', 0, none⟩) ((v.fl c l).take k).length cap' ∧ OwnF W w.heap.size (some ⟨g', 0, none⟩) cap' ((v.fl c l).take k) ∧ a3 ≠ g' ∧ Bn ≠ g' ∧ w.heap.size + 1 ≠ g'
theorem MatI.ownV {BB Bn a3 k : Nat} {lx : List Int} (hB : w.heap.size ≤ BB) : OwnV BB (MatI w v B s g cap c n l Bn a3 k lx) := by
  rintro W W' row ⟨e, h1, h2, h3, g', cap', h4, h5, h6⟩ hg hr
  exact ⟨e, ⟨h1.1.ownV hg hr, fun hp => ⟨(h1.2 hp).1.ownV hg hr, (h1.2 hp).2⟩⟩, h2.ownV hg hr, below_ownV h3 hg hr hB, g', cap', h4.ownV hg hr, h5.ownV hg hr, h6⟩
/-- within one -/
def MatX (w : World) (v : Vu) (B s g cap c n : Nat) (l : List Int) (Bn a3 : Nat) (k : Nat) (lx : List Int) (a' : Act) (W : World) : Prop :=
  MatI w v B s g cap c n l Bn a3 k lx W ∧ ∃ (X0 X1 X2 X4 X6 X7 X8 X9 X10 X11 X12 X13 X14 X15 X16 X17 X18 X19 X20 X21 X22 X23 X24 X25 X26 X27 X28 X29 X30 : Value), a' = { tmps := #[X0, X1, X2, .pointer (some ⟨a3, 0, none⟩), X4, .float .f64 (v.at_ c l (v.ei k) (v.ej k)).toNat, X6, X7, X8, X9, X10, X11, X12, X13, X14, X15, X16, X17, X18, X19, X20, X21, X22, X23, X24, X25, X26, X27, X28, X29, X30], defers := [] }
theorem MatX.ownV {BB Bn a3 k : Nat} {lx : List Int} {a' : Act} (hB : w.heap.size ≤ BB) : OwnV BB (MatX w v B s g cap c n l Bn a3 k lx a') := by
  rintro W W' row ⟨hI, X0, X1, X2, X4, X6, X7, X8, X9, X10, X11, X12, X13, X14, X15, X16, X17, X18, X19, X20, X21, X22, X23, X24, X25, X26, X27, X28, X29, X30, e⟩ hg hr
  exact ⟨MatI.ownV hB W W' row hI hg hr, X0, X1, X2, X4, X6, X7, X8, X9, X10, X11, X12, X13, X14, X15, X16, X17, X18, X19, X20, X21, X22, X23, X24, X25, X26, X27, X28, X29, X30, e⟩

set_option maxRecDepth 100000 in
set_option maxHeartbeats 4000000 in
theorem Matrix_yes (hv : Vk v s c n K) (hs : St w B s g cap c l) (hl : l.length = n) (hp : v.p ≠ none) : Calls Try.prog 51 #[v.V] w (MatS w v.R v.C (v.fl c l)) := by
  have pv := none_any v
  rw [show (v.p == none) = false by cases h : v.p; exact absurd h hp; rfl] at pv
  have HP := Lib.hid hp
  have HV := Lib.hid hv
  have pall := All_any v
  obtain ⟨_, ⟨R0, R1⟩, C0, C1⟩ : True ∧ (0 ≤ v.R ∧ v.R ≤ 512) ∧ 0 ≤ v.C ∧ v.C ≤ 512 := ⟨trivial, hv.bd.R, hv.bd.C⟩
  have p0 := prod_bd R0 R1 C0 C1
  obtain ⟨N, hN⟩ := Int.eq_ofNat_of_zero_le p0.1
  have hN2 : N ≤ 262144 := by omega
  have hmk := run_makeF0 N (by omega)
  have HL : Hid ((v.fl c l).length = N) := Lib.hid (by rw [fl_length, hN]; rfl)
  have DV := Blk.new w v.L 30
  have bw := (Below.refl _ w).alloc (Nat.le_refl _) (.cells v.L.toArray 30)
  have DZ := Blk.new (w.alloc (.cells v.L.toArray 30)) [.int .i64 0, .int .i64 0, .slice none 0 0] 24
  rw [World.size_alloc] at DZ
  replace DV := DV.alloc (.cells #[.int .i64 0, .int .i64 0, .slice none 0 0] 24)
  replace bw := bw.alloc (by simp) (.cells #[.int .i64 0, .int .i64 0, .slice none 0 0] 24)
  have hsz : ((w.alloc (.cells v.L.toArray 30)).alloc (.cells #[.int .i64 0, .int .i64 0, .slice none 0 0] 24)).heap.size = w.heap.size + 2 := by simp
  have hg0w := hs.gt.2
  have hs0w := hs.lt
  replace hs := hs.on bw
  clear hp hv p0 R0 R1 C0 C1
  obtain ⟨V, hV⟩ : ∃ V, v = V := ⟨_, rfl⟩
  rw [hV] at HV HL HP ⊢
  have HhV := Lib.hid hV
  rw [← hV]
  clear hV
  refine (callsIn_wide (n := 5)).1 ?_
  refine callsIn_of_wp_marks Try.func51 rfl trivial ?_ rfl
  simp only [Try.ntmps51, List.size_toArray, List.length_cons, List.length_nil, Nat.reduceAdd, Nat.reduceSub, Array.replicate_succ, Array.replicate_zero, List.push_toArray, List.append_toArray, List.nil_append, List.cons_append]
  obtain ⟨p, f0, f1, d0, d1, r0, r1, R, C⟩ := v
  simp only at hN
  gi_wp2_with (refine ⟨trivial, ?_⟩; gi_at_call 92; refine (callsIn_wide.2 (pv _)).mono ?_; rintro e w1 ⟨rfl, hb⟩; replace DV := DV.on hb; replace DZ := DZ.on hb; replace hs := hs.on hb; replace bw := bw.trans (hb.mono (by simp; omega)); have hsz1 := hb.size; obtain ⟨v0, v1, v2, v3, v4, v5, v6, v7, v8⟩ := Vbx.cells DV)
  have hwr : IntKind.i64.wrap (N : Int) = (N : Int) := by rw [IntKind.wrap_i64]; omega
  have ltV := DV.lt
  have ltZ := DZ.lt
  refine wpIn_wide.2 (wp_only ?_)
  refine wp_region_held_drew (S := fun w9 : World => Vbx w9 w.heap.size ⟨p, f0, f1, d0, d1, r0, r1, R, C⟩) (by kernel_rfl) DV.drew (fun hS => ?_)
  refine wpAnyH_take (i := 0) (v := ?v0_1) rfl (by kernel_rfl) (by kernel_rfl) (by kernel_rfl) (fun _ _ _ h => h) (Or.inl ⟨by rfl, ?hy0_1⟩) (by assumption) ?rest0_1
  case hy0_1 => (intro w9 hSw; clear hSw; go_simp; try with_reducible rfl)
  try simp only [Act.put, List.setIfInBounds_toArray, List.set_cons_zero, List.set_cons_succ, List.getElem_toArray, List.getElem_cons_zero, List.getElem_cons_succ]
  refine wpAnyH_take (i := 1) (v := ?v1_2) rfl (by kernel_rfl) (by kernel_rfl) (by kernel_rfl) (fun _ _ _ h => h) (Or.inl ⟨by rfl, ?hy1_2⟩) (by assumption) ?rest1_2
  case hy1_2 => (intro w9 hSw; obtain ⟨c0, c1, c2, c3, c4, c5, c6, c7, c8⟩ := Vbx.cells (show Vbx w9 w.heap.size ⟨p, f0, f1, d0, d1, r0, r1, R, C⟩ from hSw); clear hSw; go_simp; try with_reducible rfl)
  try simp only [Act.put, List.setIfInBounds_toArray, List.set_cons_zero, List.set_cons_succ, List.getElem_toArray, List.getElem_cons_zero, List.getElem_cons_succ]
  refine wpAnyH_take (i := 2) (v := ?v2_3) rfl (by kernel_rfl) (by kernel_rfl) (by kernel_rfl) (fun _ _ _ h => h) (Or.inl ⟨by rfl, ?hy2_3⟩) (by assumption) ?rest2_3
  case hy2_3 => (intro w9 hSw; clear hSw; go_simp; try with_reducible rfl)
  try simp only [Act.put, List.setIfInBounds_toArray, List.set_cons_zero, List.set_cons_succ, List.getElem_toArray, List.getElem_cons_zero, List.getElem_cons_succ]
  refine wpAnyH_take (i := 3) (v := ?v3_4) rfl (by kernel_rfl) (by kernel_rfl) (by kernel_rfl) (fun _ _ _ h => h) (Or.inl ⟨by rfl, ?hy3_4⟩) (by assumption) ?rest3_4
  case hy3_4 => (intro w9 hSw; obtain ⟨c0, c1, c2, c3, c4, c5, c6, c7, c8⟩ := Vbx.cells (show Vbx w9 w.heap.size ⟨p, f0, f1, d0, d1, r0, r1, R, C⟩ from hSw); clear hSw; go_simp; try with_reducible rfl)
  try simp only [Act.put, List.setIfInBounds_toArray, List.set_cons_zero, List.set_cons_succ, List.getElem_toArray, List.getElem_cons_zero, List.getElem_cons_succ]
  refine wpAnyH_take (i := 4) (v := ?v4_5) rfl (by kernel_rfl) (by kernel_rfl) (by kernel_rfl) (fun _ _ _ h => h) (Or.inl ⟨by rfl, ?hy4_5⟩) (by assumption) ?rest4_5
  case hy4_5 => (intro w9 hSw; clear hSw; go_simp; try with_reducible rfl)
  try simp only [Act.put, List.setIfInBounds_toArray, List.set_cons_zero, List.set_cons_succ, List.getElem_toArray, List.getElem_cons_zero, List.getElem_cons_succ]
  refine wpAnyH_take (i := 5) (v := ?v5_6) rfl (by kernel_rfl) (by kernel_rfl) (by kernel_rfl) (fun _ _ _ h => h) (Or.inl ⟨by rfl, ?hy5_6⟩) (by assumption) ?rest5_6
  case hy5_6 => (intro w9 hSw; obtain ⟨c0, c1, c2, c3, c4, c5, c6, c7, c8⟩ := Vbx.cells (show Vbx w9 w.heap.size ⟨p, f0, f1, d0, d1, r0, r1, R, C⟩ from hSw); clear hSw; go_simp; try with_reducible rfl)
  try simp only [Act.put, List.setIfInBounds_toArray, List.set_cons_zero, List.set_cons_succ, List.getElem_toArray, List.getElem_cons_zero, List.getElem_cons_succ]
  refine wpAnyH_take (i := 6) (v := ?v6_7) rfl (by kernel_rfl) (by kernel_rfl) (by kernel_rfl) (fun _ _ _ h => h) (Or.inl ⟨by rfl, ?hy6_7⟩) (by assumption) ?rest6_7
  case hy6_7 => (intro w9 hSw; clear hSw; go_simp; try with_reducible rfl)
  try simp only [Act.put, List.setIfInBounds_toArray, List.set_cons_zero, List.set_cons_succ, List.getElem_toArray, List.getElem_cons_zero, List.getElem_cons_succ]
  refine wpAnyH_take (i := 7) (v := ?v7_8) rfl (by kernel_rfl) (by kernel_rfl) (by kernel_rfl) (fun _ _ _ h => h) (Or.inl ⟨by rfl, ?hy7_8⟩) (by assumption) ?rest7_8
  case hy7_8 => (intro w9 hSw; obtain ⟨c0, c1, c2, c3, c4, c5, c6, c7, c8⟩ := Vbx.cells (show Vbx w9 w.heap.size ⟨p, f0, f1, d0, d1, r0, r1, R, C⟩ from hSw); clear hSw; go_simp; try with_reducible rfl)
  try simp only [Act.put, List.setIfInBounds_toArray, List.set_cons_zero, List.set_cons_succ, List.getElem_toArray, List.getElem_cons_zero, List.getElem_cons_succ]
  refine wpAnyH_take (i := 8) (v := ?v8_9) rfl (by kernel_rfl) (by kernel_rfl) (by kernel_rfl) (fun _ _ _ h => h) (Or.inl ⟨by rfl, ?hy8_9⟩) (by assumption) ?rest8_9
  case hy8_9 => (intro w9 hSw; clear hSw; go_simp; try with_reducible rfl)
  try simp only [Act.put, List.setIfInBounds_toArray, List.set_cons_zero, List.set_cons_succ, List.getElem_toArray, List.getElem_cons_zero, List.getElem_cons_succ]
  refine wpAnyH_ready (rs := [9, 11]) (by kernel_rfl) (by simp) ?_
  refine AllReadyH.cons rfl (fun K hK => ?_) (AllReadyH.cons rfl (fun K hK => ?_) AllReadyH.nil)
  · go_simp
    refine hK.out _ _ (DV.alloc _).drew (fun hH => ?_)
    clear hK K hS
    have hS := hH
    clear hH
    try simp only [Act.put, List.setIfInBounds_toArray, List.set_cons_zero, List.set_cons_succ, List.getElem_toArray, List.getElem_cons_zero, List.getElem_cons_succ]
    refine wpAnyH_take (i := 10) (v := ?v10_10) rfl (by kernel_rfl) (by kernel_rfl) (by kernel_rfl) (fun _ _ _ h => h) (Or.inl ⟨by rfl, ?hy10_10⟩) (by assumption) ?rest10_10
    case hy10_10 => (intro w9 hSw; clear hSw; go_simp; try with_reducible rfl)
    try simp only [Act.put, List.setIfInBounds_toArray, List.set_cons_zero, List.set_cons_succ, List.getElem_toArray, List.getElem_cons_zero, List.getElem_cons_succ]
    refine wpAnyH_ready (rs := [11]) (by kernel_rfl) (by simp) ?_
    refine AllReadyH.cons rfl (fun K hK => ?_) AllReadyH.nil
    go_simp
    refine hK.out _ _ ((DV.alloc _).alloc _).drew (fun hH => ?_)
    clear hK K hS
    have hS := hH
    clear hH
    try simp only [Act.put, List.setIfInBounds_toArray, List.set_cons_zero, List.set_cons_succ, List.getElem_toArray, List.getElem_cons_zero, List.getElem_cons_succ]
    refine wpAnyH_ready (rs := [12]) (by kernel_rfl) (by simp) ?_
    refine AllReadyH.cons rfl (fun K hK => ?_) AllReadyH.nil
    go_simp
    refine hK.out _ _ ((DV.alloc _).alloc _).drew (fun hH => ?_)
    clear hK K hS
    have hS := hH
    clear hH
    try simp only [Act.put, List.setIfInBounds_toArray, List.set_cons_zero, List.set_cons_succ, List.getElem_toArray, List.getElem_cons_zero, List.getElem_cons_succ]
    refine wpAnyH_done (by kernel_rfl) ?_ _
    have hsz9 : w.heap.size + 2 ≤ w1.heap.size := by simp at hsz1; omega
    have e5 : (((w1.alloc (.cells (LF (List.replicate N 0)).toArray 32)).alloc (.cells #[.int .i64 R, .int .i64 C, .slice (some ⟨w1.heap.size, 0, none⟩) 0 N] 24)).drew).heap.size = w1.heap.size + 2 := by simp
    have bl : Below w1.heap.size w1 (((w1.alloc (.cells (LF (List.replicate N 0)).toArray 32)).alloc (.cells #[.int .i64 R, .int .i64 C, .slice (some ⟨w1.heap.size, 0, none⟩) 0 N] 24)).drew) := by go_grown
    have DZ1 : Mbx (((w1.alloc (.cells (LF (List.replicate N 0)).toArray 32)).alloc (.cells #[.int .i64 R, .int .i64 C, .slice (some ⟨w1.heap.size, 0, none⟩) 0 N] 24)).drew) (w.heap.size + 1) 0 0 none 0 0 := DZ.on bl
    have hs1 := hs.on bl
    have bw1 : Below w.heap.size w (((w1.alloc (.cells (LF (List.replicate N 0)).toArray 32)).alloc (.cells #[.int .i64 R, .int .i64 C, .slice (some ⟨w1.heap.size, 0, none⟩) 0 N] 24)).drew) := bw.trans (bl.mono (by omega))
    have DM : Mbx (((w1.alloc (.cells (LF (List.replicate N 0)).toArray 32)).alloc (.cells #[.int .i64 R, .int .i64 C, .slice (some ⟨w1.heap.size, 0, none⟩) 0 N] 24)).drew) ((w1.heap.size + 1)) R C (some ⟨w1.heap.size, 0, none⟩) 0 N := by have h9 := Blk.new (w1.alloc (.cells (LF (List.replicate N 0)).toArray 32)) [.int .i64 R, .int .i64 C, .slice (some ⟨w1.heap.size, 0, none⟩) 0 N] 24; rw [World.size_alloc] at h9; exact h9.drew
    have HO : OwnF (((w1.alloc (.cells (LF (List.replicate N 0)).toArray 32)).alloc (.cells #[.int .i64 R, .int .i64 C, .slice (some ⟨w1.heap.size, 0, none⟩) 0 N] 24)).drew) w.heap.size (some ⟨w1.heap.size, 0, none⟩) N [] := by have h9 := (RowF.new w1 (List.replicate N 0)).own (B := w.heap.size) 0 (by omega) (by unfold maxLen; rw [List.length_replicate]; omega) (by omega); rw [List.take_zero, List.length_replicate] at h9; exact (h9.alloc_ _)
    have na3 : ((w1.heap.size + 1)) ≠ w1.heap.size := by omega
    have l3 : w1.heap.size ≤ ((w1.heap.size + 1)) ∧ w1.heap.size ≤ w1.heap.size ∧ (w1.heap.size + 1) < w1.heap.size + 2 ∧ w1.heap.size < w1.heap.size + 2 := by omega
    clear hS
    replace DV : Vbx (((w1.alloc (.cells (LF (List.replicate N 0)).toArray 32)).alloc (.cells #[.int .i64 R, .int .i64 C, .slice (some ⟨w1.heap.size, 0, none⟩) 0 N] 24)).drew) w.heap.size ⟨p, f0, f1, d0, d1, r0, r1, R, C⟩ := DV.on bl
    clear ltV ltZ v0 v1 v2 v3 v4 v5 v6 v7 v8 hmk
    clear bl DZ hs bw
    generalize ((w1.alloc (.cells (LF (List.replicate N 0)).toArray 32)).alloc (.cells #[.int .i64 R, .int .i64 C, .slice (some ⟨w1.heap.size, 0, none⟩) 0 N] 24)).drew = W3 at DZ1 hs1 bw1 DM HO e5 DV ⊢
    dsimp only [onlyN]
    obtain ⟨v0, v1, v2, v3, v4, v5, v6, v7, v8⟩ := Vbx.cells DV
    gi_wp2_with (refine ⟨trivial, ?_⟩; gi_at_call 93; refine (callsIn_wide.2 (pall _)).mono ?_; rintro e w2 ⟨rfl, rfl⟩)
    rw [HhV.out] at DV
    have DB := Blk.new W3 V.L 30
    have bl := (Below.refl _ W3).alloc (Nat.le_refl _) (.cells V.L.toArray 30)
    replace DZ1 := DZ1.on bl
    replace hs1 := hs1.on bl
    replace DM := DM.on bl
    replace HO := HO.on_ bl
    replace bw1 := bw1.trans (bl.mono (by omega))
    have hsz2 : (W3.alloc (.cells V.L.toArray 30)).heap.size = W3.heap.size + 1 := World.size_alloc _ _
    have hBB : w.heap.size ≤ (W3.alloc (.cells V.L.toArray 30)).heap.size := by omega
    rw [HhV.out]
    clear bl DV v0 v1 v2 v3 v4 v5 v6 v7 v8 pall pv hb hsz1
    generalize W3.alloc (.cells V.L.toArray 30) = W0 at DB DZ1 DM HO hs1 bw1 hsz2 hBB ⊢
    rw [e5] at DB hsz2
    have hRV : R = V.R ∧ C = V.C := by rw [← HhV.out]; exact ⟨rfl, rfl⟩
    have h0 : MatI w V B s g cap c n l (w1.heap.size + 2) ((w1.heap.size + 1)) 0 l W0 := by
      refine ⟨rfl, ⟨DB, fun _ => ⟨hs1, hl⟩⟩, DZ1, bw1, w1.heap.size, N, ?_, by rw [List.take_zero]; exact HO, na3, by omega, by omega⟩
      rw [List.take_zero, ← hRV.1, ← hRV.2]
      exact DM
    clear DB DZ1 DM HO bw1
    have hnR : (V.R * V.C).toNat = N := by rw [← hRV.1, ← hRV.2, hN]; rfl
    have hgs := hs1.gt
    have hss := hs1.lo
    clear hs1
    refine rangeFunc_V (by omega) (gf := 109) (lb := #[.pointer (some ⟨w1.heap.size + 2, 0, none⟩)]) rfl (enters_of Try.func109 (by kernel_rfl) rfl)
      (all_seq (v := V) (B := B) (s := s) (g := g) (cap := cap) (c := c) (N0 := n) (Bn := w1.heap.size + 2) (by omega) HV.out) (fun _ _ => rfl)
      (MatI w V B s g cap c n l (w1.heap.size + 2) ((w1.heap.size + 1))) (fun _ => False) (fun k lx W h => by rw [h.1]; exact h.2.1) (fun _ _ => MatI.ownV hBB) (fun _ _ _ h _ _ => h) h0
      (MatX w V B s g cap c n l (w1.heap.size + 2) ((w1.heap.size + 1))) (fun _ _ _ => MatX.ownV hBB) ?assign ?body ?done ?stop
    case assign =>
      intro lp k lx W K hI hK
      unfold enc
      gi_wp2
      obtain rfl := hI.1
      exact hK _ _ (KeepsFrom.refl _ _) ⟨hI, _, _, _, _, _, _, _, _, _, _, _, _, _, _, _, _, _, _, _, _, _, _, _, _, _, _, _, _, _, rfl⟩
    case body =>
      rintro lp k lx a' W hlp ⟨⟨rfl, h1, h2, h3, g', cap', h4, h5, h6, h7, h8⟩, X0, X1, X2, X4, X6, X7, X8, X9, X10, X11, X12, X13, X14, X15, X16, X17, X18, X19, X20, X21, X22, X23, X24, X25, X26, X27, X28, X29, X30, rfl⟩ hk
      have hkv : k < (V.fl c lx).length := by rw [fl_length]; exact hk
      have eV := fl_D V c lx hk
      have hT := Lib.hid (take_next hkv)
      rw [eV] at hT
      obtain ⟨X, hX⟩ : ∃ X, V.at_ c lx (V.ei k) (V.ej k) = X := ⟨_, rfl⟩
      obtain ⟨T, hT2⟩ : ∃ T, (V.fl c lx).take k = T := ⟨_, rfl⟩
      have hTl : T.length ≤ 262144 := by rw [← hT2, List.length_take, HL.out]; omega
      rw [hX, hT2] at hT
      rw [hT2] at h4 h5
      rw [hX]
      clear eV hX hT2
      have hsW := h3.size
      have h3x : w.heap.size + 3 ≤ W.heap.size := by have := Blk.lt h4; have := h1.1.lt; omega
      obtain ⟨m0, m1, m2, n0, n1, n2⟩ := Mbx.cells h4
      obtain ⟨o, hoe⟩ : ∃ o, Obj.cells #[fV X] 32 = o := ⟨_, rfl⟩
      have hsrc : NumF (W.alloc o) (W.heap.size + 1) (some ⟨W.heap.size, 0, none⟩) 1 [X] := by
        have := (RowF.one W X).nums (B := W.heap.size + 1) (c := 1) 0 1 (by simp) (by omega) (by unfold maxLen; omega) (by omega)
        rw [← hoe]
        simpa using this
      have ho1 := h5.alloc_ o
      have hm1 := h4.alloc o
      have hg9 : w.heap.size ≤ g' ∧ g' < W.heap.size := h5.gt rfl
      have lt4 := h4.lt
      have lt1 := h1.1.lt
      have ltZ := h2.lt
      have hbo : Below W.heap.size W (W.alloc o) := (Below.refl _ W).alloc (Nat.le_refl _) o
      obtain ⟨q0, q1, q2, p0, p1, p2⟩ := Mbx.cells hm1
      subst hoe
      gi_wp2_with (gi_at_builtin; refine wpListIn_appF rfl _ _ rfl w.heap.size (some ⟨g', 0, none⟩) cap' T rfl ho1 _ (some ⟨W.heap.size, 0, none⟩) 1 [X] rfl hsrc (by simp; omega) (by simp; omega) ?_; intro A4 c4 w4 hown4 hg4 hat; obtain ⟨g4, rfl⟩ := hown4.some_ (by rintro rfl; simp [Value.ownBlock] at hat); have hM4 := hm1.grown hg4 (by simp [Value.ownBlock]; omega); obtain ⟨e0, e1, e2, f0, f1, f2⟩ := Mbx.cells hM4)
      have hg5 : World.grownBy _ w4 (some g') := hg4
      have hg4x : g4 = g' ∨ g4 = W.heap.size + 1 := by simpa [Value.ownBlock] using hat
      have e4 := hg4.size
      rw [World.size_alloc] at e4
      have hbw4 : Below w.heap.size w w4 := below_appF (h3.trans (hbo.mono hsW)) ho1 hg4 (by simp <;> omega)
      refine ⟨((keepsFrom_below hbo).trans (keepsFrom_own ho1 hg5)).trans ((KeepsOthers.setCell _ _ _).from _), lx, rfl, ⟨((h1.1.alloc _).grown hg5 (fun e => h7 (by injection e))).far (p := ⟨(w1.heap.size + 1), 2, none⟩) (by simp <;> omega) _, fun hp => ⟨(((h1.2 hp).1.on hbo).grown hg5 (by omega) (by omega)).farG (p := ⟨(w1.heap.size + 1), 2, none⟩) (by simp <;> omega) (by simp <;> omega) _, (h1.2 hp).2⟩⟩, ((h2.alloc _).grown hg5 (fun e => h8 (by injection e))).far (p := ⟨(w1.heap.size + 1), 2, none⟩) (by simp <;> omega) _, hbw4.setCell (p := ⟨(w1.heap.size + 1), 2, none⟩) (by simp <;> omega) _, g4, c4, ?_, ?_, by omega, by omega, by omega⟩
      · rw [hT.out, List.length_append]
        exact Blk.set_ hM4 2 _
      · rw [hT.out]
        exact hown4.farG (p := ⟨(w1.heap.size + 1), 2, none⟩) (by simp <;> omega) _
    case done =>
      rintro D lx W hD ⟨rfl, h1, h2, h3, g', cap', h4, h5, h6, h7, h8⟩ hK
      have hfull : (V.fl c lx).take (V.R * V.C).toNat = V.fl c lx := by rw [← fl_length V c lx, List.take_length]
      rw [hfull] at h4 h5
      obtain ⟨m0, m1, m2, n0, n1, n2⟩ := Mbx.cells h4
      obtain ⟨q0, q1, q2, p0, p1, p2⟩ := Mbx.cells h2
      have hg9 : w.heap.size ≤ g' ∧ g' < W.heap.size := h5.gt rfl
      gi_wp2
      have hK' : (((W.setCell ⟨w.heap.size + 1, 0, none⟩ (.int .i64 V.R)).setCell ⟨w.heap.size + 1, 1, none⟩ (.int .i64 V.C)).setCell ⟨w.heap.size + 1, 2, none⟩ (.slice (some ⟨g', 0, none⟩) (V.fl c lx).length cap')).heap[D]? = some (.deferred (some [])) := (((KeepsOthers.setCell W ⟨w.heap.size + 1, 0, none⟩ _).trans (KeepsOthers.setCell _ ⟨w.heap.size + 1, 1, none⟩ _)).trans (KeepsOthers.setCell _ ⟨w.heap.size + 1, 2, none⟩ _)).same D _ hK rfl
      refine ⟨by simp, .inl ⟨_, _, rfl, run_takeDeferred hK', ?_⟩⟩
      have mz : Mbx _ (w.heap.size + 1) V.R V.C (some ⟨g', 0, none⟩) (V.fl c lx).length cap' := (h2.put V.R V.C (some ⟨g', 0, none⟩) (V.fl c lx).length cap').ownV (grownBy_putObj' _ D (.deferred none)) (noCells_put hK' rfl)
      obtain ⟨z0, z1, z2, _, _, _⟩ := Mbx.cells mz
      have hO := (((h5.farG (p := ⟨w.heap.size + 1, 0, none⟩) (by simp <;> omega) (.int .i64 V.R)).farG (p := ⟨w.heap.size + 1, 1, none⟩) (by simp <;> omega) (.int .i64 V.C)).farG (p := ⟨w.heap.size + 1, 2, none⟩) (by simp <;> omega) (.slice (some ⟨g', 0, none⟩) (V.fl c lx).length cap')).ownV (grownBy_putObj' _ D (.deferred none)) (noCells_put hK' rfl)
      refine ⟨mV V.R V.C (some ⟨g', 0, none⟩) (V.fl c lx).length cap', by simp [results, Try.results51, go_sem, z0, z1, z2], ?_⟩
      obtain ⟨rfl, rfl⟩ := hRV
      rw [HhV.out]
      refine ⟨g', cap', rfl, hO, ?_⟩
      exact below_ownV (((h3.setCell (p := ⟨w.heap.size + 1, 0, none⟩) (by simp) _).setCell (p := ⟨w.heap.size + 1, 1, none⟩) (by simp) _).setCell (p := ⟨w.heap.size + 1, 2, none⟩) (by simp) _) (grownBy_putObj' _ D (.deferred none)) (noCells_put hK' rfl) (by omega)
    case stop => exact fun D W _ h _ => h.elim
  · go_simp
    refine hK.out _ _ (DV.alloc _).drew (fun hH => ?_)
    clear hK K hS
    have hS := hH
    clear hH
    try simp only [Act.put, List.setIfInBounds_toArray, List.set_cons_zero, List.set_cons_succ, List.getElem_toArray, List.getElem_cons_zero, List.getElem_cons_succ]
    refine wpAnyH_ready (rs := [9]) (by kernel_rfl) (by simp) ?_
    refine AllReadyH.cons rfl (fun K hK => ?_) AllReadyH.nil
    go_simp
    refine hK.out _ _ ((DV.alloc _).alloc _).drew (fun hH => ?_)
    clear hK K hS
    have hS := hH
    clear hH
    try simp only [Act.put, List.setIfInBounds_toArray, List.set_cons_zero, List.set_cons_succ, List.getElem_toArray, List.getElem_cons_zero, List.getElem_cons_succ]
    refine wpAnyH_take (i := 10) (v := ?v10_11) rfl (by kernel_rfl) (by kernel_rfl) (by kernel_rfl) (fun _ _ _ h => h) (Or.inl ⟨by rfl, ?hy10_11⟩) (by assumption) ?rest10_11
    case hy10_11 => (intro w9 hSw; clear hSw; go_simp; try with_reducible rfl)
    try simp only [Act.put, List.setIfInBounds_toArray, List.set_cons_zero, List.set_cons_succ, List.getElem_toArray, List.getElem_cons_zero, List.getElem_cons_succ]
    refine wpAnyH_ready (rs := [12]) (by kernel_rfl) (by simp) ?_
    refine AllReadyH.cons rfl (fun K hK => ?_) AllReadyH.nil
    go_simp
    refine hK.out _ _ ((DV.alloc _).alloc _).drew (fun hH => ?_)
    clear hK K hS
    have hS := hH
    clear hH
    try simp only [Act.put, List.setIfInBounds_toArray, List.set_cons_zero, List.set_cons_succ, List.getElem_toArray, List.getElem_cons_zero, List.getElem_cons_succ]
    refine wpAnyH_done (by kernel_rfl) ?_ _
    have hsz9 : w.heap.size + 2 ≤ w1.heap.size := by simp at hsz1; omega
    have e5 : (((w1.alloc (.cells #[.int .i64 R, .int .i64 C, .slice (some ⟨w1.heap.size + 1, 0, none⟩) 0 N] 24)).alloc (.cells (LF (List.replicate N 0)).toArray 32)).drew).heap.size = w1.heap.size + 2 := by simp
    have bl : Below w1.heap.size w1 (((w1.alloc (.cells #[.int .i64 R, .int .i64 C, .slice (some ⟨w1.heap.size + 1, 0, none⟩) 0 N] 24)).alloc (.cells (LF (List.replicate N 0)).toArray 32)).drew) := by go_grown
    have DZ1 : Mbx (((w1.alloc (.cells #[.int .i64 R, .int .i64 C, .slice (some ⟨w1.heap.size + 1, 0, none⟩) 0 N] 24)).alloc (.cells (LF (List.replicate N 0)).toArray 32)).drew) (w.heap.size + 1) 0 0 none 0 0 := DZ.on bl
    have hs1 := hs.on bl
    have bw1 : Below w.heap.size w (((w1.alloc (.cells #[.int .i64 R, .int .i64 C, .slice (some ⟨w1.heap.size + 1, 0, none⟩) 0 N] 24)).alloc (.cells (LF (List.replicate N 0)).toArray 32)).drew) := bw.trans (bl.mono (by omega))
    have DM : Mbx (((w1.alloc (.cells #[.int .i64 R, .int .i64 C, .slice (some ⟨w1.heap.size + 1, 0, none⟩) 0 N] 24)).alloc (.cells (LF (List.replicate N 0)).toArray 32)).drew) (w1.heap.size) R C (some ⟨(w1.heap.size + 1), 0, none⟩) 0 N := by have h9 := Blk.new w1 [.int .i64 R, .int .i64 C, .slice (some ⟨w1.heap.size + 1, 0, none⟩) 0 N] 24; exact (h9.alloc _).drew
    have HO : OwnF (((w1.alloc (.cells #[.int .i64 R, .int .i64 C, .slice (some ⟨w1.heap.size + 1, 0, none⟩) 0 N] 24)).alloc (.cells (LF (List.replicate N 0)).toArray 32)).drew) w.heap.size (some ⟨(w1.heap.size + 1), 0, none⟩) N [] := by have h9 := (RowF.new (w1.alloc (.cells #[.int .i64 R, .int .i64 C, .slice (some ⟨w1.heap.size + 1, 0, none⟩) 0 N] 24)) (List.replicate N 0)).own (B := w.heap.size) 0 (by omega) (by unfold maxLen; rw [List.length_replicate]; omega) (by simp; omega); rw [List.take_zero, List.length_replicate, World.size_alloc] at h9; exact h9
    have na3 : (w1.heap.size) ≠ (w1.heap.size + 1) := by omega
    have l3 : w1.heap.size ≤ (w1.heap.size) ∧ w1.heap.size ≤ (w1.heap.size + 1) ∧ w1.heap.size < w1.heap.size + 2 ∧ (w1.heap.size + 1) < w1.heap.size + 2 := by omega
    clear hS
    replace DV : Vbx (((w1.alloc (.cells #[.int .i64 R, .int .i64 C, .slice (some ⟨w1.heap.size + 1, 0, none⟩) 0 N] 24)).alloc (.cells (LF (List.replicate N 0)).toArray 32)).drew) w.heap.size ⟨p, f0, f1, d0, d1, r0, r1, R, C⟩ := DV.on bl
    clear ltV ltZ v0 v1 v2 v3 v4 v5 v6 v7 v8 hmk
    clear bl DZ hs bw
    generalize ((w1.alloc (.cells #[.int .i64 R, .int .i64 C, .slice (some ⟨w1.heap.size + 1, 0, none⟩) 0 N] 24)).alloc (.cells (LF (List.replicate N 0)).toArray 32)).drew = W3 at DZ1 hs1 bw1 DM HO e5 DV ⊢
    dsimp only [onlyN]
    obtain ⟨v0, v1, v2, v3, v4, v5, v6, v7, v8⟩ := Vbx.cells DV
    gi_wp2_with (refine ⟨trivial, ?_⟩; gi_at_call 93; refine (callsIn_wide.2 (pall _)).mono ?_; rintro e w2 ⟨rfl, rfl⟩)
    rw [HhV.out] at DV
    have DB := Blk.new W3 V.L 30
    have bl := (Below.refl _ W3).alloc (Nat.le_refl _) (.cells V.L.toArray 30)
    replace DZ1 := DZ1.on bl
    replace hs1 := hs1.on bl
    replace DM := DM.on bl
    replace HO := HO.on_ bl
    replace bw1 := bw1.trans (bl.mono (by omega))
    have hsz2 : (W3.alloc (.cells V.L.toArray 30)).heap.size = W3.heap.size + 1 := World.size_alloc _ _
    have hBB : w.heap.size ≤ (W3.alloc (.cells V.L.toArray 30)).heap.size := by omega
    rw [HhV.out]
    clear bl DV v0 v1 v2 v3 v4 v5 v6 v7 v8 pall pv hb hsz1
    generalize W3.alloc (.cells V.L.toArray 30) = W0 at DB DZ1 DM HO hs1 bw1 hsz2 hBB ⊢
    rw [e5] at DB hsz2
    have hRV : R = V.R ∧ C = V.C := by rw [← HhV.out]; exact ⟨rfl, rfl⟩
    have h0 : MatI w V B s g cap c n l (w1.heap.size + 2) (w1.heap.size) 0 l W0 := by
      refine ⟨rfl, ⟨DB, fun _ => ⟨hs1, hl⟩⟩, DZ1, bw1, (w1.heap.size + 1), N, ?_, by rw [List.take_zero]; exact HO, na3, by omega, by omega⟩
      rw [List.take_zero, ← hRV.1, ← hRV.2]
      exact DM
    clear DB DZ1 DM HO bw1
    have hnR : (V.R * V.C).toNat = N := by rw [← hRV.1, ← hRV.2, hN]; rfl
    have hgs := hs1.gt
    have hss := hs1.lo
    clear hs1
    refine rangeFunc_V (by omega) (gf := 109) (lb := #[.pointer (some ⟨w1.heap.size + 2, 0, none⟩)]) rfl (enters_of Try.func109 (by kernel_rfl) rfl)
      (all_seq (v := V) (B := B) (s := s) (g := g) (cap := cap) (c := c) (N0 := n) (Bn := w1.heap.size + 2) (by omega) HV.out) (fun _ _ => rfl)
      (MatI w V B s g cap c n l (w1.heap.size + 2) (w1.heap.size)) (fun _ => False) (fun k lx W h => by rw [h.1]; exact h.2.1) (fun _ _ => MatI.ownV hBB) (fun _ _ _ h _ _ => h) h0
      (MatX w V B s g cap c n l (w1.heap.size + 2) (w1.heap.size)) (fun _ _ _ => MatX.ownV hBB) ?assign ?body ?done ?stop
    case assign =>
      intro lp k lx W K hI hK
      unfold enc
      gi_wp2
      obtain rfl := hI.1
      exact hK _ _ (KeepsFrom.refl _ _) ⟨hI, _, _, _, _, _, _, _, _, _, _, _, _, _, _, _, _, _, _, _, _, _, _, _, _, _, _, _, _, _, rfl⟩
    case body =>
      rintro lp k lx a' W hlp ⟨⟨rfl, h1, h2, h3, g', cap', h4, h5, h6, h7, h8⟩, X0, X1, X2, X4, X6, X7, X8, X9, X10, X11, X12, X13, X14, X15, X16, X17, X18, X19, X20, X21, X22, X23, X24, X25, X26, X27, X28, X29, X30, rfl⟩ hk
      have hkv : k < (V.fl c lx).length := by rw [fl_length]; exact hk
      have eV := fl_D V c lx hk
      have hT := Lib.hid (take_next hkv)
      rw [eV] at hT
      obtain ⟨X, hX⟩ : ∃ X, V.at_ c lx (V.ei k) (V.ej k) = X := ⟨_, rfl⟩
      obtain ⟨T, hT2⟩ : ∃ T, (V.fl c lx).take k = T := ⟨_, rfl⟩
      have hTl : T.length ≤ 262144 := by rw [← hT2, List.length_take, HL.out]; omega
      rw [hX, hT2] at hT
      rw [hT2] at h4 h5
      rw [hX]
      clear eV hX hT2
      have hsW := h3.size
      have h3x : w.heap.size + 3 ≤ W.heap.size := by have := Blk.lt h4; have := h1.1.lt; omega
      obtain ⟨m0, m1, m2, n0, n1, n2⟩ := Mbx.cells h4
      obtain ⟨o, hoe⟩ : ∃ o, Obj.cells #[fV X] 32 = o := ⟨_, rfl⟩
      have hsrc : NumF (W.alloc o) (W.heap.size + 1) (some ⟨W.heap.size, 0, none⟩) 1 [X] := by
        have := (RowF.one W X).nums (B := W.heap.size + 1) (c := 1) 0 1 (by simp) (by omega) (by unfold maxLen; omega) (by omega)
        rw [← hoe]
        simpa using this
      have ho1 := h5.alloc_ o
      have hm1 := h4.alloc o
      have hg9 : w.heap.size ≤ g' ∧ g' < W.heap.size := h5.gt rfl
      have lt4 := h4.lt
      have lt1 := h1.1.lt
      have ltZ := h2.lt
      have hbo : Below W.heap.size W (W.alloc o) := (Below.refl _ W).alloc (Nat.le_refl _) o
      obtain ⟨q0, q1, q2, p0, p1, p2⟩ := Mbx.cells hm1
      subst hoe
      gi_wp2_with (gi_at_builtin; refine wpListIn_appF rfl _ _ rfl w.heap.size (some ⟨g', 0, none⟩) cap' T rfl ho1 _ (some ⟨W.heap.size, 0, none⟩) 1 [X] rfl hsrc (by simp; omega) (by simp; omega) ?_; intro A4 c4 w4 hown4 hg4 hat; obtain ⟨g4, rfl⟩ := hown4.some_ (by rintro rfl; simp [Value.ownBlock] at hat); have hM4 := hm1.grown hg4 (by simp [Value.ownBlock]; omega); obtain ⟨e0, e1, e2, f0, f1, f2⟩ := Mbx.cells hM4)
      have hg5 : World.grownBy _ w4 (some g') := hg4
      have hg4x : g4 = g' ∨ g4 = W.heap.size + 1 := by simpa [Value.ownBlock] using hat
      have e4 := hg4.size
      rw [World.size_alloc] at e4
      have hbw4 : Below w.heap.size w w4 := below_appF (h3.trans (hbo.mono hsW)) ho1 hg4 (by simp <;> omega)
      refine ⟨((keepsFrom_below hbo).trans (keepsFrom_own ho1 hg5)).trans ((KeepsOthers.setCell _ _ _).from _), lx, rfl, ⟨((h1.1.alloc _).grown hg5 (fun e => h7 (by injection e))).far (p := ⟨w1.heap.size, 2, none⟩) (by simp <;> omega) _, fun hp => ⟨(((h1.2 hp).1.on hbo).grown hg5 (by omega) (by omega)).farG (p := ⟨w1.heap.size, 2, none⟩) (by simp <;> omega) (by simp <;> omega) _, (h1.2 hp).2⟩⟩, ((h2.alloc _).grown hg5 (fun e => h8 (by injection e))).far (p := ⟨w1.heap.size, 2, none⟩) (by simp <;> omega) _, hbw4.setCell (p := ⟨w1.heap.size, 2, none⟩) (by simp <;> omega) _, g4, c4, ?_, ?_, by omega, by omega, by omega⟩
      · rw [hT.out, List.length_append]
        exact Blk.set_ hM4 2 _
      · rw [hT.out]
        exact hown4.farG (p := ⟨w1.heap.size, 2, none⟩) (by simp <;> omega) _
    case done =>
      rintro D lx W hD ⟨rfl, h1, h2, h3, g', cap', h4, h5, h6, h7, h8⟩ hK
      have hfull : (V.fl c lx).take (V.R * V.C).toNat = V.fl c lx := by rw [← fl_length V c lx, List.take_length]
      rw [hfull] at h4 h5
      obtain ⟨m0, m1, m2, n0, n1, n2⟩ := Mbx.cells h4
      obtain ⟨q0, q1, q2, p0, p1, p2⟩ := Mbx.cells h2
      have hg9 : w.heap.size ≤ g' ∧ g' < W.heap.size := h5.gt rfl
      gi_wp2
      have hK' : (((W.setCell ⟨w.heap.size + 1, 0, none⟩ (.int .i64 V.R)).setCell ⟨w.heap.size + 1, 1, none⟩ (.int .i64 V.C)).setCell ⟨w.heap.size + 1, 2, none⟩ (.slice (some ⟨g', 0, none⟩) (V.fl c lx).length cap')).heap[D]? = some (.deferred (some [])) := (((KeepsOthers.setCell W ⟨w.heap.size + 1, 0, none⟩ _).trans (KeepsOthers.setCell _ ⟨w.heap.size + 1, 1, none⟩ _)).trans (KeepsOthers.setCell _ ⟨w.heap.size + 1, 2, none⟩ _)).same D _ hK rfl
      refine ⟨by simp, .inl ⟨_, _, rfl, run_takeDeferred hK', ?_⟩⟩
      have mz : Mbx _ (w.heap.size + 1) V.R V.C (some ⟨g', 0, none⟩) (V.fl c lx).length cap' := (h2.put V.R V.C (some ⟨g', 0, none⟩) (V.fl c lx).length cap').ownV (grownBy_putObj' _ D (.deferred none)) (noCells_put hK' rfl)
      obtain ⟨z0, z1, z2, _, _, _⟩ := Mbx.cells mz
      have hO := (((h5.farG (p := ⟨w.heap.size + 1, 0, none⟩) (by simp <;> omega) (.int .i64 V.R)).farG (p := ⟨w.heap.size + 1, 1, none⟩) (by simp <;> omega) (.int .i64 V.C)).farG (p := ⟨w.heap.size + 1, 2, none⟩) (by simp <;> omega) (.slice (some ⟨g', 0, none⟩) (V.fl c lx).length cap')).ownV (grownBy_putObj' _ D (.deferred none)) (noCells_put hK' rfl)
      refine ⟨mV V.R V.C (some ⟨g', 0, none⟩) (V.fl c lx).length cap', by simp [results, Try.results51, go_sem, z0, z1, z2], ?_⟩
      obtain ⟨rfl, rfl⟩ := hRV
      rw [HhV.out]
      refine ⟨g', cap', rfl, hO, ?_⟩
      exact below_ownV (((h3.setCell (p := ⟨w.heap.size + 1, 0, none⟩) (by simp) _).setCell (p := ⟨w.heap.size + 1, 1, none⟩) (by simp) _).setCell (p := ⟨w.heap.size + 1, 2, none⟩) (by simp) _) (grownBy_putObj' _ D (.deferred none)) (noCells_put hK' rfl) (by omega)
    case stop => exact fun D W _ h _ => h.elim
end
end Go.Proofs.Ytfelmkkkaphkpaa
