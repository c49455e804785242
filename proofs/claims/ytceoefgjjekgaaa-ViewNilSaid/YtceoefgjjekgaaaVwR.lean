/-
  Layer 7, walks: all places are filled. (Written by wip/tools/gen_vwr.py.)
-/
import Derived.Test.YtceoefgjjekgaaaVwQ
namespace Go.Proofs.Ytceoefgjjekgaaa
open Go.RowKit Go.Bw Go.Sort Go.Shelf
set_option linter.unusedVariables false
set_option linter.unusedSimpArgs false
attribute [local go_sem] Oper.semAt_some run_store_float

/-- the floats of a store, behind k places of a view set, row by row -/
def setTo (v : Vu) (c : Nat) (xs : Nat → Int) (l : List Int) (k : Nat) : List Int := (List.range k).foldl (fun l j => l.set (v.ix c (v.ei j) (v.ej j)).toNat (xs j)) l
theorem setTo_zero (v : Vu) (c : Nat) (xs : Nat → Int) (l : List Int) : setTo v c xs l 0 = l := rfl
theorem setTo_succ (v : Vu) (c : Nat) (xs : Nat → Int) (l : List Int) (k : Nat) : setTo v c xs l (k + 1) = (setTo v c xs l k).set (v.ix c (v.ei k) (v.ej k)).toNat (xs k) := by
  unfold setTo
  rw [List.range_succ, List.foldl_append]
  rfl
theorem setTo_len (v : Vu) (c : Nat) (xs : Nat → Int) (l : List Int) (k : Nat) : (setTo v c xs l k).length = l.length := by
  induction k with
  | zero => rfl
  | succ k ih => rw [setTo_succ, List.length_set, ih]
theorem grown_ownV {BB g : Nat} {w W W' : World} {row : Option Nat} (h : w.grownBy W (some g)) (hg : W.grownBy W' row) (hr : NoCells BB W row) (hB : w.heap.size ≤ BB) : w.grownBy W' (some g) :=
  ⟨hg.os.trans h.os, hg.tape.trans h.tape, hg.output.trans h.output, Nat.le_trans h.size hg.size, fun k hk hne => (hg.block k (Nat.lt_of_lt_of_le hk h.size) (fun e => by have := (hr k e.symm).1; omega)).trans (h.block k hk hne)⟩
theorem grown_on {g : Nat} {w W W' : World} (h : w.grownBy W (some g)) (hb : Below W.heap.size W W') : w.grownBy W' (some g) :=
  ⟨hb.os.trans h.os, hb.tape.trans h.tape, hb.output.trans h.output, Nat.le_trans h.size hb.size, fun k hk hne => (hb.block k (Nat.lt_of_lt_of_le hk h.size)).trans (h.block k hk hne)⟩
/-- a place of a view, by its number -/
theorem ei_bd {v : Vu} {K : Int} (hb : Bd v K) {k : Nat} (hk : k < (v.R * v.C).toNat) : v.has (v.ei k) (v.ej k) = true := by
  obtain ⟨m, hm⟩ := Int.eq_ofNat_of_zero_le hb.R.1
  obtain ⟨q, hq⟩ := Int.eq_ofNat_of_zero_le hb.C.1
  have e : (v.R * v.C).toNat = m * q := by rw [hm, hq]; rfl
  rw [e] at hk
  have hq0 : 0 < q := by rcases Nat.eq_zero_or_pos q with h | h; rw [h, Nat.mul_zero] at hk; omega; exact h
  unfold Vu.has Vu.ei Vu.ej
  have eq2 : v.C.toNat = q := by omega
  rw [eq2, hm, hq, decide_eq_true_iff]
  have h1 : k / q < m := Nat.div_lt_of_lt_mul (by rw [Nat.mul_comm]; exact hk)
  have h2 := Nat.mod_lt k hq0
  exact ⟨Int.natCast_nonneg _, Int.ofNat_lt.2 h1, Int.natCast_nonneg _, Int.ofNat_lt.2 h2⟩

section
variable {w : World} {v : Vu} {K : Int} {B s g cap c n : Nat} {l : List Int} {x : Int}
def Vu.fillL (v : Vu) (c : Nat) (l : List Int) (x : Int) : List Int := setTo v c (fun _ => x) l (v.R * v.C).toNat
set_option maxHeartbeats 1000000 in
theorem Fill_none (hp : v.p = none) (y : Nat) (w : World) : Calls Try.prog 17 #[v.V, .float .f64 y] w (Ans w (.int .i64 1)) := by
  have pv := none_any v
  rw [show (v.p == none) = true by rw [hp]; rfl] at pv
  clear hp
  obtain ⟨p, f0, f1, d0, d1, r0, r1, R, C⟩ := v
  go_enter Try.func17, Try.ntmps17
  go_wp2_with fail
  with_reducible refine (pv _).mono ?_
  rintro e w1 ⟨rfl, hb⟩
  go_wp2_with fail
  go_ret
  exact ⟨rfl, (((Below.refl _ w).alloc (Nat.le_refl _) _).alloc (by simp) _).trans (hb.mono (by simp; omega))⟩

/-- between two rounds -/
def FillI (w : World) (v : Vu) (B s g cap c n : Nat) (l : List Int) (x : Int) (Bn : Nat) (k : Nat) (lx : List Int) (W : World) : Prop :=
  lx = setTo v c (fun _ => x) l k ∧ Vbx W Bn v ∧ (St W B s g cap c lx ∧ lx.length = n) ∧ Vbx W w.heap.size v ∧ Blk W (w.heap.size + 1) [.float .f64 x.toNat] ∧ w.grownBy W (some g)
theorem FillI.ownV {BB Bn k : Nat} {lx : List Int} (hB : w.heap.size ≤ BB) : OwnV BB (FillI w v B s g cap c n l x Bn k lx) := by
  rintro W W' row ⟨e, h1, h2, h3, h4, h5⟩ hg hr
  exact ⟨e, h1.ownV hg hr, ⟨h2.1.ownV hg hr, h2.2⟩, h3.ownV hg hr, h4.ownV hg hr, grown_ownV h5 hg hr hB⟩
theorem FillI.on {Bn k : Nat} {lx : List Int} {W W' : World} (h : FillI w v B s g cap c n l x Bn k lx W) (hb : Below W.heap.size W W') : FillI w v B s g cap c n l x Bn k lx W' := by
  obtain ⟨e, h1, h2, h3, h4, h5⟩ := h
  exact ⟨e, h1.on hb, ⟨h2.1.on hb, h2.2⟩, h3.on hb, h4.on hb, grown_on h5 hb⟩
/-- within one -/
def FillX (w : World) (v : Vu) (B s g cap c n : Nat) (l : List Int) (x : Int) (Bn : Nat) (k : Nat) (lx : List Int) (a' : Act) (W : World) : Prop :=
  FillI w v B s g cap c n l x Bn k lx W ∧ ∃ (bx : Nat) (X0 X1 X4 X6 X7 X8 X9 X10 X11 X12 X13 X14 X15 X16 X17 X18 X19 : Value), Blk W bx [.int .i64 (v.ei k), .int .i64 (v.ej k)] ∧ w.heap.size < bx ∧ a' = { tmps := #[X0, X1, .pointer (some ⟨w.heap.size, 0, none⟩), .pointer (some ⟨w.heap.size + 1, 0, none⟩), X4, .pointer (some ⟨bx, 0, none⟩), X6, X7, X8, X9, X10, X11, X12, X13, X14, X15, X16, X17, X18, X19], defers := [] }
theorem FillX.ownV {BB Bn k : Nat} {lx : List Int} {a' : Act} (hB : w.heap.size ≤ BB) : OwnV BB (FillX w v B s g cap c n l x Bn k lx a') := by
  rintro W W' row ⟨hI, bx, X0, X1, X4, X6, X7, X8, X9, X10, X11, X12, X13, X14, X15, X16, X17, X18, X19, hb, hn, e⟩ hg hr
  exact ⟨FillI.ownV hB W W' row hI hg hr, bx, X0, X1, X4, X6, X7, X8, X9, X10, X11, X12, X13, X14, X15, X16, X17, X18, X19, hb.ownV hg hr, hn, e⟩

set_option maxRecDepth 100000 in
set_option maxHeartbeats 4000000 in
theorem Fill_yes (hv : Vk v s c n K) (hs : St w B s g cap c l) (hl : l.length = n) (hp : v.p ≠ none) (x0 : 0 ≤ x) (x1 : x ≤ 18446744073709551615) :
    Calls Try.prog 17 #[v.V, .float .f64 x.toNat] w (Wrote w B s g cap c 0 (v.fillL c l x)) := by
  have pv := none_any v
  rw [show (v.p == none) = false by cases h : v.p; exact absurd h hp; rfl] at pv
  have hps : v.p = some ⟨s, 0, none⟩ := by
    rcases hv.p with e | e
    · exact absurd (by rw [e]) hp
    · exact e
  have HV := Lib.hid hv
  have HS := Lib.hid hps
  have HX : Hid (0 ≤ x ∧ x ≤ 18446744073709551615) := Lib.hid ⟨x0, x1⟩
  have pall := All_any v
  have hgw := hs.gt.2
  have hsw := hs.lt
  have DV := (Blk.new w v.L 30).alloc (.cells #[.float .f64 x.toNat] 37)
  have DX := Blk.new (w.alloc (.cells v.L.toArray 30)) [.float .f64 x.toNat] 37
  rw [World.size_alloc] at DX
  have bw := ((Below.refl _ w).alloc (Nat.le_refl _) (.cells v.L.toArray 30)).alloc (by simp) (.cells #[.float .f64 x.toNat] 37)
  replace hs := hs.on bw
  obtain ⟨xn, hxn⟩ : ∃ y, x.toNat = y := ⟨_, rfl⟩
  have HXN := Lib.hid hxn
  rw [hxn] at DX DV bw hs ⊢
  clear hp hv hps x0 x1 hxn
  obtain ⟨V, hV⟩ : ∃ V, v = V := ⟨_, rfl⟩
  have HhV := Lib.hid hV
  rw [hV] at HV HS
  clear hV
  refine (callsIn_wide (n := 5)).1 ?_
  refine callsIn_of_wp_marks Try.func17 rfl trivial ?_ rfl
  simp only [Try.ntmps17, List.size_toArray, List.length_cons, List.length_nil, Nat.reduceAdd, Nat.reduceSub, Array.replicate_succ, Array.replicate_zero, List.push_toArray, List.append_toArray, List.nil_append, List.cons_append]
  obtain ⟨p, f0, f1, d0, d1, r0, r1, R, C⟩ := v
  gi_wp2_with (first
    | (refine ⟨trivial, ?_⟩; gi_at_call 54; refine (callsIn_wide.2 (pv _)).mono ?_; rintro e w1 ⟨rfl, hb⟩; replace DV := DV.on hb; replace DX := DX.on hb; replace hs := hs.on hb; replace bw := bw.trans (hb.mono (by simp; omega)); have hsz1 := hb.size; obtain ⟨v0, v1, v2, v3, v4, v5, v6, v7, v8⟩ := Vbx.cells DV)
    | (refine ⟨trivial, ?_⟩; gi_at_call 55; refine (callsIn_wide.2 (pall _)).mono ?_; rintro e w2 ⟨rfl, rfl⟩))
  simp only [World.size_alloc] at hsz1
  rw [HhV.out]
  rw [HhV.out] at DV
  have DB := Blk.new w1 V.L 30
  have bl := (Below.refl _ w1).alloc (Nat.le_refl _) (.cells V.L.toArray 30)
  replace hs := hs.on bl
  replace DV := DV.on bl
  replace DX := DX.on bl
  replace bw := bw.trans (bl.mono (by omega))
  have hsz2 : (w1.alloc (.cells V.L.toArray 30)).heap.size = w1.heap.size + 1 := World.size_alloc _ _
  have hBB : w.heap.size ≤ (w1.alloc (.cells V.L.toArray 30)).heap.size := by omega
  clear bl v0 v1 v2 v3 v4 v5 v6 v7 v8 pall pv hb
  generalize w1.alloc (.cells V.L.toArray 30) = W0 at DB DV DX hs bw hsz2 hBB ⊢
  obtain ⟨Bn, hBn⟩ : ∃ Bn, w1.heap.size = Bn := ⟨_, rfl⟩
  rw [hBn] at DB hsz2 hsz1 ⊢
  rw [← HXN.out] at DX
  have h0 : FillI w V B s g cap c n l x Bn 0 l W0 := ⟨rfl, DB, ⟨hs, hl⟩, DV, DX, grown_below bw _⟩
  clear DB DV DX hs bw
  refine rangeFunc_V (by omega) (gf := 75) (lb := #[.pointer (some ⟨Bn, 0, none⟩)]) rfl (enters_of Try.func75 (by kernel_rfl) rfl)
    (all_seq (v := V) (B := B) (s := s) (g := g) (cap := cap) (c := c) (N0 := n) (Bn := Bn) (by omega) HV.out) (fun _ _ => rfl)
    (FillI w V B s g cap c n l x Bn) (fun _ => False) (fun k lx W h => ⟨h.2.1, fun _ => h.2.2.1⟩) (fun _ _ => FillI.ownV hBB) (fun _ _ _ h _ _ => h) h0
    (FillX w V B s g cap c n l x Bn) (fun _ _ _ => FillX.ownV hBB) ?assign ?body ?done ?stop
  case assign =>
    intro lp k lx W K hI hK
    unfold enc
    gi_wp2
    have hI2 := hI.on ((Below.refl _ W).alloc (Nat.le_refl _) (.cells #[.int .i64 (V.ei k), .int .i64 (V.ej k)] 28))
    exact hK _ _ (keepsFrom_below ((Below.refl _ W).alloc (Nat.le_refl _) _)) ⟨hI2, W.heap.size, _, _, _, _, _, _, _, _, _, _, _, _, _, _, _, _, _, Blk.new W [.int .i64 _, .int .i64 _] _, hI.2.2.2.1.lt, rfl⟩
  case body =>
    rintro lp k lx a' W hlp ⟨⟨he, h1, h2, h3, h4, h5⟩, bx, X0, X1, X4, X6, X7, X8, X9, X10, X11, X12, X13, X14, X15, X16, X17, X18, X19, hbx, hbn, rfl⟩ hk
    have hhas := ei_bd HV.out.bd hk
    obtain ⟨kk, hkk, hkl, _⟩ := HV.out.ins _ _ hhas
    obtain ⟨⟨i0, i1⟩, j0, j1⟩ := has_bd HV.out.bd hhas
    have pc := fun W' (h : St W' B s g cap c lx) => cell_any (w := W') HV.out.bd h HS.out i0 i1 j0 j1 hkk (by rw [h2.2]; exact hkl)
    have HE : Hid (setTo V c (fun _ => x) l (k + 1) = lx.set kk x) := Lib.hid (by rw [setTo_succ, ← he, hkk]; rfl)
    obtain ⟨I, hI⟩ : ∃ I, V.ei k = I := ⟨_, rfl⟩
    obtain ⟨J, hJ⟩ : ∃ J, V.ej k = J := ⟨_, rfl⟩
    rw [hI, hJ] at pc hbx
    clear hI hJ i0 i1 j0 j1 hkk hhas he
    have hkx : kk < lx.length := by rw [h2.2]; exact hkl
    obtain ⟨hst, hsl⟩ := h2
    have hgW := hst.gt.2
    have hbl := hbx.lt
    have h3l := h3.lt
    have h4l := h4.lt
    gi_wp2
    refine wpIn_region_S (S := fun w9 : World => Vbx w9 w.heap.size V ∧ Blk w9 bx [.int .i64 I, .int .i64 J] ∧ Blk w9 (w.heap.size + 1) [.float .f64 x.toNat]) (by kernel_rfl) (by kernel_rfl) ⟨h3.drew, hbx.drew, h4.drew⟩ (fun hS => ?_)
    refine wpAnyS_take (i := 0) (v := ?v0_1) rfl (by kernel_rfl) (by kernel_rfl) (by kernel_rfl) (fun _ _ _ h => h) (Or.inl ⟨by rfl, ?hy0_1⟩) (by assumption) ?rest0_1
    case hy0_1 => (intro w9 hSw; obtain ⟨m0, m1, m2⟩ := hSw; obtain ⟨c0, c1, c2, c3, c4, c5, c6, c7, c8⟩ := Vbx.cells m0; go_simp; try with_reducible rfl)
    try simp only [Act.put, List.setIfInBounds_toArray, List.set_cons_zero, List.set_cons_succ, List.getElem_toArray, List.getElem_cons_zero, List.getElem_cons_succ]
    refine wpAnyS_take (i := 1) (v := ?v1_2) rfl (by kernel_rfl) (by kernel_rfl) (by kernel_rfl) (fun _ _ _ h => h) (Or.inl ⟨by rfl, ?hy1_2⟩) (by assumption) ?rest1_2
    case hy1_2 => (intro w9 hSw; clear hSw; go_simp; try with_reducible rfl)
    try simp only [Act.put, List.setIfInBounds_toArray, List.set_cons_zero, List.set_cons_succ, List.getElem_toArray, List.getElem_cons_zero, List.getElem_cons_succ]
    refine wpAnyS_take (i := 2) (v := ?v2_3) rfl (by kernel_rfl) (by kernel_rfl) (by kernel_rfl) (fun _ _ _ h => h) (Or.inl ⟨by rfl, ?hy2_3⟩) (by assumption) ?rest2_3
    case hy2_3 => (intro w9 hSw; obtain ⟨m0, m1, m2⟩ := hSw; have c0 := Blk.cell m1 0 rfl; go_simp; try with_reducible rfl)
    try simp only [Act.put, List.setIfInBounds_toArray, List.set_cons_zero, List.set_cons_succ, List.getElem_toArray, List.getElem_cons_zero, List.getElem_cons_succ]
    refine wpAnyS_take (i := 3) (v := ?v3_4) rfl (by kernel_rfl) (by kernel_rfl) (by kernel_rfl) (fun _ _ _ h => h) (Or.inl ⟨by rfl, ?hy3_4⟩) (by assumption) ?rest3_4
    case hy3_4 => (intro w9 hSw; clear hSw; go_simp; try with_reducible rfl)
    try simp only [Act.put, List.setIfInBounds_toArray, List.set_cons_zero, List.set_cons_succ, List.getElem_toArray, List.getElem_cons_zero, List.getElem_cons_succ]
    refine wpAnyS_take (i := 4) (v := ?v4_5) rfl (by kernel_rfl) (by kernel_rfl) (by kernel_rfl) (fun _ _ _ h => h) (Or.inl ⟨by rfl, ?hy4_5⟩) (by assumption) ?rest4_5
    case hy4_5 => (intro w9 hSw; obtain ⟨m0, m1, m2⟩ := hSw; have c0 := Blk.cell m1 1 rfl; go_simp; try with_reducible rfl)
    try simp only [Act.put, List.setIfInBounds_toArray, List.set_cons_zero, List.set_cons_succ, List.getElem_toArray, List.getElem_cons_zero, List.getElem_cons_succ]
    refine wpAnyS_take (i := 6) (v := ?v6_6) rfl (by kernel_rfl) (by kernel_rfl) (by kernel_rfl) (fun _ _ _ h => h) (Or.inl ⟨by rfl, ?hy6_6⟩) (by assumption) ?rest6_6
    case hy6_6 => (intro w9 hSw; obtain ⟨m0, m1, m2⟩ := hSw; have c0 := Blk.cell m2 0 rfl; go_simp; try with_reducible rfl)
    try simp only [Act.put, List.setIfInBounds_toArray, List.set_cons_zero, List.set_cons_succ, List.getElem_toArray, List.getElem_cons_zero, List.getElem_cons_succ]
    refine wpAnyS_ready (rs := [5]) (by kernel_rfl) (by simp) ?_
    refine AllReadyS.cons rfl (fun K hK => ?_) AllReadyS.nil
    go_simp
    with_reducible refine (pc _ (hst.on (Below.refl _ W).drew)).mono ?_
    rintro e w2 ⟨rfl, hb⟩
    have h32 := h3.drew.on hb
    have hbx2 := hbx.drew.on hb
    have h42 := h4.drew.on hb
    have hst2 := (hst.on (Below.refl _ W).drew).on hb
    refine hK.out _ _ ⟨h32, hbx2, h42⟩ (fun hH => ?_)
    clear hK K hS
    have hS := hH
    clear hH
    try simp only [Act.put, List.setIfInBounds_toArray, List.set_cons_zero, List.set_cons_succ, List.getElem_toArray, List.getElem_cons_zero, List.getElem_cons_succ]
    obtain ⟨hc, hf⟩ := hst2.at_ hkx
    refine wpAnyS_take (i := 7) (v := ?v7_7) rfl (by kernel_rfl) (by kernel_rfl) (by kernel_rfl) (fun _ _ _ h => h) (Or.inl ⟨by rfl, ?hy7_7⟩) (by assumption) ?rest7_7
    case hy7_7 => (intro w9 hSw; clear hSw; go_simp; try with_reducible rfl)
    try simp only [Act.put, List.setIfInBounds_toArray, List.set_cons_zero, List.set_cons_succ, List.getElem_toArray, List.getElem_cons_zero, List.getElem_cons_succ]
    refine wpAnyS_ready (rs := [8]) (by kernel_rfl) (by simp) ?_
    refine AllReadyS.cons rfl (fun K hK => ?_) AllReadyS.nil
    go_simp
    refine hK.out _ _ ⟨Blk.far h32 (p := ⟨g, kk, none⟩) (by simp; omega) _, Blk.far hbx2 (p := ⟨g, kk, none⟩) (by simp; omega) _, Blk.far h42 (p := ⟨g, kk, none⟩) (by simp; omega) _⟩ (fun hH => ?_)
    clear hK K hS
    have hS := hH
    clear hH
    try simp only [Act.put, List.setIfInBounds_toArray, List.set_cons_zero, List.set_cons_succ, List.getElem_toArray, List.getElem_cons_zero, List.getElem_cons_succ]
    refine wpAnyS_done (by kernel_rfl) ?_ _
    obtain ⟨x0, x1⟩ := HX.out
    exact ⟨((keepsFrom_below (Below.refl _ W).drew).trans (keepsFrom_below hb)).trans ((KeepsOthers.setCell _ _ _).from _), lx.set kk x, HE.out.symm, Blk.far (h1.drew.on hb) (p := ⟨g, kk, none⟩) (by simp; omega) _, ⟨hst2.set_ x0 x1 kk, by rw [List.length_set]; exact hsl⟩, Blk.far h32 (p := ⟨g, kk, none⟩) (by simp; omega) _, Blk.far h42 (p := ⟨g, kk, none⟩) (by simp; omega) _, setb_grown (grown_on (drew_grown h5) hb) kk _⟩
  case done =>
    rintro D lx W hD ⟨rfl, h1, h2, h3, h4, h5⟩ hK
    gi_wp2
    refine ⟨by simp, .inl ⟨_, _, rfl, run_takeDeferred hK, ?_⟩⟩
    refine ⟨_, results_tmp rfl _ _ _, rfl, ?_, grown_ownV h5 (grownBy_putObj' _ D (.deferred none)) (noCells_put hK rfl) (by omega)⟩
    rw [HhV.out]
    exact h2.1.ownV (grownBy_putObj' _ D (.deferred none)) (noCells_put hK rfl)
  case stop => exact fun D W _ h _ => h.elim
end
end Go.Proofs.Ytceoefgjjekgaaa
