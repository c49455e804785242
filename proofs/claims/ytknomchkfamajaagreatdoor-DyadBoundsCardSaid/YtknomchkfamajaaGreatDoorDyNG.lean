/-
  Layer 3, the laws: sums of lists, and of products, by the program. (Written by a script of wip/tools.)
-/
import Derived.Test.YtknomchkfamajaaGreatDoorDyNF
namespace Go.Proofs.YtknomchkfamajaaGreatDoor
open Go.RowKit Go.Sort Go.Bw
set_option linter.unusedVariables false
set_option linter.unusedSimpArgs false

section
variable {n c n2 c2 : Nat} {A A2 : Option Addr} {w : World} {P Q : Int} {es fs : List De}

theorem cellB {W w : World} {p : Addr} {v : Value} (h : W.cell? p = some v) (hb : Below W.heap.size W w) : w.cell? p = some v := (hb.cell (World.block_lt_of_cell? _ _ h)).trans h
theorem mulN_okE {d d2 : Nf} {p q p' q' : Int} (h : d.In p q) (k : d2.In p' q') (hp : -262144 ≤ p + p') (hq : q + q' ≤ 262144) : okE (mulN d d2).exp = true := in_okE (mulN_ok _ _) (mulN_in h k) hp hq
set_option maxRecDepth 100000 in
set_option maxHeartbeats 8000000 in
theorem dotOne_any {g g2 k : Nat} (h : Dl w A n c es) (hk : k < n) (hg : Blk w g [.slice A n c]) (h2 : Dl w A2 n2 c2 fs) (hk2 : k < n2) (hg2 : Blk w g2 [.slice A2 n2 c2]) (hT : Tab w) (hop : ∀ e ∈ es, okE e.x = true) (hsp : ∀ e ∈ es, e.l.length ≤ 2048) (hoq : ∀ e ∈ fs, okE e.x = true) (hsq : ∀ e ∈ fs, e.l.length ≤ 2048) (hm : okE (mulN (at0 es k) (at0 fs k)).exp = true) :
    Calls Tryz.prog 96 #[.int .i64 k, .pointer (some ⟨g, 0, none⟩), .pointer (some ⟨g2, 0, none⟩)] w (DyK (mulN (at0 es k) (at0 fs k)) 0 w) := by
  have hn2 := h.2.1
  have hn3 := h2.2.1
  obtain ⟨ep, adp, eap, hep, rfl, hEp, hlp, hcp0, hcp1, hcp2, hvp, xp0, xp1⟩ := h.at_ hk
  have hAp := at0_is hep
  have hOp := hop ep (List.mem_of_getElem? hep)
  have hLp := hsp ep (List.mem_of_getElem? hep)
  rw [hAp] at hm ⊢
  clear hAp hep hop hsp
  obtain ⟨⟨bp, Ap, cp, Xp, lp⟩, he9⟩ : ∃ e9, ep = e9 := ⟨_, rfl⟩
  subst he9
  obtain ⟨eq, adq, eaq, heq, rfl, hEq, hlq, hcq0, hcq1, hcq2, hvq, xq0, xq1⟩ := h2.at_ hk2
  have hAq := at0_is heq
  have hOq := hoq eq (List.mem_of_getElem? heq)
  have hLq := hsq eq (List.mem_of_getElem? heq)
  rw [hAq] at hm ⊢
  clear hAq heq hoq hsq
  obtain ⟨⟨bq, Aq, cq, Xq, lq⟩, he9⟩ : ∃ e9, eq = e9 := ⟨_, rfl⟩
  subst he9
  clear h h2
  unfold De.N at hm ⊢
  dsimp only at *
  have GB_0 := Blk.cell hg 0 rfl
  have HB_0 := Blk.cell hg2 0 rfl
  have pm := fun W (mm : Lv W Ap lp.length cp lp) (mm2 : Lv W Aq lq.length cq lq) (tt : Tab W) => dMul_raw (b := bp) (b2 := bq) (x := Xp) (x2 := Xq) mm mm2 hLp hLq tt hOp hOq hm
  generalize mulN (nfl bp (val 18446744073709551616 lp) Xp) (nfl bq (val 18446744073709551616 lq) Xq) = R at pm ⊢
  clear hm
  have DB := Blk.new w [.bool false, .slice none 0 0, .int .i64 0] 24
  have bw : Below w.heap.size w (w.alloc (.cells #[.bool false, .slice none 0 0, .int .i64 0] 24)) := by go_grown
  obtain ⟨DB_0, DB_1, DB_2, DB_f0, DB_f1, DB_f2⟩ := Dbx.cells DB
  go_enter Tryz.func96, Tryz.ntmps96
  go_wp2_with fail
  refine wp_region_held_drew (S := fun w9 : World => Below w.heap.size w w9) (by kernel_rfl) bw.drew (fun hHeld => ?_)
  refine wpAnyH_take (i := 0) (v := ?v0) rfl (by kernel_rfl) (by kernel_rfl) (by kernel_rfl) (fun _ _ _ h => h) (Or.inl ⟨by rfl, ?hy0⟩) (by assumption) ?rest0
  case hy0 => (intro w9 hSw; have c0 := cellB GB_0 hSw; clear hSw; go_simp; try with_reducible rfl)
  simp only [Act.put, List.setIfInBounds_toArray, List.set_cons_zero, List.set_cons_succ, List.getElem_toArray, List.getElem_cons_zero, List.getElem_cons_succ]
  refine wpAnyH_take (i := 1) (v := ?v1) rfl (by kernel_rfl) (by kernel_rfl) (by kernel_rfl) (fun _ _ _ h => h) (Or.inl ⟨by rfl, ?hy1⟩) (by assumption) ?rest1
  case hy1 => (intro w9 hSw;  clear hSw; go_simp; try with_reducible rfl)
  simp only [Act.put, List.setIfInBounds_toArray, List.set_cons_zero, List.set_cons_succ, List.getElem_toArray, List.getElem_cons_zero, List.getElem_cons_succ]
  refine wpAnyH_take (i := 2) (v := ?v2) rfl (by kernel_rfl) (by kernel_rfl) (by kernel_rfl) (fun _ _ _ h => h) (Or.inl ⟨by rfl, ?hy2⟩) (by assumption) ?rest2
  case hy2 => (intro w9 hSw;  clear hSw; go_simp; try with_reducible rfl)
  simp only [Act.put, List.setIfInBounds_toArray, List.set_cons_zero, List.set_cons_succ, List.getElem_toArray, List.getElem_cons_zero, List.getElem_cons_succ]
  refine wpAnyH_take (i := 3) (v := ?v3) rfl (by kernel_rfl) (by kernel_rfl) (by kernel_rfl) (fun _ _ _ h => h) (Or.inl ⟨by rfl, ?hy3⟩) (by assumption) ?rest3
  case hy3 => (intro w9 hSw; have c0 := cellB hcp0 hSw; have c1 := cellB hcp1 hSw; have c2 := cellB hcp2 hSw; clear hSw; go_simp; try with_reducible rfl)
  simp only [Act.put, List.setIfInBounds_toArray, List.set_cons_zero, List.set_cons_succ, List.getElem_toArray, List.getElem_cons_zero, List.getElem_cons_succ]
  refine wpAnyH_take (i := 4) (v := ?v4) rfl (by kernel_rfl) (by kernel_rfl) (by kernel_rfl) (fun _ _ _ h => h) (Or.inl ⟨by rfl, ?hy4⟩) (by assumption) ?rest4
  case hy4 => (intro w9 hSw; have c0 := cellB HB_0 hSw; clear hSw; go_simp; try with_reducible rfl)
  simp only [Act.put, List.setIfInBounds_toArray, List.set_cons_zero, List.set_cons_succ, List.getElem_toArray, List.getElem_cons_zero, List.getElem_cons_succ]
  refine wpAnyH_take (i := 5) (v := ?v5) rfl (by kernel_rfl) (by kernel_rfl) (by kernel_rfl) (fun _ _ _ h => h) (Or.inl ⟨by rfl, ?hy5⟩) (by assumption) ?rest5
  case hy5 => (intro w9 hSw;  clear hSw; go_simp; try with_reducible rfl)
  simp only [Act.put, List.setIfInBounds_toArray, List.set_cons_zero, List.set_cons_succ, List.getElem_toArray, List.getElem_cons_zero, List.getElem_cons_succ]
  refine wpAnyH_take (i := 6) (v := ?v6) rfl (by kernel_rfl) (by kernel_rfl) (by kernel_rfl) (fun _ _ _ h => h) (Or.inl ⟨by rfl, ?hy6⟩) (by assumption) ?rest6
  case hy6 => (intro w9 hSw;  clear hSw; go_simp; try with_reducible rfl)
  simp only [Act.put, List.setIfInBounds_toArray, List.set_cons_zero, List.set_cons_succ, List.getElem_toArray, List.getElem_cons_zero, List.getElem_cons_succ]
  refine wpAnyH_take (i := 7) (v := ?v7) rfl (by kernel_rfl) (by kernel_rfl) (by kernel_rfl) (fun _ _ _ h => h) (Or.inl ⟨by rfl, ?hy7⟩) (by assumption) ?rest7
  case hy7 => (intro w9 hSw; have c0 := cellB hcq0 hSw; have c1 := cellB hcq1 hSw; have c2 := cellB hcq2 hSw; clear hSw; go_simp; try with_reducible rfl)
  simp only [Act.put, List.setIfInBounds_toArray, List.set_cons_zero, List.set_cons_succ, List.getElem_toArray, List.getElem_cons_zero, List.getElem_cons_succ]
  clear DB_0 DB_1 DB_2 DB_f0 DB_f1 DB_f2
  refine wpAnyH_ready (rs := [8]) (by kernel_rfl) (by simp) ?_
  refine AllReadyH.cons rfl (fun K hK => ?_) AllReadyH.nil
  go_simp
  with_reducible refine (pm _ (hvp.on hHeld) (hvq.on hHeld) (hT.onD hHeld)).mono ?_
  rintro e w5 ⟨b5, q5, A5, c5, x5, rfl, hd5, m5, hb5⟩
  have hs5 := hb5.size
  replace bw : Below w.heap.size w w5 := dy_end hHeld hb5
  replace DB := (Blk.drew DB).on hb5
  refine hK.out _ _ (dy_end hHeld hb5) (fun hHeld => ?_)
  clear hK K
  try simp only [Act.put, List.setIfInBounds_toArray, List.set_cons_zero, List.set_cons_succ, List.getElem_toArray, List.getElem_cons_zero, List.getElem_cons_succ]
  clear hb5
  obtain ⟨DB_0, DB_1, DB_2, DB_f0, DB_f1, DB_f2⟩ := Dbx.cells DB
  refine wpAnyH_take (i := 9) (v := ?v9) rfl (by kernel_rfl) (by kernel_rfl) (by kernel_rfl) (fun _ _ _ h => h) (Or.inl ⟨by rfl, ?hy9⟩) (by assumption) ?rest9
  case hy9 => (intro w9 hSw;  clear hSw; go_simp; try with_reducible rfl)
  simp only [Act.put, List.setIfInBounds_toArray, List.set_cons_zero, List.set_cons_succ, List.getElem_toArray, List.getElem_cons_zero, List.getElem_cons_succ]
  refine wpAnyH_take (i := 10) (v := ?v10) rfl (by kernel_rfl) (by kernel_rfl) (by kernel_rfl) (fun _ _ _ h => h) (Or.inl ⟨by rfl, ?hy10⟩) (by assumption) ?rest10
  case hy10 => (intro w9 hSw;  clear hSw; go_simp; try with_reducible rfl)
  simp only [Act.put, List.setIfInBounds_toArray, List.set_cons_zero, List.set_cons_succ, List.getElem_toArray, List.getElem_cons_zero, List.getElem_cons_succ]
  refine wpAnyH_ready (rs := [11]) (by kernel_rfl) (by simp) ?_
  refine AllReadyH.cons rfl (fun K hK => ?_) AllReadyH.nil
  go_simp
  refine hK.out _ _ (by go_grown) (fun hHeld => ?_)
  clear hK K
  try simp only [Act.put, List.setIfInBounds_toArray, List.set_cons_zero, List.set_cons_succ, List.getElem_toArray, List.getElem_cons_zero, List.getElem_cons_succ]
  refine wpAnyH_take (i := 12) (v := ?v12) rfl (by kernel_rfl) (by kernel_rfl) (by kernel_rfl) (fun _ _ _ h => h) (Or.inl ⟨by rfl, ?hy12⟩) (by assumption) ?rest12
  case hy12 => (intro w9 hSw;  clear hSw; go_simp; try with_reducible rfl)
  simp only [Act.put, List.setIfInBounds_toArray, List.set_cons_zero, List.set_cons_succ, List.getElem_toArray, List.getElem_cons_zero, List.getElem_cons_succ]
  refine wpAnyH_done (by kernel_rfl) ?_ _
  replace m5 := m5.put DB b5 A5 q5.length c5 x5
  clear DB_0 DB_1 DB_2 DB_f0 DB_f1 DB_f2
  replace DB := Dbx.put DB b5 A5 q5.length c5 x5
  obtain ⟨DB_0, DB_1, DB_2, DB_f0, DB_f1, DB_f2⟩ := Dbx.cells DB
  go_wp2_with fail
  refine bodyPost_ret (v := .tuple #[dyV b5 A5 q5.length c5 x5, .int .i64 0]) (by simp [results, Tryz.results96, go_sem, DB_0, DB_1, DB_2, DB_f0, DB_f1, DB_f2]) rfl ?_
  exact ⟨b5, q5, A5, c5, x5, rfl, hd5, m5, hHeld⟩

set_option maxRecDepth 100000 in
set_option maxHeartbeats 8000000 in
theorem dSum_in (h : Dl w A n c es) (hT : Tab w) (ho : ∀ e ∈ es, okE e.x = true) (hs : ∀ e ∈ es, e.l.length ≤ 4096) (HI : Hid (∀ k, k ≤ n → (sumTo (at0 es) k).In P Q)) (HF : Hid (∀ k, k < n → (at0 es k).In P Q)) (hPQ : P ≤ Q) (hw : Q - P ≤ 262143) (hp : -262144 ≤ P) (hq : Q + 1 ≤ 262144) :
    Calls Tryz.prog 47 #[.slice A n c] w (DyK (sumTo (at0 es) n) 0 w) := by
  have hn2 := h.2.1
  have GB := Blk.new w [.slice A n c] 52
  have DB := Blk.new (w.alloc (.cells #[.slice A n c] 52)) [.bool false, .slice none 0 0, .int .i64 0] 24
  simp only [World.size_alloc] at DB
  replace GB := Blk.alloc GB (.cells #[.bool false, .slice none 0 0, .int .i64 0] 24)
  have bw : Below w.heap.size w ((w.alloc (.cells #[.slice A n c] 52)).alloc (.cells #[.bool false, .slice none 0 0, .int .i64 0] 24)) := by go_grown
  have GB_0 := Blk.cell GB 0 rfl
  have GB_f0 := Blk.free GB 0
  obtain ⟨DB_0, DB_1, DB_2, DB_f0, DB_f1, DB_f2⟩ := Dbx.cells DB
  have h9 := h.on bw
  have ps := fun W (bb : Below w.heap.size w W) (GB9 : Blk W w.heap.size [.slice A n c]) => summedS w.heap.size (at0 es) n (w := W) hn2 (hT.onD bb) (Lib.hid fun W2 hb2 k hk => sumOne_any ((h.on bb).on hb2) hk (GB9.on hb2) ((hT.onD bb).onD hb2) ho hs) HI HF hPQ hw hp hq
  clear h h9
  obtain ⟨F, hF⟩ : ∃ F, sumTo (at0 es) n = F := ⟨_, rfl⟩
  rw [hF] at ps ⊢
  clear hF HI HF
  go_enter Tryz.func47, Tryz.ntmps47
  go_wp2_with fail
  with_reducible refine (ps _ (by go_grown) GB).mono ?_
  rintro e w1 ⟨b2, q2, A2, c2, x2, rfl, hd2, m2, hb⟩
  clear GB_0 GB_f0
  clear DB_0 DB_1 DB_2 DB_f0 DB_f1 DB_f2
  have hs1 := hb.size
  try simp only [World.size_alloc, World.size_setCell] at hs1
  replace bw : Below w.heap.size w w1 := dy_end (by go_grown) hb
  replace GB := Blk.on GB hb
  replace DB := Blk.on DB hb
  clear hb
  have GB_0 := Blk.cell GB 0 rfl
  have GB_f0 := Blk.free GB 0
  obtain ⟨DB_0, DB_1, DB_2, DB_f0, DB_f1, DB_f2⟩ := Dbx.cells DB
  go_wp2_with fail
  refine bodyPost_ret (v := .tuple #[dyV b2 A2 q2.length c2 x2, .int .i64 0]) (by simp [results, Tryz.results47, go_sem, DB_0, DB_1, DB_2, DB_f0, DB_f1, DB_f2]) rfl ?_
  exact ⟨b2, q2, A2, c2, x2, rfl, hd2, m2.put DB _ _ _ _ _, by go_grown⟩

set_option maxRecDepth 100000 in
set_option maxHeartbeats 8000000 in
theorem dDot_ne (hne : n ≠ n2) :
    Calls Tryz.prog 49 #[.slice A n c, .slice A2 n2 c2] w (DyK zeroN 2 w) := by
  have k9 : ((n : Int) == (n2 : Int)) = false := by simp; omega
  have k8 : ((n : Int) != (n2 : Int)) = true := by simp; omega
  clear hne
  have GB := Blk.new w [.slice A n c] 52
  have HB := Blk.new (w.alloc (.cells #[.slice A n c] 52)) [.slice A2 n2 c2] 52
  simp only [World.size_alloc] at HB
  replace GB := Blk.alloc GB (.cells #[.slice A2 n2 c2] 52)
  have DB := Blk.new ((w.alloc (.cells #[.slice A n c] 52)).alloc (.cells #[.slice A2 n2 c2] 52)) [.bool false, .slice none 0 0, .int .i64 0] 24
  simp only [World.size_alloc] at DB
  replace GB := Blk.alloc GB (.cells #[.bool false, .slice none 0 0, .int .i64 0] 24)
  replace HB := Blk.alloc HB (.cells #[.bool false, .slice none 0 0, .int .i64 0] 24)
  have bw : Below w.heap.size w (((w.alloc (.cells #[.slice A n c] 52)).alloc (.cells #[.slice A2 n2 c2] 52)).alloc (.cells #[.bool false, .slice none 0 0, .int .i64 0] 24)) := by go_grown
  have GB_0 := Blk.cell GB 0 rfl
  have GB_f0 := Blk.free GB 0
  have HB_0 := Blk.cell HB 0 rfl
  have HB_f0 := Blk.free HB 0
  obtain ⟨DB_0, DB_1, DB_2, DB_f0, DB_f1, DB_f2⟩ := Dbx.cells DB
  go_enter Tryz.func49, Tryz.ntmps49
  go_wp2_with fail
  refine bodyPost_ret (v := .tuple #[dyV false none 0 0 0, .int .i64 2]) (by simp [results, Tryz.results49, go_sem, DB_0, DB_1, DB_2, DB_f0, DB_f1, DB_f2]) rfl ?_
  exact ⟨false, [], none, 0, 0, rfl, Dn.zero, lv_nil _, by go_grown⟩

set_option maxRecDepth 100000 in
set_option maxHeartbeats 8000000 in
theorem dDot_in (h : Dl w A n c es) (h2 : Dl w A2 n c2 fs) (hT : Tab w) (ho : ∀ e ∈ es, okE e.x = true) (hs : ∀ e ∈ es, e.l.length ≤ 2048) (ho2 : ∀ e ∈ fs, okE e.x = true) (hs2 : ∀ e ∈ fs, e.l.length ≤ 2048) (HM : Hid (∀ k, k < n → okE (mulN (at0 es k) (at0 fs k)).exp = true)) (HI : Hid (∀ k, k ≤ n → (sumTo (fun i => mulN (at0 es i) (at0 fs i)) k).In P Q)) (HF : Hid (∀ k, k < n → (mulN (at0 es k) (at0 fs k)).In P Q)) (hPQ : P ≤ Q) (hw : Q - P ≤ 262143) (hp : -262144 ≤ P) (hq : Q + 1 ≤ 262144) :
    Calls Tryz.prog 49 #[.slice A n c, .slice A2 n c2] w (DyK (sumTo (fun i => mulN (at0 es i) (at0 fs i)) n) 0 w) := by
  have hn2 := h.2.1
  have GB := Blk.new w [.slice A n c] 52
  have HB := Blk.new (w.alloc (.cells #[.slice A n c] 52)) [.slice A2 n c2] 52
  simp only [World.size_alloc] at HB
  replace GB := Blk.alloc GB (.cells #[.slice A2 n c2] 52)
  have DB := Blk.new ((w.alloc (.cells #[.slice A n c] 52)).alloc (.cells #[.slice A2 n c2] 52)) [.bool false, .slice none 0 0, .int .i64 0] 24
  simp only [World.size_alloc] at DB
  replace GB := Blk.alloc GB (.cells #[.bool false, .slice none 0 0, .int .i64 0] 24)
  replace HB := Blk.alloc HB (.cells #[.bool false, .slice none 0 0, .int .i64 0] 24)
  have bw : Below w.heap.size w (((w.alloc (.cells #[.slice A n c] 52)).alloc (.cells #[.slice A2 n c2] 52)).alloc (.cells #[.bool false, .slice none 0 0, .int .i64 0] 24)) := by go_grown
  have GB_0 := Blk.cell GB 0 rfl
  have GB_f0 := Blk.free GB 0
  have HB_0 := Blk.cell HB 0 rfl
  have HB_f0 := Blk.free HB 0
  obtain ⟨DB_0, DB_1, DB_2, DB_f0, DB_f1, DB_f2⟩ := Dbx.cells DB
  have ps := fun W (bb : Below w.heap.size w W) (GB9 : Blk W w.heap.size [.slice A n c]) (HB9 : Blk W (w.heap.size + 1) [.slice A2 n c2]) => summedD w.heap.size (w.heap.size + 1) (fun i => mulN (at0 es i) (at0 fs i)) n (w := W) hn2 (hT.onD bb) (Lib.hid fun W2 hb2 k hk => dotOne_any ((h.on bb).on hb2) hk (GB9.on hb2) ((h2.on bb).on hb2) hk (HB9.on hb2) ((hT.onD bb).onD hb2) ho hs ho2 hs2 (HM.out k hk)) HI HF hPQ hw hp hq
  clear h h2
  obtain ⟨F, hF⟩ : ∃ F, sumTo (fun i => mulN (at0 es i) (at0 fs i)) n = F := ⟨_, rfl⟩
  rw [hF] at ps ⊢
  clear hF HI HF HM
  go_enter Tryz.func49, Tryz.ntmps49
  go_wp2_with fail
  with_reducible refine (ps _ (by go_grown) GB HB).mono ?_
  rintro e w1 ⟨b2, q2, A3, c3, x2, rfl, hd2, m2, hb⟩
  clear GB_0 GB_f0
  clear HB_0 HB_f0
  clear DB_0 DB_1 DB_2 DB_f0 DB_f1 DB_f2
  have hs1 := hb.size
  try simp only [World.size_alloc, World.size_setCell] at hs1
  replace bw : Below w.heap.size w w1 := dy_end (by go_grown) hb
  replace GB := Blk.on GB hb
  replace HB := Blk.on HB hb
  replace DB := Blk.on DB hb
  clear hb
  have GB_0 := Blk.cell GB 0 rfl
  have GB_f0 := Blk.free GB 0
  have HB_0 := Blk.cell HB 0 rfl
  have HB_f0 := Blk.free HB 0
  obtain ⟨DB_0, DB_1, DB_2, DB_f0, DB_f1, DB_f2⟩ := Dbx.cells DB
  go_wp2_with fail
  refine bodyPost_ret (v := .tuple #[dyV b2 A3 q2.length c3 x2, .int .i64 0]) (by simp [results, Tryz.results49, go_sem, DB_0, DB_1, DB_2, DB_f0, DB_f1, DB_f2]) rfl ?_
  exact ⟨b2, q2, A3, c3, x2, rfl, hd2, m2.put DB _ _ _ _ _, by go_grown⟩

end
end Go.Proofs.YtknomchkfamajaaGreatDoor
