/-
  Layer 3: sums of lists.
-/
import Derived.Test.YtcdbjlmegkcaiaaGreatDoorYDyU
import Derived.WalkMore
namespace Go.Proofs.YtcdbjlmegkcaiaaGreatDoor
open Go.RowKit Go.Sort Go.Bw
set_option linter.unusedVariables false
set_option linter.unusedSimpArgs false

section
variable {b : Bool} {A : Option Addr} {n c : Nat} {x : Int} {l : List Int} {w : World}
variable {b2 : Bool} {A2 : Option Addr} {n2 c2 : Nat} {x2 : Int} {l2 : List Int} {d d2 : Nf} {P Q P2 Q2 : Int}

/-- sums from the first on -/
def sumTo (f : Nat → Nf) : Nat → Nf
  | 0 => zeroN
  | k + 1 => sumN (sumTo f k) (f k)
theorem sumTo_ok (f : Nat → Nf) : ∀ k, (sumTo f k).Ok
  | 0 => zeroN_ok
  | k + 1 => sumN_ok _ _
theorem sumTo_in (f : Nat → Nf) (n : Nat) (hPQ : P ≤ Q) (ho : ∀ i, i < n → (f i).Ok) (hf : ∀ i, i < n → (f i).In P Q) : ∀ k, k ≤ n → (sumTo f k).In P (Q + k)
  | 0, _ => zeroN_in _ _
  | k + 1, h => by
    have h1 := sumTo_in f n hPQ ho hf k (by omega)
    have h2 := (hf k (by omega)).mono (Int.le_refl P) (show Q ≤ Q + (k : Int) by omega)
    have := sumN_in (sumTo_ok f k) (ho k (by omega)) h1 h2 (by omega)
    exact this.mono (Int.le_refl _) (by omega)
theorem sum_in (h : Lv w A l.length c l) (hd : Dn b l x d) (h2 : Lv w A2 l2.length c2 l2) (hd2 : Dn b2 l2 x2 d2) (hT : Tab w) (i1 : d.In P Q) (i2 : d2.In P Q) (hPQ : P ≤ Q) (hw : Q - P ≤ 262143) (hp : -262144 ≤ P) (hq : Q + 1 ≤ 262144) :
    Calls Tryz.prog 27 #[dyV b A l.length c x, dyV b2 A2 l2.length c2 x2] w (DyK (sumN d d2) 0 w) := by
  have o1 := (okE_iff _).1 (in_okE hd.2.2.2 i1 hp (by omega))
  have o2 := (okE_iff _).1 (in_okE hd2.2.2.2 i2 hp (by omega))
  rw [hd.exp] at o1
  rw [hd2.exp] at o2
  have := sum_dq (b := b) (b2 := b2) (x := x) (x2 := x2) h h2 hT (hd.dq h.lim) (hd2.dq h2.lim) (.inr ⟨P, Q, i1, i2, hPQ, hw⟩) (by omega) (by omega) (by omega) (by omega)
  rw [addR_near i1 i2 (by omega), doneR_near (sumN_ok _ _) (sumN_in hd.2.2.2 hd2.2.2.2 i1 i2 hPQ) hp hq] at this
  exact this
theorem mul_bound {u v : Int} (p1 : 0 ≤ u) (p2 : 0 ≤ v) (a1 : u < 2 ^ 131072) (a2 : v < 2 ^ 131072) : u * v < 18446744073709551616 ^ 4096 := by
  rw [pow64, show 64 * 4096 = 131072 + 131072 from rfl, Int.pow_add]
  have h0 : (0 : Int) < 2 ^ 131072 := Int.pow_pos (by omega)
  generalize (2 : Int) ^ 131072 = R at *
  calc u * v ≤ u * R := Int.mul_le_mul_of_nonneg_left (by omega) p1
    _ < R * R := Int.mul_lt_mul_of_pos_right a1 h0
theorem lv_short (h : Lv w A l.length c l) (hn : l.length ≤ 2048) : val 18446744073709551616 l < 2 ^ 131072 := by
  have := h.less (k := 2048) hn
  rw [pow64] at this
  exact this
theorem dMul_raw (h : Lv w A l.length c l) (h2 : Lv w A2 l2.length c2 l2) (hn : l.length ≤ 2048) (hn2 : l2.length ≤ 2048) (hT : Tab w) (ho : okE x = true) (ho2 : okE x2 = true) (hm : okE (mulN (nfl b (val 18446744073709551616 l) x) (nfl b2 (val 18446744073709551616 l2) x2)).exp = true) :
    Calls Tryz.prog 13 #[dyV b A l.length c x, dyV b2 A2 l2.length c2 x2] w (DyK (mulN (nfl b (val 18446744073709551616 l) x) (nfl b2 (val 18446744073709551616 l2) x2)) 0 w) := by
  have := dMul_any (b := b) (b2 := b2) (x := x) (x2 := x2) h (by omega) h2 (by omega) hT (fun _ => mul_bound (lim_val h.lim) (lim_val h2.lim) (lv_short h hn) (lv_short h2 hn2))
  have e : mulQ x x2 (nfl b (val 18446744073709551616 l) x) (nfl b2 (val 18446744073709551616 l2) x2) = (mulN (nfl b (val 18446744073709551616 l) x) (nfl b2 (val 18446744073709551616 l2) x2), 0) := by
    unfold mulQ may2 mulR
    rw [ho, ho2, if_pos (show (true && true) = true from rfl), doneR_yes hm]
  rw [e] at this
  exact this
/-- an element's number -/
def De.N (e : De) : Nf := nfl e.b (val 18446744073709551616 e.l) e.x
def at0 (es : List De) (i : Nat) : Nf := match es[i]? with | some e => e.N | none => zeroN
theorem at0_ok (es : List De) (i : Nat) : (at0 es i).Ok := by unfold at0; split; exact nfl_ok _ _ _; exact zeroN_ok
theorem at0_is {es : List De} {i : Nat} {e : De} (h : es[i]? = some e) : at0 es i = e.N := by unfold at0; rw [h]
/-- the state of a sum of the first k -/
def SumR (w : World) (f : Nat → Nf) (n : Nat) (wr : World) (k : Nat) : Prop :=
  k ≤ n ∧ ∃ b A c x l, Dn b l x (sumTo f k) ∧ Lv wr A l.length c l ∧ Dbx wr w.heap.size b A l.length c x ∧ Below w.heap.size w wr
set_option maxRecDepth 100000 in
set_option maxHeartbeats 8000000 in
theorem summedD (g g2 : Nat) (f : Nat → Nf) (n : Nat) (hn : n ≤ 9223372036854775807) (hT : Tab w) (HC : Hid (∀ W, Below w.heap.size w W → ∀ k, k < n → Calls Tryz.prog 30 #[.int .i64 k, .pointer (some ⟨g, 0, none⟩), .pointer (some ⟨g2, 0, none⟩)] W (DyK (f k) 0 W)))
    (HI : Hid (∀ k, k ≤ n → (sumTo f k).In P Q)) (HF : Hid (∀ k, k < n → (f k).In P Q)) (hPQ : P ≤ Q) (hw : Q - P ≤ 262143) (hp : -262144 ≤ P) (hq : Q + 1 ≤ 262144) :
    Calls Tryz.prog 29 #[.int .i64 n, .func (.func 30) #[] #[.pointer (some ⟨g, 0, none⟩), .pointer (some ⟨g2, 0, none⟩)]] w (DyK (sumTo f n) 0 w) := by
  have DB := Blk.new w [.bool false, .slice none 0 0, .int .i64 0] 40
  have bw : Below w.heap.size w (w.alloc (.cells #[.bool false, .slice none 0 0, .int .i64 0] 40)) := by go_grown
  obtain ⟨DB_0, DB_1, DB_2, DB_f0, DB_f1, DB_f2⟩ := Dbx.cells DB
  go_enter Tryz.func29, Tryz.ntmps29
  go_wp2_with fail
  go_step3
  go_wp2_with fail
  go_step3
  go_wp2_with fail
  go_loopw [5, 10] (fun er i wr => ∃ k : Nat, er = .int .i64 0 ∧ i = .int .i64 k ∧ SumR w f n wr k) (fun _ i _ => n - (intOf i).toNat)
  case atStart => exact ⟨0, rfl, rfl, Nat.zero_le _, false, none, 0, 0, [], Dn.zero, lv_nil _, DB, bw⟩
  case round =>
    clear DB_0 DB_1 DB_2 DB_f0 DB_f1 DB_f2
    clear DB bw
    obtain ⟨k, rfl, rfl, hk, b1, A1, c1, x1, q1, hd1, m1, DB, bw⟩ := hrel
    have hsz := bw.size
    have hdl := Blk.lt DB
    obtain ⟨DB_0, DB_1, DB_2, DB_f0, DB_f1, DB_f2⟩ := Dbx.cells DB
    by_cases hlt : k < n
    · have pc := HC.out wr bw k hlt
      have i1 := HI.out k (by omega)
      have i2 := HF.out k hlt
      go_wp2_with fail
      with_reducible refine (pc).mono ?_
      rintro e w1 ⟨b2, q2, A2, c2, x2, rfl, hd2, m2, hb⟩
      clear DB_0 DB_1 DB_2 DB_f0 DB_f1 DB_f2
      have hs1 := hb.size
      try simp only [World.size_alloc, World.size_setCell] at hs1
      replace bw : Below w.heap.size w w1 := dy_end (by go_grown) hb
      replace m1 := Lv.on m1 hb
      replace DB := Blk.on DB hb
      clear hb
      obtain ⟨DB_0, DB_1, DB_2, DB_f0, DB_f1, DB_f2⟩ := Dbx.cells DB
      replace m1 := Lv.alloc m1 (.cells #[.bool b2, .slice A2 q2.length c2, .int .i64 x2] 40)
      replace m2 := Lv.alloc m2 (.cells #[.bool b2, .slice A2 q2.length c2, .int .i64 x2] 40)
      replace DB := Blk.alloc DB (.cells #[.bool b2, .slice A2 q2.length c2, .int .i64 x2] 40)
      have HB := Blk.new w1 [.bool b2, .slice A2 q2.length c2, .int .i64 x2] 40
      obtain ⟨DB_v0_0, DB_v0_1, DB_v0_2, DB_v0_f0, DB_v0_f1, DB_v0_f2⟩ := Dbx.cells DB
      obtain ⟨HB_0, HB_1, HB_2, HB_f0, HB_f1, HB_f2⟩ := Dbx.cells HB
      go_wp2_with fail
      with_reducible refine (sum_in m1 hd1 m2 hd2 (hT.onD (by go_grown)) i1 i2 (by omega) (by omega) (by omega) (by omega)).mono ?_
      rintro e w2 ⟨b3, q3, A3, c3, x3, rfl, hd3, m3, hb⟩
      clear DB_0 DB_1 DB_2 DB_f0 DB_f1 DB_f2 DB_v0_0 DB_v0_1 DB_v0_2 DB_v0_f0 DB_v0_f1 DB_v0_f2
      clear HB_0 HB_1 HB_2 HB_f0 HB_f1 HB_f2
      have hs2 := hb.size
      try simp only [World.size_alloc, World.size_setCell] at hs2
      replace bw : Below w.heap.size w w2 := dy_end (by go_grown) hb
      replace m1 := Lv.on m1 hb
      replace m2 := Lv.on m2 hb
      replace DB := Blk.on DB hb
      replace HB := Blk.on HB hb
      clear hb
      obtain ⟨DB_0, DB_1, DB_2, DB_f0, DB_f1, DB_f2⟩ := Dbx.cells DB
      obtain ⟨HB_0, HB_1, HB_2, HB_f0, HB_f1, HB_f2⟩ := Dbx.cells HB
      replace m1 := Lv.put m1 DB (b3) (A3) (q3.length) (c3) (x3)
      replace m2 := Lv.put m2 DB (b3) (A3) (q3.length) (c3) (x3)
      replace m3 := Lv.put m3 DB (b3) (A3) (q3.length) (c3) (x3)
      replace HB := Blk.putO HB (g := w.heap.size) (by omega) (.bool (b3)) (.slice (A3) (q3.length) (c3)) (.int .i64 (x3))
      replace DB := Dbx.put DB (b3) (A3) (q3.length) (c3) (x3)
      go_wp2_with fail
      go_roundw
      case rel => exact ⟨k + 1, rfl, by go_num, by omega, b3, A3, c3, x3, q3, hd3, m3, DB, by go_grown⟩
      case measure => simp [intOf]; omega
    · obtain rfl : k = n := by omega
      go_wp2_with fail
      refine bodyPost_ret (v := .tuple #[dyV b1 A1 q1.length c1 x1, .int .i64 0]) (by simp [results, Tryz.results29, go_sem, DB_0, DB_1, DB_2, DB_f0, DB_f1, DB_f2]) rfl ?_
      exact ⟨b1, q1, A1, c1, x1, rfl, hd1, m1.put DB _ _ _ _ _, by go_grown⟩

end
end Go.Proofs.YtcdbjlmegkcaiaaGreatDoor
namespace Go.Proofs.YtcdbjlmegkcaiaaGreatDoor
open Go.RowKit Go.Sort Go.Bw
set_option linter.unusedVariables false
set_option linter.unusedSimpArgs false

section
variable {n c n2 c2 : Nat} {A A2 : Option Addr} {w : World} {P Q : Int} {es fs : List De}

theorem cellB {W w : World} {p : Addr} {v : Value} (h : W.cell? p = some v) (hb : Below W.heap.size W w) : w.cell? p = some v := (hb.cell (World.block_lt_of_cell? _ _ h)).trans h
theorem mulN_okE {d d2 : Nf} {p q p' q' : Int} (h : d.In p q) (k : d2.In p' q') (hp : -262144 ≤ p + p') (hq : q + q' ≤ 262144) : okE (mulN d d2).exp = true := in_okE (mulN_ok _ _) (mulN_in h k) hp hq
set_option maxRecDepth 100000 in
set_option maxHeartbeats 8000000 in
theorem dotOne_any {g g2 k : Nat} (h : Dl w A n c es) (hk : k < n) (hg : Blk w g [.slice A n c]) (h2 : Dl w A2 n2 c2 fs) (hk2 : k < n2) (hg2 : Blk w g2 [.slice A2 n2 c2]) (hT : Tab w) (hop : ∀ e ∈ es, okE e.x = true) (hsp : ∀ e ∈ es, e.l.length ≤ 2048) (hoq : ∀ e ∈ fs, okE e.x = true) (hsq : ∀ e ∈ fs, e.l.length ≤ 2048) (hm : okE (mulN (at0 es k) (at0 fs k)).exp = true) :
    Calls Tryz.prog 30 #[.int .i64 k, .pointer (some ⟨g, 0, none⟩), .pointer (some ⟨g2, 0, none⟩)] w (DyK (mulN (at0 es k) (at0 fs k)) 0 w) := by
  have hn2 := h.2.1
  have hn3 := h2.2.1
  obtain ⟨ep, adp, eap, hep, rfl, hEp, hlp, hcp0, hcp1, hcp2, hvp, xp0, xp1⟩ := h.at_ hk
  have hAp := at0_is hep
  have hOp := hop ep (List.mem_of_getElem? hep)
  have hLp := hsp ep (List.mem_of_getElem? hep)
  rw [hAp] at hm ⊢
  clear hAp hep hop hsp
  obtain ⟨⟨bp, Ap, cp, Xp, lp⟩, he9⟩ : ∃ e9, ep = e9 := ⟨_, rfl⟩
  subst he9
  obtain ⟨eq, adq, eaq, heq, rfl, hEq, hlq, hcq0, hcq1, hcq2, hvq, xq0, xq1⟩ := h2.at_ hk2
  have hAq := at0_is heq
  have hOq := hoq eq (List.mem_of_getElem? heq)
  have hLq := hsq eq (List.mem_of_getElem? heq)
  rw [hAq] at hm ⊢
  clear hAq heq hoq hsq
  obtain ⟨⟨bq, Aq, cq, Xq, lq⟩, he9⟩ : ∃ e9, eq = e9 := ⟨_, rfl⟩
  subst he9
  clear h h2
  unfold De.N at hm ⊢
  dsimp only at *
  have GB_0 := Blk.cell hg 0 rfl
  have HB_0 := Blk.cell hg2 0 rfl
  have pm := fun W (mm : Lv W Ap lp.length cp lp) (mm2 : Lv W Aq lq.length cq lq) (tt : Tab W) => dMul_raw (b := bp) (b2 := bq) (x := Xp) (x2 := Xq) mm mm2 hLp hLq tt hOp hOq hm
  generalize mulN (nfl bp (val 18446744073709551616 lp) Xp) (nfl bq (val 18446744073709551616 lq) Xq) = R at pm ⊢
  clear hm
  have DB := Blk.new w [.bool false, .slice none 0 0, .int .i64 0] 40
  have bw : Below w.heap.size w (w.alloc (.cells #[.bool false, .slice none 0 0, .int .i64 0] 40)) := by go_grown
  obtain ⟨DB_0, DB_1, DB_2, DB_f0, DB_f1, DB_f2⟩ := Dbx.cells DB
  go_enter Tryz.func30, Tryz.ntmps30
  go_wp2_with fail
  refine wp_region_held_drew (S := fun w9 : World => Below w.heap.size w w9) (by kernel_rfl) bw.drew (fun hHeld => ?_)
  refine wpAnyH_take (i := 0) (v := ?v0) rfl (by kernel_rfl) (by kernel_rfl) (by kernel_rfl) (fun _ _ _ h => h) (Or.inl ⟨by rfl, ?hy0⟩) (by assumption) ?rest0
  case hy0 => (intro w9 hSw; have c0 := cellB GB_0 hSw; clear hSw; go_simp; try with_reducible rfl)
  simp only [Act.put, List.setIfInBounds_toArray, List.set_cons_zero, List.set_cons_succ, List.getElem_toArray, List.getElem_cons_zero, List.getElem_cons_succ]
  refine wpAnyH_take (i := 1) (v := ?v1) rfl (by kernel_rfl) (by kernel_rfl) (by kernel_rfl) (fun _ _ _ h => h) (Or.inl ⟨by rfl, ?hy1⟩) (by assumption) ?rest1
  case hy1 => (intro w9 hSw;  clear hSw; go_simp; try with_reducible rfl)
  simp only [Act.put, List.setIfInBounds_toArray, List.set_cons_zero, List.set_cons_succ, List.getElem_toArray, List.getElem_cons_zero, List.getElem_cons_succ]
  refine wpAnyH_take (i := 2) (v := ?v2) rfl (by kernel_rfl) (by kernel_rfl) (by kernel_rfl) (fun _ _ _ h => h) (Or.inl ⟨by rfl, ?hy2⟩) (by assumption) ?rest2
  case hy2 => (intro w9 hSw;  clear hSw; go_simp; try with_reducible rfl)
  simp only [Act.put, List.setIfInBounds_toArray, List.set_cons_zero, List.set_cons_succ, List.getElem_toArray, List.getElem_cons_zero, List.getElem_cons_succ]
  refine wpAnyH_take (i := 3) (v := ?v3) rfl (by kernel_rfl) (by kernel_rfl) (by kernel_rfl) (fun _ _ _ h => h) (Or.inl ⟨by rfl, ?hy3⟩) (by assumption) ?rest3
  case hy3 => (intro w9 hSw; have c0 := cellB hcp0 hSw; have c1 := cellB hcp1 hSw; have c2 := cellB hcp2 hSw; clear hSw; go_simp; try with_reducible rfl)
  simp only [Act.put, List.setIfInBounds_toArray, List.set_cons_zero, List.set_cons_succ, List.getElem_toArray, List.getElem_cons_zero, List.getElem_cons_succ]
  refine wpAnyH_take (i := 4) (v := ?v4) rfl (by kernel_rfl) (by kernel_rfl) (by kernel_rfl) (fun _ _ _ h => h) (Or.inl ⟨by rfl, ?hy4⟩) (by assumption) ?rest4
  case hy4 => (intro w9 hSw; have c0 := cellB HB_0 hSw; clear hSw; go_simp; try with_reducible rfl)
  simp only [Act.put, List.setIfInBounds_toArray, List.set_cons_zero, List.set_cons_succ, List.getElem_toArray, List.getElem_cons_zero, List.getElem_cons_succ]
  refine wpAnyH_take (i := 5) (v := ?v5) rfl (by kernel_rfl) (by kernel_rfl) (by kernel_rfl) (fun _ _ _ h => h) (Or.inl ⟨by rfl, ?hy5⟩) (by assumption) ?rest5
  case hy5 => (intro w9 hSw;  clear hSw; go_simp; try with_reducible rfl)
  simp only [Act.put, List.setIfInBounds_toArray, List.set_cons_zero, List.set_cons_succ, List.getElem_toArray, List.getElem_cons_zero, List.getElem_cons_succ]
  refine wpAnyH_take (i := 6) (v := ?v6) rfl (by kernel_rfl) (by kernel_rfl) (by kernel_rfl) (fun _ _ _ h => h) (Or.inl ⟨by rfl, ?hy6⟩) (by assumption) ?rest6
  case hy6 => (intro w9 hSw;  clear hSw; go_simp; try with_reducible rfl)
  simp only [Act.put, List.setIfInBounds_toArray, List.set_cons_zero, List.set_cons_succ, List.getElem_toArray, List.getElem_cons_zero, List.getElem_cons_succ]
  refine wpAnyH_take (i := 7) (v := ?v7) rfl (by kernel_rfl) (by kernel_rfl) (by kernel_rfl) (fun _ _ _ h => h) (Or.inl ⟨by rfl, ?hy7⟩) (by assumption) ?rest7
  case hy7 => (intro w9 hSw; have c0 := cellB hcq0 hSw; have c1 := cellB hcq1 hSw; have c2 := cellB hcq2 hSw; clear hSw; go_simp; try with_reducible rfl)
  simp only [Act.put, List.setIfInBounds_toArray, List.set_cons_zero, List.set_cons_succ, List.getElem_toArray, List.getElem_cons_zero, List.getElem_cons_succ]
  clear DB_0 DB_1 DB_2 DB_f0 DB_f1 DB_f2
  refine wpAnyH_ready (rs := [8]) (by kernel_rfl) (by simp) ?_
  refine AllReadyH.cons rfl (fun K hK => ?_) AllReadyH.nil
  go_simp
  with_reducible refine (pm _ (hvp.on hHeld) (hvq.on hHeld) (hT.onD hHeld)).mono ?_
  rintro e w5 ⟨b5, q5, A5, c5, x5, rfl, hd5, m5, hb5⟩
  have hs5 := hb5.size
  replace bw : Below w.heap.size w w5 := dy_end hHeld hb5
  replace DB := (Blk.drew DB).on hb5
  refine hK.out _ _ (dy_end hHeld hb5) (fun hHeld => ?_)
  clear hK K
  try simp only [Act.put, List.setIfInBounds_toArray, List.set_cons_zero, List.set_cons_succ, List.getElem_toArray, List.getElem_cons_zero, List.getElem_cons_succ]
  clear hb5
  obtain ⟨DB_0, DB_1, DB_2, DB_f0, DB_f1, DB_f2⟩ := Dbx.cells DB
  refine wpAnyH_take (i := 9) (v := ?v9) rfl (by kernel_rfl) (by kernel_rfl) (by kernel_rfl) (fun _ _ _ h => h) (Or.inl ⟨by rfl, ?hy9⟩) (by assumption) ?rest9
  case hy9 => (intro w9 hSw;  clear hSw; go_simp; try with_reducible rfl)
  simp only [Act.put, List.setIfInBounds_toArray, List.set_cons_zero, List.set_cons_succ, List.getElem_toArray, List.getElem_cons_zero, List.getElem_cons_succ]
  refine wpAnyH_take (i := 10) (v := ?v10) rfl (by kernel_rfl) (by kernel_rfl) (by kernel_rfl) (fun _ _ _ h => h) (Or.inl ⟨by rfl, ?hy10⟩) (by assumption) ?rest10
  case hy10 => (intro w9 hSw;  clear hSw; go_simp; try with_reducible rfl)
  simp only [Act.put, List.setIfInBounds_toArray, List.set_cons_zero, List.set_cons_succ, List.getElem_toArray, List.getElem_cons_zero, List.getElem_cons_succ]
  refine wpAnyH_ready (rs := [11]) (by kernel_rfl) (by simp) ?_
  refine AllReadyH.cons rfl (fun K hK => ?_) AllReadyH.nil
  go_simp
  refine hK.out _ _ (by go_grown) (fun hHeld => ?_)
  clear hK K
  try simp only [Act.put, List.setIfInBounds_toArray, List.set_cons_zero, List.set_cons_succ, List.getElem_toArray, List.getElem_cons_zero, List.getElem_cons_succ]
  refine wpAnyH_take (i := 12) (v := ?v12) rfl (by kernel_rfl) (by kernel_rfl) (by kernel_rfl) (fun _ _ _ h => h) (Or.inl ⟨by rfl, ?hy12⟩) (by assumption) ?rest12
  case hy12 => (intro w9 hSw;  clear hSw; go_simp; try with_reducible rfl)
  simp only [Act.put, List.setIfInBounds_toArray, List.set_cons_zero, List.set_cons_succ, List.getElem_toArray, List.getElem_cons_zero, List.getElem_cons_succ]
  refine wpAnyH_done (by kernel_rfl) ?_ _
  replace m5 := m5.put DB b5 A5 q5.length c5 x5
  clear DB_0 DB_1 DB_2 DB_f0 DB_f1 DB_f2
  replace DB := Dbx.put DB b5 A5 q5.length c5 x5
  obtain ⟨DB_0, DB_1, DB_2, DB_f0, DB_f1, DB_f2⟩ := Dbx.cells DB
  go_wp2_with fail
  refine bodyPost_ret (v := .tuple #[dyV b5 A5 q5.length c5 x5, .int .i64 0]) (by simp [results, Tryz.results30, go_sem, DB_0, DB_1, DB_2, DB_f0, DB_f1, DB_f2]) rfl ?_
  exact ⟨b5, q5, A5, c5, x5, rfl, hd5, m5, hHeld⟩

set_option maxRecDepth 100000 in
set_option maxHeartbeats 8000000 in
theorem dDot_ne (hne : n ≠ n2) :
    Calls Tryz.prog 10 #[.slice A n c, .slice A2 n2 c2] w (DyK zeroN 2 w) := by
  have k9 : ((n : Int) == (n2 : Int)) = false := by simp; omega
  have k8 : ((n : Int) != (n2 : Int)) = true := by simp; omega
  clear hne
  have GB := Blk.new w [.slice A n c] 35
  have HB := Blk.new (w.alloc (.cells #[.slice A n c] 35)) [.slice A2 n2 c2] 35
  simp only [World.size_alloc] at HB
  replace GB := Blk.alloc GB (.cells #[.slice A2 n2 c2] 35)
  have DB := Blk.new ((w.alloc (.cells #[.slice A n c] 35)).alloc (.cells #[.slice A2 n2 c2] 35)) [.bool false, .slice none 0 0, .int .i64 0] 40
  simp only [World.size_alloc] at DB
  replace GB := Blk.alloc GB (.cells #[.bool false, .slice none 0 0, .int .i64 0] 40)
  replace HB := Blk.alloc HB (.cells #[.bool false, .slice none 0 0, .int .i64 0] 40)
  have bw : Below w.heap.size w (((w.alloc (.cells #[.slice A n c] 35)).alloc (.cells #[.slice A2 n2 c2] 35)).alloc (.cells #[.bool false, .slice none 0 0, .int .i64 0] 40)) := by go_grown
  have GB_0 := Blk.cell GB 0 rfl
  have GB_f0 := Blk.free GB 0
  have HB_0 := Blk.cell HB 0 rfl
  have HB_f0 := Blk.free HB 0
  obtain ⟨DB_0, DB_1, DB_2, DB_f0, DB_f1, DB_f2⟩ := Dbx.cells DB
  go_enter Tryz.func10, Tryz.ntmps10
  go_wp2_with fail
  refine bodyPost_ret (v := .tuple #[dyV false none 0 0 0, .int .i64 2]) (by simp [results, Tryz.results10, go_sem, DB_0, DB_1, DB_2, DB_f0, DB_f1, DB_f2]) rfl ?_
  exact ⟨false, [], none, 0, 0, rfl, Dn.zero, lv_nil _, by go_grown⟩

set_option maxRecDepth 100000 in
set_option maxHeartbeats 8000000 in
theorem dDot_in (h : Dl w A n c es) (h2 : Dl w A2 n c2 fs) (hT : Tab w) (ho : ∀ e ∈ es, okE e.x = true) (hs : ∀ e ∈ es, e.l.length ≤ 2048) (ho2 : ∀ e ∈ fs, okE e.x = true) (hs2 : ∀ e ∈ fs, e.l.length ≤ 2048) (HM : Hid (∀ k, k < n → okE (mulN (at0 es k) (at0 fs k)).exp = true)) (HI : Hid (∀ k, k ≤ n → (sumTo (fun i => mulN (at0 es i) (at0 fs i)) k).In P Q)) (HF : Hid (∀ k, k < n → (mulN (at0 es k) (at0 fs k)).In P Q)) (hPQ : P ≤ Q) (hw : Q - P ≤ 262143) (hp : -262144 ≤ P) (hq : Q + 1 ≤ 262144) :
    Calls Tryz.prog 10 #[.slice A n c, .slice A2 n c2] w (DyK (sumTo (fun i => mulN (at0 es i) (at0 fs i)) n) 0 w) := by
  have hn2 := h.2.1
  have GB := Blk.new w [.slice A n c] 35
  have HB := Blk.new (w.alloc (.cells #[.slice A n c] 35)) [.slice A2 n c2] 35
  simp only [World.size_alloc] at HB
  replace GB := Blk.alloc GB (.cells #[.slice A2 n c2] 35)
  have DB := Blk.new ((w.alloc (.cells #[.slice A n c] 35)).alloc (.cells #[.slice A2 n c2] 35)) [.bool false, .slice none 0 0, .int .i64 0] 40
  simp only [World.size_alloc] at DB
  replace GB := Blk.alloc GB (.cells #[.bool false, .slice none 0 0, .int .i64 0] 40)
  replace HB := Blk.alloc HB (.cells #[.bool false, .slice none 0 0, .int .i64 0] 40)
  have bw : Below w.heap.size w (((w.alloc (.cells #[.slice A n c] 35)).alloc (.cells #[.slice A2 n c2] 35)).alloc (.cells #[.bool false, .slice none 0 0, .int .i64 0] 40)) := by go_grown
  have GB_0 := Blk.cell GB 0 rfl
  have GB_f0 := Blk.free GB 0
  have HB_0 := Blk.cell HB 0 rfl
  have HB_f0 := Blk.free HB 0
  obtain ⟨DB_0, DB_1, DB_2, DB_f0, DB_f1, DB_f2⟩ := Dbx.cells DB
  have ps := fun W (bb : Below w.heap.size w W) (GB9 : Blk W w.heap.size [.slice A n c]) (HB9 : Blk W (w.heap.size + 1) [.slice A2 n c2]) => summedD w.heap.size (w.heap.size + 1) (fun i => mulN (at0 es i) (at0 fs i)) n (w := W) hn2 (hT.onD bb) (Lib.hid fun W2 hb2 k hk => dotOne_any ((h.on bb).on hb2) hk (GB9.on hb2) ((h2.on bb).on hb2) hk (HB9.on hb2) ((hT.onD bb).onD hb2) ho hs ho2 hs2 (HM.out k hk)) HI HF hPQ hw hp hq
  clear h h2
  obtain ⟨F, hF⟩ : ∃ F, sumTo (fun i => mulN (at0 es i) (at0 fs i)) n = F := ⟨_, rfl⟩
  rw [hF] at ps ⊢
  clear hF HI HF HM
  go_enter Tryz.func10, Tryz.ntmps10
  go_wp2_with fail
  with_reducible refine (ps _ (by go_grown) GB HB).mono ?_
  rintro e w1 ⟨b2, q2, A3, c3, x2, rfl, hd2, m2, hb⟩
  clear GB_0 GB_f0
  clear HB_0 HB_f0
  clear DB_0 DB_1 DB_2 DB_f0 DB_f1 DB_f2
  have hs1 := hb.size
  try simp only [World.size_alloc, World.size_setCell] at hs1
  replace bw : Below w.heap.size w w1 := dy_end (by go_grown) hb
  replace GB := Blk.on GB hb
  replace HB := Blk.on HB hb
  replace DB := Blk.on DB hb
  clear hb
  have GB_0 := Blk.cell GB 0 rfl
  have GB_f0 := Blk.free GB 0
  have HB_0 := Blk.cell HB 0 rfl
  have HB_f0 := Blk.free HB 0
  obtain ⟨DB_0, DB_1, DB_2, DB_f0, DB_f1, DB_f2⟩ := Dbx.cells DB
  go_wp2_with fail
  refine bodyPost_ret (v := .tuple #[dyV b2 A3 q2.length c3 x2, .int .i64 0]) (by simp [results, Tryz.results10, go_sem, DB_0, DB_1, DB_2, DB_f0, DB_f1, DB_f2]) rfl ?_
  exact ⟨b2, q2, A3, c3, x2, rfl, hd2, m2.put DB _ _ _ _ _, by go_grown⟩

end
end Go.Proofs.YtcdbjlmegkcaiaaGreatDoor
