/-
  Layer 3, the laws: sums of lists, and of products, by the reference. (Written by a script of wip/tools.)
-/
import Derived.Test.YtknomchkfamajaaGreatDoorDyNG
import Derived.Test.YtknomchkfamajaaGreatDoorDyMD
import Derived.IntWalk
namespace Go.Proofs.YtknomchkfamajaaGreatDoor
open Go.RowKit Go.Sort Go.Bw
set_option linter.unusedVariables false
set_option linter.unusedSimpArgs false

section
variable {b : Bool} {A : Option Addr} {n c : Nat} {x : Int} {l : List Int} {w : World}
variable {b2 : Bool} {A2 : Option Addr} {n2 c2 : Nat} {x2 : Int} {l2 : List Int} {P Q : Int} {es fs : List De}

theorem rAdd_in (h : Lv w A l.length c l) (h2 : Lv w A2 l2.length c2 l2) (hn : l.length ≤ 4096) (hn2 : l2.length ≤ 4096) (ho : okE x = true) (ho2 : okE x2 = true) (i1 : (nfl b (val 18446744073709551616 l) x).In P Q) (i2 : (nfl b2 (val 18446744073709551616 l2) x2).In P Q) (hPQ : P ≤ Q) (hw : Q - P ≤ 262143) (hp : -262144 ≤ P) (hq : Q + 1 ≤ 262144) :
    Calls Tryz.prog 39 #[dyV b A l.length c x, dyV b2 A2 l2.length c2 x2] w (DyK (sumN (nfl b (val 18446744073709551616 l) x) (nfl b2 (val 18446744073709551616 l2) x2)) 0 w) := by
  have := rAdd_any (b := b) (b2 := b2) (x := x) (x2 := x2) h hn h2 hn2 (fun _ => .inr ⟨P, Q, i1, i2, hPQ, hw⟩)
  have e : addQ x x2 (nfl b (val 18446744073709551616 l) x) (nfl b2 (val 18446744073709551616 l2) x2) = (sumN (nfl b (val 18446744073709551616 l) x) (nfl b2 (val 18446744073709551616 l2) x2), 0) := by
    unfold addQ may2
    rw [ho, ho2, if_pos (show (true && true) = true from rfl), addR_near i1 i2 (by omega), doneR_near (sumN_ok _ _) (sumN_in (nfl_ok _ _ _) (nfl_ok _ _ _) i1 i2 hPQ) hp hq]
  rw [e] at this
  exact this
theorem rMul_raw (h : Lv w A l.length c l) (h2 : Lv w A2 l2.length c2 l2) (hn : l.length ≤ 2048) (hn2 : l2.length ≤ 2048) (ho : okE x = true) (ho2 : okE x2 = true) (hm : okE (mulN (nfl b (val 18446744073709551616 l) x) (nfl b2 (val 18446744073709551616 l2) x2)).exp = true) :
    Calls Tryz.prog 43 #[dyV b A l.length c x, dyV b2 A2 l2.length c2 x2] w (DyK (mulN (nfl b (val 18446744073709551616 l) x) (nfl b2 (val 18446744073709551616 l2) x2)) 0 w) := by
  have := rMul_any (b := b) (b2 := b2) (x := x) (x2 := x2) h (by omega) h2 (by omega) (fun _ => mul_bound (lim_val h.lim) (lim_val h2.lim) (lv_short h hn) (lv_short h2 hn2))
  have e : mulQ x x2 (nfl b (val 18446744073709551616 l) x) (nfl b2 (val 18446744073709551616 l2) x2) = (mulN (nfl b (val 18446744073709551616 l) x) (nfl b2 (val 18446744073709551616 l2) x2), 0) := by
    unfold mulQ may2 mulR
    rw [ho, ho2, if_pos (show (true && true) = true from rfl), doneR_yes hm]
  rw [e] at this
  exact this
/-- a sum so far, in the box behind the answer's -/
def SumT (w : World) (f : Nat → Nf) (n : Nat) (wr : World) (k : Nat) : Prop :=
  k ≤ n ∧ ∃ b A c x l, Dn b l x (sumTo f k) ∧ Lv wr A l.length c l ∧ Dbx wr w.heap.size false none 0 0 0 ∧ Dbx wr (w.heap.size + 1) b A l.length c x ∧ Below w.heap.size w wr
set_option maxRecDepth 100000 in
set_option maxHeartbeats 8000000 in
theorem rSum_in (h : Dl w A n c es) (ho : ∀ e ∈ es, okE e.x = true) (hs : ∀ e ∈ es, e.l.length ≤ 4096) (HI : Hid (∀ k, k ≤ n → (sumTo (at0 es) k).In P Q)) (HF : Hid (∀ k, k < n → (at0 es k).In P Q)) (hPQ : P ≤ Q) (hw : Q - P ≤ 262143) (hp : -262144 ≤ P) (hq : Q + 1 ≤ 262144) :
    Calls Tryz.prog 48 #[.slice A n c] w (DyK (sumTo (at0 es) n) 0 w) := by
  have hn2 := h.2.1
  have HH := Lib.hid h
  clear h
  have HO := Lib.hid ho
  have HS := Lib.hid hs
  clear ho hs
  have DB := Blk.new w [.bool false, .slice none 0 0, .int .i64 0] 24
  have SB := Blk.new (w.alloc (.cells #[.bool false, .slice none 0 0, .int .i64 0] 24)) [.bool false, .slice none 0 0, .int .i64 0] 24
  simp only [World.size_alloc] at SB
  replace DB := Blk.alloc DB (.cells #[.bool false, .slice none 0 0, .int .i64 0] 24)
  have bw : Below w.heap.size w ((w.alloc (.cells #[.bool false, .slice none 0 0, .int .i64 0] 24)).alloc (.cells #[.bool false, .slice none 0 0, .int .i64 0] 24)) := by go_grown
  obtain ⟨DB_0, DB_1, DB_2, DB_f0, DB_f1, DB_f2⟩ := Dbx.cells DB
  obtain ⟨SB_0, SB_1, SB_2, SB_f0, SB_f1, SB_f2⟩ := Dbx.cells SB
  go_enter Tryz.func48, Tryz.ntmps48
  go_wp2_with fail
  go_loopw [5] (fun i wr => ∃ k : Nat, i = .int .i64 k ∧ SumT w (at0 es) n wr k) (fun i _ => n - (intOf i).toNat)
  case atStart => exact ⟨0, rfl, Nat.zero_le _, false, none, 0, 0, [], Dn.zero, lv_nil _, DB, SB, bw⟩
  case round =>
    clear DB_0 DB_1 DB_2 DB_f0 DB_f1 DB_f2
    clear SB_0 SB_1 SB_2 SB_f0 SB_f1 SB_f2
    clear DB SB bw
    obtain ⟨k, rfl, hk, b1, A1, c1, x1, q1, hd1, m1, DB, SB, bw⟩ := hrel
    have hsz := bw.size
    have hsl := Blk.lt SB
    obtain ⟨DB_0, DB_1, DB_2, DB_f0, DB_f1, DB_f2⟩ := Dbx.cells DB
    obtain ⟨SB_0, SB_1, SB_2, SB_f0, SB_f1, SB_f2⟩ := Dbx.cells SB
    by_cases hlt : k < n
    · obtain ⟨e, ad, ea, he, rfl, hE, hl, hc0, hc1, hc2, hv, xe0, xe1⟩ := (HH.out.on bw).at_ hlt
      have hA := at0_is he
      have hO := HO.out e (List.mem_of_getElem? he)
      have hL := HS.out e (List.mem_of_getElem? he)
      have i1 := HI.out k (by omega)
      have i2 := HF.out k hlt
      have hN : sumTo (at0 es) (k + 1) = sumN (sumTo (at0 es) k) e.N := by rw [← hA]; rfl
      rw [hA] at i2
      have HN := Lib.hid hN
      clear hA he hN
      obtain ⟨⟨be, Ae, ce, xe, le⟩, he9⟩ : ∃ e9, e = e9 := ⟨_, rfl⟩
      subst he9
      unfold De.N at i2 HN
      dsimp only at *
      have h1 := hd1.is m1.lim
      have o1 := in_okE hd1.2.2.2 i1 hp (by omega)
      rw [hd1.exp] at o1
      have n1 := hd1.len
      have pa := fun W (bb : Below wr.heap.size wr W) => rAdd_in (b := b1) (b2 := be) (x := x1) (x2 := xe) (P := P) (Q := Q) (m1.on bb) (hv.on bb) n1 hL o1 hO (by rw [h1]; exact i1) i2 (by omega) (by omega) (by omega) (by omega)
      rw [h1, ← HN.out] at pa
      clear h1 i1 i2
      go_wp2_with fail
      have hHeld0 := Below.refl wr.heap.size wr
      refine wp_region_held_drew (S := fun w9 : World => Below wr.heap.size wr w9) (by kernel_rfl) ((Below.refl _ _).drew) (fun hHeld => ?_)
      refine wpAnyH_take (i := 0) (v := ?v0_1) rfl (by kernel_rfl) (by kernel_rfl) (by kernel_rfl) (fun _ _ _ h => h) (Or.inl ⟨by rfl, ?hy0_1⟩) (by assumption) ?rest0_1
      case hy0_1 => (intro w9 hSw; have c0 := cellB SB_0 hSw; have c1 := cellB SB_1 hSw; have c2 := cellB SB_2 hSw; clear hSw; go_simp; try with_reducible rfl)
      simp only [Act.put, List.setIfInBounds_toArray, List.set_cons_zero, List.set_cons_succ, List.getElem_toArray, List.getElem_cons_zero, List.getElem_cons_succ]
      refine wpAnyH_take (i := 1) (v := ?v1_2) rfl (by kernel_rfl) (by kernel_rfl) (by kernel_rfl) (fun _ _ _ h => h) (Or.inl ⟨by rfl, ?hy1_2⟩) (by assumption) ?rest1_2
      case hy1_2 => (intro w9 hSw;  clear hSw; go_simp; try with_reducible rfl)
      simp only [Act.put, List.setIfInBounds_toArray, List.set_cons_zero, List.set_cons_succ, List.getElem_toArray, List.getElem_cons_zero, List.getElem_cons_succ]
      refine wpAnyH_take (i := 2) (v := ?v2_3) rfl (by kernel_rfl) (by kernel_rfl) (by kernel_rfl) (fun _ _ _ h => h) (Or.inl ⟨by rfl, ?hy2_3⟩) (by assumption) ?rest2_3
      case hy2_3 => (intro w9 hSw;  clear hSw; go_simp; try with_reducible rfl)
      simp only [Act.put, List.setIfInBounds_toArray, List.set_cons_zero, List.set_cons_succ, List.getElem_toArray, List.getElem_cons_zero, List.getElem_cons_succ]
      refine wpAnyH_take (i := 3) (v := ?v3_4) rfl (by kernel_rfl) (by kernel_rfl) (by kernel_rfl) (fun _ _ _ h => h) (Or.inl ⟨by rfl, ?hy3_4⟩) (by assumption) ?rest3_4
      case hy3_4 => (intro w9 hSw;  clear hSw; go_simp; try with_reducible rfl)
      simp only [Act.put, List.setIfInBounds_toArray, List.set_cons_zero, List.set_cons_succ, List.getElem_toArray, List.getElem_cons_zero, List.getElem_cons_succ]
      refine wpAnyH_take (i := 4) (v := ?v4_5) rfl (by kernel_rfl) (by kernel_rfl) (by kernel_rfl) (fun _ _ _ h => h) (Or.inl ⟨by rfl, ?hy4_5⟩) (by assumption) ?rest4_5
      case hy4_5 => (intro w9 hSw; have c0 := cellB hc0 hSw; have c1 := cellB hc1 hSw; have c2 := cellB hc2 hSw; clear hSw; go_simp; try with_reducible rfl)
      simp only [Act.put, List.setIfInBounds_toArray, List.set_cons_zero, List.set_cons_succ, List.getElem_toArray, List.getElem_cons_zero, List.getElem_cons_succ]
      clear DB_0 DB_1 DB_2 DB_f0 DB_f1 DB_f2
      clear SB_0 SB_1 SB_2 SB_f0 SB_f1 SB_f2
      refine wpAnyH_ready (rs := [5, 9]) (by kernel_rfl) (by simp) ?_
      refine (AllReadyH.cons rfl (fun K hK => ?_) (AllReadyH.cons rfl (fun K hK => ?_) AllReadyH.nil))
      · go_simp
        with_reducible refine (pa _ hHeld).mono ?_
        rintro e w5 ⟨b5, q5, A5, c5, x5, rfl, hd5, m5, hb5⟩
        have hs5 := hb5.size
        simp only [World.size_drew] at hs5
        have hr5 : Below wr.heap.size wr w5 := dy_end hHeld hb5
        replace bw : Below w.heap.size w w5 := dy_end (dy_end bw (Below.refl _ _).drew) hb5
        replace DB := (Blk.drew DB).on hb5
        replace SB := (Blk.drew SB).on hb5
        refine hK.out _ _ (dy_end hHeld hb5) (fun hHeld => ?_)
        clear hK K
        try simp only [Act.put, List.setIfInBounds_toArray, List.set_cons_zero, List.set_cons_succ, List.getElem_toArray, List.getElem_cons_zero, List.getElem_cons_succ]
        clear hb5
        refine wpAnyH_take (i := 6) (v := ?v6_6) rfl (by kernel_rfl) (by kernel_rfl) (by kernel_rfl) (fun _ _ _ h => h) (Or.inl ⟨by rfl, ?hy6_6⟩) (by assumption) ?rest6_6
        case hy6_6 => (intro w9 hSw;  clear hSw; go_simp; try with_reducible rfl)
        simp only [Act.put, List.setIfInBounds_toArray, List.set_cons_zero, List.set_cons_succ, List.getElem_toArray, List.getElem_cons_zero, List.getElem_cons_succ]
        refine wpAnyH_take (i := 7) (v := ?v7_7) rfl (by kernel_rfl) (by kernel_rfl) (by kernel_rfl) (fun _ _ _ h => h) (Or.inl ⟨by rfl, ?hy7_7⟩) (by assumption) ?rest7_7
        case hy7_7 => (intro w9 hSw;  clear hSw; go_simp; try with_reducible rfl)
        simp only [Act.put, List.setIfInBounds_toArray, List.set_cons_zero, List.set_cons_succ, List.getElem_toArray, List.getElem_cons_zero, List.getElem_cons_succ]
        refine wpAnyH_take (i := 8) (v := ?v8_8) rfl (by kernel_rfl) (by kernel_rfl) (by kernel_rfl) (fun _ _ _ h => h) (Or.inl ⟨by rfl, ?hy8_8⟩) (by assumption) ?rest8_8
        case hy8_8 => (intro w9 hSw;  clear hSw; go_simp; try with_reducible rfl)
        simp only [Act.put, List.setIfInBounds_toArray, List.set_cons_zero, List.set_cons_succ, List.getElem_toArray, List.getElem_cons_zero, List.getElem_cons_succ]
        refine wpAnyH_ready (rs := [9]) (by kernel_rfl) (by simp) ?_
        refine AllReadyH.cons rfl (fun K hK => ?_) AllReadyH.nil
        go_simp
        refine hK.out _ _ (by go_grown) (fun hHeld => ?_)
        clear hK K
        try simp only [Act.put, List.setIfInBounds_toArray, List.set_cons_zero, List.set_cons_succ, List.getElem_toArray, List.getElem_cons_zero, List.getElem_cons_succ]
        have TB := Blk.new w5 [.bool false, .slice none 0 0, .int .i64 0] 24
        obtain ⟨TB_0, TB_1, TB_2, TB_f0, TB_f1, TB_f2⟩ := Dbx.cells TB
        refine wpAnyH_ready (rs := [10]) (by kernel_rfl) (by simp) ?_
        refine AllReadyH.cons rfl (fun K hK => ?_) AllReadyH.nil
        go_simp
        refine hK.out _ _ (by go_grown) (fun hHeld => ?_)
        clear hK K
        try simp only [Act.put, List.setIfInBounds_toArray, List.set_cons_zero, List.set_cons_succ, List.getElem_toArray, List.getElem_cons_zero, List.getElem_cons_succ]
        refine wpAnyH_take (i := 11) (v := ?v11_9) rfl (by kernel_rfl) (by kernel_rfl) (by kernel_rfl) (fun _ _ _ h => h) (Or.inl ⟨by rfl, ?hy11_9⟩) (by assumption) ?rest11_9
        case hy11_9 => (intro w9 hSw;  clear hSw; go_simp; try with_reducible rfl)
        simp only [Act.put, List.setIfInBounds_toArray, List.set_cons_zero, List.set_cons_succ, List.getElem_toArray, List.getElem_cons_zero, List.getElem_cons_succ]
        refine wpAnyH_done (by kernel_rfl) ?_ _
        replace m5 := Lv.alloc m5 (.cells #[.bool b5, .slice A5 q5.length c5, .int .i64 x5] 24)
        replace DB := Blk.alloc DB (.cells #[.bool b5, .slice A5 q5.length c5, .int .i64 x5] 24)
        replace SB := Blk.alloc SB (.cells #[.bool b5, .slice A5 q5.length c5, .int .i64 x5] 24)
        clear TB_0 TB_1 TB_2 TB_f0 TB_f1 TB_f2
        replace TB := Blk.new w5 [.bool b5, .slice A5 q5.length c5, .int .i64 x5] 24
        clear hHeld hHeld0
        obtain ⟨DB_0, DB_1, DB_2, DB_f0, DB_f1, DB_f2⟩ := Dbx.cells DB
        obtain ⟨SB_0, SB_1, SB_2, SB_f0, SB_f1, SB_f2⟩ := Dbx.cells SB
        obtain ⟨TB_0, TB_1, TB_2, TB_f0, TB_f1, TB_f2⟩ := Dbx.cells TB
        go_wp2_with fail
        replace m5 := Lv.put m5 SB (b5) (A5) (q5.length) (c5) (x5)
        replace DB := Blk.putO DB (g := (w.heap.size + 1)) (by omega) (.bool (b5)) (.slice (A5) (q5.length) (c5)) (.int .i64 (x5))
        replace TB := Blk.putO TB (g := (w.heap.size + 1)) (by omega) (.bool (b5)) (.slice (A5) (q5.length) (c5)) (.int .i64 (x5))
        replace SB := Dbx.put SB (b5) (A5) (q5.length) (c5) (x5)
        go_roundw
        case rel => exact ⟨k + 1, by go_num, by omega, b5, A5, c5, x5, q5, hd5, m5, DB, SB, by go_grown⟩
        case measure => simp [intOf]; omega
      · go_simp
        refine hK.out _ _ (by go_grown) (fun hHeld => ?_)
        clear hK K
        try simp only [Act.put, List.setIfInBounds_toArray, List.set_cons_zero, List.set_cons_succ, List.getElem_toArray, List.getElem_cons_zero, List.getElem_cons_succ]
        replace DB := Blk.alloc (Blk.drew DB) (.cells #[.bool false, .slice none 0 0, .int .i64 0] 24)
        replace SB := Blk.alloc (Blk.drew SB) (.cells #[.bool false, .slice none 0 0, .int .i64 0] 24)
        have TB := Blk.new wr.drew [.bool false, .slice none 0 0, .int .i64 0] 24
        simp only [World.size_drew] at TB
        refine wpAnyH_ready (rs := [5]) (by kernel_rfl) (by simp) ?_
        refine AllReadyH.cons rfl (fun K hK => ?_) AllReadyH.nil
        go_simp
        with_reducible refine (pa _ hHeld).mono ?_
        rintro e w5 ⟨b5, q5, A5, c5, x5, rfl, hd5, m5, hb5⟩
        have hs5 := hb5.size
        simp only [World.size_alloc, World.size_drew] at hs5
        have hr5 : Below wr.heap.size wr w5 := dy_end hHeld hb5
        replace bw : Below w.heap.size w w5 := dy_end (dy_end bw (by go_grown)) hb5
        replace DB := Blk.on DB hb5
        replace SB := Blk.on SB hb5
        replace TB := Blk.on TB hb5
        refine hK.out _ _ (dy_end hHeld hb5) (fun hHeld => ?_)
        clear hK K
        try simp only [Act.put, List.setIfInBounds_toArray, List.set_cons_zero, List.set_cons_succ, List.getElem_toArray, List.getElem_cons_zero, List.getElem_cons_succ]
        clear hb5
        refine wpAnyH_take (i := 6) (v := ?v6_10) rfl (by kernel_rfl) (by kernel_rfl) (by kernel_rfl) (fun _ _ _ h => h) (Or.inl ⟨by rfl, ?hy6_10⟩) (by assumption) ?rest6_10
        case hy6_10 => (intro w9 hSw;  clear hSw; go_simp; try with_reducible rfl)
        simp only [Act.put, List.setIfInBounds_toArray, List.set_cons_zero, List.set_cons_succ, List.getElem_toArray, List.getElem_cons_zero, List.getElem_cons_succ]
        refine wpAnyH_take (i := 7) (v := ?v7_11) rfl (by kernel_rfl) (by kernel_rfl) (by kernel_rfl) (fun _ _ _ h => h) (Or.inl ⟨by rfl, ?hy7_11⟩) (by assumption) ?rest7_11
        case hy7_11 => (intro w9 hSw;  clear hSw; go_simp; try with_reducible rfl)
        simp only [Act.put, List.setIfInBounds_toArray, List.set_cons_zero, List.set_cons_succ, List.getElem_toArray, List.getElem_cons_zero, List.getElem_cons_succ]
        refine wpAnyH_take (i := 8) (v := ?v8_12) rfl (by kernel_rfl) (by kernel_rfl) (by kernel_rfl) (fun _ _ _ h => h) (Or.inl ⟨by rfl, ?hy8_12⟩) (by assumption) ?rest8_12
        case hy8_12 => (intro w9 hSw;  clear hSw; go_simp; try with_reducible rfl)
        simp only [Act.put, List.setIfInBounds_toArray, List.set_cons_zero, List.set_cons_succ, List.getElem_toArray, List.getElem_cons_zero, List.getElem_cons_succ]
        obtain ⟨TB_0, TB_1, TB_2, TB_f0, TB_f1, TB_f2⟩ := Dbx.cells TB
        refine wpAnyH_ready (rs := [10]) (by kernel_rfl) (by simp) ?_
        refine AllReadyH.cons rfl (fun K hK => ?_) AllReadyH.nil
        go_simp
        refine hK.out _ _ (by go_grown) (fun hHeld => ?_)
        clear hK K
        try simp only [Act.put, List.setIfInBounds_toArray, List.set_cons_zero, List.set_cons_succ, List.getElem_toArray, List.getElem_cons_zero, List.getElem_cons_succ]
        refine wpAnyH_take (i := 11) (v := ?v11_13) rfl (by kernel_rfl) (by kernel_rfl) (by kernel_rfl) (fun _ _ _ h => h) (Or.inl ⟨by rfl, ?hy11_13⟩) (by assumption) ?rest11_13
        case hy11_13 => (intro w9 hSw;  clear hSw; go_simp; try with_reducible rfl)
        simp only [Act.put, List.setIfInBounds_toArray, List.set_cons_zero, List.set_cons_succ, List.getElem_toArray, List.getElem_cons_zero, List.getElem_cons_succ]
        refine wpAnyH_done (by kernel_rfl) ?_ _
        replace m5 := m5.put TB b5 A5 q5.length c5 x5
        replace DB := Blk.putO DB (g := wr.heap.size) (by omega) (.bool b5) (.slice A5 q5.length c5) (.int .i64 x5)
        replace SB := Blk.putO SB (g := wr.heap.size) (by omega) (.bool b5) (.slice A5 q5.length c5) (.int .i64 x5)
        clear TB_0 TB_1 TB_2 TB_f0 TB_f1 TB_f2
        replace TB := Dbx.put TB b5 A5 q5.length c5 x5
        clear hHeld hHeld0
        obtain ⟨DB_0, DB_1, DB_2, DB_f0, DB_f1, DB_f2⟩ := Dbx.cells DB
        obtain ⟨SB_0, SB_1, SB_2, SB_f0, SB_f1, SB_f2⟩ := Dbx.cells SB
        obtain ⟨TB_0, TB_1, TB_2, TB_f0, TB_f1, TB_f2⟩ := Dbx.cells TB
        go_wp2_with fail
        replace m5 := Lv.put m5 SB (b5) (A5) (q5.length) (c5) (x5)
        replace DB := Blk.putO DB (g := (w.heap.size + 1)) (by omega) (.bool (b5)) (.slice (A5) (q5.length) (c5)) (.int .i64 (x5))
        replace TB := Blk.putO TB (g := (w.heap.size + 1)) (by omega) (.bool (b5)) (.slice (A5) (q5.length) (c5)) (.int .i64 (x5))
        replace SB := Dbx.put SB (b5) (A5) (q5.length) (c5) (x5)
        go_roundw
        case rel => exact ⟨k + 1, by go_num, by omega, b5, A5, c5, x5, q5, hd5, m5, DB, SB, by go_grown⟩
        case measure => simp [intOf]; omega
    · obtain rfl : k = n := by omega
      go_wp2_with fail
      refine bodyPost_ret (v := .tuple #[dyV b1 A1 q1.length c1 x1, .int .i64 0]) (by simp [results, Tryz.results48, go_sem, DB_0, DB_1, DB_2, DB_f0, DB_f1, DB_f2, SB_0, SB_1, SB_2, SB_f0, SB_f1, SB_f2]) rfl ?_
      exact ⟨b1, q1, A1, c1, x1, rfl, hd1, m1.put DB _ _ _ _ _, by go_grown⟩

set_option maxRecDepth 100000 in
set_option maxHeartbeats 8000000 in
theorem rDot_ne (hne : n ≠ n2) :
    Calls Tryz.prog 50 #[.slice A n c, .slice A2 n2 c2] w (DyK zeroN 2 w) := by
  have k9 : ((n : Int) == (n2 : Int)) = false := by simp; omega
  have k8 : ((n : Int) != (n2 : Int)) = true := by simp; omega
  clear hne
  have DB := Blk.new w [.bool false, .slice none 0 0, .int .i64 0] 24
  have bw : Below w.heap.size w (w.alloc (.cells #[.bool false, .slice none 0 0, .int .i64 0] 24)) := by go_grown
  obtain ⟨DB_0, DB_1, DB_2, DB_f0, DB_f1, DB_f2⟩ := Dbx.cells DB
  go_enter Tryz.func50, Tryz.ntmps50
  go_wp2_with fail
  refine bodyPost_ret (v := .tuple #[dyV false none 0 0 0, .int .i64 2]) (by simp [results, Tryz.results50, go_sem, DB_0, DB_1, DB_2, DB_f0, DB_f1, DB_f2]) rfl ?_
  exact ⟨false, [], none, 0, 0, rfl, Dn.zero, lv_nil _, by go_grown⟩

set_option maxRecDepth 100000 in
set_option maxHeartbeats 8000000 in
theorem rDot_in (h : Dl w A n c es) (h2 : Dl w A2 n c2 fs) (ho : ∀ e ∈ es, okE e.x = true) (hs : ∀ e ∈ es, e.l.length ≤ 2048) (ho2 : ∀ e ∈ fs, okE e.x = true) (hs2 : ∀ e ∈ fs, e.l.length ≤ 2048) (HM : Hid (∀ k, k < n → okE (mulN (at0 es k) (at0 fs k)).exp = true)) (HI : Hid (∀ k, k ≤ n → (sumTo (fun i => mulN (at0 es i) (at0 fs i)) k).In P Q)) (HF : Hid (∀ k, k < n → (mulN (at0 es k) (at0 fs k)).In P Q)) (hPQ : P ≤ Q) (hw : Q - P ≤ 262143) (hp : -262144 ≤ P) (hq : Q + 1 ≤ 262144) :
    Calls Tryz.prog 50 #[.slice A n c, .slice A2 n c2] w (DyK (sumTo (fun i => mulN (at0 es i) (at0 fs i)) n) 0 w) := by
  have hn2 := h.2.1
  have HH := Lib.hid h
  have HH2 := Lib.hid h2
  clear h h2
  have HO := Lib.hid ho
  have HS := Lib.hid hs
  have HO2 := Lib.hid ho2
  have HS2 := Lib.hid hs2
  clear ho hs ho2 hs2
  have DB := Blk.new w [.bool false, .slice none 0 0, .int .i64 0] 24
  have SB := Blk.new (w.alloc (.cells #[.bool false, .slice none 0 0, .int .i64 0] 24)) [.bool false, .slice none 0 0, .int .i64 0] 24
  simp only [World.size_alloc] at SB
  replace DB := Blk.alloc DB (.cells #[.bool false, .slice none 0 0, .int .i64 0] 24)
  have bw : Below w.heap.size w ((w.alloc (.cells #[.bool false, .slice none 0 0, .int .i64 0] 24)).alloc (.cells #[.bool false, .slice none 0 0, .int .i64 0] 24)) := by go_grown
  obtain ⟨DB_0, DB_1, DB_2, DB_f0, DB_f1, DB_f2⟩ := Dbx.cells DB
  obtain ⟨SB_0, SB_1, SB_2, SB_f0, SB_f1, SB_f2⟩ := Dbx.cells SB
  go_enter Tryz.func50, Tryz.ntmps50
  go_wp2_with fail
  go_loopw [7] (fun i wr => ∃ k : Nat, i = .int .i64 k ∧ SumT w (fun i => mulN (at0 es i) (at0 fs i)) n wr k) (fun i _ => n - (intOf i).toNat)
  case atStart => exact ⟨0, rfl, Nat.zero_le _, false, none, 0, 0, [], Dn.zero, lv_nil _, DB, SB, bw⟩
  case round =>
    clear DB_0 DB_1 DB_2 DB_f0 DB_f1 DB_f2
    clear SB_0 SB_1 SB_2 SB_f0 SB_f1 SB_f2
    clear DB SB bw
    obtain ⟨k, rfl, hk, b1, A1, c1, x1, q1, hd1, m1, DB, SB, bw⟩ := hrel
    have hsz := bw.size
    have hsl := Blk.lt SB
    obtain ⟨DB_0, DB_1, DB_2, DB_f0, DB_f1, DB_f2⟩ := Dbx.cells DB
    obtain ⟨SB_0, SB_1, SB_2, SB_f0, SB_f1, SB_f2⟩ := Dbx.cells SB
    by_cases hlt : k < n
    · obtain ⟨ep, adp, eap, hep, rfl, hEp, hlp, hcp0, hcp1, hcp2, hvp, xp0, xp1⟩ := (HH.out.on bw).at_ hlt
      have hAp := at0_is hep
      have hOp := HO.out ep (List.mem_of_getElem? hep)
      have hLp := HS.out ep (List.mem_of_getElem? hep)
      obtain ⟨eq, adq, eaq, heq, rfl, hEq, hlq, hcq0, hcq1, hcq2, hvq, xq0, xq1⟩ := (HH2.out.on bw).at_ hlt
      have hAq := at0_is heq
      have hOq := HO2.out eq (List.mem_of_getElem? heq)
      have hLq := HS2.out eq (List.mem_of_getElem? heq)
      have i1 := HI.out k (by omega)
      have i2 := HF.out k hlt
      have hm := HM.out k hlt
      have hN : sumTo (fun i => mulN (at0 es i) (at0 fs i)) (k + 1) = sumN (sumTo (fun i => mulN (at0 es i) (at0 fs i)) k) (mulN ep.N eq.N) := by rw [← hAp, ← hAq]; rfl
      rw [hAp, hAq] at i2 hm
      have HN := Lib.hid hN
      clear hAp hAq hep heq hN
      obtain ⟨⟨bp, Ap, cp, Xp, lp⟩, he9⟩ : ∃ e9, ep = e9 := ⟨_, rfl⟩
      subst he9
      obtain ⟨⟨bq, Aq, cq, Xq, lq⟩, he9⟩ : ∃ e9, eq = e9 := ⟨_, rfl⟩
      subst he9
      unfold De.N at i2 hm HN
      dsimp only at *
      have h1 := hd1.is m1.lim
      have o1 := in_okE hd1.2.2.2 i1 hp (by omega)
      rw [hd1.exp] at o1
      have n1 := hd1.len
      have pm := fun W (bb : Below wr.heap.size wr W) => rMul_raw (b := bp) (b2 := bq) (x := Xp) (x2 := Xq) (hvp.on bb) (hvq.on bb) hLp hLq hOp hOq hm
      generalize mulN (nfl bp (val 18446744073709551616 lp) Xp) (nfl bq (val 18446744073709551616 lq) Xq) = R at pm i2 HN
      clear hm
      go_wp2_with fail
      have hHeld0 := Below.refl wr.heap.size wr
      refine wp_region_held_drew (S := fun w9 : World => Below wr.heap.size wr w9) (by kernel_rfl) ((Below.refl _ _).drew) (fun hHeld => ?_)
      refine wpAnyH_take (i := 0) (v := ?v0_14) rfl (by kernel_rfl) (by kernel_rfl) (by kernel_rfl) (fun _ _ _ h => h) (Or.inl ⟨by rfl, ?hy0_14⟩) (by assumption) ?rest0_14
      case hy0_14 => (intro w9 hSw;  clear hSw; go_simp; try with_reducible rfl)
      simp only [Act.put, List.setIfInBounds_toArray, List.set_cons_zero, List.set_cons_succ, List.getElem_toArray, List.getElem_cons_zero, List.getElem_cons_succ]
      refine wpAnyH_take (i := 1) (v := ?v1_15) rfl (by kernel_rfl) (by kernel_rfl) (by kernel_rfl) (fun _ _ _ h => h) (Or.inl ⟨by rfl, ?hy1_15⟩) (by assumption) ?rest1_15
      case hy1_15 => (intro w9 hSw;  clear hSw; go_simp; try with_reducible rfl)
      simp only [Act.put, List.setIfInBounds_toArray, List.set_cons_zero, List.set_cons_succ, List.getElem_toArray, List.getElem_cons_zero, List.getElem_cons_succ]
      refine wpAnyH_take (i := 2) (v := ?v2_16) rfl (by kernel_rfl) (by kernel_rfl) (by kernel_rfl) (fun _ _ _ h => h) (Or.inl ⟨by rfl, ?hy2_16⟩) (by assumption) ?rest2_16
      case hy2_16 => (intro w9 hSw;  clear hSw; go_simp; try with_reducible rfl)
      simp only [Act.put, List.setIfInBounds_toArray, List.set_cons_zero, List.set_cons_succ, List.getElem_toArray, List.getElem_cons_zero, List.getElem_cons_succ]
      refine wpAnyH_take (i := 3) (v := ?v3_17) rfl (by kernel_rfl) (by kernel_rfl) (by kernel_rfl) (fun _ _ _ h => h) (Or.inl ⟨by rfl, ?hy3_17⟩) (by assumption) ?rest3_17
      case hy3_17 => (intro w9 hSw; have c0 := cellB hcp0 hSw; have c1 := cellB hcp1 hSw; have c2 := cellB hcp2 hSw; clear hSw; go_simp; try with_reducible rfl)
      simp only [Act.put, List.setIfInBounds_toArray, List.set_cons_zero, List.set_cons_succ, List.getElem_toArray, List.getElem_cons_zero, List.getElem_cons_succ]
      refine wpAnyH_take (i := 4) (v := ?v4_18) rfl (by kernel_rfl) (by kernel_rfl) (by kernel_rfl) (fun _ _ _ h => h) (Or.inl ⟨by rfl, ?hy4_18⟩) (by assumption) ?rest4_18
      case hy4_18 => (intro w9 hSw;  clear hSw; go_simp; try with_reducible rfl)
      simp only [Act.put, List.setIfInBounds_toArray, List.set_cons_zero, List.set_cons_succ, List.getElem_toArray, List.getElem_cons_zero, List.getElem_cons_succ]
      refine wpAnyH_take (i := 5) (v := ?v5_19) rfl (by kernel_rfl) (by kernel_rfl) (by kernel_rfl) (fun _ _ _ h => h) (Or.inl ⟨by rfl, ?hy5_19⟩) (by assumption) ?rest5_19
      case hy5_19 => (intro w9 hSw;  clear hSw; go_simp; try with_reducible rfl)
      simp only [Act.put, List.setIfInBounds_toArray, List.set_cons_zero, List.set_cons_succ, List.getElem_toArray, List.getElem_cons_zero, List.getElem_cons_succ]
      refine wpAnyH_take (i := 6) (v := ?v6_20) rfl (by kernel_rfl) (by kernel_rfl) (by kernel_rfl) (fun _ _ _ h => h) (Or.inl ⟨by rfl, ?hy6_20⟩) (by assumption) ?rest6_20
      case hy6_20 => (intro w9 hSw;  clear hSw; go_simp; try with_reducible rfl)
      simp only [Act.put, List.setIfInBounds_toArray, List.set_cons_zero, List.set_cons_succ, List.getElem_toArray, List.getElem_cons_zero, List.getElem_cons_succ]
      refine wpAnyH_take (i := 7) (v := ?v7_21) rfl (by kernel_rfl) (by kernel_rfl) (by kernel_rfl) (fun _ _ _ h => h) (Or.inl ⟨by rfl, ?hy7_21⟩) (by assumption) ?rest7_21
      case hy7_21 => (intro w9 hSw; have c0 := cellB hcq0 hSw; have c1 := cellB hcq1 hSw; have c2 := cellB hcq2 hSw; clear hSw; go_simp; try with_reducible rfl)
      simp only [Act.put, List.setIfInBounds_toArray, List.set_cons_zero, List.set_cons_succ, List.getElem_toArray, List.getElem_cons_zero, List.getElem_cons_succ]
      clear DB_0 DB_1 DB_2 DB_f0 DB_f1 DB_f2
      clear SB_0 SB_1 SB_2 SB_f0 SB_f1 SB_f2
      refine wpAnyH_ready (rs := [8, 12]) (by kernel_rfl) (by simp) ?_
      refine (AllReadyH.cons rfl (fun K hK => ?_) (AllReadyH.cons rfl (fun K hK => ?_) AllReadyH.nil))
      · go_simp
        with_reducible refine (pm _ hHeld).mono ?_
        rintro e w5 ⟨b5, q5, A5, c5, x5, rfl, hd5, m5, hb5⟩
        have hs5 := hb5.size
        simp only [World.size_drew] at hs5
        have hr5 : Below wr.heap.size wr w5 := dy_end hHeld hb5
        replace bw : Below w.heap.size w w5 := dy_end (dy_end bw (Below.refl _ _).drew) hb5
        replace DB := (Blk.drew DB).on hb5
        replace SB := (Blk.drew SB).on hb5
        refine hK.out _ _ (dy_end hHeld hb5) (fun hHeld => ?_)
        clear hK K
        try simp only [Act.put, List.setIfInBounds_toArray, List.set_cons_zero, List.set_cons_succ, List.getElem_toArray, List.getElem_cons_zero, List.getElem_cons_succ]
        clear hb5
        refine wpAnyH_take (i := 9) (v := ?v9_22) rfl (by kernel_rfl) (by kernel_rfl) (by kernel_rfl) (fun _ _ _ h => h) (Or.inl ⟨by rfl, ?hy9_22⟩) (by assumption) ?rest9_22
        case hy9_22 => (intro w9 hSw;  clear hSw; go_simp; try with_reducible rfl)
        simp only [Act.put, List.setIfInBounds_toArray, List.set_cons_zero, List.set_cons_succ, List.getElem_toArray, List.getElem_cons_zero, List.getElem_cons_succ]
        refine wpAnyH_take (i := 10) (v := ?v10_23) rfl (by kernel_rfl) (by kernel_rfl) (by kernel_rfl) (fun _ _ _ h => h) (Or.inl ⟨by rfl, ?hy10_23⟩) (by assumption) ?rest10_23
        case hy10_23 => (intro w9 hSw;  clear hSw; go_simp; try with_reducible rfl)
        simp only [Act.put, List.setIfInBounds_toArray, List.set_cons_zero, List.set_cons_succ, List.getElem_toArray, List.getElem_cons_zero, List.getElem_cons_succ]
        refine wpAnyH_take (i := 11) (v := ?v11_24) rfl (by kernel_rfl) (by kernel_rfl) (by kernel_rfl) (fun _ _ _ h => h) (Or.inl ⟨by rfl, ?hy11_24⟩) (by assumption) ?rest11_24
        case hy11_24 => (intro w9 hSw;  clear hSw; go_simp; try with_reducible rfl)
        simp only [Act.put, List.setIfInBounds_toArray, List.set_cons_zero, List.set_cons_succ, List.getElem_toArray, List.getElem_cons_zero, List.getElem_cons_succ]
        refine wpAnyH_ready (rs := [12]) (by kernel_rfl) (by simp) ?_
        refine AllReadyH.cons rfl (fun K hK => ?_) AllReadyH.nil
        go_simp
        refine hK.out _ _ (by go_grown) (fun hHeld => ?_)
        clear hK K
        try simp only [Act.put, List.setIfInBounds_toArray, List.set_cons_zero, List.set_cons_succ, List.getElem_toArray, List.getElem_cons_zero, List.getElem_cons_succ]
        have TB := Blk.new w5 [.bool false, .slice none 0 0, .int .i64 0] 24
        obtain ⟨TB_0, TB_1, TB_2, TB_f0, TB_f1, TB_f2⟩ := Dbx.cells TB
        refine wpAnyH_ready (rs := [13]) (by kernel_rfl) (by simp) ?_
        refine AllReadyH.cons rfl (fun K hK => ?_) AllReadyH.nil
        go_simp
        refine hK.out _ _ (by go_grown) (fun hHeld => ?_)
        clear hK K
        try simp only [Act.put, List.setIfInBounds_toArray, List.set_cons_zero, List.set_cons_succ, List.getElem_toArray, List.getElem_cons_zero, List.getElem_cons_succ]
        refine wpAnyH_take (i := 14) (v := ?v14_25) rfl (by kernel_rfl) (by kernel_rfl) (by kernel_rfl) (fun _ _ _ h => h) (Or.inl ⟨by rfl, ?hy14_25⟩) (by assumption) ?rest14_25
        case hy14_25 => (intro w9 hSw;  clear hSw; go_simp; try with_reducible rfl)
        simp only [Act.put, List.setIfInBounds_toArray, List.set_cons_zero, List.set_cons_succ, List.getElem_toArray, List.getElem_cons_zero, List.getElem_cons_succ]
        refine wpAnyH_done (by kernel_rfl) ?_ _
        replace m5 := Lv.alloc m5 (.cells #[.bool b5, .slice A5 q5.length c5, .int .i64 x5] 24)
        replace DB := Blk.alloc DB (.cells #[.bool b5, .slice A5 q5.length c5, .int .i64 x5] 24)
        replace SB := Blk.alloc SB (.cells #[.bool b5, .slice A5 q5.length c5, .int .i64 x5] 24)
        clear TB_0 TB_1 TB_2 TB_f0 TB_f1 TB_f2
        replace TB := Blk.new w5 [.bool b5, .slice A5 q5.length c5, .int .i64 x5] 24
        clear hHeld hHeld0
        obtain ⟨DB_0, DB_1, DB_2, DB_f0, DB_f1, DB_f2⟩ := Dbx.cells DB
        obtain ⟨SB_0, SB_1, SB_2, SB_f0, SB_f1, SB_f2⟩ := Dbx.cells SB
        obtain ⟨TB_0, TB_1, TB_2, TB_f0, TB_f1, TB_f2⟩ := Dbx.cells TB
        have h5 := hd5.is m5.lim
        have o5 := in_okE hd5.2.2.2 i2 hp (by omega)
        rw [hd5.exp] at o5
        have n5 := hd5.len
        have pa := fun W (bb : Below wr.heap.size wr W) (mm : Lv W A5 q5.length c5 q5) => rAdd_in (b := b1) (b2 := b5) (x := x1) (x2 := x5) (P := P) (Q := Q) (m1.on bb) mm n1 n5 o1 o5 (by rw [h1]; exact i1) (by rw [h5]; exact i2) (by omega) (by omega) (by omega) (by omega)
        rw [h1, h5, ← HN.out] at pa
        clear h5
        go_wp2_with fail
        with_reducible refine (pa _ (by go_grown) m5).mono ?_
        rintro e w1 ⟨b6, q6, A6, c6, x6, rfl, hd6, m6, hb⟩
        clear DB_0 DB_1 DB_2 DB_f0 DB_f1 DB_f2
        clear SB_0 SB_1 SB_2 SB_f0 SB_f1 SB_f2
        clear TB_0 TB_1 TB_2 TB_f0 TB_f1 TB_f2
        have hs1 := hb.size
        try simp only [World.size_alloc, World.size_setCell] at hs1
        replace bw : Below w.heap.size w w1 := dy_end (by go_grown) hb
        replace m5 := Lv.on m5 hb
        replace DB := Blk.on DB hb
        replace SB := Blk.on SB hb
        replace TB := Blk.on TB hb
        clear hb
        obtain ⟨DB_0, DB_1, DB_2, DB_f0, DB_f1, DB_f2⟩ := Dbx.cells DB
        obtain ⟨SB_0, SB_1, SB_2, SB_f0, SB_f1, SB_f2⟩ := Dbx.cells SB
        obtain ⟨TB_0, TB_1, TB_2, TB_f0, TB_f1, TB_f2⟩ := Dbx.cells TB
        replace m5 := Lv.alloc m5 (.cells #[.bool b6, .slice A6 q6.length c6, .int .i64 x6] 24)
        replace m6 := Lv.alloc m6 (.cells #[.bool b6, .slice A6 q6.length c6, .int .i64 x6] 24)
        replace DB := Blk.alloc DB (.cells #[.bool b6, .slice A6 q6.length c6, .int .i64 x6] 24)
        replace SB := Blk.alloc SB (.cells #[.bool b6, .slice A6 q6.length c6, .int .i64 x6] 24)
        replace TB := Blk.alloc TB (.cells #[.bool b6, .slice A6 q6.length c6, .int .i64 x6] 24)
        have UB := Blk.new w1 [.bool b6, .slice A6 q6.length c6, .int .i64 x6] 24
        obtain ⟨DB_v0_0, DB_v0_1, DB_v0_2, DB_v0_f0, DB_v0_f1, DB_v0_f2⟩ := Dbx.cells DB
        obtain ⟨SB_v1_0, SB_v1_1, SB_v1_2, SB_v1_f0, SB_v1_f1, SB_v1_f2⟩ := Dbx.cells SB
        obtain ⟨TB_v2_0, TB_v2_1, TB_v2_2, TB_v2_f0, TB_v2_f1, TB_v2_f2⟩ := Dbx.cells TB
        obtain ⟨UB_0, UB_1, UB_2, UB_f0, UB_f1, UB_f2⟩ := Dbx.cells UB
        go_wp2_with fail
        replace m5 := Lv.put m5 SB (b6) (A6) (q6.length) (c6) (x6)
        replace m6 := Lv.put m6 SB (b6) (A6) (q6.length) (c6) (x6)
        replace DB := Blk.putO DB (g := (w.heap.size + 1)) (by omega) (.bool (b6)) (.slice (A6) (q6.length) (c6)) (.int .i64 (x6))
        replace TB := Blk.putO TB (g := (w.heap.size + 1)) (by omega) (.bool (b6)) (.slice (A6) (q6.length) (c6)) (.int .i64 (x6))
        replace UB := Blk.putO UB (g := (w.heap.size + 1)) (by omega) (.bool (b6)) (.slice (A6) (q6.length) (c6)) (.int .i64 (x6))
        replace SB := Dbx.put SB (b6) (A6) (q6.length) (c6) (x6)
        go_roundw
        case rel => exact ⟨k + 1, by go_num, by omega, b6, A6, c6, x6, q6, hd6, m6, DB, SB, by go_grown⟩
        case measure => simp [intOf]; omega
      · go_simp
        refine hK.out _ _ (by go_grown) (fun hHeld => ?_)
        clear hK K
        try simp only [Act.put, List.setIfInBounds_toArray, List.set_cons_zero, List.set_cons_succ, List.getElem_toArray, List.getElem_cons_zero, List.getElem_cons_succ]
        replace DB := Blk.alloc (Blk.drew DB) (.cells #[.bool false, .slice none 0 0, .int .i64 0] 24)
        replace SB := Blk.alloc (Blk.drew SB) (.cells #[.bool false, .slice none 0 0, .int .i64 0] 24)
        have TB := Blk.new wr.drew [.bool false, .slice none 0 0, .int .i64 0] 24
        simp only [World.size_drew] at TB
        refine wpAnyH_ready (rs := [8]) (by kernel_rfl) (by simp) ?_
        refine AllReadyH.cons rfl (fun K hK => ?_) AllReadyH.nil
        go_simp
        with_reducible refine (pm _ hHeld).mono ?_
        rintro e w5 ⟨b5, q5, A5, c5, x5, rfl, hd5, m5, hb5⟩
        have hs5 := hb5.size
        simp only [World.size_alloc, World.size_drew] at hs5
        have hr5 : Below wr.heap.size wr w5 := dy_end hHeld hb5
        replace bw : Below w.heap.size w w5 := dy_end (dy_end bw (by go_grown)) hb5
        replace DB := Blk.on DB hb5
        replace SB := Blk.on SB hb5
        replace TB := Blk.on TB hb5
        refine hK.out _ _ (dy_end hHeld hb5) (fun hHeld => ?_)
        clear hK K
        try simp only [Act.put, List.setIfInBounds_toArray, List.set_cons_zero, List.set_cons_succ, List.getElem_toArray, List.getElem_cons_zero, List.getElem_cons_succ]
        clear hb5
        refine wpAnyH_take (i := 9) (v := ?v9_26) rfl (by kernel_rfl) (by kernel_rfl) (by kernel_rfl) (fun _ _ _ h => h) (Or.inl ⟨by rfl, ?hy9_26⟩) (by assumption) ?rest9_26
        case hy9_26 => (intro w9 hSw;  clear hSw; go_simp; try with_reducible rfl)
        simp only [Act.put, List.setIfInBounds_toArray, List.set_cons_zero, List.set_cons_succ, List.getElem_toArray, List.getElem_cons_zero, List.getElem_cons_succ]
        refine wpAnyH_take (i := 10) (v := ?v10_27) rfl (by kernel_rfl) (by kernel_rfl) (by kernel_rfl) (fun _ _ _ h => h) (Or.inl ⟨by rfl, ?hy10_27⟩) (by assumption) ?rest10_27
        case hy10_27 => (intro w9 hSw;  clear hSw; go_simp; try with_reducible rfl)
        simp only [Act.put, List.setIfInBounds_toArray, List.set_cons_zero, List.set_cons_succ, List.getElem_toArray, List.getElem_cons_zero, List.getElem_cons_succ]
        refine wpAnyH_take (i := 11) (v := ?v11_28) rfl (by kernel_rfl) (by kernel_rfl) (by kernel_rfl) (fun _ _ _ h => h) (Or.inl ⟨by rfl, ?hy11_28⟩) (by assumption) ?rest11_28
        case hy11_28 => (intro w9 hSw;  clear hSw; go_simp; try with_reducible rfl)
        simp only [Act.put, List.setIfInBounds_toArray, List.set_cons_zero, List.set_cons_succ, List.getElem_toArray, List.getElem_cons_zero, List.getElem_cons_succ]
        obtain ⟨TB_0, TB_1, TB_2, TB_f0, TB_f1, TB_f2⟩ := Dbx.cells TB
        refine wpAnyH_ready (rs := [13]) (by kernel_rfl) (by simp) ?_
        refine AllReadyH.cons rfl (fun K hK => ?_) AllReadyH.nil
        go_simp
        refine hK.out _ _ (by go_grown) (fun hHeld => ?_)
        clear hK K
        try simp only [Act.put, List.setIfInBounds_toArray, List.set_cons_zero, List.set_cons_succ, List.getElem_toArray, List.getElem_cons_zero, List.getElem_cons_succ]
        refine wpAnyH_take (i := 14) (v := ?v14_29) rfl (by kernel_rfl) (by kernel_rfl) (by kernel_rfl) (fun _ _ _ h => h) (Or.inl ⟨by rfl, ?hy14_29⟩) (by assumption) ?rest14_29
        case hy14_29 => (intro w9 hSw;  clear hSw; go_simp; try with_reducible rfl)
        simp only [Act.put, List.setIfInBounds_toArray, List.set_cons_zero, List.set_cons_succ, List.getElem_toArray, List.getElem_cons_zero, List.getElem_cons_succ]
        refine wpAnyH_done (by kernel_rfl) ?_ _
        replace m5 := m5.put TB b5 A5 q5.length c5 x5
        replace DB := Blk.putO DB (g := wr.heap.size) (by omega) (.bool b5) (.slice A5 q5.length c5) (.int .i64 x5)
        replace SB := Blk.putO SB (g := wr.heap.size) (by omega) (.bool b5) (.slice A5 q5.length c5) (.int .i64 x5)
        clear TB_0 TB_1 TB_2 TB_f0 TB_f1 TB_f2
        replace TB := Dbx.put TB b5 A5 q5.length c5 x5
        clear hHeld hHeld0
        obtain ⟨DB_0, DB_1, DB_2, DB_f0, DB_f1, DB_f2⟩ := Dbx.cells DB
        obtain ⟨SB_0, SB_1, SB_2, SB_f0, SB_f1, SB_f2⟩ := Dbx.cells SB
        obtain ⟨TB_0, TB_1, TB_2, TB_f0, TB_f1, TB_f2⟩ := Dbx.cells TB
        have h5 := hd5.is m5.lim
        have o5 := in_okE hd5.2.2.2 i2 hp (by omega)
        rw [hd5.exp] at o5
        have n5 := hd5.len
        have pa := fun W (bb : Below wr.heap.size wr W) (mm : Lv W A5 q5.length c5 q5) => rAdd_in (b := b1) (b2 := b5) (x := x1) (x2 := x5) (P := P) (Q := Q) (m1.on bb) mm n1 n5 o1 o5 (by rw [h1]; exact i1) (by rw [h5]; exact i2) (by omega) (by omega) (by omega) (by omega)
        rw [h1, h5, ← HN.out] at pa
        clear h5
        go_wp2_with fail
        with_reducible refine (pa _ (by go_grown) m5).mono ?_
        rintro e w1 ⟨b6, q6, A6, c6, x6, rfl, hd6, m6, hb⟩
        clear DB_0 DB_1 DB_2 DB_f0 DB_f1 DB_f2
        clear SB_0 SB_1 SB_2 SB_f0 SB_f1 SB_f2
        clear TB_0 TB_1 TB_2 TB_f0 TB_f1 TB_f2
        have hs1 := hb.size
        try simp only [World.size_alloc, World.size_setCell] at hs1
        replace bw : Below w.heap.size w w1 := dy_end (by go_grown) hb
        replace m5 := Lv.on m5 hb
        replace DB := Blk.on DB hb
        replace SB := Blk.on SB hb
        replace TB := Blk.on TB hb
        clear hb
        obtain ⟨DB_0, DB_1, DB_2, DB_f0, DB_f1, DB_f2⟩ := Dbx.cells DB
        obtain ⟨SB_0, SB_1, SB_2, SB_f0, SB_f1, SB_f2⟩ := Dbx.cells SB
        obtain ⟨TB_0, TB_1, TB_2, TB_f0, TB_f1, TB_f2⟩ := Dbx.cells TB
        replace m5 := Lv.alloc m5 (.cells #[.bool b6, .slice A6 q6.length c6, .int .i64 x6] 24)
        replace m6 := Lv.alloc m6 (.cells #[.bool b6, .slice A6 q6.length c6, .int .i64 x6] 24)
        replace DB := Blk.alloc DB (.cells #[.bool b6, .slice A6 q6.length c6, .int .i64 x6] 24)
        replace SB := Blk.alloc SB (.cells #[.bool b6, .slice A6 q6.length c6, .int .i64 x6] 24)
        replace TB := Blk.alloc TB (.cells #[.bool b6, .slice A6 q6.length c6, .int .i64 x6] 24)
        have UB := Blk.new w1 [.bool b6, .slice A6 q6.length c6, .int .i64 x6] 24
        obtain ⟨DB_v0_0, DB_v0_1, DB_v0_2, DB_v0_f0, DB_v0_f1, DB_v0_f2⟩ := Dbx.cells DB
        obtain ⟨SB_v1_0, SB_v1_1, SB_v1_2, SB_v1_f0, SB_v1_f1, SB_v1_f2⟩ := Dbx.cells SB
        obtain ⟨TB_v2_0, TB_v2_1, TB_v2_2, TB_v2_f0, TB_v2_f1, TB_v2_f2⟩ := Dbx.cells TB
        obtain ⟨UB_0, UB_1, UB_2, UB_f0, UB_f1, UB_f2⟩ := Dbx.cells UB
        go_wp2_with fail
        replace m5 := Lv.put m5 SB (b6) (A6) (q6.length) (c6) (x6)
        replace m6 := Lv.put m6 SB (b6) (A6) (q6.length) (c6) (x6)
        replace DB := Blk.putO DB (g := (w.heap.size + 1)) (by omega) (.bool (b6)) (.slice (A6) (q6.length) (c6)) (.int .i64 (x6))
        replace TB := Blk.putO TB (g := (w.heap.size + 1)) (by omega) (.bool (b6)) (.slice (A6) (q6.length) (c6)) (.int .i64 (x6))
        replace UB := Blk.putO UB (g := (w.heap.size + 1)) (by omega) (.bool (b6)) (.slice (A6) (q6.length) (c6)) (.int .i64 (x6))
        replace SB := Dbx.put SB (b6) (A6) (q6.length) (c6) (x6)
        go_roundw
        case rel => exact ⟨k + 1, by go_num, by omega, b6, A6, c6, x6, q6, hd6, m6, DB, SB, by go_grown⟩
        case measure => simp [intOf]; omega
    · obtain rfl : k = n := by omega
      go_wp2_with fail
      refine bodyPost_ret (v := .tuple #[dyV b1 A1 q1.length c1 x1, .int .i64 0]) (by simp [results, Tryz.results50, go_sem, DB_0, DB_1, DB_2, DB_f0, DB_f1, DB_f2, SB_0, SB_1, SB_2, SB_f0, SB_f1, SB_f2]) rfl ?_
      exact ⟨b1, q1, A1, c1, x1, rfl, hd1, m1.put DB _ _ _ _ _, by go_grown⟩

end
end Go.Proofs.YtknomchkfamajaaGreatDoor
