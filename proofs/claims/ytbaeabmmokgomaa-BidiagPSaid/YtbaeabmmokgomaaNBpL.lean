/-
  Layer 11: the laws of the factors. (Written by wip/tools/gen_bpl.py.)
-/
import Derived.Test.YtbaeabmmokgomaaNBpK
import Derived.Test.YtbaeabmmokgomaaNBpO
import Derived.Test.YtbaeabmmokgomaaNBdG
import Derived.Test.YtbaeabmmokgomaaNB2
import Derived.Test.YtbaeabmmokgomaaMJVxS
namespace Go.Proofs.Ytbaeabmmokgomaa
open Go.RowKit Go.Bw
set_option linter.unusedVariables false
set_option linter.unusedSimpArgs false
attribute [local go_sem] run_store_float
theorem sameL_of {a b : List Int} (ha : Wd a) (hb : Wd b) (h : SameF a b) : sameL a b = true :=
  sameL_yes h.len (fun k _ => decide_eq_true (one_fa (ha.at_ k).1 (ha.at_ k).2 (hb.at_ k).1 (hb.at_ k).2 (h.at_ k)))
theorem sameM_of (r q : Int) {a b : List Int} (ha : Wd a) (hb : Wd b) (h : SameF a b) : sameM r q a r q b = true := by
  unfold sameM
  rw [sameL_of ha hb h]
  simp
theorem gQ_no {w : World} {LA : Option Addr} {K kc : Nat} {hs : List Re} {m n : Int} (hL : Rl w LA K kc hs) (hr : ¬ (0 ≤ m ∧ m ≤ 512 ∧ 0 ≤ n ∧ n ≤ m ∧ lenB n.toNat m hs)) : Calls Try.prog 17 #[.int .i64 m, .int .i64 n, .slice LA K kc] w (QnP w 2) := by
  cases hz : szB m n
  · exact gQ_size (hs := hs) hz
  · have hb := (szB_bd hz).1
    rcases Int.lt_or_le m n with c | c
    · exact gQ_less (hs := hs) hz c
    · obtain ⟨m, rfl⟩ := Int.eq_ofNat_of_zero_le hb.1
      obtain ⟨n, rfl⟩ := Int.eq_ofNat_of_zero_le hb.2.2.1
      exact gQ_fall hL hz (by omega) (by omega) (fun q => hr ⟨by omega, by omega, by omega, c, q⟩)
theorem gP_no {w : World} {LA : Option Addr} {K kc : Nat} {hs : List Re} {n : Int} (hL : Rl w LA K kc hs) (hr : ¬ (0 ≤ n ∧ n ≤ 512 ∧ lenB (n.toNat - 2) (n - 1) hs)) : Calls Try.prog 21 #[.int .i64 n, .slice LA K kc] w (QnP w 2) := by
  cases hz : szB n n
  · exact gP_size (hs := hs) hz
  · have hb := (szB_bd hz).1
    obtain ⟨n, rfl⟩ := Int.eq_ofNat_of_zero_le hb.1
    have hr2 : ¬ lenB (n - 2) ((n : Int) - 1) hs := fun q => hr ⟨by omega, by omega, q⟩
    rcases n with _ | _ | _ | n
    · exact gP_fall0 hL hz hr2
    · exact gP_fall1 hL hz hr2
    · exact gP_fall2 hL hz hr2
    · exact gP_fall3 hL hz (by omega) (by omega) hr2
theorem gP_yes {w : World} {LA : Option Addr} {K kc n N : Nat} {hs : List Re} (hL : Rl w LA K kc hs) (hn : n ≤ 512) (hN : N = n * n) (hr : lenB (n - 2) ((n : Int) - 1) hs) : Calls Try.prog 21 #[.int .i64 n, .slice LA K kc] w (GqP w n n N (fun L => ∃ Qs, Tq n K 0 hs Qs ∧ Qs 0 = L)) := by
  have hz : szB (n : Int) (n : Int) = true := decide_eq_true ⟨by omega, by omega, by omega, by omega⟩
  rcases n with _ | _ | _ | n
  · exact gP_yes0 hL hz hN hr
  · exact gP_yes1 hL hz hN hr
  · exact gP_yes2 hL hz hN hr
  · exact gP_yes3 hL hz hn (by omega) hN hr
set_option maxRecDepth 100000 in
set_option maxHeartbeats 16000000 in
theorem law_q {w : World} {A : Option Addr} {K c : Nat} {hs : List Re} {m n : Int} (h : Rl w A K c hs) :
    Calls Try.prog 4 #[.int .i64 m, .int .i64 n, .slice A K c] w (Ans w (.bool true)) := by
  have HL := Lib.hid h
  have bz := Below.refl w.heap.size w
  by_cases hl : lonP hs
  · as_aux_lemma =>
      have pl := fun W (h9 : Rl W A K c hs) => wlong_any (b := true) h9 ⟨fun _ => hl, fun _ => rfl⟩
      have pk := fun W => known_any W
      clear hl
      go_enter Try.func4, Try.ntmps4
      go_wp2_with fail
      with_reducible refine (pl _ h).mono ?_
      rintro e9 w1 ⟨rfl, hb⟩
      replace bz := bz.trans (hb.mono bz.size)
      clear hb pl
      go_wp2_with fail
      with_reducible refine (pk _).mono ?_
      rintro e9 wk ⟨rfl, hb⟩
      replace bz := bz.trans (hb.mono bz.size)
      go_wp2_with fail
      go_ret
      exact ⟨rfl, bz⟩
  · have HNL := Lib.hid hl
    have pl := fun W (h9 : Rl W A K c hs) => wlong_any (b := false) h9 ⟨fun q => (by cases q), fun q => absurd q hl⟩
    have pk := fun W => known_any W
    clear hl
    by_cases c1 : 40 < m
    · by_cases c2 : m ≤ 512
      · as_aux_lemma =>
          go_enter Try.func4, Try.ntmps4
          go_wp2_with fail
          with_reducible refine (pl _ h).mono ?_
          rintro e9 w1 ⟨rfl, hb⟩
          replace bz := bz.trans (hb.mono bz.size)
          clear hb pl
          go_wp2_with fail
          with_reducible refine (pk _).mono ?_
          rintro e9 wk ⟨rfl, hb⟩
          replace bz := bz.trans (hb.mono bz.size)
          go_wp2_with fail
          go_ret
          exact ⟨rfl, bz⟩
      · as_aux_lemma =>
          have hr : ¬ (0 ≤ m ∧ m ≤ 512 ∧ 0 ≤ n ∧ n ≤ m ∧ lenB n.toNat m hs) := fun q => c2 q.2.1
          have pq := Lib.hid (fun W (h9 : Rl W A K c hs) => gQ_no (m := m) (n := n) h9 hr)
          have pm := fun W (h9 : Rl W A K c hs) => rMayQ11_any (m := m) (n := n) (b := false) h9 ⟨fun q => (by cases q), fun q => absurd q hr⟩
          clear hr
          go_enter Try.func4, Try.ntmps4
          go_wp2_with fail
          with_reducible refine (pl _ h).mono ?_
          rintro e9 w1 ⟨rfl, hb⟩
          replace bz := bz.trans (hb.mono bz.size)
          clear hb pl
          have pq2 : Hid (Calls Try.prog 17 #[.int .i64 m, .int .i64 n, .slice A K c] w1 (QnP w1 2)) := Lib.hid (pq.out w1 (HL.out.on bz))
          clear pq
          go_wp2_with fail
          with_reducible refine pq2.out.mono ?_
          rintro e9 w2 ⟨rfl, hb⟩
          replace bz := bz.trans (hb.mono bz.size)
          clear pq2 hb
          have DB := Blk.new w2 [.int .i64 0, .int .i64 0, .slice none 0 0] 24
          obtain ⟨hx, ex⟩ : ∃ x, w2.heap.size = x := ⟨_, rfl⟩
          rw [ex] at DB
          replace bz := bz.alloc bz.size (.cells #[.int .i64 0, .int .i64 0, .slice none 0 0] 24)
          go_upto_region 4 with fail
          try simp only [ex] at ⊢
          clear ex
          generalize w2.alloc (.cells #[.int .i64 0, .int .i64 0, .slice none 0 0] 24) = w3 at DB bz ⊢
          go_wp2_with fail
          with_reducible refine (pm _ (HL.out.on bz)).mono ?_
          rintro e9 w4 ⟨rfl, hb⟩
          replace DB := DB.on hb
          replace bz := bz.trans (hb.mono bz.size)
          clear pm hb
          obtain ⟨y0, y1, y2, _, _, _⟩ := Mbx.cells DB
          have pi : Hid (Calls Try.prog 19 #[mV 0 0 none 0 0, mV 0 0 none 0 0] w4 (Ans w4 (.bool true))) := Lib.hid (wis_any 0 0 0 0 (FL.nil w4) (FL.nil w4))
          go_wp2_with fail
          clear y0 y1 y2
          with_reducible refine pi.out.mono ?_
          rintro e9 w5 ⟨rfl, hb⟩
          replace bz := bz.trans (hb.mono bz.size)
          clear pi hb
          go_wp2_with fail
          with_reducible refine (wnum_any 2 _).mono ?_
          rintro e9 w6 ⟨rfl, hb⟩
          replace bz := bz.trans (hb.mono bz.size)
          clear hb
          go_wp2_with fail
          with_reducible refine (pk _).mono ?_
          rintro e9 wk ⟨rfl, hb⟩
          replace bz := bz.trans (hb.mono bz.size)
          go_wp2_with fail
          go_ret
          exact ⟨rfl, bz⟩
    · by_cases hr : (0 ≤ m ∧ m ≤ 512 ∧ 0 ≤ n ∧ n ≤ m ∧ lenB n.toNat m hs)
      · as_aux_lemma =>
          obtain ⟨m, rfl⟩ := Int.eq_ofNat_of_zero_le hr.1
          obtain ⟨n, rfl⟩ := Int.eq_ofNat_of_zero_le hr.2.2.1
          have hm5 : m ≤ 512 := by omega
          have hnm : n ≤ m := by omega
          obtain ⟨N, hN⟩ : ∃ N, N = m * n := ⟨_, rfl⟩
          have HN := Lib.hid hN
          have hKn : n = K := (h.1.symm.trans hr.2.2.2.2.1).symm
          subst hKn
          have pq := Lib.hid (fun W (h9 : Rl W A n c hs) => gQ_yes (N := N) h9 (decide_eq_true ⟨by omega, by omega, by omega, by omega⟩) hm5 hnm hN hr.2.2.2.2)
          have pm := fun W (h9 : Rl W A n c hs) => rMayQ11_any (m := m) (n := n) (b := true) h9 ⟨fun _ => hr, fun _ => rfl⟩
          have pr := fun W (h9 : Rl W A n c hs) => rQ11_any (m := m) (n := n) h9 hm5 hnm (fun j e he => by have h8 := hr.2.2.2.2.2 j e he; have h7 := (List.getElem?_eq_some_iff.1 he).1; rw [h.1] at h7; omega)
          clear hN hm5 hnm
          clear hr
          go_enter Try.func4, Try.ntmps4
          go_wp2_with fail
          with_reducible refine (pl _ h).mono ?_
          rintro e9 w1 ⟨rfl, hb⟩
          replace bz := bz.trans (hb.mono bz.size)
          clear hb pl
          have pq2 : Hid (Calls Try.prog 17 #[.int .i64 m, .int .i64 n, .slice A n c] w1 (GqP w1 m n N (fun L => ∃ Qs, TqL m n 0 hs Qs ∧ Qs 0 = L))) := Lib.hid (pq.out w1 (HL.out.on bz))
          clear pq
          go_wp2_with fail
          with_reducible refine pq2.out.mono ?_
          rintro e9 w2 ⟨A2, c2, L2, rfl, F2, hQ, hb⟩
          obtain ⟨Qs, T2, hQ0⟩ := hQ
          replace bz := bz.trans (hb.mono bz.size)
          clear pq2 hb
          have DB := Blk.new w2 [.int .i64 m, .int .i64 n, .slice A2 N c2] 24
          obtain ⟨hx, ex⟩ : ∃ x, w2.heap.size = x := ⟨_, rfl⟩
          rw [ex] at DB
          have hbA := (Below.refl _ w2).alloc (Nat.le_refl _) (.cells #[.int .i64 m, .int .i64 n, .slice A2 N c2] 24)
          replace F2 := F2.on hbA
          replace bz := bz.alloc bz.size (.cells #[.int .i64 m, .int .i64 n, .slice A2 N c2] 24)
          clear hbA
          go_upto_region 4 with fail
          try simp only [ex] at ⊢
          clear ex
          generalize w2.alloc (.cells #[.int .i64 m, .int .i64 n, .slice A2 N c2] 24) = w3 at DB bz F2 ⊢
          go_wp2_with fail
          with_reducible refine (pm _ (HL.out.on bz)).mono ?_
          rintro e9 w4 ⟨rfl, hb⟩
          replace DB := DB.on hb
          replace F2 := F2.on hb
          replace bz := bz.trans (hb.mono bz.size)
          clear pm hb
          go_wp2_with fail
          replace DB := DB.drew
          replace F2 := F2.drew
          replace bz := bz.drew
          refine wp_region_held_drew (S := fun w9 : World => Mbx w9 hx m n A2 N c2) (by kernel_rfl) DB (fun hS => ?_)
          generalize w4.drew = wl at hS DB F2  bz ⊢
          refine wpAnyH_take (i := 0) (v := ?v0_1) rfl (by kernel_rfl) (by kernel_rfl) (by kernel_rfl) (fun _ _ _ h => h) (Or.inl ⟨by rfl, ?hy0_1⟩) (by assumption) ?rest0_1
          case hy0_1 => (intro w9 hSw; obtain ⟨y0, y1, y2, _, _, _⟩ := Mbx.cells hSw; go_simp; try with_reducible rfl)
          try simp only [Act.put, List.setIfInBounds_toArray, List.set_cons_zero, List.set_cons_succ, List.getElem_toArray, List.getElem_cons_zero, List.getElem_cons_succ]
          refine wpAnyH_take (i := 1) (v := ?v1_2) rfl (by kernel_rfl) (by kernel_rfl) (by kernel_rfl) (fun _ _ _ h => h) (Or.inl ⟨by rfl, ?hy1_2⟩) (by assumption) ?rest1_2
          case hy1_2 => (intro w9 hSw; clear hSw; go_simp; try with_reducible rfl)
          try simp only [Act.put, List.setIfInBounds_toArray, List.set_cons_zero, List.set_cons_succ, List.getElem_toArray, List.getElem_cons_zero, List.getElem_cons_succ]
          refine wpAnyH_take (i := 2) (v := ?v2_3) rfl (by kernel_rfl) (by kernel_rfl) (by kernel_rfl) (fun _ _ _ h => h) (Or.inl ⟨by rfl, ?hy2_3⟩) (by assumption) ?rest2_3
          case hy2_3 => (intro w9 hSw; clear hSw; go_simp; try with_reducible rfl)
          try simp only [Act.put, List.setIfInBounds_toArray, List.set_cons_zero, List.set_cons_succ, List.getElem_toArray, List.getElem_cons_zero, List.getElem_cons_succ]
          refine wpAnyH_take (i := 3) (v := ?v3_4) rfl (by kernel_rfl) (by kernel_rfl) (by kernel_rfl) (fun _ _ _ h => h) (Or.inl ⟨by rfl, ?hy3_4⟩) (by assumption) ?rest3_4
          case hy3_4 => (intro w9 hSw; clear hSw; go_simp; try with_reducible rfl)
          try simp only [Act.put, List.setIfInBounds_toArray, List.set_cons_zero, List.set_cons_succ, List.getElem_toArray, List.getElem_cons_zero, List.getElem_cons_succ]
          refine wpAnyH_ready (rs := [4]) (by kernel_rfl) (by simp) ?_
          refine AllReadyH.cons rfl (fun K hK => ?_) AllReadyH.nil
          go_simp
          with_reducible refine (pr _ (HL.out.on bz)).mono ?_
          rintro e9 w5 ⟨A5, c5, L5, Qs5, rfl, O5, T5, hQ5, hb⟩
          have F5 := O5.fl (by rw [← hQ5]; exact (tqL_is T5 (Nat.zero_le _) h.1).wd)
          have l5 : L5.length = N := by rw [← hQ5]; rw [(tqL_is T5 (Nat.zero_le _) h.1).len]; exact HN.out.symm
          rw [l5] at F5
          rw [← HN.out]
          skip
          replace DB := DB.on hb
          replace F2 := F2.on hb
          replace bz := bz.trans (hb.mono bz.size)
          clear hb O5
          have HSM : Hid (sameM m n L2 m n L5 = true) := Lib.hid (sameM_of m n F2.2.2 F5.2.2 (by have h9 := TqL.same T2 T5 h.1; rw [hQ0, hQ5] at h9; exact h9))
          clear T2 T5 hQ0 hQ5 l5
          clear hS; refine hK.out _ _ DB (fun hS => ?_); clear hK K
          try simp only [Act.put, List.setIfInBounds_toArray, List.set_cons_zero, List.set_cons_succ, List.getElem_toArray, List.getElem_cons_zero, List.getElem_cons_succ]
          refine wpAnyH_ready (rs := [5]) (by kernel_rfl) (by simp) ?_
          refine AllReadyH.cons rfl (fun K hK => ?_) AllReadyH.nil
          go_simp
          have pi := wis_any (m) (n) (m) (n) F2 F5
          rw [HSM.out] at pi
          with_reducible refine pi.mono ?_
          rintro e9 w6 ⟨rfl, hb⟩
          replace DB := DB.on hb
          replace F2 := F2.on hb
          replace F5 := F5.on hb
          replace bz := bz.trans (hb.mono bz.size)
          clear hb pi
          clear hS; refine hK.out _ _ DB (fun hS => ?_); clear hK K
          try simp only [Act.put, List.setIfInBounds_toArray, List.set_cons_zero, List.set_cons_succ, List.getElem_toArray, List.getElem_cons_zero, List.getElem_cons_succ]
          refine wpAnyH_take (i := 6) (v := ?v6_5) rfl (by kernel_rfl) (by kernel_rfl) (by kernel_rfl) (fun _ _ _ h => h) (Or.inl ⟨by rfl, ?hy6_5⟩) (by assumption) ?rest6_5
          case hy6_5 => (intro w9 hSw; clear hSw; go_simp; try with_reducible rfl)
          try simp only [Act.put, List.setIfInBounds_toArray, List.set_cons_zero, List.set_cons_succ, List.getElem_toArray, List.getElem_cons_zero, List.getElem_cons_succ]
          refine wpAnyH_take (i := 7) (v := ?v7_6) rfl (by kernel_rfl) (by kernel_rfl) (by kernel_rfl) (fun _ _ _ h => h) (Or.inl ⟨by rfl, ?hy7_6⟩) (by assumption) ?rest7_6
          case hy7_6 => (intro w9 hSw; clear hSw; go_simp; try with_reducible rfl)
          try simp only [Act.put, List.setIfInBounds_toArray, List.set_cons_zero, List.set_cons_succ, List.getElem_toArray, List.getElem_cons_zero, List.getElem_cons_succ]
          refine wpAnyH_ready (rs := [8]) (by kernel_rfl) (by simp) ?_
          refine AllReadyH.cons rfl (fun K hK => ?_) AllReadyH.nil
          go_simp
          with_reducible refine (wnum_any 0 _).mono ?_
          rintro e9 w7 ⟨rfl, hb⟩
          replace DB := DB.on hb
          replace F2 := F2.on hb
          replace F5 := F5.on hb
          replace bz := bz.trans (hb.mono bz.size)
          clear hb
          clear hS; refine hK.out _ _ DB (fun hS => ?_); clear hK K
          try simp only [Act.put, List.setIfInBounds_toArray, List.set_cons_zero, List.set_cons_succ, List.getElem_toArray, List.getElem_cons_zero, List.getElem_cons_succ]
          refine wpAnyH_take (i := 9) (v := ?v9_7) rfl (by kernel_rfl) (by kernel_rfl) (by kernel_rfl) (fun _ _ _ h => h) (Or.inl ⟨by rfl, ?hy9_7⟩) (by assumption) ?rest9_7
          case hy9_7 => (intro w9 hSw; clear hSw; go_simp; try with_reducible rfl)
          try simp only [Act.put, List.setIfInBounds_toArray, List.set_cons_zero, List.set_cons_succ, List.getElem_toArray, List.getElem_cons_zero, List.getElem_cons_succ]
          refine wpAnyH_take (i := 10) (v := ?v10_8) rfl (by kernel_rfl) (by kernel_rfl) (by kernel_rfl) (fun _ _ _ h => h) (Or.inl ⟨by rfl, ?hy10_8⟩) (by assumption) ?rest10_8
          case hy10_8 => (intro w9 hSw; clear hSw; go_simp; try with_reducible rfl)
          try simp only [Act.put, List.setIfInBounds_toArray, List.set_cons_zero, List.set_cons_succ, List.getElem_toArray, List.getElem_cons_zero, List.getElem_cons_succ]
          refine wpAnyH_take (i := 11) (v := ?v11_9) rfl (by kernel_rfl) (by kernel_rfl) (by kernel_rfl) (fun _ _ _ h => h) (Or.inl ⟨by rfl, ?hy11_9⟩) (by assumption) ?rest11_9
          case hy11_9 => (intro w9 hSw; clear hSw; go_simp; try with_reducible rfl)
          try simp only [Act.put, List.setIfInBounds_toArray, List.set_cons_zero, List.set_cons_succ, List.getElem_toArray, List.getElem_cons_zero, List.getElem_cons_succ]
          refine wpAnyH_ready (rs := [12]) (by kernel_rfl) (by simp) ?_
          refine AllReadyH.cons rfl (fun K hK => ?_) AllReadyH.nil
          go_simp
          with_reducible refine (pk _).mono ?_
          rintro e9 w8 ⟨rfl, hb⟩
          replace DB := DB.on hb
          replace F2 := F2.on hb
          replace F5 := F5.on hb
          replace bz := bz.trans (hb.mono bz.size)
          clear hb
          clear hS; refine hK.out _ _ DB (fun hS => ?_); clear hK K
          try simp only [Act.put, List.setIfInBounds_toArray, List.set_cons_zero, List.set_cons_succ, List.getElem_toArray, List.getElem_cons_zero, List.getElem_cons_succ]
          refine wpAnyH_take (i := 13) (v := ?v13_10) rfl (by kernel_rfl) (by kernel_rfl) (by kernel_rfl) (fun _ _ _ h => h) (Or.inl ⟨by rfl, ?hy13_10⟩) (by assumption) ?rest13_10
          case hy13_10 => (intro w9 hSw; clear hSw; go_simp; try with_reducible rfl)
          try simp only [Act.put, List.setIfInBounds_toArray, List.set_cons_zero, List.set_cons_succ, List.getElem_toArray, List.getElem_cons_zero, List.getElem_cons_succ]
          refine wpAnyH_take (i := 14) (v := ?v14_11) rfl (by kernel_rfl) (by kernel_rfl) (by kernel_rfl) (fun _ _ _ h => h) (Or.inl ⟨by rfl, ?hy14_11⟩) (by assumption) ?rest14_11
          case hy14_11 => (intro w9 hSw; clear hSw; go_simp; try with_reducible rfl)
          try simp only [Act.put, List.setIfInBounds_toArray, List.set_cons_zero, List.set_cons_succ, List.getElem_toArray, List.getElem_cons_zero, List.getElem_cons_succ]
          refine wpAnyH_done (by kernel_rfl) ?_ _
          go_wp2_with fail
          go_ret
          exact ⟨rfl, bz⟩
      · as_aux_lemma =>
          have hr : ¬ (0 ≤ m ∧ m ≤ 512 ∧ 0 ≤ n ∧ n ≤ m ∧ lenB n.toNat m hs) := hr
          have pq := Lib.hid (fun W (h9 : Rl W A K c hs) => gQ_no (m := m) (n := n) h9 hr)
          have pm := fun W (h9 : Rl W A K c hs) => rMayQ11_any (m := m) (n := n) (b := false) h9 ⟨fun q => (by cases q), fun q => absurd q hr⟩
          clear hr
          go_enter Try.func4, Try.ntmps4
          go_wp2_with fail
          with_reducible refine (pl _ h).mono ?_
          rintro e9 w1 ⟨rfl, hb⟩
          replace bz := bz.trans (hb.mono bz.size)
          clear hb pl
          have pq2 : Hid (Calls Try.prog 17 #[.int .i64 m, .int .i64 n, .slice A K c] w1 (QnP w1 2)) := Lib.hid (pq.out w1 (HL.out.on bz))
          clear pq
          go_wp2_with fail
          with_reducible refine pq2.out.mono ?_
          rintro e9 w2 ⟨rfl, hb⟩
          replace bz := bz.trans (hb.mono bz.size)
          clear pq2 hb
          have DB := Blk.new w2 [.int .i64 0, .int .i64 0, .slice none 0 0] 24
          obtain ⟨hx, ex⟩ : ∃ x, w2.heap.size = x := ⟨_, rfl⟩
          rw [ex] at DB
          replace bz := bz.alloc bz.size (.cells #[.int .i64 0, .int .i64 0, .slice none 0 0] 24)
          go_upto_region 4 with fail
          try simp only [ex] at ⊢
          clear ex
          generalize w2.alloc (.cells #[.int .i64 0, .int .i64 0, .slice none 0 0] 24) = w3 at DB bz ⊢
          go_wp2_with fail
          with_reducible refine (pm _ (HL.out.on bz)).mono ?_
          rintro e9 w4 ⟨rfl, hb⟩
          replace DB := DB.on hb
          replace bz := bz.trans (hb.mono bz.size)
          clear pm hb
          obtain ⟨y0, y1, y2, _, _, _⟩ := Mbx.cells DB
          have pi : Hid (Calls Try.prog 19 #[mV 0 0 none 0 0, mV 0 0 none 0 0] w4 (Ans w4 (.bool true))) := Lib.hid (wis_any 0 0 0 0 (FL.nil w4) (FL.nil w4))
          go_wp2_with fail
          clear y0 y1 y2
          with_reducible refine pi.out.mono ?_
          rintro e9 w5 ⟨rfl, hb⟩
          replace bz := bz.trans (hb.mono bz.size)
          clear pi hb
          go_wp2_with fail
          with_reducible refine (wnum_any 2 _).mono ?_
          rintro e9 w6 ⟨rfl, hb⟩
          replace bz := bz.trans (hb.mono bz.size)
          clear hb
          go_wp2_with fail
          with_reducible refine (pk _).mono ?_
          rintro e9 wk ⟨rfl, hb⟩
          replace bz := bz.trans (hb.mono bz.size)
          go_wp2_with fail
          go_ret
          exact ⟨rfl, bz⟩
set_option maxRecDepth 100000 in
set_option maxHeartbeats 16000000 in
theorem law_p {w : World} {A : Option Addr} {K c : Nat} {hs : List Re} {n : Int} (h : Rl w A K c hs) :
    Calls Try.prog 5 #[.int .i64 n, .slice A K c] w (Ans w (.bool true)) := by
  have HL := Lib.hid h
  have bz := Below.refl w.heap.size w
  by_cases hl : lonP hs
  · as_aux_lemma =>
      have pl := fun W (h9 : Rl W A K c hs) => wlong_any (b := true) h9 ⟨fun _ => hl, fun _ => rfl⟩
      have pk := fun W => known_any W
      clear hl
      go_enter Try.func5, Try.ntmps5
      go_wp2_with fail
      with_reducible refine (pl _ h).mono ?_
      rintro e9 w1 ⟨rfl, hb⟩
      replace bz := bz.trans (hb.mono bz.size)
      clear hb pl
      go_wp2_with fail
      with_reducible refine (pk _).mono ?_
      rintro e9 wk ⟨rfl, hb⟩
      replace bz := bz.trans (hb.mono bz.size)
      go_wp2_with fail
      go_ret
      exact ⟨rfl, bz⟩
  · have HNL := Lib.hid hl
    have pl := fun W (h9 : Rl W A K c hs) => wlong_any (b := false) h9 ⟨fun q => (by cases q), fun q => absurd q hl⟩
    have pk := fun W => known_any W
    clear hl
    by_cases c1 : 40 < n
    · by_cases c2 : n ≤ 512
      · as_aux_lemma =>
          go_enter Try.func5, Try.ntmps5
          go_wp2_with fail
          with_reducible refine (pl _ h).mono ?_
          rintro e9 w1 ⟨rfl, hb⟩
          replace bz := bz.trans (hb.mono bz.size)
          clear hb pl
          go_wp2_with fail
          with_reducible refine (pk _).mono ?_
          rintro e9 wk ⟨rfl, hb⟩
          replace bz := bz.trans (hb.mono bz.size)
          go_wp2_with fail
          go_ret
          exact ⟨rfl, bz⟩
      · as_aux_lemma =>
          have hr : ¬ (0 ≤ n ∧ n ≤ 512 ∧ lenB (n.toNat - 2) (n - 1) hs) := fun q => c2 q.2.1
          have pq := Lib.hid (fun W (h9 : Rl W A K c hs) => gP_no (n := n) h9 hr)
          have pm := fun W (h9 : Rl W A K c hs) => rMayP11_any (n := n) (b := false) h9 ⟨fun q => (by cases q), fun q => absurd q hr⟩
          clear hr
          go_enter Try.func5, Try.ntmps5
          go_wp2_with fail
          with_reducible refine (pl _ h).mono ?_
          rintro e9 w1 ⟨rfl, hb⟩
          replace bz := bz.trans (hb.mono bz.size)
          clear hb pl
          have pq2 : Hid (Calls Try.prog 21 #[.int .i64 n, .slice A K c] w1 (QnP w1 2)) := Lib.hid (pq.out w1 (HL.out.on bz))
          clear pq
          go_wp2_with fail
          with_reducible refine pq2.out.mono ?_
          rintro e9 w2 ⟨rfl, hb⟩
          replace bz := bz.trans (hb.mono bz.size)
          clear pq2 hb
          have DB := Blk.new w2 [.int .i64 0, .int .i64 0, .slice none 0 0] 24
          obtain ⟨hx, ex⟩ : ∃ x, w2.heap.size = x := ⟨_, rfl⟩
          rw [ex] at DB
          replace bz := bz.alloc bz.size (.cells #[.int .i64 0, .int .i64 0, .slice none 0 0] 24)
          go_upto_region 4 with fail
          try simp only [ex] at ⊢
          clear ex
          generalize w2.alloc (.cells #[.int .i64 0, .int .i64 0, .slice none 0 0] 24) = w3 at DB bz ⊢
          go_wp2_with fail
          with_reducible refine (pm _ (HL.out.on bz)).mono ?_
          rintro e9 w4 ⟨rfl, hb⟩
          replace DB := DB.on hb
          replace bz := bz.trans (hb.mono bz.size)
          clear pm hb
          obtain ⟨y0, y1, y2, _, _, _⟩ := Mbx.cells DB
          have pi : Hid (Calls Try.prog 19 #[mV 0 0 none 0 0, mV 0 0 none 0 0] w4 (Ans w4 (.bool true))) := Lib.hid (wis_any 0 0 0 0 (FL.nil w4) (FL.nil w4))
          go_wp2_with fail
          clear y0 y1 y2
          with_reducible refine pi.out.mono ?_
          rintro e9 w5 ⟨rfl, hb⟩
          replace bz := bz.trans (hb.mono bz.size)
          clear pi hb
          go_wp2_with fail
          with_reducible refine (wnum_any 2 _).mono ?_
          rintro e9 w6 ⟨rfl, hb⟩
          replace bz := bz.trans (hb.mono bz.size)
          clear hb
          go_wp2_with fail
          with_reducible refine (pk _).mono ?_
          rintro e9 wk ⟨rfl, hb⟩
          replace bz := bz.trans (hb.mono bz.size)
          go_wp2_with fail
          go_ret
          exact ⟨rfl, bz⟩
    · by_cases hr : (0 ≤ n ∧ n ≤ 512 ∧ lenB (n.toNat - 2) (n - 1) hs)
      · as_aux_lemma =>
          obtain ⟨n, rfl⟩ := Int.eq_ofNat_of_zero_le hr.1
          have hn5 : n ≤ 512 := by omega
          obtain ⟨N, hN⟩ : ∃ N, N = n * n := ⟨_, rfl⟩
          have HN := Lib.hid hN
          have hKn : K = n - 2 := h.1.symm.trans hr.2.2.1
          have HKn := Lib.hid hKn
          have pq := Lib.hid (fun W (h9 : Rl W A K c hs) => gP_yes (N := N) h9 hn5 hN hr.2.2)
          have pm := fun W (h9 : Rl W A K c hs) => rMayP11_any (n := n) (b := true) h9 ⟨fun _ => hr, fun _ => rfl⟩
          have pr := fun W (h9 : Rl W A K c hs) => rP11_any (n := n) h9 hn5 hKn (fun j e he => by have h8 := hr.2.2.2 j e he; have h7 := (List.getElem?_eq_some_iff.1 he).1; rw [h.1] at h7; omega)
          clear hN hKn hn5
          clear hr
          go_enter Try.func5, Try.ntmps5
          go_wp2_with fail
          with_reducible refine (pl _ h).mono ?_
          rintro e9 w1 ⟨rfl, hb⟩
          replace bz := bz.trans (hb.mono bz.size)
          clear hb pl
          have pq2 : Hid (Calls Try.prog 21 #[.int .i64 n, .slice A K c] w1 (GqP w1 n n N (fun L => ∃ Qs, Tq n K 0 hs Qs ∧ Qs 0 = L))) := Lib.hid (pq.out w1 (HL.out.on bz))
          clear pq
          go_wp2_with fail
          with_reducible refine pq2.out.mono ?_
          rintro e9 w2 ⟨A2, c2, L2, rfl, F2, hQ, hb⟩
          obtain ⟨Qs, T2, hQ0⟩ := hQ
          replace bz := bz.trans (hb.mono bz.size)
          clear pq2 hb
          have DB := Blk.new w2 [.int .i64 n, .int .i64 n, .slice A2 N c2] 24
          obtain ⟨hx, ex⟩ : ∃ x, w2.heap.size = x := ⟨_, rfl⟩
          rw [ex] at DB
          have hbA := (Below.refl _ w2).alloc (Nat.le_refl _) (.cells #[.int .i64 n, .int .i64 n, .slice A2 N c2] 24)
          replace F2 := F2.on hbA
          replace bz := bz.alloc bz.size (.cells #[.int .i64 n, .int .i64 n, .slice A2 N c2] 24)
          clear hbA
          go_upto_region 4 with fail
          try simp only [ex] at ⊢
          clear ex
          generalize w2.alloc (.cells #[.int .i64 n, .int .i64 n, .slice A2 N c2] 24) = w3 at DB bz F2 ⊢
          go_wp2_with fail
          with_reducible refine (pm _ (HL.out.on bz)).mono ?_
          rintro e9 w4 ⟨rfl, hb⟩
          replace DB := DB.on hb
          replace F2 := F2.on hb
          replace bz := bz.trans (hb.mono bz.size)
          clear pm hb
          go_wp2_with fail
          replace DB := DB.drew
          replace F2 := F2.drew
          replace bz := bz.drew
          refine wp_region_held_drew (S := fun w9 : World => Mbx w9 hx n n A2 N c2) (by kernel_rfl) DB (fun hS => ?_)
          generalize w4.drew = wl at hS DB F2  bz ⊢
          refine wpAnyH_take (i := 0) (v := ?v0_12) rfl (by kernel_rfl) (by kernel_rfl) (by kernel_rfl) (fun _ _ _ h => h) (Or.inl ⟨by rfl, ?hy0_12⟩) (by assumption) ?rest0_12
          case hy0_12 => (intro w9 hSw; obtain ⟨y0, y1, y2, _, _, _⟩ := Mbx.cells hSw; go_simp; try with_reducible rfl)
          try simp only [Act.put, List.setIfInBounds_toArray, List.set_cons_zero, List.set_cons_succ, List.getElem_toArray, List.getElem_cons_zero, List.getElem_cons_succ]
          refine wpAnyH_take (i := 1) (v := ?v1_13) rfl (by kernel_rfl) (by kernel_rfl) (by kernel_rfl) (fun _ _ _ h => h) (Or.inl ⟨by rfl, ?hy1_13⟩) (by assumption) ?rest1_13
          case hy1_13 => (intro w9 hSw; clear hSw; go_simp; try with_reducible rfl)
          try simp only [Act.put, List.setIfInBounds_toArray, List.set_cons_zero, List.set_cons_succ, List.getElem_toArray, List.getElem_cons_zero, List.getElem_cons_succ]
          refine wpAnyH_take (i := 2) (v := ?v2_14) rfl (by kernel_rfl) (by kernel_rfl) (by kernel_rfl) (fun _ _ _ h => h) (Or.inl ⟨by rfl, ?hy2_14⟩) (by assumption) ?rest2_14
          case hy2_14 => (intro w9 hSw; clear hSw; go_simp; try with_reducible rfl)
          try simp only [Act.put, List.setIfInBounds_toArray, List.set_cons_zero, List.set_cons_succ, List.getElem_toArray, List.getElem_cons_zero, List.getElem_cons_succ]
          refine wpAnyH_ready (rs := [3]) (by kernel_rfl) (by simp) ?_
          refine AllReadyH.cons rfl (fun K hK => ?_) AllReadyH.nil
          go_simp
          with_reducible refine (pr _ (HL.out.on bz)).mono ?_
          rintro e9 w5 ⟨A5, c5, L5, Qs5, rfl, O5, T5, hQ5, hb⟩
          have F5 := O5.fl (by rw [← hQ5]; exact (tq_is T5 (Nat.zero_le _) h.1).wd)
          have l5 : L5.length = N := by rw [← hQ5]; rw [(tq_is T5 (Nat.zero_le _) h.1).len]; exact HN.out.symm
          rw [l5] at F5
          rw [← HN.out]
          skip
          replace DB := DB.on hb
          replace F2 := F2.on hb
          replace bz := bz.trans (hb.mono bz.size)
          clear hb O5
          have HSM : Hid (sameM n n L2 n n L5 = true) := Lib.hid (sameM_of n n F2.2.2 F5.2.2 (by have h9 := Tq.same T2 T5 h.1; rw [hQ0, hQ5] at h9; exact h9))
          clear T2 T5 hQ0 hQ5 l5
          clear hS; refine hK.out _ _ DB (fun hS => ?_); clear hK K
          try simp only [Act.put, List.setIfInBounds_toArray, List.set_cons_zero, List.set_cons_succ, List.getElem_toArray, List.getElem_cons_zero, List.getElem_cons_succ]
          refine wpAnyH_ready (rs := [4]) (by kernel_rfl) (by simp) ?_
          refine AllReadyH.cons rfl (fun K hK => ?_) AllReadyH.nil
          go_simp
          have pi := wis_any (n) (n) (n) (n) F2 F5
          rw [HSM.out] at pi
          with_reducible refine pi.mono ?_
          rintro e9 w6 ⟨rfl, hb⟩
          replace DB := DB.on hb
          replace F2 := F2.on hb
          replace F5 := F5.on hb
          replace bz := bz.trans (hb.mono bz.size)
          clear hb pi
          clear hS; refine hK.out _ _ DB (fun hS => ?_); clear hK K
          try simp only [Act.put, List.setIfInBounds_toArray, List.set_cons_zero, List.set_cons_succ, List.getElem_toArray, List.getElem_cons_zero, List.getElem_cons_succ]
          refine wpAnyH_take (i := 5) (v := ?v5_15) rfl (by kernel_rfl) (by kernel_rfl) (by kernel_rfl) (fun _ _ _ h => h) (Or.inl ⟨by rfl, ?hy5_15⟩) (by assumption) ?rest5_15
          case hy5_15 => (intro w9 hSw; clear hSw; go_simp; try with_reducible rfl)
          try simp only [Act.put, List.setIfInBounds_toArray, List.set_cons_zero, List.set_cons_succ, List.getElem_toArray, List.getElem_cons_zero, List.getElem_cons_succ]
          refine wpAnyH_take (i := 6) (v := ?v6_16) rfl (by kernel_rfl) (by kernel_rfl) (by kernel_rfl) (fun _ _ _ h => h) (Or.inl ⟨by rfl, ?hy6_16⟩) (by assumption) ?rest6_16
          case hy6_16 => (intro w9 hSw; clear hSw; go_simp; try with_reducible rfl)
          try simp only [Act.put, List.setIfInBounds_toArray, List.set_cons_zero, List.set_cons_succ, List.getElem_toArray, List.getElem_cons_zero, List.getElem_cons_succ]
          refine wpAnyH_ready (rs := [7]) (by kernel_rfl) (by simp) ?_
          refine AllReadyH.cons rfl (fun K hK => ?_) AllReadyH.nil
          go_simp
          with_reducible refine (wnum_any 0 _).mono ?_
          rintro e9 w7 ⟨rfl, hb⟩
          replace DB := DB.on hb
          replace F2 := F2.on hb
          replace F5 := F5.on hb
          replace bz := bz.trans (hb.mono bz.size)
          clear hb
          clear hS; refine hK.out _ _ DB (fun hS => ?_); clear hK K
          try simp only [Act.put, List.setIfInBounds_toArray, List.set_cons_zero, List.set_cons_succ, List.getElem_toArray, List.getElem_cons_zero, List.getElem_cons_succ]
          refine wpAnyH_take (i := 8) (v := ?v8_17) rfl (by kernel_rfl) (by kernel_rfl) (by kernel_rfl) (fun _ _ _ h => h) (Or.inl ⟨by rfl, ?hy8_17⟩) (by assumption) ?rest8_17
          case hy8_17 => (intro w9 hSw; clear hSw; go_simp; try with_reducible rfl)
          try simp only [Act.put, List.setIfInBounds_toArray, List.set_cons_zero, List.set_cons_succ, List.getElem_toArray, List.getElem_cons_zero, List.getElem_cons_succ]
          refine wpAnyH_take (i := 9) (v := ?v9_18) rfl (by kernel_rfl) (by kernel_rfl) (by kernel_rfl) (fun _ _ _ h => h) (Or.inl ⟨by rfl, ?hy9_18⟩) (by assumption) ?rest9_18
          case hy9_18 => (intro w9 hSw; clear hSw; go_simp; try with_reducible rfl)
          try simp only [Act.put, List.setIfInBounds_toArray, List.set_cons_zero, List.set_cons_succ, List.getElem_toArray, List.getElem_cons_zero, List.getElem_cons_succ]
          refine wpAnyH_take (i := 10) (v := ?v10_19) rfl (by kernel_rfl) (by kernel_rfl) (by kernel_rfl) (fun _ _ _ h => h) (Or.inl ⟨by rfl, ?hy10_19⟩) (by assumption) ?rest10_19
          case hy10_19 => (intro w9 hSw; clear hSw; go_simp; try with_reducible rfl)
          try simp only [Act.put, List.setIfInBounds_toArray, List.set_cons_zero, List.set_cons_succ, List.getElem_toArray, List.getElem_cons_zero, List.getElem_cons_succ]
          refine wpAnyH_ready (rs := [11]) (by kernel_rfl) (by simp) ?_
          refine AllReadyH.cons rfl (fun K hK => ?_) AllReadyH.nil
          go_simp
          with_reducible refine (pk _).mono ?_
          rintro e9 w8 ⟨rfl, hb⟩
          replace DB := DB.on hb
          replace F2 := F2.on hb
          replace F5 := F5.on hb
          replace bz := bz.trans (hb.mono bz.size)
          clear hb
          clear hS; refine hK.out _ _ DB (fun hS => ?_); clear hK K
          try simp only [Act.put, List.setIfInBounds_toArray, List.set_cons_zero, List.set_cons_succ, List.getElem_toArray, List.getElem_cons_zero, List.getElem_cons_succ]
          refine wpAnyH_take (i := 12) (v := ?v12_20) rfl (by kernel_rfl) (by kernel_rfl) (by kernel_rfl) (fun _ _ _ h => h) (Or.inl ⟨by rfl, ?hy12_20⟩) (by assumption) ?rest12_20
          case hy12_20 => (intro w9 hSw; clear hSw; go_simp; try with_reducible rfl)
          try simp only [Act.put, List.setIfInBounds_toArray, List.set_cons_zero, List.set_cons_succ, List.getElem_toArray, List.getElem_cons_zero, List.getElem_cons_succ]
          refine wpAnyH_take (i := 13) (v := ?v13_21) rfl (by kernel_rfl) (by kernel_rfl) (by kernel_rfl) (fun _ _ _ h => h) (Or.inl ⟨by rfl, ?hy13_21⟩) (by assumption) ?rest13_21
          case hy13_21 => (intro w9 hSw; clear hSw; go_simp; try with_reducible rfl)
          try simp only [Act.put, List.setIfInBounds_toArray, List.set_cons_zero, List.set_cons_succ, List.getElem_toArray, List.getElem_cons_zero, List.getElem_cons_succ]
          refine wpAnyH_done (by kernel_rfl) ?_ _
          go_wp2_with fail
          go_ret
          exact ⟨rfl, bz⟩
      · as_aux_lemma =>
          have hr : ¬ (0 ≤ n ∧ n ≤ 512 ∧ lenB (n.toNat - 2) (n - 1) hs) := hr
          have pq := Lib.hid (fun W (h9 : Rl W A K c hs) => gP_no (n := n) h9 hr)
          have pm := fun W (h9 : Rl W A K c hs) => rMayP11_any (n := n) (b := false) h9 ⟨fun q => (by cases q), fun q => absurd q hr⟩
          clear hr
          go_enter Try.func5, Try.ntmps5
          go_wp2_with fail
          with_reducible refine (pl _ h).mono ?_
          rintro e9 w1 ⟨rfl, hb⟩
          replace bz := bz.trans (hb.mono bz.size)
          clear hb pl
          have pq2 : Hid (Calls Try.prog 21 #[.int .i64 n, .slice A K c] w1 (QnP w1 2)) := Lib.hid (pq.out w1 (HL.out.on bz))
          clear pq
          go_wp2_with fail
          with_reducible refine pq2.out.mono ?_
          rintro e9 w2 ⟨rfl, hb⟩
          replace bz := bz.trans (hb.mono bz.size)
          clear pq2 hb
          have DB := Blk.new w2 [.int .i64 0, .int .i64 0, .slice none 0 0] 24
          obtain ⟨hx, ex⟩ : ∃ x, w2.heap.size = x := ⟨_, rfl⟩
          rw [ex] at DB
          replace bz := bz.alloc bz.size (.cells #[.int .i64 0, .int .i64 0, .slice none 0 0] 24)
          go_upto_region 4 with fail
          try simp only [ex] at ⊢
          clear ex
          generalize w2.alloc (.cells #[.int .i64 0, .int .i64 0, .slice none 0 0] 24) = w3 at DB bz ⊢
          go_wp2_with fail
          with_reducible refine (pm _ (HL.out.on bz)).mono ?_
          rintro e9 w4 ⟨rfl, hb⟩
          replace DB := DB.on hb
          replace bz := bz.trans (hb.mono bz.size)
          clear pm hb
          obtain ⟨y0, y1, y2, _, _, _⟩ := Mbx.cells DB
          have pi : Hid (Calls Try.prog 19 #[mV 0 0 none 0 0, mV 0 0 none 0 0] w4 (Ans w4 (.bool true))) := Lib.hid (wis_any 0 0 0 0 (FL.nil w4) (FL.nil w4))
          go_wp2_with fail
          clear y0 y1 y2
          with_reducible refine pi.out.mono ?_
          rintro e9 w5 ⟨rfl, hb⟩
          replace bz := bz.trans (hb.mono bz.size)
          clear pi hb
          go_wp2_with fail
          with_reducible refine (wnum_any 2 _).mono ?_
          rintro e9 w6 ⟨rfl, hb⟩
          replace bz := bz.trans (hb.mono bz.size)
          clear hb
          go_wp2_with fail
          with_reducible refine (pk _).mono ?_
          rintro e9 wk ⟨rfl, hb⟩
          replace bz := bz.trans (hb.mono bz.size)
          go_wp2_with fail
          go_ret
          exact ⟨rfl, bz⟩
end Go.Proofs.Ytbaeabmmokgomaa
