/-
  Layer 10: the law of what reflections come to. (Written by wip/tools/gen_tea.py.)
-/
import Derived.Test.YtaemkjcmjgefeaaTdZ
namespace Go.Proofs.Ytaemkjcmjgefeaa
open Go.RowKit Go.Bw
set_option linter.unusedVariables false
set_option linter.unusedSimpArgs false
attribute [local go_sem] run_store_float
/-- do reflections fit n rows? -/
def Fit (n : Int) (K : Nat) (hs : List Re) : Prop := (0 ≤ n ∧ n ≤ 512 ∧ ((K : Int) = n - 2 ∨ (n < 2 ∧ K = 0))) ∧ ∀ (j : Nat) (r : Re), hs[j]? = some r → (r.l.length : Int) = n - 1 - j
theorem Fit.nat {n : Int} {K : Nat} {hs : List Re} (h : Fit n K hs) (hl : hs.length = K) : ∃ m : Nat, n = m ∧ m ≤ 512 ∧ K = m - 2 ∧ ∀ (j : Nat) (e : Re), hs[j]? = some e → e.l.length = m - 1 - j := by
  obtain ⟨⟨h1, h2, h3⟩, h4⟩ := h
  obtain ⟨m, rfl⟩ := Int.eq_ofNat_of_zero_le h1
  refine ⟨m, rfl, by omega, by omega, fun j e he => ?_⟩
  have := h4 j e he
  omega
theorem gQ_bad {n : Int} {A : Option Addr} {K c : Nat} {hs : List Re} {w : World} (h : Rl w A K c hs) (hf : ¬ Fit n K hs) : Calls Try.prog 15 #[.int .i64 n, .slice A K c] w (QnP w 2) := by
  by_cases hn : 0 ≤ n ∧ n ≤ 512
  · obtain ⟨m, rfl⟩ := Int.eq_ofNat_of_zero_le hn.1
    refine gQ_no h (by omega) (fun q => hf ⟨⟨hn.1, hn.2, by omega⟩, fun j r hr => ?_⟩)
    have h1 := q.2 j r hr
    have h2 := (List.getElem?_eq_some_iff.1 hr).1
    have h3 := h.1
    omega
  · exact gQ_size hn
set_option maxRecDepth 100000 in
set_option maxHeartbeats 16000000 in
theorem law_turns {n : Int} {A : Option Addr} {K c : Nat} {hs : List Re} {w : World} (hn : -9223372036854775808 ≤ n ∧ n ≤ 9223372036854775807) (h : Rl w A K c hs) : Calls Try.prog 4 #[.int .i64 n, .slice A K c] w (RTrue w) := by
  have hl := Lib.hid h.1
  have hKm := h.2.1
  have bz := Below.refl w.heap.size w
  have wn2 : -9223372036854775806 ≤ n → IntKind.i64.wrap (n - 2) = n - 2 := fun h9 => IntWalk.i64_in _ (by omega)
  by_cases c1 : 14 < n ∧ n ≤ 512
  · have i1 : (14 : Int) < n := c1.1
    have i2 : n ≤ 512 := c1.2
    clear c1 wn2
    go_enter Try.func4, Try.ntmps4
    go_wp2_with fail
    with_reducible refine (known_any _).mono ?_
    rintro e9 w9 ⟨rfl, hb⟩
    go_wp2_with fail
    go_ret
    exact ⟨rfl, bz.trans (hb.mono bz.size)⟩
  · by_cases c2 : 20 < K
    · skip
      have i3 : (20 : Int) < K := by omega
      by_cases c3 : 14 < n
      · have i2 : ¬ n ≤ 512 := by omega
        clear c1 c2 wn2
        go_enter Try.func4, Try.ntmps4
        go_wp2_with fail
        with_reducible refine (known_any _).mono ?_
        rintro e9 w9 ⟨rfl, hb⟩
        go_wp2_with fail
        go_ret
        exact ⟨rfl, bz.trans (hb.mono bz.size)⟩
      · skip
        clear c1 c2 wn2
        go_enter Try.func4, Try.ntmps4
        go_wp2_with fail
        with_reducible refine (known_any _).mono ?_
        rintro e9 w9 ⟨rfl, hb⟩
        go_wp2_with fail
        go_ret
        exact ⟨rfl, bz.trans (hb.mono bz.size)⟩
    · have i3 : ¬ (20 : Int) < K := by omega
      by_cases c3 : n < 0
      · have i0 : ¬ (0 : Int) ≤ n := by omega
        have i1 : ¬ (14 : Int) < n := by omega
        have HF0 : Hid (false = true ↔ ((0 ≤ n ∧ n ≤ 512 ∧ ((K : Int) = n - 2 ∨ (n < 2 ∧ K = 0))) ∧ ∀ (j : Nat) (r : Re), j < 0 → hs[j]? = some r → (r.l.length : Int) = n - 1 - j)) := Lib.hid ⟨fun h9 => (by cases h9), fun h9 => (by have h8 := h9.1; omega)⟩
        clear c1 c2 c3 wn2
        as_aux_lemma =>
          go_enter Try.func4, Try.ntmps4
          go_wp2_with fail
          go_loopw [5, 6] (fun v5 i wr => ∃ (k : Nat) (b : Bool), k ≤ K ∧ i = .int .i64 k ∧ v5 = .bool b ∧ Hid (b = true ↔ ((0 ≤ n ∧ n ≤ 512 ∧ ((K : Int) = n - 2 ∨ (n < 2 ∧ K = 0))) ∧ ∀ (j : Nat) (r : Re), j < k → hs[j]? = some r → (r.l.length : Int) = n - 1 - j)) ∧ w = wr) (fun _ i _ => K - (intOf i).toNat)
          case atStart => exact ⟨0, false, Nat.zero_le _, rfl, rfl, HF0, rfl⟩
          case round =>
            clear HF0 i0 i1 i3
            obtain ⟨k, b, hk, rfl, rfl, HB, rfl⟩ := hrel
            have k0 : (0 : Int) ≤ k := by omega
            by_cases hlt : k < K
            · have k1 : (k : Int) < K := by omega
              obtain ⟨e, ad, ea, he, rfl, hE, hl9, hc0, hc1, hv, bt⟩ := h.at_ (k := k) hlt
              have hvm := hv.max
              have HE := Lib.hid he
              clear he hv hc1
              by_cases c20 : 20 < e.l.length
              · as_aux_lemma =>
                  have i20 : (20 : Int) < (e.l.length : Int) := by omega
                  clear c20
                  go_wp2_with fail
                  with_reducible refine (known_any _).mono ?_
                  rintro e9 w9 ⟨rfl, hb⟩
                  go_wp2_with fail
                  go_ret
                  exact ⟨rfl, bz.trans (hb.mono bz.size)⟩
              · have i20 : ¬ (20 : Int) < (e.l.length : Int) := by omega
                clear c20
                cases b
                · as_aux_lemma =>
                    have HB2 : Hid (false = true ↔ ((0 ≤ n ∧ n ≤ 512 ∧ ((K : Int) = n - 2 ∨ (n < 2 ∧ K = 0))) ∧ ∀ (j : Nat) (r : Re), j < k + 1 → hs[j]? = some r → (r.l.length : Int) = n - 1 - j)) := Lib.hid ⟨fun h9 => (by cases h9), fun h9 => HB.out.2 ⟨h9.1, fun j r hj hr => h9.2 j r (by omega) hr⟩⟩
                    go_wp2_with fail
                    go_roundw
                    case rel => exact ⟨k + 1, false, by omega, by go_num, rfl, HB2, by first | rfl | trivial⟩
                    case measure => simp [intOf]; omega
                · as_aux_lemma =>
                    obtain ⟨⟨n0, n5, _⟩, _⟩ := HB.out.1 rfl
                    obtain ⟨m, rfl⟩ := Int.eq_ofNat_of_zero_le n0
                    have w1 : IntKind.i64.wrap ((m : Int) - 1) = (m : Int) - 1 := IntWalk.i64_in _ (by omega)
                    have w2 : IntKind.i64.wrap ((m : Int) - 1 - (k : Int)) = (m : Int) - 1 - (k : Int) := IntWalk.i64_in _ (by omega)
                    obtain ⟨b2, hb2⟩ : ∃ b2, ((e.l.length : Int) == (m : Int) - 1 - (k : Int)) = b2 := ⟨_, rfl⟩
                    have HB2 : Hid (b2 = true ↔ ((0 ≤ (m : Int) ∧ (m : Int) ≤ 512 ∧ ((K : Int) = m - 2 ∨ ((m : Int) < 2 ∧ K = 0))) ∧ ∀ (j : Nat) (r : Re), j < k + 1 → hs[j]? = some r → (r.l.length : Int) = m - 1 - j)) := Lib.hid (by
                      rw [← hb2, beq_iff_eq]
                      constructor
                      · intro h9
                        refine ⟨(HB.out.1 rfl).1, fun j r hj hr => ?_⟩
                        rcases Nat.lt_or_ge j k with g | g
                        · exact (HB.out.1 rfl).2 j r g hr
                        · obtain rfl : j = k := by omega
                          have h8 := HE.out
                          rw [h8] at hr
                          injection hr with hr
                          rw [← hr, h9]
                      · intro h9
                        exact h9.2 k e (by omega) HE.out)
                    go_wp2_with fail
                    go_roundw
                    case rel => exact ⟨k + 1, b2, by omega, by go_num, by first | rfl | rw [hb2] | simp [hb2], HB2, by first | rfl | trivial⟩
                    case measure => simp [intOf]; omega
            · as_aux_lemma =>
                have hkK : k = K := by omega
                have k1 : ¬ (k : Int) < K := by omega
                have HFit : Hid (b = true ↔ Fit n K hs) := Lib.hid (by
                  refine HB.out.trans ⟨fun h9 => ⟨h9.1, fun j r hr => h9.2 j r (by have := (List.getElem?_eq_some_iff.1 hr).1; have h8 := hl.out; omega) hr⟩, fun h9 => ⟨h9.1, fun j r _ hr => h9.2 j r hr⟩⟩)
                clear HB hkK hlt hk
                cases b
                · as_aux_lemma =>
                    have pq := gQ_bad h (n := n) (fun h9 => by have := HFit.out.2 h9; cases this)
                    go_wp2_with fail
                    with_reducible refine pq.mono ?_
                    rintro e9 w1 ⟨rfl, hb⟩
                    clear pq
                    replace bz := hb
                    have DM := Blk.new w1 [.int .i64 0, .int .i64 0, .slice none 0 0] 24
                    obtain ⟨BM, eM⟩ : ∃ H, w1.heap.size = H := ⟨_, rfl⟩
                    rw [eM] at DM
                    replace bz := bz.alloc bz.size (.cells #[.int .i64 0, .int .i64 0, .slice none 0 0] 24)
                    go_upto_region 12 with fail
                    try simp only [eM] at ⊢
                    clear eM
                    generalize w1.alloc (.cells #[.int .i64 0, .int .i64 0, .slice none 0 0] 24) = W1 at DM bz ⊢
                    obtain ⟨y0, y1, y2, _, _, _⟩ := Mbx.cells DM
                    have ps := rSameM_any (R := 0) (C := 0) (FL.nil W1) (FL.nil W1) (fun k hk => absurd hk (by omega))
                    go_wp2_with fail
                    with_reducible refine ps.mono ?_
                    rintro e9 w4 ⟨rfl, hb⟩
                    replace bz := bz.trans (hb.mono bz.size)
                    clear hb ps y0 y1 y2 DM
                    go_wp2_with fail
                    with_reducible refine (known_any _).mono ?_
                    rintro e9 w9 ⟨rfl, hb⟩
                    go_wp2_with fail
                    go_ret
                    exact ⟨rfl, bz.trans (hb.mono bz.size)⟩
                · as_aux_lemma =>
                    obtain ⟨m, rfl, hm5, hKm2, hlen⟩ := (HFit.out.1 rfl).nat hl.out
                    have HK := Lib.hid hKm2
                    have HLN := Lib.hid hlen
                    have pq := gQ_yes h hm5 hKm2 hlen
                    clear hKm2 hlen HFit
                    go_wp2_with fail
                    with_reducible refine pq.mono ?_
                    rintro e9 w1 ⟨A3, c3, L3, Qs, rfl, O3, T3, hQ3, hb⟩
                    have IW := (tq_is T3 (Nat.zero_le _) hl.out)
                    rw [hQ3] at IW
                    have F3 := O3.fl IW.wd
                    rw [IW.len] at F3
                    have HT3 := Lib.hid T3
                    have HQ3 := Lib.hid hQ3
                    clear pq O3 T3 hQ3 IW
                    have h2 := h.on hb
                    have bz2 := bz.trans (hb.mono bz.size)
                    clear hb
                    obtain ⟨N, hN⟩ : ∃ N, m * m = N := ⟨_, rfl⟩
                    rw [hN] at F3 ⊢
                    have HN := Lib.hid hN
                    clear hN
                    have DM := Blk.new w1 [.int .i64 m, .int .i64 m, .slice A3 N c3] 24
                    obtain ⟨BM, eM⟩ : ∃ H, w1.heap.size = H := ⟨_, rfl⟩
                    rw [eM] at DM
                    have hbA := (Below.refl _ w1).alloc (Nat.le_refl _) (.cells #[.int .i64 m, .int .i64 m, .slice A3 N c3] 24)
                    replace h2 := h2.on hbA
                    replace F3 := F3.on hbA
                    replace bz2 := bz2.trans (hbA.mono bz2.size)
                    clear hbA
                    go_upto_region 13 with fail
                    try simp only [eM] at ⊢
                    clear eM
                    generalize w1.alloc (.cells #[.int .i64 m, .int .i64 m, .slice A3 N c3] 24) = W1 at DM h2 F3 bz2 ⊢
                    clear h bz
                    have h := h2
                    have bz := bz2
                    clear h2 bz2
                    go_wp2_with fail
                    replace DM := DM.drew
                    replace F3 := F3.drew
                    replace bz := bz.drew
                    replace h := h.on ((Below.refl _ W1).drew)
                    refine wp_region_held_drew (S := fun w9 : World => Mbx w9 BM m m A3 N c3) (by kernel_rfl) DM (fun hS => ?_)
                    generalize W1.drew = wl at hS DM h F3  bz ⊢
                    refine wpAnyH_take (i := 0) (v := ?v0_1) rfl (by kernel_rfl) (by kernel_rfl) (by kernel_rfl) (fun _ _ _ h => h) (Or.inl ⟨by rfl, ?hy0_1⟩) (by assumption) ?rest0_1
                    case hy0_1 => (intro w9 hSw; clear hSw; go_simp; try with_reducible rfl)
                    try simp only [Act.put, List.setIfInBounds_toArray, List.set_cons_zero, List.set_cons_succ, List.getElem_toArray, List.getElem_cons_zero, List.getElem_cons_succ]
                    refine wpAnyH_take (i := 1) (v := ?v1_2) rfl (by kernel_rfl) (by kernel_rfl) (by kernel_rfl) (fun _ _ _ h => h) (Or.inl ⟨by rfl, ?hy1_2⟩) (by assumption) ?rest1_2
                    case hy1_2 => (intro w9 hSw; clear hSw; go_simp; try with_reducible rfl)
                    try simp only [Act.put, List.setIfInBounds_toArray, List.set_cons_zero, List.set_cons_succ, List.getElem_toArray, List.getElem_cons_zero, List.getElem_cons_succ]
                    refine wpAnyH_take (i := 2) (v := ?v2_3) rfl (by kernel_rfl) (by kernel_rfl) (by kernel_rfl) (fun _ _ _ h => h) (Or.inl ⟨by rfl, ?hy2_3⟩) (by assumption) ?rest2_3
                    case hy2_3 => (intro w9 hSw; clear hSw; go_simp; try with_reducible rfl)
                    try simp only [Act.put, List.setIfInBounds_toArray, List.set_cons_zero, List.set_cons_succ, List.getElem_toArray, List.getElem_cons_zero, List.getElem_cons_succ]
                    refine wpAnyH_take (i := 3) (v := ?v3_4) rfl (by kernel_rfl) (by kernel_rfl) (by kernel_rfl) (fun _ _ _ h => h) (Or.inl ⟨by rfl, ?hy3_4⟩) (by assumption) ?rest3_4
                    case hy3_4 => (intro w9 hSw; obtain ⟨y0, y1, y2, _, _, _⟩ := Mbx.cells hSw; go_simp; try with_reducible rfl)
                    try simp only [Act.put, List.setIfInBounds_toArray, List.set_cons_zero, List.set_cons_succ, List.getElem_toArray, List.getElem_cons_zero, List.getElem_cons_succ]
                    refine wpAnyH_take (i := 4) (v := ?v4_5) rfl (by kernel_rfl) (by kernel_rfl) (by kernel_rfl) (fun _ _ _ h => h) (Or.inl ⟨by rfl, ?hy4_5⟩) (by assumption) ?rest4_5
                    case hy4_5 => (intro w9 hSw; clear hSw; go_simp; try with_reducible rfl)
                    try simp only [Act.put, List.setIfInBounds_toArray, List.set_cons_zero, List.set_cons_succ, List.getElem_toArray, List.getElem_cons_zero, List.getElem_cons_succ]
                    refine wpAnyH_take (i := 5) (v := ?v5_6) rfl (by kernel_rfl) (by kernel_rfl) (by kernel_rfl) (fun _ _ _ h => h) (Or.inl ⟨by rfl, ?hy5_6⟩) (by assumption) ?rest5_6
                    case hy5_6 => (intro w9 hSw; clear hSw; go_simp; try with_reducible rfl)
                    try simp only [Act.put, List.setIfInBounds_toArray, List.set_cons_zero, List.set_cons_succ, List.getElem_toArray, List.getElem_cons_zero, List.getElem_cons_succ]
                    refine wpAnyH_ready (rs := [6]) (by kernel_rfl) (by simp) ?_
                    refine AllReadyH.cons rfl (fun K hK => ?_) AllReadyH.nil
                    go_simp
                    with_reducible refine (rQ_any h hm5 HK.out HLN.out).mono ?_
                    rintro e9 w5 ⟨A5, c5, L5, Ps, rfl, O5, T5, hQ5, hb⟩
                    have IV := (tq_is T5 (Nat.zero_le _) hl.out)
                    rw [hQ5] at IV
                    have F5 := O5.fl IV.wd
                    rw [IV.len] at F5
                    have HS : Hid (SameF L3 L5) := Lib.hid (by rw [← HQ3.out, ← hQ5]; exact Tq.same HT3.out T5 hl.out)
                    clear O5 T5 hQ5 IV
                    rw [HN.out] at F5 ⊢
                    replace DM := DM.on hb
                    replace h := h.on hb
                    replace F3 := F3.on hb
                    replace bz := bz.trans (hb.mono bz.size)
                    clear hb
                    clear hS; refine hK.out _ _ DM (fun hS => ?_); clear hK K
                    try simp only [Act.put, List.setIfInBounds_toArray, List.set_cons_zero, List.set_cons_succ, List.getElem_toArray, List.getElem_cons_zero, List.getElem_cons_succ]
                    refine wpAnyH_ready (rs := [7]) (by kernel_rfl) (by simp) ?_
                    refine AllReadyH.cons rfl (fun K hK => ?_) AllReadyH.nil
                    go_simp
                    with_reducible refine (rSameM_any (R := m) (C := m) F3 F5 (fun k hk => HS.out.at_ k)).mono ?_
                    rintro e9 w6 ⟨rfl, hb⟩
                    replace DM := DM.on hb
                    replace h := h.on hb
                    replace F3 := F3.on hb
                    replace F5 := F5.on hb
                    replace bz := bz.trans (hb.mono bz.size)
                    clear hb
                    clear hS; refine hK.out _ _ DM (fun hS => ?_); clear hK K
                    try simp only [Act.put, List.setIfInBounds_toArray, List.set_cons_zero, List.set_cons_succ, List.getElem_toArray, List.getElem_cons_zero, List.getElem_cons_succ]
                    refine wpAnyH_take (i := 8) (v := ?v8_7) rfl (by kernel_rfl) (by kernel_rfl) (by kernel_rfl) (fun _ _ _ h => h) (Or.inl ⟨by rfl, ?hy8_7⟩) (by assumption) ?rest8_7
                    case hy8_7 => (intro w9 hSw; clear hSw; go_simp; try with_reducible rfl)
                    try simp only [Act.put, List.setIfInBounds_toArray, List.set_cons_zero, List.set_cons_succ, List.getElem_toArray, List.getElem_cons_zero, List.getElem_cons_succ]
                    refine wpAnyH_take (i := 9) (v := ?v9_8) rfl (by kernel_rfl) (by kernel_rfl) (by kernel_rfl) (fun _ _ _ h => h) (Or.inl ⟨by rfl, ?hy9_8⟩) (by assumption) ?rest9_8
                    case hy9_8 => (intro w9 hSw; clear hSw; go_simp; try with_reducible rfl)
                    try simp only [Act.put, List.setIfInBounds_toArray, List.set_cons_zero, List.set_cons_succ, List.getElem_toArray, List.getElem_cons_zero, List.getElem_cons_succ]
                    refine wpAnyH_ready (rs := [10]) (by kernel_rfl) (by simp) ?_
                    refine AllReadyH.cons rfl (fun K hK => ?_) AllReadyH.nil
                    go_simp
                    with_reducible refine (known_any _).mono ?_
                    rintro e9 w7 ⟨rfl, hb⟩
                    replace DM := DM.on hb
                    replace h := h.on hb
                    replace F3 := F3.on hb
                    replace F5 := F5.on hb
                    replace bz := bz.trans (hb.mono bz.size)
                    clear hb
                    clear hS; refine hK.out _ _ DM (fun hS => ?_); clear hK K
                    try simp only [Act.put, List.setIfInBounds_toArray, List.set_cons_zero, List.set_cons_succ, List.getElem_toArray, List.getElem_cons_zero, List.getElem_cons_succ]
                    refine wpAnyH_take (i := 11) (v := ?v11_9) rfl (by kernel_rfl) (by kernel_rfl) (by kernel_rfl) (fun _ _ _ h => h) (Or.inl ⟨by rfl, ?hy11_9⟩) (by assumption) ?rest11_9
                    case hy11_9 => (intro w9 hSw; clear hSw; go_simp; try with_reducible rfl)
                    try simp only [Act.put, List.setIfInBounds_toArray, List.set_cons_zero, List.set_cons_succ, List.getElem_toArray, List.getElem_cons_zero, List.getElem_cons_succ]
                    refine wpAnyH_take (i := 12) (v := ?v12_10) rfl (by kernel_rfl) (by kernel_rfl) (by kernel_rfl) (fun _ _ _ h => h) (Or.inl ⟨by rfl, ?hy12_10⟩) (by assumption) ?rest12_10
                    case hy12_10 => (intro w9 hSw; clear hSw; go_simp; try with_reducible rfl)
                    try simp only [Act.put, List.setIfInBounds_toArray, List.set_cons_zero, List.set_cons_succ, List.getElem_toArray, List.getElem_cons_zero, List.getElem_cons_succ]
                    refine wpAnyH_done (by kernel_rfl) ?_ _
                    go_wp2_with fail
                    go_ret
                    exact ⟨rfl, bz⟩
      · by_cases c4 : 14 < n
        · have i0 : (0 : Int) ≤ n := by omega
          have i2 : ¬ n ≤ 512 := by omega
          have HF0 : Hid (false = true ↔ ((0 ≤ n ∧ n ≤ 512 ∧ ((K : Int) = n - 2 ∨ (n < 2 ∧ K = 0))) ∧ ∀ (j : Nat) (r : Re), j < 0 → hs[j]? = some r → (r.l.length : Int) = n - 1 - j)) := Lib.hid ⟨fun h9 => (by cases h9), fun h9 => (by have h8 := h9.1; omega)⟩
          clear c1 c2 c3 wn2
          as_aux_lemma =>
            go_enter Try.func4, Try.ntmps4
            go_wp2_with fail
            go_loopw [5, 6] (fun v5 i wr => ∃ (k : Nat) (b : Bool), k ≤ K ∧ i = .int .i64 k ∧ v5 = .bool b ∧ Hid (b = true ↔ ((0 ≤ n ∧ n ≤ 512 ∧ ((K : Int) = n - 2 ∨ (n < 2 ∧ K = 0))) ∧ ∀ (j : Nat) (r : Re), j < k → hs[j]? = some r → (r.l.length : Int) = n - 1 - j)) ∧ w = wr) (fun _ i _ => K - (intOf i).toNat)
            case atStart => exact ⟨0, false, Nat.zero_le _, rfl, rfl, HF0, rfl⟩
            case round =>
              clear HF0 i0 i2 i3 c4
              obtain ⟨k, b, hk, rfl, rfl, HB, rfl⟩ := hrel
              have k0 : (0 : Int) ≤ k := by omega
              by_cases hlt : k < K
              · have k1 : (k : Int) < K := by omega
                obtain ⟨e, ad, ea, he, rfl, hE, hl9, hc0, hc1, hv, bt⟩ := h.at_ (k := k) hlt
                have hvm := hv.max
                have HE := Lib.hid he
                clear he hv hc1
                by_cases c20 : 20 < e.l.length
                · as_aux_lemma =>
                    have i20 : (20 : Int) < (e.l.length : Int) := by omega
                    clear c20
                    go_wp2_with fail
                    with_reducible refine (known_any _).mono ?_
                    rintro e9 w9 ⟨rfl, hb⟩
                    go_wp2_with fail
                    go_ret
                    exact ⟨rfl, bz.trans (hb.mono bz.size)⟩
                · have i20 : ¬ (20 : Int) < (e.l.length : Int) := by omega
                  clear c20
                  cases b
                  · as_aux_lemma =>
                      have HB2 : Hid (false = true ↔ ((0 ≤ n ∧ n ≤ 512 ∧ ((K : Int) = n - 2 ∨ (n < 2 ∧ K = 0))) ∧ ∀ (j : Nat) (r : Re), j < k + 1 → hs[j]? = some r → (r.l.length : Int) = n - 1 - j)) := Lib.hid ⟨fun h9 => (by cases h9), fun h9 => HB.out.2 ⟨h9.1, fun j r hj hr => h9.2 j r (by omega) hr⟩⟩
                      go_wp2_with fail
                      go_roundw
                      case rel => exact ⟨k + 1, false, by omega, by go_num, rfl, HB2, by first | rfl | trivial⟩
                      case measure => simp [intOf]; omega
                  · as_aux_lemma =>
                      obtain ⟨⟨n0, n5, _⟩, _⟩ := HB.out.1 rfl
                      obtain ⟨m, rfl⟩ := Int.eq_ofNat_of_zero_le n0
                      have w1 : IntKind.i64.wrap ((m : Int) - 1) = (m : Int) - 1 := IntWalk.i64_in _ (by omega)
                      have w2 : IntKind.i64.wrap ((m : Int) - 1 - (k : Int)) = (m : Int) - 1 - (k : Int) := IntWalk.i64_in _ (by omega)
                      obtain ⟨b2, hb2⟩ : ∃ b2, ((e.l.length : Int) == (m : Int) - 1 - (k : Int)) = b2 := ⟨_, rfl⟩
                      have HB2 : Hid (b2 = true ↔ ((0 ≤ (m : Int) ∧ (m : Int) ≤ 512 ∧ ((K : Int) = m - 2 ∨ ((m : Int) < 2 ∧ K = 0))) ∧ ∀ (j : Nat) (r : Re), j < k + 1 → hs[j]? = some r → (r.l.length : Int) = m - 1 - j)) := Lib.hid (by
                        rw [← hb2, beq_iff_eq]
                        constructor
                        · intro h9
                          refine ⟨(HB.out.1 rfl).1, fun j r hj hr => ?_⟩
                          rcases Nat.lt_or_ge j k with g | g
                          · exact (HB.out.1 rfl).2 j r g hr
                          · obtain rfl : j = k := by omega
                            have h8 := HE.out
                            rw [h8] at hr
                            injection hr with hr
                            rw [← hr, h9]
                        · intro h9
                          exact h9.2 k e (by omega) HE.out)
                      go_wp2_with fail
                      go_roundw
                      case rel => exact ⟨k + 1, b2, by omega, by go_num, by first | rfl | rw [hb2] | simp [hb2], HB2, by first | rfl | trivial⟩
                      case measure => simp [intOf]; omega
              · as_aux_lemma =>
                  have hkK : k = K := by omega
                  have k1 : ¬ (k : Int) < K := by omega
                  have HFit : Hid (b = true ↔ Fit n K hs) := Lib.hid (by
                    refine HB.out.trans ⟨fun h9 => ⟨h9.1, fun j r hr => h9.2 j r (by have := (List.getElem?_eq_some_iff.1 hr).1; have h8 := hl.out; omega) hr⟩, fun h9 => ⟨h9.1, fun j r _ hr => h9.2 j r hr⟩⟩)
                  clear HB hkK hlt hk
                  cases b
                  · as_aux_lemma =>
                      have pq := gQ_bad h (n := n) (fun h9 => by have := HFit.out.2 h9; cases this)
                      go_wp2_with fail
                      with_reducible refine pq.mono ?_
                      rintro e9 w1 ⟨rfl, hb⟩
                      clear pq
                      replace bz := hb
                      have DM := Blk.new w1 [.int .i64 0, .int .i64 0, .slice none 0 0] 24
                      obtain ⟨BM, eM⟩ : ∃ H, w1.heap.size = H := ⟨_, rfl⟩
                      rw [eM] at DM
                      replace bz := bz.alloc bz.size (.cells #[.int .i64 0, .int .i64 0, .slice none 0 0] 24)
                      go_upto_region 12 with fail
                      try simp only [eM] at ⊢
                      clear eM
                      generalize w1.alloc (.cells #[.int .i64 0, .int .i64 0, .slice none 0 0] 24) = W1 at DM bz ⊢
                      obtain ⟨y0, y1, y2, _, _, _⟩ := Mbx.cells DM
                      have ps := rSameM_any (R := 0) (C := 0) (FL.nil W1) (FL.nil W1) (fun k hk => absurd hk (by omega))
                      go_wp2_with fail
                      with_reducible refine ps.mono ?_
                      rintro e9 w4 ⟨rfl, hb⟩
                      replace bz := bz.trans (hb.mono bz.size)
                      clear hb ps y0 y1 y2 DM
                      go_wp2_with fail
                      with_reducible refine (known_any _).mono ?_
                      rintro e9 w9 ⟨rfl, hb⟩
                      go_wp2_with fail
                      go_ret
                      exact ⟨rfl, bz.trans (hb.mono bz.size)⟩
                  · as_aux_lemma =>
                      obtain ⟨m, rfl, hm5, hKm2, hlen⟩ := (HFit.out.1 rfl).nat hl.out
                      have HK := Lib.hid hKm2
                      have HLN := Lib.hid hlen
                      have pq := gQ_yes h hm5 hKm2 hlen
                      clear hKm2 hlen HFit
                      go_wp2_with fail
                      with_reducible refine pq.mono ?_
                      rintro e9 w1 ⟨A3, c3, L3, Qs, rfl, O3, T3, hQ3, hb⟩
                      have IW := (tq_is T3 (Nat.zero_le _) hl.out)
                      rw [hQ3] at IW
                      have F3 := O3.fl IW.wd
                      rw [IW.len] at F3
                      have HT3 := Lib.hid T3
                      have HQ3 := Lib.hid hQ3
                      clear pq O3 T3 hQ3 IW
                      have h2 := h.on hb
                      have bz2 := bz.trans (hb.mono bz.size)
                      clear hb
                      obtain ⟨N, hN⟩ : ∃ N, m * m = N := ⟨_, rfl⟩
                      rw [hN] at F3 ⊢
                      have HN := Lib.hid hN
                      clear hN
                      have DM := Blk.new w1 [.int .i64 m, .int .i64 m, .slice A3 N c3] 24
                      obtain ⟨BM, eM⟩ : ∃ H, w1.heap.size = H := ⟨_, rfl⟩
                      rw [eM] at DM
                      have hbA := (Below.refl _ w1).alloc (Nat.le_refl _) (.cells #[.int .i64 m, .int .i64 m, .slice A3 N c3] 24)
                      replace h2 := h2.on hbA
                      replace F3 := F3.on hbA
                      replace bz2 := bz2.trans (hbA.mono bz2.size)
                      clear hbA
                      go_upto_region 13 with fail
                      try simp only [eM] at ⊢
                      clear eM
                      generalize w1.alloc (.cells #[.int .i64 m, .int .i64 m, .slice A3 N c3] 24) = W1 at DM h2 F3 bz2 ⊢
                      clear h bz
                      have h := h2
                      have bz := bz2
                      clear h2 bz2
                      go_wp2_with fail
                      replace DM := DM.drew
                      replace F3 := F3.drew
                      replace bz := bz.drew
                      replace h := h.on ((Below.refl _ W1).drew)
                      refine wp_region_held_drew (S := fun w9 : World => Mbx w9 BM m m A3 N c3) (by kernel_rfl) DM (fun hS => ?_)
                      generalize W1.drew = wl at hS DM h F3  bz ⊢
                      refine wpAnyH_take (i := 0) (v := ?v0_11) rfl (by kernel_rfl) (by kernel_rfl) (by kernel_rfl) (fun _ _ _ h => h) (Or.inl ⟨by rfl, ?hy0_11⟩) (by assumption) ?rest0_11
                      case hy0_11 => (intro w9 hSw; clear hSw; go_simp; try with_reducible rfl)
                      try simp only [Act.put, List.setIfInBounds_toArray, List.set_cons_zero, List.set_cons_succ, List.getElem_toArray, List.getElem_cons_zero, List.getElem_cons_succ]
                      refine wpAnyH_take (i := 1) (v := ?v1_12) rfl (by kernel_rfl) (by kernel_rfl) (by kernel_rfl) (fun _ _ _ h => h) (Or.inl ⟨by rfl, ?hy1_12⟩) (by assumption) ?rest1_12
                      case hy1_12 => (intro w9 hSw; clear hSw; go_simp; try with_reducible rfl)
                      try simp only [Act.put, List.setIfInBounds_toArray, List.set_cons_zero, List.set_cons_succ, List.getElem_toArray, List.getElem_cons_zero, List.getElem_cons_succ]
                      refine wpAnyH_take (i := 2) (v := ?v2_13) rfl (by kernel_rfl) (by kernel_rfl) (by kernel_rfl) (fun _ _ _ h => h) (Or.inl ⟨by rfl, ?hy2_13⟩) (by assumption) ?rest2_13
                      case hy2_13 => (intro w9 hSw; clear hSw; go_simp; try with_reducible rfl)
                      try simp only [Act.put, List.setIfInBounds_toArray, List.set_cons_zero, List.set_cons_succ, List.getElem_toArray, List.getElem_cons_zero, List.getElem_cons_succ]
                      refine wpAnyH_take (i := 3) (v := ?v3_14) rfl (by kernel_rfl) (by kernel_rfl) (by kernel_rfl) (fun _ _ _ h => h) (Or.inl ⟨by rfl, ?hy3_14⟩) (by assumption) ?rest3_14
                      case hy3_14 => (intro w9 hSw; obtain ⟨y0, y1, y2, _, _, _⟩ := Mbx.cells hSw; go_simp; try with_reducible rfl)
                      try simp only [Act.put, List.setIfInBounds_toArray, List.set_cons_zero, List.set_cons_succ, List.getElem_toArray, List.getElem_cons_zero, List.getElem_cons_succ]
                      refine wpAnyH_take (i := 4) (v := ?v4_15) rfl (by kernel_rfl) (by kernel_rfl) (by kernel_rfl) (fun _ _ _ h => h) (Or.inl ⟨by rfl, ?hy4_15⟩) (by assumption) ?rest4_15
                      case hy4_15 => (intro w9 hSw; clear hSw; go_simp; try with_reducible rfl)
                      try simp only [Act.put, List.setIfInBounds_toArray, List.set_cons_zero, List.set_cons_succ, List.getElem_toArray, List.getElem_cons_zero, List.getElem_cons_succ]
                      refine wpAnyH_take (i := 5) (v := ?v5_16) rfl (by kernel_rfl) (by kernel_rfl) (by kernel_rfl) (fun _ _ _ h => h) (Or.inl ⟨by rfl, ?hy5_16⟩) (by assumption) ?rest5_16
                      case hy5_16 => (intro w9 hSw; clear hSw; go_simp; try with_reducible rfl)
                      try simp only [Act.put, List.setIfInBounds_toArray, List.set_cons_zero, List.set_cons_succ, List.getElem_toArray, List.getElem_cons_zero, List.getElem_cons_succ]
                      refine wpAnyH_ready (rs := [6]) (by kernel_rfl) (by simp) ?_
                      refine AllReadyH.cons rfl (fun K hK => ?_) AllReadyH.nil
                      go_simp
                      with_reducible refine (rQ_any h hm5 HK.out HLN.out).mono ?_
                      rintro e9 w5 ⟨A5, c5, L5, Ps, rfl, O5, T5, hQ5, hb⟩
                      have IV := (tq_is T5 (Nat.zero_le _) hl.out)
                      rw [hQ5] at IV
                      have F5 := O5.fl IV.wd
                      rw [IV.len] at F5
                      have HS : Hid (SameF L3 L5) := Lib.hid (by rw [← HQ3.out, ← hQ5]; exact Tq.same HT3.out T5 hl.out)
                      clear O5 T5 hQ5 IV
                      rw [HN.out] at F5 ⊢
                      replace DM := DM.on hb
                      replace h := h.on hb
                      replace F3 := F3.on hb
                      replace bz := bz.trans (hb.mono bz.size)
                      clear hb
                      clear hS; refine hK.out _ _ DM (fun hS => ?_); clear hK K
                      try simp only [Act.put, List.setIfInBounds_toArray, List.set_cons_zero, List.set_cons_succ, List.getElem_toArray, List.getElem_cons_zero, List.getElem_cons_succ]
                      refine wpAnyH_ready (rs := [7]) (by kernel_rfl) (by simp) ?_
                      refine AllReadyH.cons rfl (fun K hK => ?_) AllReadyH.nil
                      go_simp
                      with_reducible refine (rSameM_any (R := m) (C := m) F3 F5 (fun k hk => HS.out.at_ k)).mono ?_
                      rintro e9 w6 ⟨rfl, hb⟩
                      replace DM := DM.on hb
                      replace h := h.on hb
                      replace F3 := F3.on hb
                      replace F5 := F5.on hb
                      replace bz := bz.trans (hb.mono bz.size)
                      clear hb
                      clear hS; refine hK.out _ _ DM (fun hS => ?_); clear hK K
                      try simp only [Act.put, List.setIfInBounds_toArray, List.set_cons_zero, List.set_cons_succ, List.getElem_toArray, List.getElem_cons_zero, List.getElem_cons_succ]
                      refine wpAnyH_take (i := 8) (v := ?v8_17) rfl (by kernel_rfl) (by kernel_rfl) (by kernel_rfl) (fun _ _ _ h => h) (Or.inl ⟨by rfl, ?hy8_17⟩) (by assumption) ?rest8_17
                      case hy8_17 => (intro w9 hSw; clear hSw; go_simp; try with_reducible rfl)
                      try simp only [Act.put, List.setIfInBounds_toArray, List.set_cons_zero, List.set_cons_succ, List.getElem_toArray, List.getElem_cons_zero, List.getElem_cons_succ]
                      refine wpAnyH_take (i := 9) (v := ?v9_18) rfl (by kernel_rfl) (by kernel_rfl) (by kernel_rfl) (fun _ _ _ h => h) (Or.inl ⟨by rfl, ?hy9_18⟩) (by assumption) ?rest9_18
                      case hy9_18 => (intro w9 hSw; clear hSw; go_simp; try with_reducible rfl)
                      try simp only [Act.put, List.setIfInBounds_toArray, List.set_cons_zero, List.set_cons_succ, List.getElem_toArray, List.getElem_cons_zero, List.getElem_cons_succ]
                      refine wpAnyH_ready (rs := [10]) (by kernel_rfl) (by simp) ?_
                      refine AllReadyH.cons rfl (fun K hK => ?_) AllReadyH.nil
                      go_simp
                      with_reducible refine (known_any _).mono ?_
                      rintro e9 w7 ⟨rfl, hb⟩
                      replace DM := DM.on hb
                      replace h := h.on hb
                      replace F3 := F3.on hb
                      replace F5 := F5.on hb
                      replace bz := bz.trans (hb.mono bz.size)
                      clear hb
                      clear hS; refine hK.out _ _ DM (fun hS => ?_); clear hK K
                      try simp only [Act.put, List.setIfInBounds_toArray, List.set_cons_zero, List.set_cons_succ, List.getElem_toArray, List.getElem_cons_zero, List.getElem_cons_succ]
                      refine wpAnyH_take (i := 11) (v := ?v11_19) rfl (by kernel_rfl) (by kernel_rfl) (by kernel_rfl) (fun _ _ _ h => h) (Or.inl ⟨by rfl, ?hy11_19⟩) (by assumption) ?rest11_19
                      case hy11_19 => (intro w9 hSw; clear hSw; go_simp; try with_reducible rfl)
                      try simp only [Act.put, List.setIfInBounds_toArray, List.set_cons_zero, List.set_cons_succ, List.getElem_toArray, List.getElem_cons_zero, List.getElem_cons_succ]
                      refine wpAnyH_take (i := 12) (v := ?v12_20) rfl (by kernel_rfl) (by kernel_rfl) (by kernel_rfl) (fun _ _ _ h => h) (Or.inl ⟨by rfl, ?hy12_20⟩) (by assumption) ?rest12_20
                      case hy12_20 => (intro w9 hSw; clear hSw; go_simp; try with_reducible rfl)
                      try simp only [Act.put, List.setIfInBounds_toArray, List.set_cons_zero, List.set_cons_succ, List.getElem_toArray, List.getElem_cons_zero, List.getElem_cons_succ]
                      refine wpAnyH_done (by kernel_rfl) ?_ _
                      go_wp2_with fail
                      go_ret
                      exact ⟨rfl, bz⟩
        · have i0 : (0 : Int) ≤ n := by omega
          have i2 : n ≤ 512 := by omega
          have i1 : ¬ (14 : Int) < n := by omega
          replace wn2 := wn2 (by omega)
          by_cases c5 : n < 2
          · skip
            have d0 : ((K : Int) == n - 2) = false := by simpa using (by omega : ¬ (K : Int) = n - 2)
            by_cases c6 : K = 0
            · have d1 : ((K : Int) == 0) = true := by simpa using c6
              have HF0 : Hid (0 ≤ n ∧ n ≤ 512 ∧ ((K : Int) = n - 2 ∨ (n < 2 ∧ K = 0))) := Lib.hid (by omega)
              clear c1 c2 c3 c4 c6
              as_aux_lemma =>
                go_enter Try.func4, Try.ntmps4
                go_wp2_with fail
                go_loopw [5, 6] (fun v5 i wr => ∃ (k : Nat) (b : Bool), k ≤ K ∧ i = .int .i64 k ∧ v5 = .bool b ∧ Hid (b = true ↔ ((0 ≤ n ∧ n ≤ 512 ∧ ((K : Int) = n - 2 ∨ (n < 2 ∧ K = 0))) ∧ ∀ (j : Nat) (r : Re), j < k → hs[j]? = some r → (r.l.length : Int) = n - 1 - j)) ∧ w = wr) (fun _ i _ => K - (intOf i).toNat)
                case atStart => exact ⟨0, true, Nat.zero_le _, rfl, rfl, Lib.hid ⟨fun _ => ⟨HF0.out, fun j r hj _ => absurd hj (Nat.not_lt_zero j)⟩, fun _ => rfl⟩, rfl⟩
                case round =>
                  clear HF0 i0 i1 i2 i3 d0 d1 c5 wn2
                  obtain ⟨k, b, hk, rfl, rfl, HB, rfl⟩ := hrel
                  have k0 : (0 : Int) ≤ k := by omega
                  by_cases hlt : k < K
                  · have k1 : (k : Int) < K := by omega
                    obtain ⟨e, ad, ea, he, rfl, hE, hl9, hc0, hc1, hv, bt⟩ := h.at_ (k := k) hlt
                    have hvm := hv.max
                    have HE := Lib.hid he
                    clear he hv hc1
                    by_cases c20 : 20 < e.l.length
                    · as_aux_lemma =>
                        have i20 : (20 : Int) < (e.l.length : Int) := by omega
                        clear c20
                        go_wp2_with fail
                        with_reducible refine (known_any _).mono ?_
                        rintro e9 w9 ⟨rfl, hb⟩
                        go_wp2_with fail
                        go_ret
                        exact ⟨rfl, bz.trans (hb.mono bz.size)⟩
                    · have i20 : ¬ (20 : Int) < (e.l.length : Int) := by omega
                      clear c20
                      cases b
                      · as_aux_lemma =>
                          have HB2 : Hid (false = true ↔ ((0 ≤ n ∧ n ≤ 512 ∧ ((K : Int) = n - 2 ∨ (n < 2 ∧ K = 0))) ∧ ∀ (j : Nat) (r : Re), j < k + 1 → hs[j]? = some r → (r.l.length : Int) = n - 1 - j)) := Lib.hid ⟨fun h9 => (by cases h9), fun h9 => HB.out.2 ⟨h9.1, fun j r hj hr => h9.2 j r (by omega) hr⟩⟩
                          go_wp2_with fail
                          go_roundw
                          case rel => exact ⟨k + 1, false, by omega, by go_num, rfl, HB2, by first | rfl | trivial⟩
                          case measure => simp [intOf]; omega
                      · as_aux_lemma =>
                          obtain ⟨⟨n0, n5, _⟩, _⟩ := HB.out.1 rfl
                          obtain ⟨m, rfl⟩ := Int.eq_ofNat_of_zero_le n0
                          have w1 : IntKind.i64.wrap ((m : Int) - 1) = (m : Int) - 1 := IntWalk.i64_in _ (by omega)
                          have w2 : IntKind.i64.wrap ((m : Int) - 1 - (k : Int)) = (m : Int) - 1 - (k : Int) := IntWalk.i64_in _ (by omega)
                          obtain ⟨b2, hb2⟩ : ∃ b2, ((e.l.length : Int) == (m : Int) - 1 - (k : Int)) = b2 := ⟨_, rfl⟩
                          have HB2 : Hid (b2 = true ↔ ((0 ≤ (m : Int) ∧ (m : Int) ≤ 512 ∧ ((K : Int) = m - 2 ∨ ((m : Int) < 2 ∧ K = 0))) ∧ ∀ (j : Nat) (r : Re), j < k + 1 → hs[j]? = some r → (r.l.length : Int) = m - 1 - j)) := Lib.hid (by
                            rw [← hb2, beq_iff_eq]
                            constructor
                            · intro h9
                              refine ⟨(HB.out.1 rfl).1, fun j r hj hr => ?_⟩
                              rcases Nat.lt_or_ge j k with g | g
                              · exact (HB.out.1 rfl).2 j r g hr
                              · obtain rfl : j = k := by omega
                                have h8 := HE.out
                                rw [h8] at hr
                                injection hr with hr
                                rw [← hr, h9]
                            · intro h9
                              exact h9.2 k e (by omega) HE.out)
                          go_wp2_with fail
                          go_roundw
                          case rel => exact ⟨k + 1, b2, by omega, by go_num, by first | rfl | rw [hb2] | simp [hb2], HB2, by first | rfl | trivial⟩
                          case measure => simp [intOf]; omega
                  · as_aux_lemma =>
                      have hkK : k = K := by omega
                      have k1 : ¬ (k : Int) < K := by omega
                      have HFit : Hid (b = true ↔ Fit n K hs) := Lib.hid (by
                        refine HB.out.trans ⟨fun h9 => ⟨h9.1, fun j r hr => h9.2 j r (by have := (List.getElem?_eq_some_iff.1 hr).1; have h8 := hl.out; omega) hr⟩, fun h9 => ⟨h9.1, fun j r _ hr => h9.2 j r hr⟩⟩)
                      clear HB hkK hlt hk
                      cases b
                      · as_aux_lemma =>
                          have pq := gQ_bad h (n := n) (fun h9 => by have := HFit.out.2 h9; cases this)
                          go_wp2_with fail
                          with_reducible refine pq.mono ?_
                          rintro e9 w1 ⟨rfl, hb⟩
                          clear pq
                          replace bz := hb
                          have DM := Blk.new w1 [.int .i64 0, .int .i64 0, .slice none 0 0] 24
                          obtain ⟨BM, eM⟩ : ∃ H, w1.heap.size = H := ⟨_, rfl⟩
                          rw [eM] at DM
                          replace bz := bz.alloc bz.size (.cells #[.int .i64 0, .int .i64 0, .slice none 0 0] 24)
                          go_upto_region 12 with fail
                          try simp only [eM] at ⊢
                          clear eM
                          generalize w1.alloc (.cells #[.int .i64 0, .int .i64 0, .slice none 0 0] 24) = W1 at DM bz ⊢
                          obtain ⟨y0, y1, y2, _, _, _⟩ := Mbx.cells DM
                          have ps := rSameM_any (R := 0) (C := 0) (FL.nil W1) (FL.nil W1) (fun k hk => absurd hk (by omega))
                          go_wp2_with fail
                          with_reducible refine ps.mono ?_
                          rintro e9 w4 ⟨rfl, hb⟩
                          replace bz := bz.trans (hb.mono bz.size)
                          clear hb ps y0 y1 y2 DM
                          go_wp2_with fail
                          with_reducible refine (known_any _).mono ?_
                          rintro e9 w9 ⟨rfl, hb⟩
                          go_wp2_with fail
                          go_ret
                          exact ⟨rfl, bz.trans (hb.mono bz.size)⟩
                      · as_aux_lemma =>
                          obtain ⟨m, rfl, hm5, hKm2, hlen⟩ := (HFit.out.1 rfl).nat hl.out
                          have HK := Lib.hid hKm2
                          have HLN := Lib.hid hlen
                          have pq := gQ_yes h hm5 hKm2 hlen
                          clear hKm2 hlen HFit
                          go_wp2_with fail
                          with_reducible refine pq.mono ?_
                          rintro e9 w1 ⟨A3, c3, L3, Qs, rfl, O3, T3, hQ3, hb⟩
                          have IW := (tq_is T3 (Nat.zero_le _) hl.out)
                          rw [hQ3] at IW
                          have F3 := O3.fl IW.wd
                          rw [IW.len] at F3
                          have HT3 := Lib.hid T3
                          have HQ3 := Lib.hid hQ3
                          clear pq O3 T3 hQ3 IW
                          have h2 := h.on hb
                          have bz2 := bz.trans (hb.mono bz.size)
                          clear hb
                          obtain ⟨N, hN⟩ : ∃ N, m * m = N := ⟨_, rfl⟩
                          rw [hN] at F3 ⊢
                          have HN := Lib.hid hN
                          clear hN
                          have DM := Blk.new w1 [.int .i64 m, .int .i64 m, .slice A3 N c3] 24
                          obtain ⟨BM, eM⟩ : ∃ H, w1.heap.size = H := ⟨_, rfl⟩
                          rw [eM] at DM
                          have hbA := (Below.refl _ w1).alloc (Nat.le_refl _) (.cells #[.int .i64 m, .int .i64 m, .slice A3 N c3] 24)
                          replace h2 := h2.on hbA
                          replace F3 := F3.on hbA
                          replace bz2 := bz2.trans (hbA.mono bz2.size)
                          clear hbA
                          go_upto_region 13 with fail
                          try simp only [eM] at ⊢
                          clear eM
                          generalize w1.alloc (.cells #[.int .i64 m, .int .i64 m, .slice A3 N c3] 24) = W1 at DM h2 F3 bz2 ⊢
                          clear h bz
                          have h := h2
                          have bz := bz2
                          clear h2 bz2
                          go_wp2_with fail
                          replace DM := DM.drew
                          replace F3 := F3.drew
                          replace bz := bz.drew
                          replace h := h.on ((Below.refl _ W1).drew)
                          refine wp_region_held_drew (S := fun w9 : World => Mbx w9 BM m m A3 N c3) (by kernel_rfl) DM (fun hS => ?_)
                          generalize W1.drew = wl at hS DM h F3  bz ⊢
                          refine wpAnyH_take (i := 0) (v := ?v0_21) rfl (by kernel_rfl) (by kernel_rfl) (by kernel_rfl) (fun _ _ _ h => h) (Or.inl ⟨by rfl, ?hy0_21⟩) (by assumption) ?rest0_21
                          case hy0_21 => (intro w9 hSw; clear hSw; go_simp; try with_reducible rfl)
                          try simp only [Act.put, List.setIfInBounds_toArray, List.set_cons_zero, List.set_cons_succ, List.getElem_toArray, List.getElem_cons_zero, List.getElem_cons_succ]
                          refine wpAnyH_take (i := 1) (v := ?v1_22) rfl (by kernel_rfl) (by kernel_rfl) (by kernel_rfl) (fun _ _ _ h => h) (Or.inl ⟨by rfl, ?hy1_22⟩) (by assumption) ?rest1_22
                          case hy1_22 => (intro w9 hSw; clear hSw; go_simp; try with_reducible rfl)
                          try simp only [Act.put, List.setIfInBounds_toArray, List.set_cons_zero, List.set_cons_succ, List.getElem_toArray, List.getElem_cons_zero, List.getElem_cons_succ]
                          refine wpAnyH_take (i := 2) (v := ?v2_23) rfl (by kernel_rfl) (by kernel_rfl) (by kernel_rfl) (fun _ _ _ h => h) (Or.inl ⟨by rfl, ?hy2_23⟩) (by assumption) ?rest2_23
                          case hy2_23 => (intro w9 hSw; clear hSw; go_simp; try with_reducible rfl)
                          try simp only [Act.put, List.setIfInBounds_toArray, List.set_cons_zero, List.set_cons_succ, List.getElem_toArray, List.getElem_cons_zero, List.getElem_cons_succ]
                          refine wpAnyH_take (i := 3) (v := ?v3_24) rfl (by kernel_rfl) (by kernel_rfl) (by kernel_rfl) (fun _ _ _ h => h) (Or.inl ⟨by rfl, ?hy3_24⟩) (by assumption) ?rest3_24
                          case hy3_24 => (intro w9 hSw; obtain ⟨y0, y1, y2, _, _, _⟩ := Mbx.cells hSw; go_simp; try with_reducible rfl)
                          try simp only [Act.put, List.setIfInBounds_toArray, List.set_cons_zero, List.set_cons_succ, List.getElem_toArray, List.getElem_cons_zero, List.getElem_cons_succ]
                          refine wpAnyH_take (i := 4) (v := ?v4_25) rfl (by kernel_rfl) (by kernel_rfl) (by kernel_rfl) (fun _ _ _ h => h) (Or.inl ⟨by rfl, ?hy4_25⟩) (by assumption) ?rest4_25
                          case hy4_25 => (intro w9 hSw; clear hSw; go_simp; try with_reducible rfl)
                          try simp only [Act.put, List.setIfInBounds_toArray, List.set_cons_zero, List.set_cons_succ, List.getElem_toArray, List.getElem_cons_zero, List.getElem_cons_succ]
                          refine wpAnyH_take (i := 5) (v := ?v5_26) rfl (by kernel_rfl) (by kernel_rfl) (by kernel_rfl) (fun _ _ _ h => h) (Or.inl ⟨by rfl, ?hy5_26⟩) (by assumption) ?rest5_26
                          case hy5_26 => (intro w9 hSw; clear hSw; go_simp; try with_reducible rfl)
                          try simp only [Act.put, List.setIfInBounds_toArray, List.set_cons_zero, List.set_cons_succ, List.getElem_toArray, List.getElem_cons_zero, List.getElem_cons_succ]
                          refine wpAnyH_ready (rs := [6]) (by kernel_rfl) (by simp) ?_
                          refine AllReadyH.cons rfl (fun K hK => ?_) AllReadyH.nil
                          go_simp
                          with_reducible refine (rQ_any h hm5 HK.out HLN.out).mono ?_
                          rintro e9 w5 ⟨A5, c5, L5, Ps, rfl, O5, T5, hQ5, hb⟩
                          have IV := (tq_is T5 (Nat.zero_le _) hl.out)
                          rw [hQ5] at IV
                          have F5 := O5.fl IV.wd
                          rw [IV.len] at F5
                          have HS : Hid (SameF L3 L5) := Lib.hid (by rw [← HQ3.out, ← hQ5]; exact Tq.same HT3.out T5 hl.out)
                          clear O5 T5 hQ5 IV
                          rw [HN.out] at F5 ⊢
                          replace DM := DM.on hb
                          replace h := h.on hb
                          replace F3 := F3.on hb
                          replace bz := bz.trans (hb.mono bz.size)
                          clear hb
                          clear hS; refine hK.out _ _ DM (fun hS => ?_); clear hK K
                          try simp only [Act.put, List.setIfInBounds_toArray, List.set_cons_zero, List.set_cons_succ, List.getElem_toArray, List.getElem_cons_zero, List.getElem_cons_succ]
                          refine wpAnyH_ready (rs := [7]) (by kernel_rfl) (by simp) ?_
                          refine AllReadyH.cons rfl (fun K hK => ?_) AllReadyH.nil
                          go_simp
                          with_reducible refine (rSameM_any (R := m) (C := m) F3 F5 (fun k hk => HS.out.at_ k)).mono ?_
                          rintro e9 w6 ⟨rfl, hb⟩
                          replace DM := DM.on hb
                          replace h := h.on hb
                          replace F3 := F3.on hb
                          replace F5 := F5.on hb
                          replace bz := bz.trans (hb.mono bz.size)
                          clear hb
                          clear hS; refine hK.out _ _ DM (fun hS => ?_); clear hK K
                          try simp only [Act.put, List.setIfInBounds_toArray, List.set_cons_zero, List.set_cons_succ, List.getElem_toArray, List.getElem_cons_zero, List.getElem_cons_succ]
                          refine wpAnyH_take (i := 8) (v := ?v8_27) rfl (by kernel_rfl) (by kernel_rfl) (by kernel_rfl) (fun _ _ _ h => h) (Or.inl ⟨by rfl, ?hy8_27⟩) (by assumption) ?rest8_27
                          case hy8_27 => (intro w9 hSw; clear hSw; go_simp; try with_reducible rfl)
                          try simp only [Act.put, List.setIfInBounds_toArray, List.set_cons_zero, List.set_cons_succ, List.getElem_toArray, List.getElem_cons_zero, List.getElem_cons_succ]
                          refine wpAnyH_take (i := 9) (v := ?v9_28) rfl (by kernel_rfl) (by kernel_rfl) (by kernel_rfl) (fun _ _ _ h => h) (Or.inl ⟨by rfl, ?hy9_28⟩) (by assumption) ?rest9_28
                          case hy9_28 => (intro w9 hSw; clear hSw; go_simp; try with_reducible rfl)
                          try simp only [Act.put, List.setIfInBounds_toArray, List.set_cons_zero, List.set_cons_succ, List.getElem_toArray, List.getElem_cons_zero, List.getElem_cons_succ]
                          refine wpAnyH_ready (rs := [10]) (by kernel_rfl) (by simp) ?_
                          refine AllReadyH.cons rfl (fun K hK => ?_) AllReadyH.nil
                          go_simp
                          with_reducible refine (known_any _).mono ?_
                          rintro e9 w7 ⟨rfl, hb⟩
                          replace DM := DM.on hb
                          replace h := h.on hb
                          replace F3 := F3.on hb
                          replace F5 := F5.on hb
                          replace bz := bz.trans (hb.mono bz.size)
                          clear hb
                          clear hS; refine hK.out _ _ DM (fun hS => ?_); clear hK K
                          try simp only [Act.put, List.setIfInBounds_toArray, List.set_cons_zero, List.set_cons_succ, List.getElem_toArray, List.getElem_cons_zero, List.getElem_cons_succ]
                          refine wpAnyH_take (i := 11) (v := ?v11_29) rfl (by kernel_rfl) (by kernel_rfl) (by kernel_rfl) (fun _ _ _ h => h) (Or.inl ⟨by rfl, ?hy11_29⟩) (by assumption) ?rest11_29
                          case hy11_29 => (intro w9 hSw; clear hSw; go_simp; try with_reducible rfl)
                          try simp only [Act.put, List.setIfInBounds_toArray, List.set_cons_zero, List.set_cons_succ, List.getElem_toArray, List.getElem_cons_zero, List.getElem_cons_succ]
                          refine wpAnyH_take (i := 12) (v := ?v12_30) rfl (by kernel_rfl) (by kernel_rfl) (by kernel_rfl) (fun _ _ _ h => h) (Or.inl ⟨by rfl, ?hy12_30⟩) (by assumption) ?rest12_30
                          case hy12_30 => (intro w9 hSw; clear hSw; go_simp; try with_reducible rfl)
                          try simp only [Act.put, List.setIfInBounds_toArray, List.set_cons_zero, List.set_cons_succ, List.getElem_toArray, List.getElem_cons_zero, List.getElem_cons_succ]
                          refine wpAnyH_done (by kernel_rfl) ?_ _
                          go_wp2_with fail
                          go_ret
                          exact ⟨rfl, bz⟩
            · have d1 : ((K : Int) == 0) = false := by simpa using c6
              have d2 : ¬ (K : Int) = 0 := by omega
              have HF0 : Hid (false = true ↔ ((0 ≤ n ∧ n ≤ 512 ∧ ((K : Int) = n - 2 ∨ (n < 2 ∧ K = 0))) ∧ ∀ (j : Nat) (r : Re), j < 0 → hs[j]? = some r → (r.l.length : Int) = n - 1 - j)) := Lib.hid ⟨fun h9 => (by cases h9), fun h9 => (by have h8 := h9.1; omega)⟩
              clear c1 c2 c3 c4
              as_aux_lemma =>
                go_enter Try.func4, Try.ntmps4
                go_wp2_with fail
                go_loopw [5, 6] (fun v5 i wr => ∃ (k : Nat) (b : Bool), k ≤ K ∧ i = .int .i64 k ∧ v5 = .bool b ∧ Hid (b = true ↔ ((0 ≤ n ∧ n ≤ 512 ∧ ((K : Int) = n - 2 ∨ (n < 2 ∧ K = 0))) ∧ ∀ (j : Nat) (r : Re), j < k → hs[j]? = some r → (r.l.length : Int) = n - 1 - j)) ∧ w = wr) (fun _ i _ => K - (intOf i).toNat)
                case atStart => exact ⟨0, false, Nat.zero_le _, rfl, rfl, HF0, rfl⟩
                case round =>
                  clear HF0 i0 i1 i2 i3 d0 d1 d2 c5 c6 wn2
                  obtain ⟨k, b, hk, rfl, rfl, HB, rfl⟩ := hrel
                  have k0 : (0 : Int) ≤ k := by omega
                  by_cases hlt : k < K
                  · have k1 : (k : Int) < K := by omega
                    obtain ⟨e, ad, ea, he, rfl, hE, hl9, hc0, hc1, hv, bt⟩ := h.at_ (k := k) hlt
                    have hvm := hv.max
                    have HE := Lib.hid he
                    clear he hv hc1
                    by_cases c20 : 20 < e.l.length
                    · as_aux_lemma =>
                        have i20 : (20 : Int) < (e.l.length : Int) := by omega
                        clear c20
                        go_wp2_with fail
                        with_reducible refine (known_any _).mono ?_
                        rintro e9 w9 ⟨rfl, hb⟩
                        go_wp2_with fail
                        go_ret
                        exact ⟨rfl, bz.trans (hb.mono bz.size)⟩
                    · have i20 : ¬ (20 : Int) < (e.l.length : Int) := by omega
                      clear c20
                      cases b
                      · as_aux_lemma =>
                          have HB2 : Hid (false = true ↔ ((0 ≤ n ∧ n ≤ 512 ∧ ((K : Int) = n - 2 ∨ (n < 2 ∧ K = 0))) ∧ ∀ (j : Nat) (r : Re), j < k + 1 → hs[j]? = some r → (r.l.length : Int) = n - 1 - j)) := Lib.hid ⟨fun h9 => (by cases h9), fun h9 => HB.out.2 ⟨h9.1, fun j r hj hr => h9.2 j r (by omega) hr⟩⟩
                          go_wp2_with fail
                          go_roundw
                          case rel => exact ⟨k + 1, false, by omega, by go_num, rfl, HB2, by first | rfl | trivial⟩
                          case measure => simp [intOf]; omega
                      · as_aux_lemma =>
                          obtain ⟨⟨n0, n5, _⟩, _⟩ := HB.out.1 rfl
                          obtain ⟨m, rfl⟩ := Int.eq_ofNat_of_zero_le n0
                          have w1 : IntKind.i64.wrap ((m : Int) - 1) = (m : Int) - 1 := IntWalk.i64_in _ (by omega)
                          have w2 : IntKind.i64.wrap ((m : Int) - 1 - (k : Int)) = (m : Int) - 1 - (k : Int) := IntWalk.i64_in _ (by omega)
                          obtain ⟨b2, hb2⟩ : ∃ b2, ((e.l.length : Int) == (m : Int) - 1 - (k : Int)) = b2 := ⟨_, rfl⟩
                          have HB2 : Hid (b2 = true ↔ ((0 ≤ (m : Int) ∧ (m : Int) ≤ 512 ∧ ((K : Int) = m - 2 ∨ ((m : Int) < 2 ∧ K = 0))) ∧ ∀ (j : Nat) (r : Re), j < k + 1 → hs[j]? = some r → (r.l.length : Int) = m - 1 - j)) := Lib.hid (by
                            rw [← hb2, beq_iff_eq]
                            constructor
                            · intro h9
                              refine ⟨(HB.out.1 rfl).1, fun j r hj hr => ?_⟩
                              rcases Nat.lt_or_ge j k with g | g
                              · exact (HB.out.1 rfl).2 j r g hr
                              · obtain rfl : j = k := by omega
                                have h8 := HE.out
                                rw [h8] at hr
                                injection hr with hr
                                rw [← hr, h9]
                            · intro h9
                              exact h9.2 k e (by omega) HE.out)
                          go_wp2_with fail
                          go_roundw
                          case rel => exact ⟨k + 1, b2, by omega, by go_num, by first | rfl | rw [hb2] | simp [hb2], HB2, by first | rfl | trivial⟩
                          case measure => simp [intOf]; omega
                  · as_aux_lemma =>
                      have hkK : k = K := by omega
                      have k1 : ¬ (k : Int) < K := by omega
                      have HFit : Hid (b = true ↔ Fit n K hs) := Lib.hid (by
                        refine HB.out.trans ⟨fun h9 => ⟨h9.1, fun j r hr => h9.2 j r (by have := (List.getElem?_eq_some_iff.1 hr).1; have h8 := hl.out; omega) hr⟩, fun h9 => ⟨h9.1, fun j r _ hr => h9.2 j r hr⟩⟩)
                      clear HB hkK hlt hk
                      cases b
                      · as_aux_lemma =>
                          have pq := gQ_bad h (n := n) (fun h9 => by have := HFit.out.2 h9; cases this)
                          go_wp2_with fail
                          with_reducible refine pq.mono ?_
                          rintro e9 w1 ⟨rfl, hb⟩
                          clear pq
                          replace bz := hb
                          have DM := Blk.new w1 [.int .i64 0, .int .i64 0, .slice none 0 0] 24
                          obtain ⟨BM, eM⟩ : ∃ H, w1.heap.size = H := ⟨_, rfl⟩
                          rw [eM] at DM
                          replace bz := bz.alloc bz.size (.cells #[.int .i64 0, .int .i64 0, .slice none 0 0] 24)
                          go_upto_region 12 with fail
                          try simp only [eM] at ⊢
                          clear eM
                          generalize w1.alloc (.cells #[.int .i64 0, .int .i64 0, .slice none 0 0] 24) = W1 at DM bz ⊢
                          obtain ⟨y0, y1, y2, _, _, _⟩ := Mbx.cells DM
                          have ps := rSameM_any (R := 0) (C := 0) (FL.nil W1) (FL.nil W1) (fun k hk => absurd hk (by omega))
                          go_wp2_with fail
                          with_reducible refine ps.mono ?_
                          rintro e9 w4 ⟨rfl, hb⟩
                          replace bz := bz.trans (hb.mono bz.size)
                          clear hb ps y0 y1 y2 DM
                          go_wp2_with fail
                          with_reducible refine (known_any _).mono ?_
                          rintro e9 w9 ⟨rfl, hb⟩
                          go_wp2_with fail
                          go_ret
                          exact ⟨rfl, bz.trans (hb.mono bz.size)⟩
                      · as_aux_lemma =>
                          obtain ⟨m, rfl, hm5, hKm2, hlen⟩ := (HFit.out.1 rfl).nat hl.out
                          have HK := Lib.hid hKm2
                          have HLN := Lib.hid hlen
                          have pq := gQ_yes h hm5 hKm2 hlen
                          clear hKm2 hlen HFit
                          go_wp2_with fail
                          with_reducible refine pq.mono ?_
                          rintro e9 w1 ⟨A3, c3, L3, Qs, rfl, O3, T3, hQ3, hb⟩
                          have IW := (tq_is T3 (Nat.zero_le _) hl.out)
                          rw [hQ3] at IW
                          have F3 := O3.fl IW.wd
                          rw [IW.len] at F3
                          have HT3 := Lib.hid T3
                          have HQ3 := Lib.hid hQ3
                          clear pq O3 T3 hQ3 IW
                          have h2 := h.on hb
                          have bz2 := bz.trans (hb.mono bz.size)
                          clear hb
                          obtain ⟨N, hN⟩ : ∃ N, m * m = N := ⟨_, rfl⟩
                          rw [hN] at F3 ⊢
                          have HN := Lib.hid hN
                          clear hN
                          have DM := Blk.new w1 [.int .i64 m, .int .i64 m, .slice A3 N c3] 24
                          obtain ⟨BM, eM⟩ : ∃ H, w1.heap.size = H := ⟨_, rfl⟩
                          rw [eM] at DM
                          have hbA := (Below.refl _ w1).alloc (Nat.le_refl _) (.cells #[.int .i64 m, .int .i64 m, .slice A3 N c3] 24)
                          replace h2 := h2.on hbA
                          replace F3 := F3.on hbA
                          replace bz2 := bz2.trans (hbA.mono bz2.size)
                          clear hbA
                          go_upto_region 13 with fail
                          try simp only [eM] at ⊢
                          clear eM
                          generalize w1.alloc (.cells #[.int .i64 m, .int .i64 m, .slice A3 N c3] 24) = W1 at DM h2 F3 bz2 ⊢
                          clear h bz
                          have h := h2
                          have bz := bz2
                          clear h2 bz2
                          go_wp2_with fail
                          replace DM := DM.drew
                          replace F3 := F3.drew
                          replace bz := bz.drew
                          replace h := h.on ((Below.refl _ W1).drew)
                          refine wp_region_held_drew (S := fun w9 : World => Mbx w9 BM m m A3 N c3) (by kernel_rfl) DM (fun hS => ?_)
                          generalize W1.drew = wl at hS DM h F3  bz ⊢
                          refine wpAnyH_take (i := 0) (v := ?v0_31) rfl (by kernel_rfl) (by kernel_rfl) (by kernel_rfl) (fun _ _ _ h => h) (Or.inl ⟨by rfl, ?hy0_31⟩) (by assumption) ?rest0_31
                          case hy0_31 => (intro w9 hSw; clear hSw; go_simp; try with_reducible rfl)
                          try simp only [Act.put, List.setIfInBounds_toArray, List.set_cons_zero, List.set_cons_succ, List.getElem_toArray, List.getElem_cons_zero, List.getElem_cons_succ]
                          refine wpAnyH_take (i := 1) (v := ?v1_32) rfl (by kernel_rfl) (by kernel_rfl) (by kernel_rfl) (fun _ _ _ h => h) (Or.inl ⟨by rfl, ?hy1_32⟩) (by assumption) ?rest1_32
                          case hy1_32 => (intro w9 hSw; clear hSw; go_simp; try with_reducible rfl)
                          try simp only [Act.put, List.setIfInBounds_toArray, List.set_cons_zero, List.set_cons_succ, List.getElem_toArray, List.getElem_cons_zero, List.getElem_cons_succ]
                          refine wpAnyH_take (i := 2) (v := ?v2_33) rfl (by kernel_rfl) (by kernel_rfl) (by kernel_rfl) (fun _ _ _ h => h) (Or.inl ⟨by rfl, ?hy2_33⟩) (by assumption) ?rest2_33
                          case hy2_33 => (intro w9 hSw; clear hSw; go_simp; try with_reducible rfl)
                          try simp only [Act.put, List.setIfInBounds_toArray, List.set_cons_zero, List.set_cons_succ, List.getElem_toArray, List.getElem_cons_zero, List.getElem_cons_succ]
                          refine wpAnyH_take (i := 3) (v := ?v3_34) rfl (by kernel_rfl) (by kernel_rfl) (by kernel_rfl) (fun _ _ _ h => h) (Or.inl ⟨by rfl, ?hy3_34⟩) (by assumption) ?rest3_34
                          case hy3_34 => (intro w9 hSw; obtain ⟨y0, y1, y2, _, _, _⟩ := Mbx.cells hSw; go_simp; try with_reducible rfl)
                          try simp only [Act.put, List.setIfInBounds_toArray, List.set_cons_zero, List.set_cons_succ, List.getElem_toArray, List.getElem_cons_zero, List.getElem_cons_succ]
                          refine wpAnyH_take (i := 4) (v := ?v4_35) rfl (by kernel_rfl) (by kernel_rfl) (by kernel_rfl) (fun _ _ _ h => h) (Or.inl ⟨by rfl, ?hy4_35⟩) (by assumption) ?rest4_35
                          case hy4_35 => (intro w9 hSw; clear hSw; go_simp; try with_reducible rfl)
                          try simp only [Act.put, List.setIfInBounds_toArray, List.set_cons_zero, List.set_cons_succ, List.getElem_toArray, List.getElem_cons_zero, List.getElem_cons_succ]
                          refine wpAnyH_take (i := 5) (v := ?v5_36) rfl (by kernel_rfl) (by kernel_rfl) (by kernel_rfl) (fun _ _ _ h => h) (Or.inl ⟨by rfl, ?hy5_36⟩) (by assumption) ?rest5_36
                          case hy5_36 => (intro w9 hSw; clear hSw; go_simp; try with_reducible rfl)
                          try simp only [Act.put, List.setIfInBounds_toArray, List.set_cons_zero, List.set_cons_succ, List.getElem_toArray, List.getElem_cons_zero, List.getElem_cons_succ]
                          refine wpAnyH_ready (rs := [6]) (by kernel_rfl) (by simp) ?_
                          refine AllReadyH.cons rfl (fun K hK => ?_) AllReadyH.nil
                          go_simp
                          with_reducible refine (rQ_any h hm5 HK.out HLN.out).mono ?_
                          rintro e9 w5 ⟨A5, c5, L5, Ps, rfl, O5, T5, hQ5, hb⟩
                          have IV := (tq_is T5 (Nat.zero_le _) hl.out)
                          rw [hQ5] at IV
                          have F5 := O5.fl IV.wd
                          rw [IV.len] at F5
                          have HS : Hid (SameF L3 L5) := Lib.hid (by rw [← HQ3.out, ← hQ5]; exact Tq.same HT3.out T5 hl.out)
                          clear O5 T5 hQ5 IV
                          rw [HN.out] at F5 ⊢
                          replace DM := DM.on hb
                          replace h := h.on hb
                          replace F3 := F3.on hb
                          replace bz := bz.trans (hb.mono bz.size)
                          clear hb
                          clear hS; refine hK.out _ _ DM (fun hS => ?_); clear hK K
                          try simp only [Act.put, List.setIfInBounds_toArray, List.set_cons_zero, List.set_cons_succ, List.getElem_toArray, List.getElem_cons_zero, List.getElem_cons_succ]
                          refine wpAnyH_ready (rs := [7]) (by kernel_rfl) (by simp) ?_
                          refine AllReadyH.cons rfl (fun K hK => ?_) AllReadyH.nil
                          go_simp
                          with_reducible refine (rSameM_any (R := m) (C := m) F3 F5 (fun k hk => HS.out.at_ k)).mono ?_
                          rintro e9 w6 ⟨rfl, hb⟩
                          replace DM := DM.on hb
                          replace h := h.on hb
                          replace F3 := F3.on hb
                          replace F5 := F5.on hb
                          replace bz := bz.trans (hb.mono bz.size)
                          clear hb
                          clear hS; refine hK.out _ _ DM (fun hS => ?_); clear hK K
                          try simp only [Act.put, List.setIfInBounds_toArray, List.set_cons_zero, List.set_cons_succ, List.getElem_toArray, List.getElem_cons_zero, List.getElem_cons_succ]
                          refine wpAnyH_take (i := 8) (v := ?v8_37) rfl (by kernel_rfl) (by kernel_rfl) (by kernel_rfl) (fun _ _ _ h => h) (Or.inl ⟨by rfl, ?hy8_37⟩) (by assumption) ?rest8_37
                          case hy8_37 => (intro w9 hSw; clear hSw; go_simp; try with_reducible rfl)
                          try simp only [Act.put, List.setIfInBounds_toArray, List.set_cons_zero, List.set_cons_succ, List.getElem_toArray, List.getElem_cons_zero, List.getElem_cons_succ]
                          refine wpAnyH_take (i := 9) (v := ?v9_38) rfl (by kernel_rfl) (by kernel_rfl) (by kernel_rfl) (fun _ _ _ h => h) (Or.inl ⟨by rfl, ?hy9_38⟩) (by assumption) ?rest9_38
                          case hy9_38 => (intro w9 hSw; clear hSw; go_simp; try with_reducible rfl)
                          try simp only [Act.put, List.setIfInBounds_toArray, List.set_cons_zero, List.set_cons_succ, List.getElem_toArray, List.getElem_cons_zero, List.getElem_cons_succ]
                          refine wpAnyH_ready (rs := [10]) (by kernel_rfl) (by simp) ?_
                          refine AllReadyH.cons rfl (fun K hK => ?_) AllReadyH.nil
                          go_simp
                          with_reducible refine (known_any _).mono ?_
                          rintro e9 w7 ⟨rfl, hb⟩
                          replace DM := DM.on hb
                          replace h := h.on hb
                          replace F3 := F3.on hb
                          replace F5 := F5.on hb
                          replace bz := bz.trans (hb.mono bz.size)
                          clear hb
                          clear hS; refine hK.out _ _ DM (fun hS => ?_); clear hK K
                          try simp only [Act.put, List.setIfInBounds_toArray, List.set_cons_zero, List.set_cons_succ, List.getElem_toArray, List.getElem_cons_zero, List.getElem_cons_succ]
                          refine wpAnyH_take (i := 11) (v := ?v11_39) rfl (by kernel_rfl) (by kernel_rfl) (by kernel_rfl) (fun _ _ _ h => h) (Or.inl ⟨by rfl, ?hy11_39⟩) (by assumption) ?rest11_39
                          case hy11_39 => (intro w9 hSw; clear hSw; go_simp; try with_reducible rfl)
                          try simp only [Act.put, List.setIfInBounds_toArray, List.set_cons_zero, List.set_cons_succ, List.getElem_toArray, List.getElem_cons_zero, List.getElem_cons_succ]
                          refine wpAnyH_take (i := 12) (v := ?v12_40) rfl (by kernel_rfl) (by kernel_rfl) (by kernel_rfl) (fun _ _ _ h => h) (Or.inl ⟨by rfl, ?hy12_40⟩) (by assumption) ?rest12_40
                          case hy12_40 => (intro w9 hSw; clear hSw; go_simp; try with_reducible rfl)
                          try simp only [Act.put, List.setIfInBounds_toArray, List.set_cons_zero, List.set_cons_succ, List.getElem_toArray, List.getElem_cons_zero, List.getElem_cons_succ]
                          refine wpAnyH_done (by kernel_rfl) ?_ _
                          go_wp2_with fail
                          go_ret
                          exact ⟨rfl, bz⟩
          · skip
            have c7 : ¬ n < 2 := c5
            by_cases c6 : (K : Int) = n - 2
            · have d0 : ((K : Int) == n - 2) = true := by simpa using c6
              have HF0 : Hid (0 ≤ n ∧ n ≤ 512 ∧ ((K : Int) = n - 2 ∨ (n < 2 ∧ K = 0))) := Lib.hid (by omega)
              have C6 := Lib.hid c6
              clear c1 c2 c3 c4 c5 c6
              as_aux_lemma =>
                go_enter Try.func4, Try.ntmps4
                go_wp2_with fail
                go_loopw [5, 6] (fun v5 i wr => ∃ (k : Nat) (b : Bool), k ≤ K ∧ i = .int .i64 k ∧ v5 = .bool b ∧ Hid (b = true ↔ ((0 ≤ n ∧ n ≤ 512 ∧ ((K : Int) = n - 2 ∨ (n < 2 ∧ K = 0))) ∧ ∀ (j : Nat) (r : Re), j < k → hs[j]? = some r → (r.l.length : Int) = n - 1 - j)) ∧ w = wr) (fun _ i _ => K - (intOf i).toNat)
                case atStart => exact ⟨0, true, Nat.zero_le _, rfl, rfl, Lib.hid ⟨fun _ => ⟨HF0.out, fun j r hj _ => absurd hj (Nat.not_lt_zero j)⟩, fun _ => rfl⟩, rfl⟩
                case round =>
                  clear HF0 i0 i1 i2 i3 d0 c7 wn2
                  obtain ⟨k, b, hk, rfl, rfl, HB, rfl⟩ := hrel
                  have k0 : (0 : Int) ≤ k := by omega
                  by_cases hlt : k < K
                  · have k1 : (k : Int) < K := by omega
                    obtain ⟨e, ad, ea, he, rfl, hE, hl9, hc0, hc1, hv, bt⟩ := h.at_ (k := k) hlt
                    have hvm := hv.max
                    have HE := Lib.hid he
                    clear he hv hc1
                    by_cases c20 : 20 < e.l.length
                    · as_aux_lemma =>
                        have i20 : (20 : Int) < (e.l.length : Int) := by omega
                        clear c20
                        go_wp2_with fail
                        with_reducible refine (known_any _).mono ?_
                        rintro e9 w9 ⟨rfl, hb⟩
                        go_wp2_with fail
                        go_ret
                        exact ⟨rfl, bz.trans (hb.mono bz.size)⟩
                    · have i20 : ¬ (20 : Int) < (e.l.length : Int) := by omega
                      clear c20
                      cases b
                      · as_aux_lemma =>
                          have HB2 : Hid (false = true ↔ ((0 ≤ n ∧ n ≤ 512 ∧ ((K : Int) = n - 2 ∨ (n < 2 ∧ K = 0))) ∧ ∀ (j : Nat) (r : Re), j < k + 1 → hs[j]? = some r → (r.l.length : Int) = n - 1 - j)) := Lib.hid ⟨fun h9 => (by cases h9), fun h9 => HB.out.2 ⟨h9.1, fun j r hj hr => h9.2 j r (by omega) hr⟩⟩
                          go_wp2_with fail
                          go_roundw
                          case rel => exact ⟨k + 1, false, by omega, by go_num, rfl, HB2, by first | rfl | trivial⟩
                          case measure => simp [intOf]; omega
                      · as_aux_lemma =>
                          obtain ⟨⟨n0, n5, _⟩, _⟩ := HB.out.1 rfl
                          obtain ⟨m, rfl⟩ := Int.eq_ofNat_of_zero_le n0
                          have w1 : IntKind.i64.wrap ((m : Int) - 1) = (m : Int) - 1 := IntWalk.i64_in _ (by omega)
                          have w2 : IntKind.i64.wrap ((m : Int) - 1 - (k : Int)) = (m : Int) - 1 - (k : Int) := IntWalk.i64_in _ (by omega)
                          obtain ⟨b2, hb2⟩ : ∃ b2, ((e.l.length : Int) == (m : Int) - 1 - (k : Int)) = b2 := ⟨_, rfl⟩
                          have HB2 : Hid (b2 = true ↔ ((0 ≤ (m : Int) ∧ (m : Int) ≤ 512 ∧ ((K : Int) = m - 2 ∨ ((m : Int) < 2 ∧ K = 0))) ∧ ∀ (j : Nat) (r : Re), j < k + 1 → hs[j]? = some r → (r.l.length : Int) = m - 1 - j)) := Lib.hid (by
                            rw [← hb2, beq_iff_eq]
                            constructor
                            · intro h9
                              refine ⟨(HB.out.1 rfl).1, fun j r hj hr => ?_⟩
                              rcases Nat.lt_or_ge j k with g | g
                              · exact (HB.out.1 rfl).2 j r g hr
                              · obtain rfl : j = k := by omega
                                have h8 := HE.out
                                rw [h8] at hr
                                injection hr with hr
                                rw [← hr, h9]
                            · intro h9
                              exact h9.2 k e (by omega) HE.out)
                          go_wp2_with fail
                          go_roundw
                          case rel => exact ⟨k + 1, b2, by omega, by go_num, by first | rfl | rw [hb2] | simp [hb2], HB2, by first | rfl | trivial⟩
                          case measure => simp [intOf]; omega
                  · as_aux_lemma =>
                      have hkK : k = K := by omega
                      have k1 : ¬ (k : Int) < K := by omega
                      have HFit : Hid (b = true ↔ Fit n K hs) := Lib.hid (by
                        refine HB.out.trans ⟨fun h9 => ⟨h9.1, fun j r hr => h9.2 j r (by have := (List.getElem?_eq_some_iff.1 hr).1; have h8 := hl.out; omega) hr⟩, fun h9 => ⟨h9.1, fun j r _ hr => h9.2 j r hr⟩⟩)
                      clear HB hkK hlt hk
                      cases b
                      · as_aux_lemma =>
                          have pq := gQ_bad h (n := n) (fun h9 => by have := HFit.out.2 h9; cases this)
                          go_wp2_with fail
                          with_reducible refine pq.mono ?_
                          rintro e9 w1 ⟨rfl, hb⟩
                          clear pq
                          replace bz := hb
                          have DM := Blk.new w1 [.int .i64 0, .int .i64 0, .slice none 0 0] 24
                          obtain ⟨BM, eM⟩ : ∃ H, w1.heap.size = H := ⟨_, rfl⟩
                          rw [eM] at DM
                          replace bz := bz.alloc bz.size (.cells #[.int .i64 0, .int .i64 0, .slice none 0 0] 24)
                          go_upto_region 12 with fail
                          try simp only [eM] at ⊢
                          clear eM
                          generalize w1.alloc (.cells #[.int .i64 0, .int .i64 0, .slice none 0 0] 24) = W1 at DM bz ⊢
                          obtain ⟨y0, y1, y2, _, _, _⟩ := Mbx.cells DM
                          have ps := rSameM_any (R := 0) (C := 0) (FL.nil W1) (FL.nil W1) (fun k hk => absurd hk (by omega))
                          go_wp2_with fail
                          with_reducible refine ps.mono ?_
                          rintro e9 w4 ⟨rfl, hb⟩
                          replace bz := bz.trans (hb.mono bz.size)
                          clear hb ps y0 y1 y2 DM
                          go_wp2_with fail
                          with_reducible refine (known_any _).mono ?_
                          rintro e9 w9 ⟨rfl, hb⟩
                          go_wp2_with fail
                          go_ret
                          exact ⟨rfl, bz.trans (hb.mono bz.size)⟩
                      · as_aux_lemma =>
                          obtain ⟨m, rfl, hm5, hKm2, hlen⟩ := (HFit.out.1 rfl).nat hl.out
                          have HK := Lib.hid hKm2
                          have HLN := Lib.hid hlen
                          have pq := gQ_yes h hm5 hKm2 hlen
                          clear hKm2 hlen HFit
                          go_wp2_with fail
                          with_reducible refine pq.mono ?_
                          rintro e9 w1 ⟨A3, c3, L3, Qs, rfl, O3, T3, hQ3, hb⟩
                          have IW := (tq_is T3 (Nat.zero_le _) hl.out)
                          rw [hQ3] at IW
                          have F3 := O3.fl IW.wd
                          rw [IW.len] at F3
                          have HT3 := Lib.hid T3
                          have HQ3 := Lib.hid hQ3
                          clear pq O3 T3 hQ3 IW
                          have h2 := h.on hb
                          have bz2 := bz.trans (hb.mono bz.size)
                          clear hb
                          obtain ⟨N, hN⟩ : ∃ N, m * m = N := ⟨_, rfl⟩
                          rw [hN] at F3 ⊢
                          have HN := Lib.hid hN
                          clear hN
                          have DM := Blk.new w1 [.int .i64 m, .int .i64 m, .slice A3 N c3] 24
                          obtain ⟨BM, eM⟩ : ∃ H, w1.heap.size = H := ⟨_, rfl⟩
                          rw [eM] at DM
                          have hbA := (Below.refl _ w1).alloc (Nat.le_refl _) (.cells #[.int .i64 m, .int .i64 m, .slice A3 N c3] 24)
                          replace h2 := h2.on hbA
                          replace F3 := F3.on hbA
                          replace bz2 := bz2.trans (hbA.mono bz2.size)
                          clear hbA
                          go_upto_region 13 with fail
                          try simp only [eM] at ⊢
                          clear eM
                          generalize w1.alloc (.cells #[.int .i64 m, .int .i64 m, .slice A3 N c3] 24) = W1 at DM h2 F3 bz2 ⊢
                          clear h bz
                          have h := h2
                          have bz := bz2
                          clear h2 bz2
                          go_wp2_with fail
                          replace DM := DM.drew
                          replace F3 := F3.drew
                          replace bz := bz.drew
                          replace h := h.on ((Below.refl _ W1).drew)
                          refine wp_region_held_drew (S := fun w9 : World => Mbx w9 BM m m A3 N c3) (by kernel_rfl) DM (fun hS => ?_)
                          generalize W1.drew = wl at hS DM h F3  bz ⊢
                          refine wpAnyH_take (i := 0) (v := ?v0_41) rfl (by kernel_rfl) (by kernel_rfl) (by kernel_rfl) (fun _ _ _ h => h) (Or.inl ⟨by rfl, ?hy0_41⟩) (by assumption) ?rest0_41
                          case hy0_41 => (intro w9 hSw; clear hSw; go_simp; try with_reducible rfl)
                          try simp only [Act.put, List.setIfInBounds_toArray, List.set_cons_zero, List.set_cons_succ, List.getElem_toArray, List.getElem_cons_zero, List.getElem_cons_succ]
                          refine wpAnyH_take (i := 1) (v := ?v1_42) rfl (by kernel_rfl) (by kernel_rfl) (by kernel_rfl) (fun _ _ _ h => h) (Or.inl ⟨by rfl, ?hy1_42⟩) (by assumption) ?rest1_42
                          case hy1_42 => (intro w9 hSw; clear hSw; go_simp; try with_reducible rfl)
                          try simp only [Act.put, List.setIfInBounds_toArray, List.set_cons_zero, List.set_cons_succ, List.getElem_toArray, List.getElem_cons_zero, List.getElem_cons_succ]
                          refine wpAnyH_take (i := 2) (v := ?v2_43) rfl (by kernel_rfl) (by kernel_rfl) (by kernel_rfl) (fun _ _ _ h => h) (Or.inl ⟨by rfl, ?hy2_43⟩) (by assumption) ?rest2_43
                          case hy2_43 => (intro w9 hSw; clear hSw; go_simp; try with_reducible rfl)
                          try simp only [Act.put, List.setIfInBounds_toArray, List.set_cons_zero, List.set_cons_succ, List.getElem_toArray, List.getElem_cons_zero, List.getElem_cons_succ]
                          refine wpAnyH_take (i := 3) (v := ?v3_44) rfl (by kernel_rfl) (by kernel_rfl) (by kernel_rfl) (fun _ _ _ h => h) (Or.inl ⟨by rfl, ?hy3_44⟩) (by assumption) ?rest3_44
                          case hy3_44 => (intro w9 hSw; obtain ⟨y0, y1, y2, _, _, _⟩ := Mbx.cells hSw; go_simp; try with_reducible rfl)
                          try simp only [Act.put, List.setIfInBounds_toArray, List.set_cons_zero, List.set_cons_succ, List.getElem_toArray, List.getElem_cons_zero, List.getElem_cons_succ]
                          refine wpAnyH_take (i := 4) (v := ?v4_45) rfl (by kernel_rfl) (by kernel_rfl) (by kernel_rfl) (fun _ _ _ h => h) (Or.inl ⟨by rfl, ?hy4_45⟩) (by assumption) ?rest4_45
                          case hy4_45 => (intro w9 hSw; clear hSw; go_simp; try with_reducible rfl)
                          try simp only [Act.put, List.setIfInBounds_toArray, List.set_cons_zero, List.set_cons_succ, List.getElem_toArray, List.getElem_cons_zero, List.getElem_cons_succ]
                          refine wpAnyH_take (i := 5) (v := ?v5_46) rfl (by kernel_rfl) (by kernel_rfl) (by kernel_rfl) (fun _ _ _ h => h) (Or.inl ⟨by rfl, ?hy5_46⟩) (by assumption) ?rest5_46
                          case hy5_46 => (intro w9 hSw; clear hSw; go_simp; try with_reducible rfl)
                          try simp only [Act.put, List.setIfInBounds_toArray, List.set_cons_zero, List.set_cons_succ, List.getElem_toArray, List.getElem_cons_zero, List.getElem_cons_succ]
                          refine wpAnyH_ready (rs := [6]) (by kernel_rfl) (by simp) ?_
                          refine AllReadyH.cons rfl (fun K hK => ?_) AllReadyH.nil
                          go_simp
                          with_reducible refine (rQ_any h hm5 HK.out HLN.out).mono ?_
                          rintro e9 w5 ⟨A5, c5, L5, Ps, rfl, O5, T5, hQ5, hb⟩
                          have IV := (tq_is T5 (Nat.zero_le _) hl.out)
                          rw [hQ5] at IV
                          have F5 := O5.fl IV.wd
                          rw [IV.len] at F5
                          have HS : Hid (SameF L3 L5) := Lib.hid (by rw [← HQ3.out, ← hQ5]; exact Tq.same HT3.out T5 hl.out)
                          clear O5 T5 hQ5 IV
                          rw [HN.out] at F5 ⊢
                          replace DM := DM.on hb
                          replace h := h.on hb
                          replace F3 := F3.on hb
                          replace bz := bz.trans (hb.mono bz.size)
                          clear hb
                          clear hS; refine hK.out _ _ DM (fun hS => ?_); clear hK K
                          try simp only [Act.put, List.setIfInBounds_toArray, List.set_cons_zero, List.set_cons_succ, List.getElem_toArray, List.getElem_cons_zero, List.getElem_cons_succ]
                          refine wpAnyH_ready (rs := [7]) (by kernel_rfl) (by simp) ?_
                          refine AllReadyH.cons rfl (fun K hK => ?_) AllReadyH.nil
                          go_simp
                          with_reducible refine (rSameM_any (R := m) (C := m) F3 F5 (fun k hk => HS.out.at_ k)).mono ?_
                          rintro e9 w6 ⟨rfl, hb⟩
                          replace DM := DM.on hb
                          replace h := h.on hb
                          replace F3 := F3.on hb
                          replace F5 := F5.on hb
                          replace bz := bz.trans (hb.mono bz.size)
                          clear hb
                          clear hS; refine hK.out _ _ DM (fun hS => ?_); clear hK K
                          try simp only [Act.put, List.setIfInBounds_toArray, List.set_cons_zero, List.set_cons_succ, List.getElem_toArray, List.getElem_cons_zero, List.getElem_cons_succ]
                          refine wpAnyH_take (i := 8) (v := ?v8_47) rfl (by kernel_rfl) (by kernel_rfl) (by kernel_rfl) (fun _ _ _ h => h) (Or.inl ⟨by rfl, ?hy8_47⟩) (by assumption) ?rest8_47
                          case hy8_47 => (intro w9 hSw; clear hSw; go_simp; try with_reducible rfl)
                          try simp only [Act.put, List.setIfInBounds_toArray, List.set_cons_zero, List.set_cons_succ, List.getElem_toArray, List.getElem_cons_zero, List.getElem_cons_succ]
                          refine wpAnyH_take (i := 9) (v := ?v9_48) rfl (by kernel_rfl) (by kernel_rfl) (by kernel_rfl) (fun _ _ _ h => h) (Or.inl ⟨by rfl, ?hy9_48⟩) (by assumption) ?rest9_48
                          case hy9_48 => (intro w9 hSw; clear hSw; go_simp; try with_reducible rfl)
                          try simp only [Act.put, List.setIfInBounds_toArray, List.set_cons_zero, List.set_cons_succ, List.getElem_toArray, List.getElem_cons_zero, List.getElem_cons_succ]
                          refine wpAnyH_ready (rs := [10]) (by kernel_rfl) (by simp) ?_
                          refine AllReadyH.cons rfl (fun K hK => ?_) AllReadyH.nil
                          go_simp
                          with_reducible refine (known_any _).mono ?_
                          rintro e9 w7 ⟨rfl, hb⟩
                          replace DM := DM.on hb
                          replace h := h.on hb
                          replace F3 := F3.on hb
                          replace F5 := F5.on hb
                          replace bz := bz.trans (hb.mono bz.size)
                          clear hb
                          clear hS; refine hK.out _ _ DM (fun hS => ?_); clear hK K
                          try simp only [Act.put, List.setIfInBounds_toArray, List.set_cons_zero, List.set_cons_succ, List.getElem_toArray, List.getElem_cons_zero, List.getElem_cons_succ]
                          refine wpAnyH_take (i := 11) (v := ?v11_49) rfl (by kernel_rfl) (by kernel_rfl) (by kernel_rfl) (fun _ _ _ h => h) (Or.inl ⟨by rfl, ?hy11_49⟩) (by assumption) ?rest11_49
                          case hy11_49 => (intro w9 hSw; clear hSw; go_simp; try with_reducible rfl)
                          try simp only [Act.put, List.setIfInBounds_toArray, List.set_cons_zero, List.set_cons_succ, List.getElem_toArray, List.getElem_cons_zero, List.getElem_cons_succ]
                          refine wpAnyH_take (i := 12) (v := ?v12_50) rfl (by kernel_rfl) (by kernel_rfl) (by kernel_rfl) (fun _ _ _ h => h) (Or.inl ⟨by rfl, ?hy12_50⟩) (by assumption) ?rest12_50
                          case hy12_50 => (intro w9 hSw; clear hSw; go_simp; try with_reducible rfl)
                          try simp only [Act.put, List.setIfInBounds_toArray, List.set_cons_zero, List.set_cons_succ, List.getElem_toArray, List.getElem_cons_zero, List.getElem_cons_succ]
                          refine wpAnyH_done (by kernel_rfl) ?_ _
                          go_wp2_with fail
                          go_ret
                          exact ⟨rfl, bz⟩
            · have d0 : ((K : Int) == n - 2) = false := by simpa using c6
              have HF0 : Hid (false = true ↔ ((0 ≤ n ∧ n ≤ 512 ∧ ((K : Int) = n - 2 ∨ (n < 2 ∧ K = 0))) ∧ ∀ (j : Nat) (r : Re), j < 0 → hs[j]? = some r → (r.l.length : Int) = n - 1 - j)) := Lib.hid ⟨fun h9 => (by cases h9), fun h9 => (by have h8 := h9.1; omega)⟩
              clear c1 c2 c3 c4 c5
              as_aux_lemma =>
                go_enter Try.func4, Try.ntmps4
                go_wp2_with fail
                go_loopw [5, 6] (fun v5 i wr => ∃ (k : Nat) (b : Bool), k ≤ K ∧ i = .int .i64 k ∧ v5 = .bool b ∧ Hid (b = true ↔ ((0 ≤ n ∧ n ≤ 512 ∧ ((K : Int) = n - 2 ∨ (n < 2 ∧ K = 0))) ∧ ∀ (j : Nat) (r : Re), j < k → hs[j]? = some r → (r.l.length : Int) = n - 1 - j)) ∧ w = wr) (fun _ i _ => K - (intOf i).toNat)
                case atStart => exact ⟨0, false, Nat.zero_le _, rfl, rfl, HF0, rfl⟩
                case round =>
                  clear HF0 i0 i1 i2 i3 d0 c6 c7 wn2
                  obtain ⟨k, b, hk, rfl, rfl, HB, rfl⟩ := hrel
                  have k0 : (0 : Int) ≤ k := by omega
                  by_cases hlt : k < K
                  · have k1 : (k : Int) < K := by omega
                    obtain ⟨e, ad, ea, he, rfl, hE, hl9, hc0, hc1, hv, bt⟩ := h.at_ (k := k) hlt
                    have hvm := hv.max
                    have HE := Lib.hid he
                    clear he hv hc1
                    by_cases c20 : 20 < e.l.length
                    · as_aux_lemma =>
                        have i20 : (20 : Int) < (e.l.length : Int) := by omega
                        clear c20
                        go_wp2_with fail
                        with_reducible refine (known_any _).mono ?_
                        rintro e9 w9 ⟨rfl, hb⟩
                        go_wp2_with fail
                        go_ret
                        exact ⟨rfl, bz.trans (hb.mono bz.size)⟩
                    · have i20 : ¬ (20 : Int) < (e.l.length : Int) := by omega
                      clear c20
                      cases b
                      · as_aux_lemma =>
                          have HB2 : Hid (false = true ↔ ((0 ≤ n ∧ n ≤ 512 ∧ ((K : Int) = n - 2 ∨ (n < 2 ∧ K = 0))) ∧ ∀ (j : Nat) (r : Re), j < k + 1 → hs[j]? = some r → (r.l.length : Int) = n - 1 - j)) := Lib.hid ⟨fun h9 => (by cases h9), fun h9 => HB.out.2 ⟨h9.1, fun j r hj hr => h9.2 j r (by omega) hr⟩⟩
                          go_wp2_with fail
                          go_roundw
                          case rel => exact ⟨k + 1, false, by omega, by go_num, rfl, HB2, by first | rfl | trivial⟩
                          case measure => simp [intOf]; omega
                      · as_aux_lemma =>
                          obtain ⟨⟨n0, n5, _⟩, _⟩ := HB.out.1 rfl
                          obtain ⟨m, rfl⟩ := Int.eq_ofNat_of_zero_le n0
                          have w1 : IntKind.i64.wrap ((m : Int) - 1) = (m : Int) - 1 := IntWalk.i64_in _ (by omega)
                          have w2 : IntKind.i64.wrap ((m : Int) - 1 - (k : Int)) = (m : Int) - 1 - (k : Int) := IntWalk.i64_in _ (by omega)
                          obtain ⟨b2, hb2⟩ : ∃ b2, ((e.l.length : Int) == (m : Int) - 1 - (k : Int)) = b2 := ⟨_, rfl⟩
                          have HB2 : Hid (b2 = true ↔ ((0 ≤ (m : Int) ∧ (m : Int) ≤ 512 ∧ ((K : Int) = m - 2 ∨ ((m : Int) < 2 ∧ K = 0))) ∧ ∀ (j : Nat) (r : Re), j < k + 1 → hs[j]? = some r → (r.l.length : Int) = m - 1 - j)) := Lib.hid (by
                            rw [← hb2, beq_iff_eq]
                            constructor
                            · intro h9
                              refine ⟨(HB.out.1 rfl).1, fun j r hj hr => ?_⟩
                              rcases Nat.lt_or_ge j k with g | g
                              · exact (HB.out.1 rfl).2 j r g hr
                              · obtain rfl : j = k := by omega
                                have h8 := HE.out
                                rw [h8] at hr
                                injection hr with hr
                                rw [← hr, h9]
                            · intro h9
                              exact h9.2 k e (by omega) HE.out)
                          go_wp2_with fail
                          go_roundw
                          case rel => exact ⟨k + 1, b2, by omega, by go_num, by first | rfl | rw [hb2] | simp [hb2], HB2, by first | rfl | trivial⟩
                          case measure => simp [intOf]; omega
                  · as_aux_lemma =>
                      have hkK : k = K := by omega
                      have k1 : ¬ (k : Int) < K := by omega
                      have HFit : Hid (b = true ↔ Fit n K hs) := Lib.hid (by
                        refine HB.out.trans ⟨fun h9 => ⟨h9.1, fun j r hr => h9.2 j r (by have := (List.getElem?_eq_some_iff.1 hr).1; have h8 := hl.out; omega) hr⟩, fun h9 => ⟨h9.1, fun j r _ hr => h9.2 j r hr⟩⟩)
                      clear HB hkK hlt hk
                      cases b
                      · as_aux_lemma =>
                          have pq := gQ_bad h (n := n) (fun h9 => by have := HFit.out.2 h9; cases this)
                          go_wp2_with fail
                          with_reducible refine pq.mono ?_
                          rintro e9 w1 ⟨rfl, hb⟩
                          clear pq
                          replace bz := hb
                          have DM := Blk.new w1 [.int .i64 0, .int .i64 0, .slice none 0 0] 24
                          obtain ⟨BM, eM⟩ : ∃ H, w1.heap.size = H := ⟨_, rfl⟩
                          rw [eM] at DM
                          replace bz := bz.alloc bz.size (.cells #[.int .i64 0, .int .i64 0, .slice none 0 0] 24)
                          go_upto_region 12 with fail
                          try simp only [eM] at ⊢
                          clear eM
                          generalize w1.alloc (.cells #[.int .i64 0, .int .i64 0, .slice none 0 0] 24) = W1 at DM bz ⊢
                          obtain ⟨y0, y1, y2, _, _, _⟩ := Mbx.cells DM
                          have ps := rSameM_any (R := 0) (C := 0) (FL.nil W1) (FL.nil W1) (fun k hk => absurd hk (by omega))
                          go_wp2_with fail
                          with_reducible refine ps.mono ?_
                          rintro e9 w4 ⟨rfl, hb⟩
                          replace bz := bz.trans (hb.mono bz.size)
                          clear hb ps y0 y1 y2 DM
                          go_wp2_with fail
                          with_reducible refine (known_any _).mono ?_
                          rintro e9 w9 ⟨rfl, hb⟩
                          go_wp2_with fail
                          go_ret
                          exact ⟨rfl, bz.trans (hb.mono bz.size)⟩
                      · as_aux_lemma =>
                          obtain ⟨m, rfl, hm5, hKm2, hlen⟩ := (HFit.out.1 rfl).nat hl.out
                          have HK := Lib.hid hKm2
                          have HLN := Lib.hid hlen
                          have pq := gQ_yes h hm5 hKm2 hlen
                          clear hKm2 hlen HFit
                          go_wp2_with fail
                          with_reducible refine pq.mono ?_
                          rintro e9 w1 ⟨A3, c3, L3, Qs, rfl, O3, T3, hQ3, hb⟩
                          have IW := (tq_is T3 (Nat.zero_le _) hl.out)
                          rw [hQ3] at IW
                          have F3 := O3.fl IW.wd
                          rw [IW.len] at F3
                          have HT3 := Lib.hid T3
                          have HQ3 := Lib.hid hQ3
                          clear pq O3 T3 hQ3 IW
                          have h2 := h.on hb
                          have bz2 := bz.trans (hb.mono bz.size)
                          clear hb
                          obtain ⟨N, hN⟩ : ∃ N, m * m = N := ⟨_, rfl⟩
                          rw [hN] at F3 ⊢
                          have HN := Lib.hid hN
                          clear hN
                          have DM := Blk.new w1 [.int .i64 m, .int .i64 m, .slice A3 N c3] 24
                          obtain ⟨BM, eM⟩ : ∃ H, w1.heap.size = H := ⟨_, rfl⟩
                          rw [eM] at DM
                          have hbA := (Below.refl _ w1).alloc (Nat.le_refl _) (.cells #[.int .i64 m, .int .i64 m, .slice A3 N c3] 24)
                          replace h2 := h2.on hbA
                          replace F3 := F3.on hbA
                          replace bz2 := bz2.trans (hbA.mono bz2.size)
                          clear hbA
                          go_upto_region 13 with fail
                          try simp only [eM] at ⊢
                          clear eM
                          generalize w1.alloc (.cells #[.int .i64 m, .int .i64 m, .slice A3 N c3] 24) = W1 at DM h2 F3 bz2 ⊢
                          clear h bz
                          have h := h2
                          have bz := bz2
                          clear h2 bz2
                          go_wp2_with fail
                          replace DM := DM.drew
                          replace F3 := F3.drew
                          replace bz := bz.drew
                          replace h := h.on ((Below.refl _ W1).drew)
                          refine wp_region_held_drew (S := fun w9 : World => Mbx w9 BM m m A3 N c3) (by kernel_rfl) DM (fun hS => ?_)
                          generalize W1.drew = wl at hS DM h F3  bz ⊢
                          refine wpAnyH_take (i := 0) (v := ?v0_51) rfl (by kernel_rfl) (by kernel_rfl) (by kernel_rfl) (fun _ _ _ h => h) (Or.inl ⟨by rfl, ?hy0_51⟩) (by assumption) ?rest0_51
                          case hy0_51 => (intro w9 hSw; clear hSw; go_simp; try with_reducible rfl)
                          try simp only [Act.put, List.setIfInBounds_toArray, List.set_cons_zero, List.set_cons_succ, List.getElem_toArray, List.getElem_cons_zero, List.getElem_cons_succ]
                          refine wpAnyH_take (i := 1) (v := ?v1_52) rfl (by kernel_rfl) (by kernel_rfl) (by kernel_rfl) (fun _ _ _ h => h) (Or.inl ⟨by rfl, ?hy1_52⟩) (by assumption) ?rest1_52
                          case hy1_52 => (intro w9 hSw; clear hSw; go_simp; try with_reducible rfl)
                          try simp only [Act.put, List.setIfInBounds_toArray, List.set_cons_zero, List.set_cons_succ, List.getElem_toArray, List.getElem_cons_zero, List.getElem_cons_succ]
                          refine wpAnyH_take (i := 2) (v := ?v2_53) rfl (by kernel_rfl) (by kernel_rfl) (by kernel_rfl) (fun _ _ _ h => h) (Or.inl ⟨by rfl, ?hy2_53⟩) (by assumption) ?rest2_53
                          case hy2_53 => (intro w9 hSw; clear hSw; go_simp; try with_reducible rfl)
                          try simp only [Act.put, List.setIfInBounds_toArray, List.set_cons_zero, List.set_cons_succ, List.getElem_toArray, List.getElem_cons_zero, List.getElem_cons_succ]
                          refine wpAnyH_take (i := 3) (v := ?v3_54) rfl (by kernel_rfl) (by kernel_rfl) (by kernel_rfl) (fun _ _ _ h => h) (Or.inl ⟨by rfl, ?hy3_54⟩) (by assumption) ?rest3_54
                          case hy3_54 => (intro w9 hSw; obtain ⟨y0, y1, y2, _, _, _⟩ := Mbx.cells hSw; go_simp; try with_reducible rfl)
                          try simp only [Act.put, List.setIfInBounds_toArray, List.set_cons_zero, List.set_cons_succ, List.getElem_toArray, List.getElem_cons_zero, List.getElem_cons_succ]
                          refine wpAnyH_take (i := 4) (v := ?v4_55) rfl (by kernel_rfl) (by kernel_rfl) (by kernel_rfl) (fun _ _ _ h => h) (Or.inl ⟨by rfl, ?hy4_55⟩) (by assumption) ?rest4_55
                          case hy4_55 => (intro w9 hSw; clear hSw; go_simp; try with_reducible rfl)
                          try simp only [Act.put, List.setIfInBounds_toArray, List.set_cons_zero, List.set_cons_succ, List.getElem_toArray, List.getElem_cons_zero, List.getElem_cons_succ]
                          refine wpAnyH_take (i := 5) (v := ?v5_56) rfl (by kernel_rfl) (by kernel_rfl) (by kernel_rfl) (fun _ _ _ h => h) (Or.inl ⟨by rfl, ?hy5_56⟩) (by assumption) ?rest5_56
                          case hy5_56 => (intro w9 hSw; clear hSw; go_simp; try with_reducible rfl)
                          try simp only [Act.put, List.setIfInBounds_toArray, List.set_cons_zero, List.set_cons_succ, List.getElem_toArray, List.getElem_cons_zero, List.getElem_cons_succ]
                          refine wpAnyH_ready (rs := [6]) (by kernel_rfl) (by simp) ?_
                          refine AllReadyH.cons rfl (fun K hK => ?_) AllReadyH.nil
                          go_simp
                          with_reducible refine (rQ_any h hm5 HK.out HLN.out).mono ?_
                          rintro e9 w5 ⟨A5, c5, L5, Ps, rfl, O5, T5, hQ5, hb⟩
                          have IV := (tq_is T5 (Nat.zero_le _) hl.out)
                          rw [hQ5] at IV
                          have F5 := O5.fl IV.wd
                          rw [IV.len] at F5
                          have HS : Hid (SameF L3 L5) := Lib.hid (by rw [← HQ3.out, ← hQ5]; exact Tq.same HT3.out T5 hl.out)
                          clear O5 T5 hQ5 IV
                          rw [HN.out] at F5 ⊢
                          replace DM := DM.on hb
                          replace h := h.on hb
                          replace F3 := F3.on hb
                          replace bz := bz.trans (hb.mono bz.size)
                          clear hb
                          clear hS; refine hK.out _ _ DM (fun hS => ?_); clear hK K
                          try simp only [Act.put, List.setIfInBounds_toArray, List.set_cons_zero, List.set_cons_succ, List.getElem_toArray, List.getElem_cons_zero, List.getElem_cons_succ]
                          refine wpAnyH_ready (rs := [7]) (by kernel_rfl) (by simp) ?_
                          refine AllReadyH.cons rfl (fun K hK => ?_) AllReadyH.nil
                          go_simp
                          with_reducible refine (rSameM_any (R := m) (C := m) F3 F5 (fun k hk => HS.out.at_ k)).mono ?_
                          rintro e9 w6 ⟨rfl, hb⟩
                          replace DM := DM.on hb
                          replace h := h.on hb
                          replace F3 := F3.on hb
                          replace F5 := F5.on hb
                          replace bz := bz.trans (hb.mono bz.size)
                          clear hb
                          clear hS; refine hK.out _ _ DM (fun hS => ?_); clear hK K
                          try simp only [Act.put, List.setIfInBounds_toArray, List.set_cons_zero, List.set_cons_succ, List.getElem_toArray, List.getElem_cons_zero, List.getElem_cons_succ]
                          refine wpAnyH_take (i := 8) (v := ?v8_57) rfl (by kernel_rfl) (by kernel_rfl) (by kernel_rfl) (fun _ _ _ h => h) (Or.inl ⟨by rfl, ?hy8_57⟩) (by assumption) ?rest8_57
                          case hy8_57 => (intro w9 hSw; clear hSw; go_simp; try with_reducible rfl)
                          try simp only [Act.put, List.setIfInBounds_toArray, List.set_cons_zero, List.set_cons_succ, List.getElem_toArray, List.getElem_cons_zero, List.getElem_cons_succ]
                          refine wpAnyH_take (i := 9) (v := ?v9_58) rfl (by kernel_rfl) (by kernel_rfl) (by kernel_rfl) (fun _ _ _ h => h) (Or.inl ⟨by rfl, ?hy9_58⟩) (by assumption) ?rest9_58
                          case hy9_58 => (intro w9 hSw; clear hSw; go_simp; try with_reducible rfl)
                          try simp only [Act.put, List.setIfInBounds_toArray, List.set_cons_zero, List.set_cons_succ, List.getElem_toArray, List.getElem_cons_zero, List.getElem_cons_succ]
                          refine wpAnyH_ready (rs := [10]) (by kernel_rfl) (by simp) ?_
                          refine AllReadyH.cons rfl (fun K hK => ?_) AllReadyH.nil
                          go_simp
                          with_reducible refine (known_any _).mono ?_
                          rintro e9 w7 ⟨rfl, hb⟩
                          replace DM := DM.on hb
                          replace h := h.on hb
                          replace F3 := F3.on hb
                          replace F5 := F5.on hb
                          replace bz := bz.trans (hb.mono bz.size)
                          clear hb
                          clear hS; refine hK.out _ _ DM (fun hS => ?_); clear hK K
                          try simp only [Act.put, List.setIfInBounds_toArray, List.set_cons_zero, List.set_cons_succ, List.getElem_toArray, List.getElem_cons_zero, List.getElem_cons_succ]
                          refine wpAnyH_take (i := 11) (v := ?v11_59) rfl (by kernel_rfl) (by kernel_rfl) (by kernel_rfl) (fun _ _ _ h => h) (Or.inl ⟨by rfl, ?hy11_59⟩) (by assumption) ?rest11_59
                          case hy11_59 => (intro w9 hSw; clear hSw; go_simp; try with_reducible rfl)
                          try simp only [Act.put, List.setIfInBounds_toArray, List.set_cons_zero, List.set_cons_succ, List.getElem_toArray, List.getElem_cons_zero, List.getElem_cons_succ]
                          refine wpAnyH_take (i := 12) (v := ?v12_60) rfl (by kernel_rfl) (by kernel_rfl) (by kernel_rfl) (fun _ _ _ h => h) (Or.inl ⟨by rfl, ?hy12_60⟩) (by assumption) ?rest12_60
                          case hy12_60 => (intro w9 hSw; clear hSw; go_simp; try with_reducible rfl)
                          try simp only [Act.put, List.setIfInBounds_toArray, List.set_cons_zero, List.set_cons_succ, List.getElem_toArray, List.getElem_cons_zero, List.getElem_cons_succ]
                          refine wpAnyH_done (by kernel_rfl) ?_ _
                          go_wp2_with fail
                          go_ret
                          exact ⟨rfl, bz⟩
end Go.Proofs.Ytaemkjcmjgefeaa
