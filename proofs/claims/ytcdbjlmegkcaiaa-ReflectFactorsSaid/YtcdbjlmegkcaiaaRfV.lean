/-
  Layer 9: the law of several reflections' factor. (Written by wip/tools/gen_rfv.py.)
-/
import Derived.Test.YtcdbjlmegkcaiaaRfU
import Derived.Test.YtcdbjlmegkcaiaaRfM
namespace Go.Proofs.Ytcdbjlmegkcaiaa
open Go.RowKit Go.Bw
set_option linter.unusedVariables false
set_option linter.unusedSimpArgs false
attribute [local go_sem] run_store_float

abbrev RTrue (w : World) (e : Ending) (w' : World) : Prop := e = .returned (.bool true) ∧ Below w.heap.size w w'
set_option maxRecDepth 100000 in
set_option maxHeartbeats 16000000 in
theorem law_factors {w : World} {A : Option Addr} {n c : Nat} {hs : List Re} (hL : Rl w A n c hs) : Calls Try.prog 5 #[.slice A n c] w (RTrue w) := by
  have hn := hL.2.1
  have hlenN := hL.1
  have bz := Below.refl w.heap.size w
  by_cases h20 : 20 < n
  · have h21 : (20 : Int) < n := by omega
    clear hL
    go_enter Try.func5, Try.ntmps5
    go_wp2_with fail
    with_reducible refine (known_any _).mono ?_
    rintro e w9 ⟨rfl, hb9⟩
    go_wp2_with fail
    go_ret
    exact ⟨rfl, bz.trans (hb9.mono bz.size)⟩
  · have h21 : ¬ (20 : Int) < n := by omega
    obtain ⟨N, hN⟩ : ∃ N, n * n = N := ⟨_, rfl⟩
    have HN := Lib.hid hN
    clear hN
    have pt := total_any hL
    cases hb0 : togB hs
    · have pf := gFactor_no hL hb0
      have HB := Lib.hid hb0
      clear hb0
      go_enter Try.func5, Try.ntmps5
      go_wp2_with fail
      with_reducible refine pt.mono ?_
      rintro e w0 ⟨z, rfl, rfl⟩
      by_cases hz : 400 < z
      · skip
        go_wp2_with fail
        with_reducible refine (known_any _).mono ?_
        rintro e w9 ⟨rfl, hb9⟩
        go_wp2_with fail
        go_ret
        exact ⟨rfl, bz.trans (hb9.mono bz.size)⟩
      · skip
        go_wp2_with fail
        with_reducible refine (pf).mono ?_
        rintro e w1 ⟨rfl, hb⟩
        replace hL := hL.on hb
        replace bz := bz.trans (hb.mono bz.size)
        clear hb pt
        have DZ := Blk.new w1 [.int .i64 0, .int .i64 0, .slice none 0 0] 36
        have hbA := (Below.refl _ w1).alloc (Nat.le_refl _) (.cells #[.int .i64 0, .int .i64 0, .slice none 0 0] 36)
        replace hL := hL.on hbA
        clear hbA
        replace bz := bz.alloc bz.size (.cells #[.int .i64 0, .int .i64 0, .slice none 0 0] 36)
        have pa := rAlike_any hL (by omega) HB.out
        go_wp2_with fail
        with_reducible refine (pa).mono ?_
        rintro e w2 ⟨rfl, hb⟩
        replace hL := hL.on hb
        replace DZ := DZ.on hb
        replace bz := bz.trans (hb.mono bz.size)
        clear hb pa
        obtain ⟨z0, z1, z2, _, _, _⟩ := Mbx.cells DZ
        go_wp2_with fail
        with_reducible refine (rSameM_any (R := 0) (C := 0) (FL.nil _) (FL.nil _) (fun k hk => by omega)).mono ?_
        rintro e w3 ⟨rfl, hb⟩
        replace hL := hL.on hb
        replace DZ := DZ.on hb
        replace bz := bz.trans (hb.mono bz.size)
        clear hb
        go_wp2_with fail
        with_reducible refine (known_any _).mono ?_
        rintro e w9 ⟨rfl, hb9⟩
        go_wp2_with fail
        go_ret
        exact ⟨rfl, bz.trans (hb9.mono bz.size)⟩
    · obtain ⟨m, hm0, hlen⟩ := tog_len hb0
      have h1 : 0 < n := by rcases Nat.eq_zero_or_pos n with h9 | h9; rw [h9] at hlenN; rw [List.eq_nil_of_length_eq_zero hlenN] at hb0; cases hb0; exact h9
      have pf := gFactor_yes hL HN.out hb0 hlen hm0 h1 (by omega)
      have HB := Lib.hid hb0
      have HLEN := Lib.hid hlen
      clear hb0 hlen
      go_enter Try.func5, Try.ntmps5
      go_wp2_with fail
      with_reducible refine pt.mono ?_
      rintro e w0 ⟨z, rfl, rfl⟩
      by_cases hz : 400 < z
      · skip
        go_wp2_with fail
        with_reducible refine (known_any _).mono ?_
        rintro e w9 ⟨rfl, hb9⟩
        go_wp2_with fail
        go_ret
        exact ⟨rfl, bz.trans (hb9.mono bz.size)⟩
      · skip
        go_wp2_with fail
        with_reducible refine (pf).mono ?_
        rintro e w1 ⟨G, cap, L, rfl, hO, hI, hb⟩
        replace hL := hL.on hb
        replace bz := bz.trans (hb.mono bz.size)
        clear hb pt
        have FX := hO.fl hI.wd
        rw [hI.len] at FX
        clear hO
        have DT := Blk.new w1 [.int .i64 n, .int .i64 n, .slice (some ⟨G, 0, none⟩) N cap] 36
        have hbA := (Below.refl _ w1).alloc (Nat.le_refl _) (.cells #[.int .i64 n, .int .i64 n, .slice (some ⟨G, 0, none⟩) N cap] 36)
        replace hL := hL.on hbA
        replace FX := FX.on hbA
        clear hbA
        replace bz := bz.alloc bz.size (.cells #[.int .i64 n, .int .i64 n, .slice (some ⟨G, 0, none⟩) N cap] 36)
        obtain ⟨BT, hBT⟩ : ∃ b, w1.heap.size = b := ⟨_, rfl⟩
        rw [hBT] at DT
        have pa := rAlike_any hL (by omega) HB.out
        go_wp2_with fail
        with_reducible refine (pa).mono ?_
        rintro e w2 ⟨rfl, hb⟩
        replace hL := hL.on hb
        replace FX := FX.on hb
        replace DT := DT.on hb
        replace bz := bz.trans (hb.mono bz.size)
        clear hb pa
        go_wp2_with fail
        replace hL := hL.drew
        replace FX := FX.drew
        replace DT := DT.drew
        replace bz := bz.drew
        refine wp_region_held_drew (S := fun w9 : World => Mbx w9 BT n n (some ⟨G, 0, none⟩) N cap) (by kernel_rfl) DT (fun hS => ?_)
        generalize w2.drew = wd at hS hL FX DT  bz ⊢
        refine wpAnyH_take (i := 0) (v := ?v0_26) rfl (by kernel_rfl) (by kernel_rfl) (by kernel_rfl) (fun _ _ _ h => h) (Or.inl ⟨by rfl, ?hy0_26⟩) (by assumption) ?rest0_26
        case hy0_26 => (intro w9 hSw; clear hSw; go_simp; try with_reducible rfl)
        try simp only [Act.put, List.setIfInBounds_toArray, List.set_cons_zero, List.set_cons_succ, List.getElem_toArray, List.getElem_cons_zero, List.getElem_cons_succ]
        refine wpAnyH_take (i := 1) (v := ?v1_27) rfl (by kernel_rfl) (by kernel_rfl) (by kernel_rfl) (fun _ _ _ h => h) (Or.inl ⟨by rfl, ?hy1_27⟩) (by assumption) ?rest1_27
        case hy1_27 => (intro w9 hSw; clear hSw; go_simp; try with_reducible rfl)
        try simp only [Act.put, List.setIfInBounds_toArray, List.set_cons_zero, List.set_cons_succ, List.getElem_toArray, List.getElem_cons_zero, List.getElem_cons_succ]
        refine wpAnyH_take (i := 2) (v := ?v2_28) rfl (by kernel_rfl) (by kernel_rfl) (by kernel_rfl) (fun _ _ _ h => h) (Or.inl ⟨by rfl, ?hy2_28⟩) (by assumption) ?rest2_28
        case hy2_28 => (intro w9 hSw; clear hSw; go_simp; try with_reducible rfl)
        try simp only [Act.put, List.setIfInBounds_toArray, List.set_cons_zero, List.set_cons_succ, List.getElem_toArray, List.getElem_cons_zero, List.getElem_cons_succ]
        refine wpAnyH_take (i := 3) (v := ?v3_29) rfl (by kernel_rfl) (by kernel_rfl) (by kernel_rfl) (fun _ _ _ h => h) (Or.inl ⟨by rfl, ?hy3_29⟩) (by assumption) ?rest3_29
        case hy3_29 => (intro w9 hSw; have ma1 : Mbx w9 BT n n (some ⟨G, 0, none⟩) N cap := hSw; obtain ⟨y0, y1, y2, _, _, _⟩ := Mbx.cells ma1; go_simp; try with_reducible rfl)
        try simp only [Act.put, List.setIfInBounds_toArray, List.set_cons_zero, List.set_cons_succ, List.getElem_toArray, List.getElem_cons_zero, List.getElem_cons_succ]
        refine wpAnyH_take (i := 4) (v := ?v4_30) rfl (by kernel_rfl) (by kernel_rfl) (by kernel_rfl) (fun _ _ _ h => h) (Or.inl ⟨by rfl, ?hy4_30⟩) (by assumption) ?rest4_30
        case hy4_30 => (intro w9 hSw; clear hSw; go_simp; try with_reducible rfl)
        try simp only [Act.put, List.setIfInBounds_toArray, List.set_cons_zero, List.set_cons_succ, List.getElem_toArray, List.getElem_cons_zero, List.getElem_cons_succ]
        refine wpAnyH_ready (rs := [5]) (by kernel_rfl) (by simp) ?_
        refine AllReadyH.cons rfl (fun K hK => ?_) AllReadyH.nil
        go_simp
        with_reducible refine (rFactor_yes hL HN.out HLEN.out hm0 h1 (by omega)).mono ?_
        rintro e w3 ⟨A2, c2, L2, rfl, hO2, hI2, hb⟩
        replace hL := hL.on hb
        replace FX := FX.on hb
        replace DT := DT.on hb
        replace bz := bz.trans (hb.mono bz.size)
        clear hb
        have F2 := hO2.fl hI2.wd
        rw [hI2.len] at F2
        clear hO2
        clear hS; refine hK.out _ _ DT (fun hS => ?_); clear hK K
        try simp only [Act.put, List.setIfInBounds_toArray, List.set_cons_zero, List.set_cons_succ, List.getElem_toArray, List.getElem_cons_zero, List.getElem_cons_succ]
        refine wpAnyH_ready (rs := [6]) (by kernel_rfl) (by simp) ?_
        refine AllReadyH.cons rfl (fun K hK => ?_) AllReadyH.nil
        go_simp
        with_reducible refine (rSameM_any FX F2 (fun k hk => (hI.at_ k hk).trans (hI2.at_ k hk).symm)).mono ?_
        rintro e w4 ⟨rfl, hb⟩
        replace hL := hL.on hb
        replace FX := FX.on hb
        replace DT := DT.on hb
        replace F2 := F2.on hb
        replace bz := bz.trans (hb.mono bz.size)
        clear hb
        clear hS; refine hK.out _ _ DT (fun hS => ?_); clear hK K
        try simp only [Act.put, List.setIfInBounds_toArray, List.set_cons_zero, List.set_cons_succ, List.getElem_toArray, List.getElem_cons_zero, List.getElem_cons_succ]
        refine wpAnyH_take (i := 7) (v := ?v7_31) rfl (by kernel_rfl) (by kernel_rfl) (by kernel_rfl) (fun _ _ _ h => h) (Or.inl ⟨by rfl, ?hy7_31⟩) (by assumption) ?rest7_31
        case hy7_31 => (intro w9 hSw; clear hSw; go_simp; try with_reducible rfl)
        try simp only [Act.put, List.setIfInBounds_toArray, List.set_cons_zero, List.set_cons_succ, List.getElem_toArray, List.getElem_cons_zero, List.getElem_cons_succ]
        refine wpAnyH_take (i := 8) (v := ?v8_32) rfl (by kernel_rfl) (by kernel_rfl) (by kernel_rfl) (fun _ _ _ h => h) (Or.inl ⟨by rfl, ?hy8_32⟩) (by assumption) ?rest8_32
        case hy8_32 => (intro w9 hSw; clear hSw; go_simp; try with_reducible rfl)
        try simp only [Act.put, List.setIfInBounds_toArray, List.set_cons_zero, List.set_cons_succ, List.getElem_toArray, List.getElem_cons_zero, List.getElem_cons_succ]
        refine wpAnyH_ready (rs := [9]) (by kernel_rfl) (by simp) ?_
        refine AllReadyH.cons rfl (fun K hK => ?_) AllReadyH.nil
        go_simp
        with_reducible refine (known_any _).mono ?_
        rintro e w5 ⟨rfl, hb⟩
        replace hL := hL.on hb
        replace FX := FX.on hb
        replace DT := DT.on hb
        replace F2 := F2.on hb
        replace bz := bz.trans (hb.mono bz.size)
        clear hb
        clear hS; refine hK.out _ _ DT (fun hS => ?_); clear hK K
        try simp only [Act.put, List.setIfInBounds_toArray, List.set_cons_zero, List.set_cons_succ, List.getElem_toArray, List.getElem_cons_zero, List.getElem_cons_succ]
        refine wpAnyH_take (i := 10) (v := ?v10_33) rfl (by kernel_rfl) (by kernel_rfl) (by kernel_rfl) (fun _ _ _ h => h) (Or.inl ⟨by rfl, ?hy10_33⟩) (by assumption) ?rest10_33
        case hy10_33 => (intro w9 hSw; clear hSw; go_simp; try with_reducible rfl)
        try simp only [Act.put, List.setIfInBounds_toArray, List.set_cons_zero, List.set_cons_succ, List.getElem_toArray, List.getElem_cons_zero, List.getElem_cons_succ]
        refine wpAnyH_take (i := 11) (v := ?v11_34) rfl (by kernel_rfl) (by kernel_rfl) (by kernel_rfl) (fun _ _ _ h => h) (Or.inl ⟨by rfl, ?hy11_34⟩) (by assumption) ?rest11_34
        case hy11_34 => (intro w9 hSw; clear hSw; go_simp; try with_reducible rfl)
        try simp only [Act.put, List.setIfInBounds_toArray, List.set_cons_zero, List.set_cons_succ, List.getElem_toArray, List.getElem_cons_zero, List.getElem_cons_succ]
        refine wpAnyH_done (by kernel_rfl) ?_ _
        go_wp2_with fail
        go_ret
        exact ⟨by first | rfl | simp, bz⟩
end Go.Proofs.Ytcdbjlmegkcaiaa
