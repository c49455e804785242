/-
  Layer 10: the law of a tridiagonal as a matrix. (Written by wip/tools/gen_tdz.py.)
-/
import Derived.Test.YtaemkjcmjgefeaaTdY
namespace Go.Proofs.Ytaemkjcmjgefeaa
open Go.RowKit Go.Bw
set_option linter.unusedVariables false
set_option linter.unusedSimpArgs false
attribute [local go_sem] run_store_float
abbrev RTrue (w : World) (e : Ending) (w' : World) : Prop := e = .returned (.bool true) ∧ Below w.heap.size w w'
set_option maxRecDepth 100000 in
set_option maxHeartbeats 16000000 in
theorem law_full {A A2 : Option Addr} {n c m c2 : Nat} {d e : List Int} {w : World} (h : FL w A n c d) (h2 : FL w A2 m c2 e) : Calls Try.prog 5 #[tV A n c A2 m c2] w (RTrue w) := by
  have hmn := h.max
  have hmm := h2.max
  have bz := (Below.refl _ w).alloc (Nat.le_refl _) (.cells #[.slice A n c, .slice A2 m c2] 28)
  have DT := Blk.new w [.slice A n c, .slice A2 m c2] 28
  replace h := h.on bz
  replace h2 := h2.on bz
  obtain ⟨b, hb9⟩ : ∃ b, mayT n m = b := ⟨_, rfl⟩
  have pr := fun W => rMayT_any (A := A) (c := c) (A2 := A2) (c2 := c2) hmn hmm W
  have pt := fun W => tMayT_any (A := A) (c := c) (A2 := A2) (c2 := c2) hmn hmm W
  rw [hb9] at pr pt
  have HB := Lib.hid hb9
  clear hb9
  obtain ⟨t0, t1, _, _⟩ := Tbx.cells DT
  by_cases h1 : 30 < n ∧ n ≤ 512
  · have i1 : (30 : Int) < n := by omega
    have i2 : (n : Int) ≤ 512 := by omega
    clear h1
    clear pr pt
    go_enter Try.func5, Try.ntmps5
    go_wp2_with fail
    with_reducible refine (known_any _).mono ?_
    rintro e9 w9 ⟨rfl, hb⟩
    go_wp2_with fail
    go_ret
    exact ⟨rfl, bz.trans (hb.mono bz.size)⟩
  · by_cases h3 : 600 < n
    · have i1 : (30 : Int) < n := by omega
      have i2 : ¬ (n : Int) ≤ 512 := by omega
      have i3 : (600 : Int) < n := by omega
      clear h1 h3
      clear pr pt
      go_enter Try.func5, Try.ntmps5
      go_wp2_with fail
      with_reducible refine (known_any _).mono ?_
      rintro e9 w9 ⟨rfl, hb⟩
      go_wp2_with fail
      go_ret
      exact ⟨rfl, bz.trans (hb.mono bz.size)⟩
    · by_cases h4 : 600 < m
      · have i3 : ¬ (600 : Int) < n := by omega
        have i4 : (600 : Int) < m := by omega
        rcases Nat.lt_or_ge 30 n with h5 | h5
        · have i1 : (30 : Int) < n := by omega
          have i2 : ¬ (n : Int) ≤ 512 := by omega
          clear h1 h3 h4 h5 pr pt
          go_enter Try.func5, Try.ntmps5
          go_wp2_with fail
          with_reducible refine (known_any _).mono ?_
          rintro e9 w9 ⟨rfl, hb⟩
          go_wp2_with fail
          go_ret
          exact ⟨rfl, bz.trans (hb.mono bz.size)⟩
        · have i1 : ¬ (30 : Int) < n := by omega
          have i2 : (n : Int) ≤ 512 := by omega
          clear h1 h3 h4 h5 pr pt
          go_enter Try.func5, Try.ntmps5
          go_wp2_with fail
          with_reducible refine (known_any _).mono ?_
          rintro e9 w9 ⟨rfl, hb⟩
          go_wp2_with fail
          go_ret
          exact ⟨rfl, bz.trans (hb.mono bz.size)⟩
      · have i3 : ¬ (600 : Int) < n := by omega
        have i4 : ¬ (600 : Int) < m := by omega
        have HX := Lib.hid h1
        clear h1 h3 h4
        rcases Nat.lt_or_ge 30 n with h5 | h5
        · have i1 : (30 : Int) < n := by omega
          have i2 : ¬ (n : Int) ≤ 512 := by have := HX.out; omega
          clear h5 HX
          cases b
          · have pg := fun W => gFull_no (A := A) (c := c) (A2 := A2) (c2 := c2) (w := W) hmn hmm HB.out
            go_enter Try.func5, Try.ntmps5
            go_wp2_with fail
            with_reducible refine (pg _).mono ?_
            rintro e9 w1 ⟨rfl, hb⟩
            replace DT := DT.on hb
            replace bz := bz.trans (hb.mono bz.size)
            clear hb t0 t1
            have DM := Blk.new w1 [.int .i64 0, .int .i64 0, .slice none 0 0] 24
            obtain ⟨BM, eM⟩ : ∃ H, w1.heap.size = H := ⟨_, rfl⟩
            rw [eM] at DM
            replace DT := DT.alloc (.cells #[.int .i64 0, .int .i64 0, .slice none 0 0] 24)
            replace bz := bz.alloc bz.size (.cells #[.int .i64 0, .int .i64 0, .slice none 0 0] 24)
            obtain ⟨t0, t1, _, _⟩ := Tbx.cells DT
            go_upto_region 4 with fail
            try simp only [eM] at ⊢
            clear eM
            clear t0 t1
            generalize w1.alloc (.cells #[.int .i64 0, .int .i64 0, .slice none 0 0] 24) = W1 at DT DM bz ⊢
            obtain ⟨t0, t1, _, _⟩ := Tbx.cells DT
            go_wp2_with fail
            with_reducible refine (pr _).mono ?_
            rintro e9 w2 ⟨rfl, hb⟩
            replace DT := DT.on hb
            replace DM := DM.on hb
            replace bz := bz.trans (hb.mono bz.size)
            clear hb t0 t1
            obtain ⟨t0, t1, _, _⟩ := Tbx.cells DT
            go_wp2_with fail
            with_reducible refine (pt _).mono ?_
            rintro e9 w3 ⟨rfl, hb⟩
            replace DM := DM.on hb
            replace bz := bz.trans (hb.mono bz.size)
            clear hb t0 t1 DT
            obtain ⟨y0, y1, y2, _, _, _⟩ := Mbx.cells DM
            have ps := rSameM_any (R := 0) (C := 0) (FL.nil w3) (FL.nil w3) (fun k hk => absurd hk (by omega))
            go_wp2_with fail
            with_reducible refine ps.mono ?_
            rintro e9 w4 ⟨rfl, hb⟩
            replace bz := bz.trans (hb.mono bz.size)
            clear hb ps y0 y1 y2 DM
            go_wp2_with fail
            with_reducible refine (known_any _).mono ?_
            rintro e9 w9 ⟨rfl, hb⟩
            go_wp2_with fail
            go_ret
            exact ⟨rfl, bz.trans (hb.mono bz.size)⟩
          · exact absurd (of_decide_eq_true HB.out).1 (by omega)
        · have i1 : ¬ (30 : Int) < n := by omega
          have i2 : (n : Int) ≤ 512 := by omega
          clear h5 HX
          cases b
          · have pg := fun W => gFull_no (A := A) (c := c) (A2 := A2) (c2 := c2) (w := W) hmn hmm HB.out
            go_enter Try.func5, Try.ntmps5
            go_wp2_with fail
            with_reducible refine (pg _).mono ?_
            rintro e9 w1 ⟨rfl, hb⟩
            replace DT := DT.on hb
            replace bz := bz.trans (hb.mono bz.size)
            clear hb t0 t1
            have DM := Blk.new w1 [.int .i64 0, .int .i64 0, .slice none 0 0] 24
            obtain ⟨BM, eM⟩ : ∃ H, w1.heap.size = H := ⟨_, rfl⟩
            rw [eM] at DM
            replace DT := DT.alloc (.cells #[.int .i64 0, .int .i64 0, .slice none 0 0] 24)
            replace bz := bz.alloc bz.size (.cells #[.int .i64 0, .int .i64 0, .slice none 0 0] 24)
            obtain ⟨t0, t1, _, _⟩ := Tbx.cells DT
            go_upto_region 4 with fail
            try simp only [eM] at ⊢
            clear eM
            clear t0 t1
            generalize w1.alloc (.cells #[.int .i64 0, .int .i64 0, .slice none 0 0] 24) = W1 at DT DM bz ⊢
            obtain ⟨t0, t1, _, _⟩ := Tbx.cells DT
            go_wp2_with fail
            with_reducible refine (pr _).mono ?_
            rintro e9 w2 ⟨rfl, hb⟩
            replace DT := DT.on hb
            replace DM := DM.on hb
            replace bz := bz.trans (hb.mono bz.size)
            clear hb t0 t1
            obtain ⟨t0, t1, _, _⟩ := Tbx.cells DT
            go_wp2_with fail
            with_reducible refine (pt _).mono ?_
            rintro e9 w3 ⟨rfl, hb⟩
            replace DM := DM.on hb
            replace bz := bz.trans (hb.mono bz.size)
            clear hb t0 t1 DT
            obtain ⟨y0, y1, y2, _, _, _⟩ := Mbx.cells DM
            have ps := rSameM_any (R := 0) (C := 0) (FL.nil w3) (FL.nil w3) (fun k hk => absurd hk (by omega))
            go_wp2_with fail
            with_reducible refine ps.mono ?_
            rintro e9 w4 ⟨rfl, hb⟩
            replace bz := bz.trans (hb.mono bz.size)
            clear hb ps y0 y1 y2 DM
            go_wp2_with fail
            with_reducible refine (known_any _).mono ?_
            rintro e9 w9 ⟨rfl, hb⟩
            go_wp2_with fail
            go_ret
            exact ⟨rfl, bz.trans (hb.mono bz.size)⟩
          · have pg := gFull_yes h h2 HB.out
            obtain ⟨hn, hm⟩ := of_decide_eq_true HB.out
            have HM := Lib.hid hm
            clear hm
            go_enter Try.func5, Try.ntmps5
            go_wp2_with fail
            with_reducible refine pg.mono ?_
            rintro e9 w1 ⟨A3, c3, L3, rfl, O3, I3, hb⟩
            have F3 := O3.fl I3.wd
            rw [I3.len] at F3
            have HI3 := Lib.hid I3
            clear I3 O3
            replace DT := DT.on hb
            replace h := h.on hb
            replace h2 := h2.on hb
            replace bz := bz.trans (hb.mono bz.size)
            clear hb t0 t1 pg
            obtain ⟨N, hN⟩ : ∃ N, n * n = N := ⟨_, rfl⟩
            rw [hN] at F3 ⊢
            have HN := Lib.hid hN
            clear hN
            have DM := Blk.new w1 [.int .i64 n, .int .i64 n, .slice A3 N c3] 24
            obtain ⟨BM, eM⟩ : ∃ H, w1.heap.size = H := ⟨_, rfl⟩
            rw [eM] at DM
            have hbA := (Below.refl _ w1).alloc (Nat.le_refl _) (.cells #[.int .i64 n, .int .i64 n, .slice A3 N c3] 24)
            replace DT := DT.on hbA
            replace h := h.on hbA
            replace h2 := h2.on hbA
            replace F3 := F3.on hbA
            replace bz := bz.trans (hbA.mono bz.size)
            clear hbA
            obtain ⟨t0, t1, _, _⟩ := Tbx.cells DT
            go_upto_region 4 with fail
            try simp only [eM] at ⊢
            clear eM
            clear t0 t1
            generalize w1.alloc (.cells #[.int .i64 n, .int .i64 n, .slice A3 N c3] 24) = W1 at DT DM h h2 F3 bz ⊢
            obtain ⟨t0, t1, _, _⟩ := Tbx.cells DT
            go_wp2_with fail
            with_reducible refine (pr _).mono ?_
            rintro e9 w2 ⟨rfl, hb⟩
            replace DT := DT.on hb
            replace DM := DM.on hb
            replace h := h.on hb
            replace h2 := h2.on hb
            replace F3 := F3.on hb
            replace bz := bz.trans (hb.mono bz.size)
            clear hb t0 t1
            obtain ⟨t0, t1, _, _⟩ := Tbx.cells DT
            go_wp2_with fail
            with_reducible refine (pt _).mono ?_
            rintro e9 w3 ⟨rfl, hb⟩
            replace DT := DT.on hb
            replace DM := DM.on hb
            replace h := h.on hb
            replace h2 := h2.on hb
            replace F3 := F3.on hb
            replace bz := bz.trans (hb.mono bz.size)
            clear hb t0 t1
            obtain ⟨t0, t1, _, _⟩ := Tbx.cells DT
            go_wp2_with fail
            clear t0 t1 pr pt
            replace DT := DT.drew
            replace DM := DM.drew
            replace h := h.drew
            replace h2 := h2.drew
            replace F3 := F3.drew
            replace bz := bz.drew
            refine wp_region_held_drew (S := fun w9 : World => Mbx w9 BM n n A3 N c3 ∧ Tbx w9 w.heap.size A n c A2 m c2) (by kernel_rfl) ⟨DM, DT⟩ (fun hS => ?_)
            generalize w3.drew = wl at hS DT DM h h2 F3  bz ⊢
            refine wpAnyH_take (i := 0) (v := ?v0_1) rfl (by kernel_rfl) (by kernel_rfl) (by kernel_rfl) (fun _ _ _ h => h) (Or.inl ⟨by rfl, ?hy0_1⟩) (by assumption) ?rest0_1
            case hy0_1 => (intro w9 hSw; clear hSw; go_simp; try with_reducible rfl)
            try simp only [Act.put, List.setIfInBounds_toArray, List.set_cons_zero, List.set_cons_succ, List.getElem_toArray, List.getElem_cons_zero, List.getElem_cons_succ]
            refine wpAnyH_take (i := 1) (v := ?v1_2) rfl (by kernel_rfl) (by kernel_rfl) (by kernel_rfl) (fun _ _ _ h => h) (Or.inl ⟨by rfl, ?hy1_2⟩) (by assumption) ?rest1_2
            case hy1_2 => (intro w9 hSw; clear hSw; go_simp; try with_reducible rfl)
            try simp only [Act.put, List.setIfInBounds_toArray, List.set_cons_zero, List.set_cons_succ, List.getElem_toArray, List.getElem_cons_zero, List.getElem_cons_succ]
            refine wpAnyH_take (i := 2) (v := ?v2_3) rfl (by kernel_rfl) (by kernel_rfl) (by kernel_rfl) (fun _ _ _ h => h) (Or.inl ⟨by rfl, ?hy2_3⟩) (by assumption) ?rest2_3
            case hy2_3 => (intro w9 hSw; clear hSw; go_simp; try with_reducible rfl)
            try simp only [Act.put, List.setIfInBounds_toArray, List.set_cons_zero, List.set_cons_succ, List.getElem_toArray, List.getElem_cons_zero, List.getElem_cons_succ]
            refine wpAnyH_take (i := 3) (v := ?v3_4) rfl (by kernel_rfl) (by kernel_rfl) (by kernel_rfl) (fun _ _ _ h => h) (Or.inl ⟨by rfl, ?hy3_4⟩) (by assumption) ?rest3_4
            case hy3_4 => (intro w9 hSw; obtain ⟨ma1, ma2⟩ := hSw; obtain ⟨y0, y1, y2, _, _, _⟩ := Mbx.cells ma1; obtain ⟨u0, u1, _, _⟩ := Tbx.cells ma2; go_simp; try with_reducible rfl)
            try simp only [Act.put, List.setIfInBounds_toArray, List.set_cons_zero, List.set_cons_succ, List.getElem_toArray, List.getElem_cons_zero, List.getElem_cons_succ]
            refine wpAnyH_take (i := 4) (v := ?v4_5) rfl (by kernel_rfl) (by kernel_rfl) (by kernel_rfl) (fun _ _ _ h => h) (Or.inl ⟨by rfl, ?hy4_5⟩) (by assumption) ?rest4_5
            case hy4_5 => (intro w9 hSw; obtain ⟨ma1, ma2⟩ := hSw; obtain ⟨y0, y1, y2, _, _, _⟩ := Mbx.cells ma1; obtain ⟨u0, u1, _, _⟩ := Tbx.cells ma2; go_simp; try with_reducible rfl)
            try simp only [Act.put, List.setIfInBounds_toArray, List.set_cons_zero, List.set_cons_succ, List.getElem_toArray, List.getElem_cons_zero, List.getElem_cons_succ]
            refine wpAnyH_ready (rs := [5]) (by kernel_rfl) (by simp) ?_
            refine AllReadyH.cons rfl (fun K hK => ?_) AllReadyH.nil
            go_simp
            with_reducible refine (rFull_any h h2 hn (by have := HM.out; omega)).mono ?_
            rintro e9 w5 ⟨A5, c5, L5, rfl, O5, I5, hb⟩
            have F5 := O5.fl I5.wd
            rw [I5.len] at F5
            have HI5 := Lib.hid I5
            clear O5 I5
            rw [HN.out] at F5 ⊢
            replace DT := DT.on hb
            replace DM := DM.on hb
            replace h := h.on hb
            replace h2 := h2.on hb
            replace F3 := F3.on hb
            replace bz := bz.trans (hb.mono bz.size)
            clear hb
            clear hS; refine hK.out _ _ ⟨DM, DT⟩ (fun hS => ?_); clear hK K
            try simp only [Act.put, List.setIfInBounds_toArray, List.set_cons_zero, List.set_cons_succ, List.getElem_toArray, List.getElem_cons_zero, List.getElem_cons_succ]
            refine wpAnyH_ready (rs := [6]) (by kernel_rfl) (by simp) ?_
            refine AllReadyH.cons rfl (fun K hK => ?_) AllReadyH.nil
            go_simp
            with_reducible refine (rSameM_any (R := n) (C := n) F3 F5 (fun k hk => by rw [← HN.out] at hk; exact (HI3.out.at_ k hk).trans (HI5.out.at_ k hk).symm)).mono ?_
            rintro e9 w6 ⟨rfl, hb⟩
            replace DT := DT.on hb
            replace DM := DM.on hb
            replace h := h.on hb
            replace h2 := h2.on hb
            replace F3 := F3.on hb
            replace F5 := F5.on hb
            replace bz := bz.trans (hb.mono bz.size)
            clear hb
            clear hS; refine hK.out _ _ ⟨DM, DT⟩ (fun hS => ?_); clear hK K
            try simp only [Act.put, List.setIfInBounds_toArray, List.set_cons_zero, List.set_cons_succ, List.getElem_toArray, List.getElem_cons_zero, List.getElem_cons_succ]
            refine wpAnyH_take (i := 7) (v := ?v7_6) rfl (by kernel_rfl) (by kernel_rfl) (by kernel_rfl) (fun _ _ _ h => h) (Or.inl ⟨by rfl, ?hy7_6⟩) (by assumption) ?rest7_6
            case hy7_6 => (intro w9 hSw; clear hSw; go_simp; try with_reducible rfl)
            try simp only [Act.put, List.setIfInBounds_toArray, List.set_cons_zero, List.set_cons_succ, List.getElem_toArray, List.getElem_cons_zero, List.getElem_cons_succ]
            refine wpAnyH_take (i := 8) (v := ?v8_7) rfl (by kernel_rfl) (by kernel_rfl) (by kernel_rfl) (fun _ _ _ h => h) (Or.inl ⟨by rfl, ?hy8_7⟩) (by assumption) ?rest8_7
            case hy8_7 => (intro w9 hSw; clear hSw; go_simp; try with_reducible rfl)
            try simp only [Act.put, List.setIfInBounds_toArray, List.set_cons_zero, List.set_cons_succ, List.getElem_toArray, List.getElem_cons_zero, List.getElem_cons_succ]
            refine wpAnyH_ready (rs := [9]) (by kernel_rfl) (by simp) ?_
            refine AllReadyH.cons rfl (fun K hK => ?_) AllReadyH.nil
            go_simp
            with_reducible refine (known_any _).mono ?_
            rintro e9 w7 ⟨rfl, hb⟩
            replace DT := DT.on hb
            replace DM := DM.on hb
            replace h := h.on hb
            replace h2 := h2.on hb
            replace F3 := F3.on hb
            replace F5 := F5.on hb
            replace bz := bz.trans (hb.mono bz.size)
            clear hb
            clear hS; refine hK.out _ _ ⟨DM, DT⟩ (fun hS => ?_); clear hK K
            try simp only [Act.put, List.setIfInBounds_toArray, List.set_cons_zero, List.set_cons_succ, List.getElem_toArray, List.getElem_cons_zero, List.getElem_cons_succ]
            refine wpAnyH_take (i := 10) (v := ?v10_8) rfl (by kernel_rfl) (by kernel_rfl) (by kernel_rfl) (fun _ _ _ h => h) (Or.inl ⟨by rfl, ?hy10_8⟩) (by assumption) ?rest10_8
            case hy10_8 => (intro w9 hSw; clear hSw; go_simp; try with_reducible rfl)
            try simp only [Act.put, List.setIfInBounds_toArray, List.set_cons_zero, List.set_cons_succ, List.getElem_toArray, List.getElem_cons_zero, List.getElem_cons_succ]
            refine wpAnyH_take (i := 11) (v := ?v11_9) rfl (by kernel_rfl) (by kernel_rfl) (by kernel_rfl) (fun _ _ _ h => h) (Or.inl ⟨by rfl, ?hy11_9⟩) (by assumption) ?rest11_9
            case hy11_9 => (intro w9 hSw; clear hSw; go_simp; try with_reducible rfl)
            try simp only [Act.put, List.setIfInBounds_toArray, List.set_cons_zero, List.set_cons_succ, List.getElem_toArray, List.getElem_cons_zero, List.getElem_cons_succ]
            refine wpAnyH_done (by kernel_rfl) ?_ _
            go_wp2_with fail
            go_ret
            exact ⟨rfl, bz⟩
end Go.Proofs.Ytaemkjcmjgefeaa
