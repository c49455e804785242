/-
  Layer 9, walks: a reflection made, by the reference. (Written by wip/tools/gen_rfe.py.)
-/
import Derived.Test.YtbaeabmmokgomaaMJRfB
namespace Go.Proofs.Ytbaeabmmokgomaa
open Go.RowKit Go.Bw
set_option linter.unusedVariables false
set_option linter.unusedSimpArgs false
attribute [local go_sem] run_store_float

set_option maxRecDepth 100000 in
set_option maxHeartbeats 16000000 in
theorem rMake_any {A : Option Addr} {n c : Nat} {l : List Int} {w : World} (h : FL w A n c l) (hn : 0 < n) (hm : n ≤ 4000000) :
    Calls Try.prog 41 #[.slice A n c] w (MkR l n w) := by
  have hmk := run_makeF n hm
  obtain ⟨ad, rfl, hb0, hc0⟩ := h.at_ hn
  obtain ⟨z0, z1⟩ := h.2.2.at_ 0
  have bX : (D l 0).toNat ≤ 18446744073709551615 := by omega
  have HFX : Hid (af (D l 0).toNat = fa (D l 0)) := Lib.hid rfl
  have n0 : (0 : Int) < n := by omega
  have n1 : (1 : Int) ≤ n := by omega
  have hcn : n ≤ c := by have := h.2.1.1; rw [h.1] at this; exact this
  have hcm : c ≤ 9223372036854775807 := h.2.1.max'
  have hll := Lib.hid h.1
  have DZ := (Blk.new w [.slice none 0 0, .float .f64 0] 51).alloc (.cells ((LF (List.replicate n 0)).set 0 (.float .f64 4607182418800017408)).toArray 49)
  have HR0 := RowF.new (w.alloc (.cells #[.slice none 0 0, .float .f64 0] 51)) (List.replicate n 0)
  rw [World.size_alloc] at HR0
  obtain ⟨hz0, hz1⟩ := HR0.at_ (k := 0) (by rw [List.length_replicate]; exact hn)
  clear HR0
  have HR : RowF ((w.alloc (.cells #[.slice none 0 0, .float .f64 0] 51)).alloc (.cells ((LF (List.replicate n 0)).set 0 (.float .f64 4607182418800017408)).toArray 49)) (w.heap.size + 1) ((List.replicate n (0 : Int)).set 0 4607182418800017408) := by have h9 := RowF.newSet (w.alloc (.cells #[.slice none 0 0, .float .f64 0] 51)) (List.replicate n 0) 0 4607182418800017408; rw [World.size_alloc] at h9; exact h9
  have bz := ((Below.refl _ w).alloc (Nat.le_refl _) (.cells #[.slice none 0 0, .float .f64 0] 51)).alloc (by simp) (.cells ((LF (List.replicate n 0)).set 0 (.float .f64 4607182418800017408)).toArray 49)
  have hsz : ((w.alloc (.cells #[.slice none 0 0, .float .f64 0] 51)).alloc (.cells ((LF (List.replicate n 0)).set 0 (.float .f64 4607182418800017408)).toArray 49)).heap.size = w.heap.size + 2 := by simp
  replace h := h.on bz
  have IV : Is ((List.replicate n (0 : Int)).set 0 4607182418800017408) n (fun k => if k = 0 then some 4607182418800017408 else some 0) := by
    refine Is.set (f := fun _ => some 0) ⟨by simp, wd_zeros n, fun k _ => by rw [D_zeros]; exact fa_zero⟩ (by omega) (by omega) hn ?_ (fun j _ hj => if_neg hj)
    rw [if_pos rfl]; exact fa_one
  have HIV := Lib.hid IV
  clear IV
  generalize hV : (List.replicate n (0 : Int)).set 0 4607182418800017408 = V at HR HIV
  clear hV
  have ht := h.tail2 hn
  go_enter Try.func41, Try.ntmps41
  go_upto_region 4 with fail
  clear hz0 hz1 hc0 hmk
  generalize ((w.alloc (.cells #[.slice none 0 0, .float .f64 0] 51)).alloc (.cells ((LF (List.replicate n 0)).set 0 (.float .f64 4607182418800017408)).toArray 49)) = W0 at HR DZ bz hsz h ht ⊢
  go_cut [6] from 11 (fun s6 w9 => ∃ r : Nat, s6 = .float .f64 r ∧ Hid (af r = nrmA (l.drop 1)) ∧ r ≤ 18446744073709551615 ∧ Dr W0 w9)
  case first =>
    by_cases hc1 : c = 1
    · rw [if_pos hc1] at ht
      subst hc1
      rw [show n - 1 = 0 by omega] at ht
      replace ht : FL W0 (some ad) 0 0 (l.drop 1) := ht
      go_wp2_with fail
      with_reducible refine (rNorm_any ht).mono ?_
      rintro e w1 ⟨r1, rfl, hq, b1, dq⟩
      have HQ := Lib.hid hq
      clear hq
      go_wp2_with fail
      go_meet
      case rel => exact ⟨r1, rfl, HQ, b1, dq⟩
    · rw [if_neg hc1] at ht
      go_wp2_with fail
      with_reducible refine (rNorm_any ht).mono ?_
      rintro e w1 ⟨r1, rfl, hq, b1, dq⟩
      have HQ := Lib.hid hq
      clear hq
      go_wp2_with fail
      go_meet
      case rel => exact ⟨r1, rfl, HQ, b1, dq⟩
  case rest =>
    obtain ⟨r1, rfl, H1, b1, dq⟩ := hcut
    have hb := dq.below W0.heap.size
    replace HR := HR.on hb
    replace DZ := DZ.on hb
    replace h := h.on hb
    replace bz := bz.trans (hb.mono bz.size)
    have hsz1 : wc.heap.size = w.heap.size + 2 := by obtain ⟨k, rfl⟩ := dq; exact hsz
    clear hb dq
    clear ht
    have b0 : (0 : Nat) ≤ 18446744073709551615 := by omega
    have bI : (4607182418800017408 : Nat) ≤ 18446744073709551615 := by omega
    have HZ : Hid (mkZ l = (FloatKind.f64.format.order r1 0 == some .eq)) := Lib.hid (by unfold mkZ; rw [← H1.out, ← af_zero, eq_is b1 b0])
    have hc0 := h.head hn
    generalize hX0 : (D l 0).toNat = X at *
    cases cz : (FloatKind.f64.format.order r1 0 == some .eq)
    · rw [cz] at HZ
      go_wp2_with fail
      replace HR := HR.drew
      replace DZ : Rbx wc.drew w.heap.size none 0 0 0 := DZ
      replace bz := bz.drew
      replace h : FL wc.drew (some ad) n c l := h
      replace hsz1 : wc.drew.heap.size = w.heap.size + 2 := hsz1
      replace hc0 : wc.drew.cell? ad = some (.float .f64 X) := hc0
      refine wp_region_held_drew (S := fun w9 : World => w9.cell? ad = some (.float .f64 X)) (by kernel_rfl) hc0 (fun hS => ?_)
      refine wpAnyH_take (i := 0) (v := ?v0_1) rfl (by kernel_rfl) (by kernel_rfl) (by kernel_rfl) (fun _ _ _ h => h) (Or.inl ⟨by rfl, ?hy0_1⟩) (by assumption) ?rest0_1
      case hy0_1 => (intro w9 hSw; clear hSw; go_simp; try with_reducible rfl)
      try simp only [Act.put, List.setIfInBounds_toArray, List.set_cons_zero, List.set_cons_succ, List.getElem_toArray, List.getElem_cons_zero, List.getElem_cons_succ]
      refine wpAnyH_take (i := 1) (v := ?v1_2) rfl (by kernel_rfl) (by kernel_rfl) (by kernel_rfl) (fun _ _ _ h => h) (Or.inl ⟨by rfl, ?hy1_2⟩) (by assumption) ?rest1_2
      case hy1_2 => (intro w9 hSw; clear hSw; go_simp; try with_reducible rfl)
      try simp only [Act.put, List.setIfInBounds_toArray, List.set_cons_zero, List.set_cons_succ, List.getElem_toArray, List.getElem_cons_zero, List.getElem_cons_succ]
      refine wpAnyH_take (i := 2) (v := ?v2_3) rfl (by kernel_rfl) (by kernel_rfl) (by kernel_rfl) (fun _ _ _ h => h) (Or.inl ⟨by rfl, ?hy2_3⟩) (by assumption) ?rest2_3
      case hy2_3 => (intro w9 hSw; have m0 : w9.cell? ad = some (.float .f64 X) := hSw; go_simp; try with_reducible rfl)
      try simp only [Act.put, List.setIfInBounds_toArray, List.set_cons_zero, List.set_cons_succ, List.getElem_toArray, List.getElem_cons_zero, List.getElem_cons_succ]
      refine wpAnyH_take (i := 3) (v := ?v3_4) rfl (by kernel_rfl) (by kernel_rfl) (by kernel_rfl) (fun _ _ _ h => h) (Or.inl ⟨by rfl, ?hy3_4⟩) (by assumption) ?rest3_4
      case hy3_4 => (intro w9 hSw; clear hSw; go_simp; try with_reducible rfl)
      try simp only [Act.put, List.setIfInBounds_toArray, List.set_cons_zero, List.set_cons_succ, List.getElem_toArray, List.getElem_cons_zero, List.getElem_cons_succ]
      refine wpAnyH_take (i := 5) (v := ?v5_5) rfl (by kernel_rfl) (by kernel_rfl) (by kernel_rfl) (fun _ _ _ h => h) (Or.inl ⟨by rfl, ?hy5_5⟩) (by assumption) ?rest5_5
      case hy5_5 => (intro w9 hSw; clear hSw; go_simp; try with_reducible rfl)
      try simp only [Act.put, List.setIfInBounds_toArray, List.set_cons_zero, List.set_cons_succ, List.getElem_toArray, List.getElem_cons_zero, List.getElem_cons_succ]
      refine wpAnyH_take (i := 6) (v := ?v6_6) rfl (by kernel_rfl) (by kernel_rfl) (by kernel_rfl) (fun _ _ _ h => h) (Or.inl ⟨by rfl, ?hy6_6⟩) (by assumption) ?rest6_6
      case hy6_6 => (intro w9 hSw; clear hSw; go_simp; try with_reducible rfl)
      try simp only [Act.put, List.setIfInBounds_toArray, List.set_cons_zero, List.set_cons_succ, List.getElem_toArray, List.getElem_cons_zero, List.getElem_cons_succ]
      refine wpAnyH_take (i := 7) (v := ?v7_7) rfl (by kernel_rfl) (by kernel_rfl) (by kernel_rfl) (fun _ _ _ h => h) (Or.inl ⟨by rfl, ?hy7_7⟩) (by assumption) ?rest7_7
      case hy7_7 => (intro w9 hSw; have m0 : w9.cell? ad = some (.float .f64 X) := hSw; go_simp; try with_reducible rfl)
      try simp only [Act.put, List.setIfInBounds_toArray, List.set_cons_zero, List.set_cons_succ, List.getElem_toArray, List.getElem_cons_zero, List.getElem_cons_succ]
      refine wpAnyH_ready (rs := [4]) (by kernel_rfl) (by simp) ?_
      refine AllReadyH.cons rfl (fun K hK => ?_) AllReadyH.nil
      go_simp
      with_reducible refine (rHypot_any bX b1 _).mono ?_
      rintro e w2 ⟨r2, rfl, hq, b2, dq⟩
      have H2 := Lib.hid hq
      clear hq
      have hb := dq.below wc.drew.heap.size
      replace HR := HR.on hb
      replace DZ := DZ.on hb
      replace h := h.on hb
      replace bz := bz.trans (hb.mono bz.size)
      have hsz2 : w2.heap.size = w.heap.size + 2 := by obtain ⟨k, rfl⟩ := dq; exact hsz1
      replace hc0 : w2.cell? ad = some (.float .f64 X) := by obtain ⟨k, rfl⟩ := dq; exact hc0
      clear hb dq
      clear hS; refine hK.out _ _ hc0 (fun hS => ?_); clear hK K
      try simp only [Act.put, List.setIfInBounds_toArray, List.set_cons_zero, List.set_cons_succ, List.getElem_toArray, List.getElem_cons_zero, List.getElem_cons_succ]
      refine wpAnyH_ready (rs := [8]) (by kernel_rfl) (by simp) ?_
      refine AllReadyH.cons rfl (fun K hK => ?_) AllReadyH.nil
      go_simp
      with_reducible refine (rSign_any b2 bX _).mono ?_
      rintro e w3 ⟨r3, rfl, hS9, b3, rfl⟩
      have H3 := Lib.hid hS9
      clear hS9
      obtain ⟨r4, hr4, hN4, b4⟩ := run_neg (P := Try.prog) b3
      clear hS; refine hK.out _ _ hc0 (fun hS => ?_); clear hK K
      try simp only [Act.put, List.setIfInBounds_toArray, List.set_cons_zero, List.set_cons_succ, List.getElem_toArray, List.getElem_cons_zero, List.getElem_cons_succ]
      refine wpAnyH_take (i := 9) (v := ?v9_8) rfl (by kernel_rfl) (by kernel_rfl) (by kernel_rfl) (fun _ _ _ h => h) (Or.inl ⟨by rfl, ?hy9_8⟩) (by assumption) ?rest9_8
      case hy9_8 => (intro w9 hSw; clear hSw; go_simp; try with_reducible rfl)
      try simp only [Act.put, List.setIfInBounds_toArray, List.set_cons_zero, List.set_cons_succ, List.getElem_toArray, List.getElem_cons_zero, List.getElem_cons_succ]
      refine wpAnyH_take (i := 10) (v := ?v10_9) rfl (by kernel_rfl) (by kernel_rfl) (by kernel_rfl) (fun _ _ _ h => h) (Or.inl ⟨by rfl, ?hy10_9⟩) (by assumption) ?rest10_9
      case hy10_9 => (intro w9 hSw; clear hSw; go_simp; try with_reducible rfl)
      try simp only [Act.put, List.setIfInBounds_toArray, List.set_cons_zero, List.set_cons_succ, List.getElem_toArray, List.getElem_cons_zero, List.getElem_cons_succ]
      refine wpAnyH_done (by kernel_rfl) ?_ _
      have HB : Hid (af r4 = mkB l) := Lib.hid (by unfold mkB; rw [HZ.out, if_neg (by decide), hN4, H3.out, H2.out, H1.out, HFX.out, hX0])
      clear hN4 hr4
      obtain ⟨r5, w5, e5, d5, h5, b5⟩ := run_sub (P := Try.prog) 49 (x := r4) (y := X) b4 bX w2
      obtain ⟨r6, w6, e6, d6, h6, b6⟩ := run_quo (P := Try.prog) 49 (x := r5) (y := r4) b5 b4 w5
      have HT : Hid (af r6 = mkT l) := Lib.hid (by unfold mkT; rw [HZ.out, if_neg (by decide), h6, h5, HB.out, HFX.out])
      clear h5 h6
      have hc6 : w6.cell? ad = some (.float .f64 X) := by obtain ⟨q, rfl⟩ := d5.trans d6; exact hc0
      obtain ⟨r7, w7, e7, d7, h7, b7⟩ := run_sub (P := Try.prog) 49 (x := X) (y := r4) bX b4 w6
      obtain ⟨r8, w8, e8, d8, h8, b8⟩ := run_quo (P := Try.prog) 49 (x := 4607182418800017408) (y := r7) bI b7 w7
      have HQ : Hid (af r8 = mkQ l) := Lib.hid (by unfold mkQ; rw [h8, h7, HB.out, HFX.out, af_one])
      clear h7 h8
      have dd := ((d5.trans d6).trans d7).trans d8
      have hb := dd.below w2.heap.size
      have hsz6 : w8.heap.size = w.heap.size + 2 := by obtain ⟨k, rfl⟩ := dd; exact hsz2
      have HR6 := HR.on hb
      have DZ6 := DZ.on hb
      have h6 := h.on hb
      have bz6 := bz.trans (hb.mono bz.size)
      clear hb dd d5 d6 d7 d8
      go_wp2_with fail
      clear e5 e6 e7 e8 hc6 HR DZ h bz hc0
      go_loopw [10] (fun i wr => ∃ (k : Nat) (v : List Int), 1 ≤ k ∧ k ≤ n ∧ i = .int .i64 k ∧ RowF wr (w.heap.size + 1) v ∧ Hid (Is v n (fun j => if j = 0 then some 4607182418800017408 else if j < k then mkV l j else some 0)) ∧ Rbx wr w.heap.size none 0 0 0 ∧ FL wr (some ad) n c l ∧ Below w.heap.size w wr ∧ wr.heap.size = w.heap.size + 2) (fun i _ => n - (intOf i).toNat)
      case atStart => exact ⟨1, V, Nat.le_refl _, hn, rfl, HR6, Lib.hid (HIV.out.congr (fun j hj => by by_cases e : j = 0 <;> simp [e])), DZ6, h6, bz6, hsz6⟩
      case round =>
        clear HR6 DZ6 h6 bz6 hsz6 HIV
        obtain ⟨k, v, hk0, hk, rfl, HR, HV, DZ, h, bz, hsz⟩ := hrel
        by_cases hlt : k < n
        · have k0 : (0 : Int) ≤ k := by omega
          have k1 : (k : Int) < n := by omega
          have hk1 := h.2.1.at_some (k := k) (by rw [h.1]; omega)
          obtain ⟨x0, x1⟩ := h.2.2.at_ k
          have bY : (D l k).toNat ≤ 18446744073709551615 := by omega
          have HFY : Hid (af (D l k).toNat = fa (D l k)) := Lib.hid rfl
          generalize (D l k).toNat = Y at *
          obtain ⟨r9, w9, e9, d9, h9, b9⟩ := run_mul (P := Try.prog) 49 (x := Y) (y := r8) bY b8 wr
          have HP : Hid (af r9 = mkV l k) := Lib.hid (by unfold mkV; rw [if_neg (by omega), HZ.out, if_neg (by decide), h9, HFY.out, HQ.out])
          clear h9
          have hb := d9.below wr.heap.size
          obtain ⟨hv0, hv1⟩ : w9.cell? ⟨w.heap.size + 1, k, none⟩ = some (.float .f64 (D v k).toNat) ∧ w9.frozen? ⟨w.heap.size + 1, k, none⟩ = false := (HR.on hb).at_ (by rw [HV.out.len]; omega)
          have HR7 : RowF (w9.setCell ⟨w.heap.size + 1, k, none⟩ (.float .f64 r9)) (w.heap.size + 1) (v.set k r9) := (HR.on hb).set_ k r9
          have DZ7 : Rbx (w9.setCell ⟨w.heap.size + 1, k, none⟩ (.float .f64 r9)) w.heap.size none 0 0 0 := (DZ.on hb).far (by simp) _
          have bz7 : Below w.heap.size w (w9.setCell ⟨w.heap.size + 1, k, none⟩ (.float .f64 r9)) := (bz.trans (hb.mono bz.size)).setCell (by simp) _
          have hF7 : FL (w9.setCell ⟨w.heap.size + 1, k, none⟩ (.float .f64 r9)) (some ad) n c l := (h.on hb).far (by show ad.block ≠ w.heap.size + 1; omega) _
          have hsz7 : (w9.setCell ⟨w.heap.size + 1, k, none⟩ (.float .f64 r9)).heap.size = w.heap.size + 2 := by obtain ⟨q, rfl⟩ := d9; simp [World.setCell]; exact hsz
          have HV7 : Is (v.set k (r9 : Int)) n (fun i => if i = 0 then some 4607182418800017408 else if i < k + 1 then mkV l i else some 0) := by
            refine HV.out.set (by omega) (by omega) (by omega) ?_ (fun i _ hi => ?_)
            · rw [fa_nat, HP.out]; show _ = if k = 0 then _ else if k < k + 1 then _ else _; rw [if_neg (by omega), if_pos (by omega)]
            · by_cases e0 : i = 0
              · simp [e0]
              · simp only [e0, if_false]
                by_cases e1 : i < k
                · rw [if_pos (by omega), if_pos e1]
                · rw [if_neg (by omega), if_neg e1]
          have HIV := Lib.hid HV7
          clear HV7 HV HR DZ h bz hsz hb HP d9
          go_wp2_with fail
          go_roundw
          case rel => exact ⟨k + 1, _, by omega, by omega, by go_num, HR7, HIV, DZ7, hF7, bz7, hsz7⟩
          case measure => simp [intOf]; omega
        · obtain rfl : k = n := by omega
          obtain ⟨z0, z1, z2, z3⟩ := Rbx.cells DZ
          have hb9 := (bz.setCell (p := ⟨w.heap.size, 0, none⟩) (Nat.le_refl _) (.slice (some ⟨w.heap.size + 1, 0, none⟩) k k)).setCell (p := ⟨w.heap.size, 1, none⟩) (Nat.le_refl _) (.float .f64 r6)
          have HR9 := (HR.far (p := ⟨w.heap.size, 0, none⟩) (by simp) (.slice (some ⟨w.heap.size + 1, 0, none⟩) k k)).far (p := ⟨w.heap.size, 1, none⟩) (by simp) (.float .f64 r6)
          have DZ9 := (Blk.set_ DZ 0 (.slice (some ⟨w.heap.size + 1, 0, none⟩) k k)).set_ 1 (.float .f64 r6)
          obtain ⟨c0, c1, c2, c3⟩ := Rbx.cells DZ9
          go_wp2_with fail
          refine bodyPost_ret (v := .tuple #[rV (some ⟨w.heap.size + 1, 0, none⟩) k k r6, .float .f64 r4]) (by simp [results, Try.results41, go_sem, c0, c1]) rfl ?_
          exact ⟨w.heap.size + 1, r6, r4, v, rfl, HR9, by omega, HV.out.congr (fun i hi => by by_cases e0 : i = 0; rw [if_pos e0, e0]; rfl; rw [if_neg e0, if_pos (by omega)]), HT.out, HB.out, b6, b4, hb9⟩
    · rw [cz] at HZ
      go_wp2_with fail
      replace HR := HR.drew
      replace DZ : Rbx wc.drew w.heap.size none 0 0 0 := DZ
      replace bz := bz.drew
      replace h : FL wc.drew (some ad) n c l := h
      replace hsz1 : wc.drew.heap.size = w.heap.size + 2 := hsz1
      replace hc0 : wc.drew.cell? ad = some (.float .f64 X) := hc0
      refine wp_region_held_drew (S := fun w9 : World => w9.cell? ad = some (.float .f64 X)) (by kernel_rfl) hc0 (fun hS => ?_)
      generalize wc.drew = wl at hS HR DZ h hsz1 hc0 bz ⊢
      refine wpAnyH_take (i := 0) (v := ?v0_10) rfl (by kernel_rfl) (by kernel_rfl) (by kernel_rfl) (fun _ _ _ h => h) (Or.inl ⟨by rfl, ?hy0_10⟩) (by assumption) ?rest0_10
      case hy0_10 => (intro w9 hSw; clear hSw; go_simp; try with_reducible rfl)
      try simp only [Act.put, List.setIfInBounds_toArray, List.set_cons_zero, List.set_cons_succ, List.getElem_toArray, List.getElem_cons_zero, List.getElem_cons_succ]
      refine wpAnyH_take (i := 1) (v := ?v1_11) rfl (by kernel_rfl) (by kernel_rfl) (by kernel_rfl) (fun _ _ _ h => h) (Or.inl ⟨by rfl, ?hy1_11⟩) (by assumption) ?rest1_11
      case hy1_11 => (intro w9 hSw; clear hSw; go_simp; try with_reducible rfl)
      try simp only [Act.put, List.setIfInBounds_toArray, List.set_cons_zero, List.set_cons_succ, List.getElem_toArray, List.getElem_cons_zero, List.getElem_cons_succ]
      refine wpAnyH_take (i := 2) (v := ?v2_12) rfl (by kernel_rfl) (by kernel_rfl) (by kernel_rfl) (fun _ _ _ h => h) (Or.inl ⟨by rfl, ?hy2_12⟩) (by assumption) ?rest2_12
      case hy2_12 => (intro w9 hSw; clear hSw; go_simp; try with_reducible rfl)
      try simp only [Act.put, List.setIfInBounds_toArray, List.set_cons_zero, List.set_cons_succ, List.getElem_toArray, List.getElem_cons_zero, List.getElem_cons_succ]
      refine wpAnyH_take (i := 3) (v := ?v3_13) rfl (by kernel_rfl) (by kernel_rfl) (by kernel_rfl) (fun _ _ _ h => h) (Or.inl ⟨by rfl, ?hy3_13⟩) (by assumption) ?rest3_13
      case hy3_13 => (intro w9 hSw; clear hSw; go_simp; try with_reducible rfl)
      try simp only [Act.put, List.setIfInBounds_toArray, List.set_cons_zero, List.set_cons_succ, List.getElem_toArray, List.getElem_cons_zero, List.getElem_cons_succ]
      refine wpAnyH_take (i := 4) (v := ?v4_14) rfl (by kernel_rfl) (by kernel_rfl) (by kernel_rfl) (fun _ _ _ h => h) (Or.inl ⟨by rfl, ?hy4_14⟩) (by assumption) ?rest4_14
      case hy4_14 => (intro w9 hSw; have m0 : w9.cell? ad = some (.float .f64 X) := hSw; go_simp; try with_reducible rfl)
      try simp only [Act.put, List.setIfInBounds_toArray, List.set_cons_zero, List.set_cons_succ, List.getElem_toArray, List.getElem_cons_zero, List.getElem_cons_succ]
      obtain ⟨z0, z1, z2, z3⟩ := Rbx.cells DZ
      refine wpAnyH_ready (rs := [5]) (by kernel_rfl) (by simp) ?_
      refine AllReadyH.cons rfl (fun K hK => ?_) AllReadyH.nil
      go_simp
      clear z0 z1 z2 z3
      have bz1 := (bz.setCell (p := ⟨w.heap.size, 0, none⟩) (Nat.le_refl _) (.slice (some ⟨w.heap.size + 1, 0, none⟩) n n)).setCell (p := ⟨w.heap.size, 1, none⟩) (Nat.le_refl _) (.float .f64 0)
      have HR1 := (HR.far (p := ⟨w.heap.size, 0, none⟩) (by simp) (.slice (some ⟨w.heap.size + 1, 0, none⟩) n n)).far (p := ⟨w.heap.size, 1, none⟩) (by simp) (.float .f64 0)
      have DZ1 := (Blk.set_ DZ 0 (.slice (some ⟨w.heap.size + 1, 0, none⟩) n n)).set_ 1 (.float .f64 0)
      obtain ⟨c0, c1, c2, c3⟩ := Rbx.cells DZ1
      have h1 := (h.far (p := ⟨w.heap.size, 0, none⟩) (by show ad.block ≠ w.heap.size; omega) (.slice (some ⟨w.heap.size + 1, 0, none⟩) n n)).far (p := ⟨w.heap.size, 1, none⟩) (by show ad.block ≠ w.heap.size; omega) (.float .f64 0)
      have hc1 := h1.head hn
      rw [hX0] at hc1
      clear hS; refine hK.out _ _ hc1 (fun hS => ?_); clear hK K
      try simp only [Act.put, List.setIfInBounds_toArray, List.set_cons_zero, List.set_cons_succ, List.getElem_toArray, List.getElem_cons_zero, List.getElem_cons_succ]
      refine wpAnyH_take (i := 6) (v := ?v6_15) rfl (by kernel_rfl) (by kernel_rfl) (by kernel_rfl) (fun _ _ _ h => h) (Or.inl ⟨by rfl, ?hy6_15⟩) (by assumption) ?rest6_15
      case hy6_15 => (intro w9 hSw; clear hSw; go_simp; try with_reducible rfl)
      try simp only [Act.put, List.setIfInBounds_toArray, List.set_cons_zero, List.set_cons_succ, List.getElem_toArray, List.getElem_cons_zero, List.getElem_cons_succ]
      refine wpAnyH_done (by kernel_rfl) ?_ _
      go_wp2_with fail
      refine bodyPost_ret (v := .tuple #[rV (some ⟨w.heap.size + 1, 0, none⟩) n n 0, .float .f64 X]) (by simp [results, Try.results41, go_sem, c0, c1]) rfl ?_
      refine ⟨w.heap.size + 1, 0, X, V, rfl, HR1, by omega, HIV.out.congr (fun i hi => by unfold mkV; rw [HZ.out, if_pos rfl]), ?_, ?_, b0, bX, bz1⟩
      · unfold mkT; rw [HZ.out, if_pos rfl]; exact af_zero
      · unfold mkB; rw [HZ.out, if_pos rfl, HFX.out]
end Go.Proofs.Ytbaeabmmokgomaa
