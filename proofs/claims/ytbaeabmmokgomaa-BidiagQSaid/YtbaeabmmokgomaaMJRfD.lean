/-
  Layer 9, walks: a reflection made, by the program. (Written by wip/tools/gen_rfd.py.)
-/
import Derived.Test.YtbaeabmmokgomaaMJRfB
import Derived.Test.YtbaeabmmokgomaaMJRAfJ
import Derived.Test.YtbaeabmmokgomaaMJRAfH
namespace Go.Proofs.Ytbaeabmmokgomaa
open Go.RowKit Go.Bw
set_option linter.unusedVariables false
set_option linter.unusedSimpArgs false
attribute [local go_sem] run_store_float

set_option maxRecDepth 100000 in
set_option maxHeartbeats 16000000 in
theorem gMake_any {A : Option Addr} {n c : Nat} {l : List Int} {w : World} (h : FL w A n c l) (hn : 0 < n) (hm : n ≤ 4000000) :
    Calls Try.prog 28 #[.slice A n c] w (MkP l n w) := by
  have hmk := run_makeF n hm
  obtain ⟨ad, rfl, hb0, hc0⟩ := h.at_ hn
  obtain ⟨z0, z1⟩ := h.2.2.at_ 0
  have bX : (D l 0).toNat ≤ 18446744073709551615 := by omega
  have HFX : Hid (af (D l 0).toNat = fa (D l 0)) := Lib.hid rfl
  have n0 : (0 : Int) < n := by omega
  have n1 : (1 : Int) ≤ n := by omega
  have hcn : n ≤ c := by have := h.2.1.1; rw [h.1] at this; exact this
  have hcm : c ≤ 9223372036854775807 := h.2.1.max'
  have hll := Lib.hid h.1
  have DZ := (Blk.new w [.slice none 0 0, .float .f64 0] 51).alloc (.cells ((LF (List.replicate n 0)).set 0 (.float .f64 4607182418800017408)).toArray 49)
  have HR0 := RowF.new (w.alloc (.cells #[.slice none 0 0, .float .f64 0] 51)) (List.replicate n 0)
  rw [World.size_alloc] at HR0
  obtain ⟨hz0, hz1⟩ := HR0.at_ (k := 0) (by rw [List.length_replicate]; exact hn)
  clear HR0
  have HR : RowF ((w.alloc (.cells #[.slice none 0 0, .float .f64 0] 51)).alloc (.cells ((LF (List.replicate n 0)).set 0 (.float .f64 4607182418800017408)).toArray 49)) (w.heap.size + 1) ((List.replicate n (0 : Int)).set 0 4607182418800017408) := by have h9 := RowF.newSet (w.alloc (.cells #[.slice none 0 0, .float .f64 0] 51)) (List.replicate n 0) 0 4607182418800017408; rw [World.size_alloc] at h9; exact h9
  have bz := ((Below.refl _ w).alloc (Nat.le_refl _) (.cells #[.slice none 0 0, .float .f64 0] 51)).alloc (by simp) (.cells ((LF (List.replicate n 0)).set 0 (.float .f64 4607182418800017408)).toArray 49)
  have hsz : ((w.alloc (.cells #[.slice none 0 0, .float .f64 0] 51)).alloc (.cells ((LF (List.replicate n 0)).set 0 (.float .f64 4607182418800017408)).toArray 49)).heap.size = w.heap.size + 2 := by simp
  replace h := h.on bz
  have IV : Is ((List.replicate n (0 : Int)).set 0 4607182418800017408) n (fun k => if k = 0 then some 4607182418800017408 else some 0) := by
    refine Is.set (f := fun _ => some 0) ⟨by simp, wd_zeros n, fun k _ => by rw [D_zeros]; exact fa_zero⟩ (by omega) (by omega) hn ?_ (fun j _ hj => if_neg hj)
    rw [if_pos rfl]; exact fa_one
  have HIV := Lib.hid IV
  clear IV
  generalize hV : (List.replicate n (0 : Int)).set 0 4607182418800017408 = V at HR HIV
  clear hV
  go_enter Try.func28, Try.ntmps28
  go_upto_region 5 with fail
  clear hz0 hz1 hc0 hmk
  generalize ((w.alloc (.cells #[.slice none 0 0, .float .f64 0] 51)).alloc (.cells ((LF (List.replicate n 0)).set 0 (.float .f64 4607182418800017408)).toArray 49)) = W0 at HR DZ bz hsz h ⊢
  replace HR := HR.drew
  replace DZ := DZ.drewN 1
  replace bz := bz.drew
  replace h : FL W0.drew (some ad) n c l := h
  replace hsz : W0.drew.heap.size = w.heap.size + 2 := hsz
  have hc0 := h.head hn
  refine wp_region_held_drew (S := fun w9 : World => w9.cell? ad = some (.float .f64 (D l 0).toNat)) (by kernel_rfl) hc0 (fun hS => ?_)
  refine wpAnyH_take (i := 0) (v := ?v0_1) rfl (by kernel_rfl) (by kernel_rfl) (by kernel_rfl) (fun _ _ _ h => h) (Or.inl ⟨by rfl, ?hy0_1⟩) (by assumption) ?rest0_1
  case hy0_1 => (intro w9 hSw; clear hSw; go_simp; try with_reducible rfl)
  try simp only [Act.put, List.setIfInBounds_toArray, List.set_cons_zero, List.set_cons_succ, List.getElem_toArray, List.getElem_cons_zero, List.getElem_cons_succ]
  refine wpAnyH_take (i := 1) (v := ?v1_2) rfl (by kernel_rfl) (by kernel_rfl) (by kernel_rfl) (fun _ _ _ h => h) (Or.inl ⟨by rfl, ?hy1_2⟩) (by assumption) ?rest1_2
  case hy1_2 => (intro w9 hSw; clear hSw; go_simp; try with_reducible rfl)
  try simp only [Act.put, List.setIfInBounds_toArray, List.set_cons_zero, List.set_cons_succ, List.getElem_toArray, List.getElem_cons_zero, List.getElem_cons_succ]
  refine wpAnyH_take (i := 2) (v := ?v2_3) rfl (by kernel_rfl) (by kernel_rfl) (by kernel_rfl) (fun _ _ _ h => h) (Or.inl ⟨by rfl, ?hy2_3⟩) (by assumption) ?rest2_3
  case hy2_3 => (intro w9 hSw; have m0 : w9.cell? ad = some (.float .f64 (D l 0).toNat) := hSw; go_simp; try with_reducible rfl)
  try simp only [Act.put, List.setIfInBounds_toArray, List.set_cons_zero, List.set_cons_succ, List.getElem_toArray, List.getElem_cons_zero, List.getElem_cons_succ]
  refine wpAnyH_take (i := 3) (v := ?v3_4) rfl (by kernel_rfl) (by kernel_rfl) (by kernel_rfl) (fun _ _ _ h => h) (Or.inl ⟨by rfl, ?hy3_4⟩) (by assumption) ?rest3_4
  case hy3_4 => (intro w9 hSw; clear hSw; go_simp; try with_reducible rfl)
  try simp only [Act.put, List.setIfInBounds_toArray, List.set_cons_zero, List.set_cons_succ, List.getElem_toArray, List.getElem_cons_zero, List.getElem_cons_succ]
  refine wpAnyH_take (i := 4) (v := ?v4_5) rfl (by kernel_rfl) (by kernel_rfl) (by kernel_rfl) (fun _ _ _ h => h) (Or.inl ⟨by rfl, ?hy4_5⟩) (by assumption) ?rest4_5
  case hy4_5 => (intro w9 hSw; clear hSw; go_simp; try with_reducible rfl)
  try simp only [Act.put, List.setIfInBounds_toArray, List.set_cons_zero, List.set_cons_succ, List.getElem_toArray, List.getElem_cons_zero, List.getElem_cons_succ]
  refine wpAnyH_ready (rs := [5]) (by kernel_rfl) (by simp) ?_
  refine AllReadyH.cons rfl (fun K hK => ?_) AllReadyH.nil
  go_simp
  have ht := h.tail2 hn
  generalize (if c = 1 then some ad else some { block := ad.block, off := ad.off + 1 } : Option Addr) = A9 at ht ⊢
  with_reducible refine (gNorm_any ht).mono ?_
  rintro e w1 ⟨r1, rfl, hN, bN, dN⟩
  have HN := Lib.hid hN
  clear hN ht
  have hb := dN.below W0.drew.heap.size
  replace HR := HR.on hb
  replace DZ := DZ.on hb
  replace h := h.on hb
  replace bz := bz.trans (hb.mono bz.size)
  have hsz1 : w1.heap.size = w.heap.size + 2 := by obtain ⟨k, rfl⟩ := dN; exact hsz
  clear hb dN
  replace hc0 := h.head hn
  clear hS; refine hK.out _ _ hc0 (fun hS => ?_); clear hK K
  try simp only [Act.put, List.setIfInBounds_toArray, List.set_cons_zero, List.set_cons_succ, List.getElem_toArray, List.getElem_cons_zero, List.getElem_cons_succ]
  refine wpAnyH_take (i := 6) (v := ?v6_6) rfl (by kernel_rfl) (by kernel_rfl) (by kernel_rfl) (fun _ _ _ h => h) (Or.inl ⟨by rfl, ?hy6_6⟩) (by assumption) ?rest6_6
  case hy6_6 => (intro w9 hSw; clear hSw; go_simp; try with_reducible rfl)
  try simp only [Act.put, List.setIfInBounds_toArray, List.set_cons_zero, List.set_cons_succ, List.getElem_toArray, List.getElem_cons_zero, List.getElem_cons_succ]
  refine wpAnyH_take (i := 7) (v := ?v7_7) rfl (by kernel_rfl) (by kernel_rfl) (by kernel_rfl) (fun _ _ _ h => h) (Or.inl ⟨by rfl, ?hy7_7⟩) (by assumption) ?rest7_7
  case hy7_7 => (intro w9 hSw; clear hSw; go_simp; try with_reducible rfl)
  try simp only [Act.put, List.setIfInBounds_toArray, List.set_cons_zero, List.set_cons_succ, List.getElem_toArray, List.getElem_cons_zero, List.getElem_cons_succ]
  refine wpAnyH_done (by kernel_rfl) ?_ _
  generalize hX0 : (D l 0).toNat = X at *
  have b0 : (0 : Nat) ≤ 18446744073709551615 := by omega
  have bI : (4607182418800017408 : Nat) ≤ 18446744073709551615 := by omega
  obtain ⟨z0, z1, z2, z3⟩ := Rbx.cells DZ
  have HZ : Hid (mkZ l = (FloatKind.f64.format.order r1 0 == some .eq)) := Lib.hid (by unfold mkZ; rw [← HN.out, ← af_zero, eq_is bN b0])
  cases cz : (FloatKind.f64.format.order r1 0 == some .eq)
  · rw [cz] at HZ
    go_wp2_with fail
    clear z0 z1 z2 z3
    with_reducible refine (gHypot_any bX bN _).mono ?_
    rintro e w2 ⟨r2, rfl, hH, bH, dH⟩
    have HH := Lib.hid hH
    clear hH
    have hb := dH.below w1.heap.size
    replace HR := HR.on hb
    replace DZ := DZ.on hb
    replace h := h.on hb
    replace bz := bz.trans (hb.mono bz.size)
    have hsz2 : w2.heap.size = w.heap.size + 2 := by obtain ⟨k, rfl⟩ := dH; exact hsz1
    clear hb dH
    obtain ⟨z0, z1, z2, z3⟩ := Rbx.cells DZ
    go_wp2_with fail
    clear z0 z1 z2 z3
    with_reducible refine (gSign_any bH bX _).mono ?_
    rintro e w3 ⟨r3, rfl, hS, bS, rfl⟩
    have HS := Lib.hid hS
    clear hS
    obtain ⟨r4, hr4, hN4, b4⟩ := run_neg (P := Try.prog) bS
    have e4 := hr4 w2
    clear hr4
    have HB : Hid (af r4 = mkB l) := Lib.hid (by unfold mkB; rw [HZ.out, if_neg (by decide), hN4, HS.out, HH.out, HN.out, HFX.out, hX0])
    clear hN4 HS HH
    obtain ⟨r5, w5, e5, d5, h5, b5⟩ := run_sub (P := Try.prog) 49 (x := X) (y := r4) bX b4 w2
    obtain ⟨r6, w6, e6, d6, h6, b6⟩ := run_quo (P := Try.prog) 49 (x := 4607182418800017408) (y := r5) bI b5 w5
    have HQ : Hid (af r6 = mkQ l) := Lib.hid (by unfold mkQ; rw [h6, h5, HB.out, HFX.out, af_one])
    clear h5 h6
    have hb := (d5.trans d6).below w2.heap.size
    have hsz6 : w6.heap.size = w.heap.size + 2 := by obtain ⟨k, rfl⟩ := d5.trans d6; exact hsz2
    clear d5 d6
    have HR6 := HR.on hb
    have DZ6 := DZ.on hb
    have h6 := h.on hb
    have bz6 := bz.trans (hb.mono bz.size)
    clear hb
    go_wp2_with fail
    clear e4 e5 e6 HR DZ h bz hc0
    go_loopw [44, 10] (fun i i2 wr => ∃ (k : Nat) (v : List Int), k ≤ n - 1 ∧ i = .int .i64 k ∧ RowF wr (w.heap.size + 1) v ∧ Hid (Is v n (fun j => if j = 0 then some 4607182418800017408 else if j ≤ k then mkV l j else some 0)) ∧ Rbx wr w.heap.size none 0 0 0 ∧ FL wr (some ad) n c l ∧ Below w.heap.size w wr ∧ wr.heap.size = w.heap.size + 2) (fun i _ _ => n - (intOf i).toNat)
    case atStart => exact ⟨0, V, by omega, rfl, HR6, Lib.hid (HIV.out.congr (fun j hj => by by_cases e : j = 0 <;> simp [e])), DZ6, h6, bz6, hsz6⟩
    case round =>
      clear HR6 DZ6 h6 bz6 hsz6 HIV
      obtain ⟨k, v, hk, rfl, HR, HV, DZ, h, bz, hsz⟩ := hrel
      by_cases hlt : k < n - 1
      · have k0 : (0 : Int) ≤ k := by omega
        have k1 : (k : Int) < (n : Int) - 1 := by omega
        obtain ⟨j, hj⟩ : ∃ j : Nat, k + 1 = j := ⟨_, rfl⟩
        have ej : (k : Int) + 1 = (j : Int) := by omega
        have j0 : (0 : Int) ≤ j := by omega
        have j1 : (j : Int) < n := by omega
        have hk1 := h.2.1.at_some (k := j) (by rw [h.1]; omega)
        obtain ⟨x0, x1⟩ := h.2.2.at_ j
        have bY : (D l j).toNat ≤ 18446744073709551615 := by omega
        have HFY : Hid (af (D l j).toNat = fa (D l j)) := Lib.hid rfl
        generalize (D l j).toNat = Y at *
        obtain ⟨r7, w7, e7, d7, h7, b7⟩ := run_mul (P := Try.prog) 49 (x := Y) (y := r6) bY b6 wr
        have HP : Hid (af r7 = mkV l j) := Lib.hid (by unfold mkV; rw [if_neg (by omega), HZ.out, if_neg (by decide), h7, HFY.out, HQ.out])
        clear h7
        have hb := d7.below wr.heap.size
        obtain ⟨hv0, hv1⟩ : w7.cell? ⟨w.heap.size + 1, j, none⟩ = some (.float .f64 (D v j).toNat) ∧ w7.frozen? ⟨w.heap.size + 1, j, none⟩ = false := (HR.on hb).at_ (by rw [HV.out.len]; omega)
        have HR7 : RowF (w7.setCell ⟨w.heap.size + 1, j, none⟩ (.float .f64 r7)) (w.heap.size + 1) (v.set j r7) := (HR.on hb).set_ j r7
        have DZ7 : Rbx (w7.setCell ⟨w.heap.size + 1, j, none⟩ (.float .f64 r7)) w.heap.size none 0 0 0 := (DZ.on hb).far (by simp) _
        have bz7 : Below w.heap.size w (w7.setCell ⟨w.heap.size + 1, j, none⟩ (.float .f64 r7)) := (bz.trans (hb.mono bz.size)).setCell (by simp) _
        have hF7 : FL (w7.setCell ⟨w.heap.size + 1, j, none⟩ (.float .f64 r7)) (some ad) n c l := (h.on hb).far (by show ad.block ≠ w.heap.size + 1; omega) _
        have hsz7 : (w7.setCell ⟨w.heap.size + 1, j, none⟩ (.float .f64 r7)).heap.size = w.heap.size + 2 := by obtain ⟨q, rfl⟩ := d7; simp [World.setCell]; exact hsz
        have HV7 : Is (v.set j (r7 : Int)) n (fun i => if i = 0 then some 4607182418800017408 else if i ≤ j then mkV l i else some 0) := by
          refine HV.out.set (by omega) (by omega) (by omega) ?_ (fun i _ hi => ?_)
          · rw [fa_nat, HP.out]; show _ = if j = 0 then _ else if j ≤ j then _ else _; rw [if_neg (by omega), if_pos (Nat.le_refl _)]
          · by_cases e0 : i = 0
            · simp [e0]
            · simp only [e0, if_false]
              by_cases e1 : i ≤ k
              · rw [if_pos (by omega), if_pos e1]
              · rw [if_neg (by omega), if_neg e1]
        have HIV := Lib.hid HV7
        clear HV7 HV HR DZ h bz hsz hb HP d7
        go_wp2_with fail
        go_roundw
        case rel => exact ⟨j, _, by omega, by go_num, HR7, HIV, DZ7, hF7, bz7, hsz7⟩
        case measure => simp [intOf]; omega
      · obtain rfl : k = n - 1 := by omega
        have HT := Lib.hid (show mkT l = aop .quo (aop .sub (mkB l) (fa (D l 0))) (mkB l) by unfold mkT; rw [HZ.out, if_neg (by decide)])
        obtain ⟨r8, w8, e8, d8, h8, b8⟩ := run_sub (P := Try.prog) 49 (x := r4) (y := X) b4 bX wr
        obtain ⟨r9, w9, e9, d9, h9, b9⟩ := run_quo (P := Try.prog) 49 (x := r8) (y := r4) b8 b4 w8
        have HT9 : Hid (af r9 = mkT l) := Lib.hid (by rw [HT.out, h9, h8, HB.out, HFX.out])
        clear h8 h9 HT
        have hb := (d8.trans d9).below wr.heap.size
        replace DZ := DZ.on hb
        replace HR := HR.on hb
        replace bz := bz.trans (hb.mono bz.size)
        obtain ⟨z0, z1, z2, z3⟩ := Rbx.cells DZ
        have hb9 := (bz.setCell (p := ⟨w.heap.size, 0, none⟩) (Nat.le_refl _) (.slice (some ⟨w.heap.size + 1, 0, none⟩) n n)).setCell (p := ⟨w.heap.size, 1, none⟩) (Nat.le_refl _) (.float .f64 r9)
        have HR9 := (HR.far (p := ⟨w.heap.size, 0, none⟩) (by simp) (.slice (some ⟨w.heap.size + 1, 0, none⟩) n n)).far (p := ⟨w.heap.size, 1, none⟩) (by simp) (.float .f64 r9)
        have DZ9 := (Blk.set_ DZ 0 (.slice (some ⟨w.heap.size + 1, 0, none⟩) n n)).set_ 1 (.float .f64 r9)
        obtain ⟨c0, c1, c2, c3⟩ := Rbx.cells DZ9
        go_wp2_with fail
        refine bodyPost_ret (v := .tuple #[rV (some ⟨w.heap.size + 1, 0, none⟩) n n r9, .float .f64 r4, .int .i64 0]) (by simp [results, Try.results28, go_sem, c0, c1]) rfl ?_
        exact ⟨w.heap.size + 1, r9, r4, v, rfl, HR9, by omega, HV.out.congr (fun i hi => by by_cases e0 : i = 0; rw [if_pos e0, e0]; rfl; rw [if_neg e0, if_pos (by omega)]), HT9.out, HB.out, b9, b4, hb9⟩
  · rw [cz] at HZ
    have bz1 := (bz.setCell (p := ⟨w.heap.size, 0, none⟩) (Nat.le_refl _) (.slice (some ⟨w.heap.size + 1, 0, none⟩) n n)).setCell (p := ⟨w.heap.size, 1, none⟩) (Nat.le_refl _) (.float .f64 0)
    have HR1 := (HR.far (p := ⟨w.heap.size, 0, none⟩) (by simp) (.slice (some ⟨w.heap.size + 1, 0, none⟩) n n)).far (p := ⟨w.heap.size, 1, none⟩) (by simp) (.float .f64 0)
    have DZ1 := (Blk.set_ DZ 0 (.slice (some ⟨w.heap.size + 1, 0, none⟩) n n)).set_ 1 (.float .f64 0)
    obtain ⟨c0, c1, c2, c3⟩ := Rbx.cells DZ1
    go_wp2_with fail
    refine bodyPost_ret (v := .tuple #[rV (some ⟨w.heap.size + 1, 0, none⟩) n n 0, .float .f64 X, .int .i64 0]) (by simp [results, Try.results28, go_sem, c0, c1]) rfl ?_
    refine ⟨w.heap.size + 1, 0, X, V, rfl, HR1, by omega, HIV.out.congr (fun i hi => by unfold mkV; rw [HZ.out, if_pos rfl]), ?_, ?_, b0, bX, bz1⟩
    · unfold mkT; rw [HZ.out, if_pos rfl]; exact af_zero
    · unfold mkB; rw [HZ.out, if_pos rfl, HFX.out]
end Go.Proofs.Ytbaeabmmokgomaa
