/-
  Layer 10, walks: the tridiagonal form, by the reference. (Written by wip/tools/gen_tdred.py.)
-/
import Derived.Test.YtaemkjcmjgefeaaTdL
import Derived.Test.YtaemkjcmjgefeaaTdE
import Derived.Test.YtaemkjcmjgefeaaQRfE
namespace Go.Proofs.Ytaemkjcmjgefeaa
open Go.RowKit Go.Bw
set_option linter.unusedVariables false
set_option linter.unusedSimpArgs false
attribute [local go_sem] run_store_float

set_option maxRecDepth 100000 in
set_option maxHeartbeats 32000000 in
theorem rReduce_many {A : Option Addr} {n N c : Nat} {l : List Int} {w : World} (h : FL w A N c l) (hN : N = n * n) (hn : n ≤ 512) (n1 : 0 < n) :
    Calls Try.prog 12 #[mV n n A N c] w (TdP w n l) := by
  have hmx := h.max
  have hll := h.1
  have HWD := Lib.hid h.2.2
  have n4 : N ≤ 262144 := by rw [hN]; exact Nat.le_trans (Nat.mul_le_mul hn hn) (by decide)
  have N1 : 0 < N := by rw [hN]; exact Nat.mul_pos n1 n1
  have HN := Lib.hid hN
  clear hN
  have bz := ((Below.refl _ w).alloc (Nat.le_refl _) (.cells #[.int .i64 n, .int .i64 n, .slice A N c] 24)).alloc (by simp) (.cells #[.slice none 0 0, .slice none 0 0] 28)
  have DM := (Blk.new w [.int .i64 n, .int .i64 n, .slice A N c] 24).alloc (.cells #[.slice none 0 0, .slice none 0 0] 28)
  have DZ := Blk.new (w.alloc (.cells #[.int .i64 n, .int .i64 n, .slice A N c] 24)) [.slice none 0 0, .slice none 0 0] 28
  rw [World.size_alloc] at DZ
  replace h := h.on bz
  have hs1 : ((w.alloc (.cells #[.int .i64 n, .int .i64 n, .slice A N c] 24)).alloc (.cells #[.slice none 0 0, .slice none 0 0] 28)).heap.size = w.heap.size + 1 + 1 := by simp
  obtain ⟨y0, y1, y2, _, _, _⟩ := Mbx.cells DM
  go_enter Try.func12, Try.ntmps12
  go_upto_region 1 with fail
  generalize (w.alloc (.cells #[.int .i64 n, .int .i64 n, .slice A N c] 24)).alloc (.cells #[.slice none 0 0, .slice none 0 0] 28) = W1 at DM DZ bz hs1 h y0 y1 y2 ⊢
  go_wp2_with (at_builtin; refine wpList_appF _ rfl _ _ rfl w.heap.size none 0 [] rfl (OwnF.nil _ _) _ A c l (by rw [hll]; rfl) h.2.1 (by simp; omega) (by omega) ?_; intro A2 cap w2 hO hg hrow; simp only [List.nil_append] at hO hrow ⊢; rw [hll] at hrow ⊢)
  obtain ⟨g, hA2, hg0, hg1⟩ := hO.form (by rw [hll]; exact N1)
  subst hA2
  have hgW : g = W1.heap.size := by
    rcases hrow with h9 | h9
    · simp [Value.ownBlock] at h9
    · simpa [Value.ownBlock] using h9
  have hb := below_appF (Below.refl W1.heap.size W1) (OwnF.nil _ _) hg (Nat.le_refl _)
  have hb1 := hb.size
  replace bz := bz.trans (hb.mono bz.size)
  replace DZ := DZ.on hb
  have DT := Blk.new w2 [.slice none 0 0, .slice none 0 0] 28
  have R0 : RS w (w2.alloc (.cells #[.slice none 0 0, .slice none 0 0] 28)) N 0 g w2.heap.size (w.heap.size + 1) cap l none none none 0 0 0 [] [] [] :=
    ⟨hO.alloc_ _, DT, DZ.alloc _, OwnF.nil _ _, OwnF.nil _ _, OwnR.nil _ _, (fun r h => by cases h), (fun r h => by cases h), bz.alloc bz.size _, Ap.start _ _ _ (by omega) (by omega) (by omega), by omega, by omega, by omega⟩
  obtain ⟨t, ht⟩ : ∃ t, w2.heap.size = t := ⟨_, rfl⟩
  rw [ht] at R0
  have htg : g < t := by omega
  have hzt : w.heap.size + 1 < g := by omega
  have K0 := TdK.start (n := n) (by rw [hll]; exact HN.out) HWD.out
  clear hO hg hrow hb hb1 bz DZ DT DM y0 y1 y2 h hgW hg0 hg1 hs1
  go_wp2_with fail
  generalize w2.alloc (.cells #[.slice none 0 0, .slice none 0 0] 28) = w3 at R0 ⊢
  rw [ht]
  clear ht
  go_loopw [7, 8, 9, 10, 11, 12, 13, 14, 15, 16, 17, 18, 19, 20, 21, 22, 23, 24, 25, 26, 27, 28] (fun v7 v8 v9 v10 v11 v12 v13 v14 v15 v16 v17 v18 v19 v20 v21 v22 v23 v24 v25 v26 v27 v28 wr => ∃ (k : Nat) (Ls : Nat → List Int) (Ad Ae Ah : Option Addr) (cd ce ch : Nat) (d e : List Int) (hs : List Re), k ≤ n - 2 ∧ v7 = .slice Ah k ch ∧ v8 = .int .i64 k ∧ RS w wr N k g t (w.heap.size + 1) cap (Ls k) Ad Ae Ah cd ce ch d e hs ∧ TdK n k Ls d e hs ∧ Ls 0 = l) (fun _ i _ _ _ _ _ _ _ _ _ _ _ _ _ _ _ _ _ _ _ _ _ => n - (intOf i).toNat)
  case atStart => exact ⟨0, _, none, none, none, 0, 0, 0, [], [], [], Nat.zero_le _, rfl, rfl, R0, K0, rfl⟩
  case round =>
    clear R0 K0
    obtain ⟨k, Ls, Ad, Ae, Ah, cd, ce, ch, d, e, hs, hk, rfl, rfl, R, K, hL0⟩ := hrel
    have hk0 : (0 : Int) ≤ k := by omega
    by_cases hlt : k + 2 < n
    · skip
      have hKL := K.now.1
      rw [← HN.out] at hKL
      have hKW := Lib.hid K.now.2
      have hlt2 : (k : Int) + 2 < n := by omega
      go_wp2_with fail
      obtain ⟨wo, hwo⟩ : ∃ x, x = wr := ⟨_, rfl⟩
      subst hwo
      have hX0 : OwnF wo wo.heap.size none 0 ((tdX (Ls k) n k).take 0) := OwnF.nil _ _
      go_loopw [9, 10] (fun v9 v10 wr => ∃ (i : Nat) (A9 : Option Addr) (c9 : Nat), i ≤ n - 1 - k ∧ v9 = .slice A9 i c9 ∧ v10 = .int .i64 ((k + 1 + i : Nat) : Int) ∧ OwnF wr wo.heap.size A9 c9 ((tdX (Ls k) n k).take i) ∧ Below wo.heap.size wo wr) (fun _ i _ => n - (intOf i).toNat)
      case atStart => exact ⟨0, none, 0, Nat.zero_le _, rfl, by go_num, hX0, Below.refl _ _⟩
      case round =>
        clear hX0
        obtain ⟨i, A9, c9, hi, rfl, rfl, hX, bx⟩ := hrel
        have hXl : ((tdX (Ls k) n k).take i).length = i := by rw [List.length_take, tdX_len]; omega
        by_cases hit : i < n - 1 - k
        · obtain ⟨p, hp⟩ : ∃ p, k + 1 + i = p := ⟨_, rfl⟩
          rw [hp]
          have hpn : (p : Int) < n := by omega
          have hp0 : (0 : Int) ≤ p := by omega
          have HP := Lib.hid hp
          clear hp
          obtain ⟨ya, hya⟩ : ∃ y, p * n = y := ⟨_, rfl⟩
          obtain ⟨za, hza⟩ : ∃ z, ya + k = z := ⟨_, rfl⟩
          have hNa : za < N := by rw [← hza, ← hya, HN.out]; exact ix_lt (by omega) (by omega)
          have HZa : Hid (p * n + k = za) := Lib.hid (by rw [← hza, ← hya])
          have eya : (p : Int) * (n : Int) = (ya : Int) := by exact_mod_cast hya
          have eza : (ya : Int) + (k : Int) = (za : Int) := by omega
          have wya : IntKind.i64.wrap (ya : Int) = (ya : Int) := IntWalk.i64_in _ (by omega)
          have wza : IntKind.i64.wrap (za : Int) = (za : Int) := IntWalk.i64_in _ (by omega)
          have z0a : (0 : Int) ≤ za := by omega
          have z1a : (za : Int) < N := by omega
          clear hya hza
          have hcz := ((R.on bx).oa.at' (k := za) (by rw [hKL]; exact hNa)).1
          obtain ⟨x1, x2⟩ := hKW.out.at_ za
          obtain ⟨Y, hY⟩ : ∃ Y, (D (Ls k) za).toNat = Y := ⟨_, rfl⟩
          rw [hY] at hcz
          have e1 : (tdX (Ls k) n k).take i ++ [(Y : Int)] = (tdX (Ls k) n k).take (i + 1) := by
            rw [tdX_next hit, HP.out, HZa.out, ← hY, Int.toNat_of_nonneg x1]
          have hXl2 : ((tdX (Ls k) n k).take (i + 1)).length = i + 1 := by rw [List.length_take, tdX_len]; omega
          have hcap := R.oa.ge
          rw [hKL] at hcap
          have hsrc : NumF (wr.alloc (.cells #[.float .f64 Y] 39)) (wr.heap.size + 1) (some ⟨wr.heap.size, 0, none⟩) 1 [(Y : Int)] := by
            have h9 := (RowF.one wr (Y : Int)).nums (c := 1) (B := wr.heap.size + 1) 0 1 (by simp) (by omega) (by unfold maxLen; omega) (by omega)
            exact h9
          have hX1 := hX.alloc_ (.cells #[.float .f64 Y] 39)
          have bx1 := bx.alloc bx.size (.cells #[.float .f64 Y] 39)
          clear hY x1 x2
          go_wp2_with (at_builtin; refine wpList_appF _ rfl _ _ rfl wo.heap.size A9 c9 ((tdX (Ls k) n k).take i) (by rw [hXl]; rfl) hX1 _ _ _ [(Y : Int)] rfl hsrc (by rw [hXl]; simp; omega) (by have := bx1.size; simpa using this) ?_; intro A5 c5 w5 hO5 hg5 _; have bx5 := below_appF bx1 hX1 hg5 bx1.size; rw [e1] at hO5 ⊢; rw [hXl2])
          go_roundw
          case rel => exact ⟨i + 1, A5, c5, by omega, rfl, by have := HP.out; go_num, hO5, bx5⟩
          case measure => simp [intOf] <;> (have := HP.out; omega)
        · obtain hin : i = n - 1 - k := by omega
          have hXl3 : ((tdX (Ls k) n k).take i).length = (tdX (Ls k) n k).length := by rw [hXl, tdX_len, hin]
          have eX : (tdX (Ls k) n k).take i = tdX (Ls k) n k := List.take_of_length_le (by rw [tdX_len]; omega)
          rw [eX] at hX hXl
          have FX : FL wr A9 i c9 (tdX (Ls k) n k) := by have h9 := hX.fl (tdX_wd hKW.out); rw [hXl] at h9; exact h9
          have hkn : ¬ ((k + 1 + i : Nat) : Int) < n := by omega
          have R1 := R.on bx
          have hi0 : 0 < i := by omega
          have hin2 : i ≤ 4000000 := by omega
          have hX9 : ∀ x, A9 = some x → x.block < wr.heap.size := fun x e9 => (hX.gt e9).2
          have HIN := Lib.hid hin
          clear hXl3 eX hX bx hit hi hin
          have hFr := fun b (hb : wr.heap.size ≤ b) => R1.fresh hb
          go_wp2_with fail
          with_reducible refine (rMake_any FX hi0 hin2).mono ?_
          rintro e9 w4 ⟨gv, t1, be, v, rfl, RV, hgv, IV, hmt, hmb, bt, bb, hb⟩
          have R2 := R1.on hb
          have hs4 := hb.size
          have HIV := Lib.hid IV
          have HMT := Lib.hid hmt
          have HMB := Lib.hid hmb
          have FV : FL w4 (some ⟨gv, 0, none⟩) i i v := by have h9 := RV.fl IV.wd (by rw [IV.len]; unfold maxLen; omega); rw [IV.len] at h9; exact h9
          have hgl := RV.lt
          clear R1 hb IV hmt hmb RV FX
          have DH := Blk.new w4 [.slice (some ⟨gv, 0, none⟩) i i, .float .f64 t1] 41
          obtain ⟨gh, hgh⟩ : ∃ x, w4.heap.size = x := ⟨_, rfl⟩
          have hbA := (Below.refl _ w4).alloc (Nat.le_refl _) (.cells #[.slice (some ⟨gv, 0, none⟩) i i, .float .f64 t1] 41)
          have R3 := R2.on hbA
          replace FV := FV.on hbA
          have hs5 := hbA.size
          rw [hgh] at DH
          clear R2 hbA
          have HGH := Lib.hid hgh
          obtain ⟨u0, u1, _, _⟩ := Rbx.cells DH
          have hvl := HIV.out.len
          have R4 := R3.alloc (.cells #[.slice (some ⟨gv, 0, none⟩) i i, .float .f64 t1] 41)
          have FV4 := FV.alloc (.cells #[.slice (some ⟨gv, 0, none⟩) i i, .float .f64 t1] 41)
          have DH4 := DH.alloc (.cells #[.slice (some ⟨gv, 0, none⟩) i i, .float .f64 t1] 41)
          have DB := Blk.new (w4.alloc (.cells #[.slice (some ⟨gv, 0, none⟩) i i, .float .f64 t1] 41)) [.slice (some ⟨gv, 0, none⟩) i i, .float .f64 t1] 41
          have hs56 : (w4.alloc (.cells #[.slice (some ⟨gv, 0, none⟩) i i, .float .f64 t1] 41)).heap.size = gh + 1 := by rw [World.size_alloc, hgh]
          rw [hs56] at DB
          have hkl := K.hl
          have q0 : ((w4.alloc (.cells #[.slice (some ⟨gv, 0, none⟩) i i, .float .f64 t1] 41)).alloc (.cells #[.slice (some ⟨gv, 0, none⟩) i i, .float .f64 t1] 41)).cell? ⟨gh + 1, 0, none⟩ = some (.slice (some ⟨gv, 0, none⟩) v.length i) := by rw [hvl]; exact DB.cell 0 rfl
          have q1 : ((w4.alloc (.cells #[.slice (some ⟨gv, 0, none⟩) i i, .float .f64 t1] 41)).alloc (.cells #[.slice (some ⟨gv, 0, none⟩) i i, .float .f64 t1] 41)).cell? ((⟨gh + 1, 0, none⟩ : Addr).add 1) = some (.float .f64 t1) := by rw [add_at]; exact DB.cell 1 rfl
          clear DB R3 FV DH
          go_wp2_with (at_builtin; refine wpList_appR _ rfl _ _ rfl w.heap.size Ah ch hs k hkl rfl R4.oh _ 1 ⟨some ⟨gv, 0, none⟩, i, v, t1⟩ rfl q0 q1 (by omega) R4.bz.size ?_; intro A6 c6 w6 hO6 hg6 ho6)
          have hs6 : ((w4.alloc (.cells #[.slice (some ⟨gv, 0, none⟩) i i, .float .f64 t1] 41)).alloc (.cells #[.slice (some ⟨gv, 0, none⟩) i i, .float .f64 t1] 41)).heap.size = gh + 2 := by rw [World.size_alloc, hs56]
          have hb6 := below_app6 R4.oh hg6 hkl R4.bz.size
          have FV6 : FL w6 (some ⟨gv, 0, none⟩) i i v := fl_far9 FV4 hg6 (fun x e9 => by injection e9 with e9; subst e9; exact own_ne (hFr gv hgv).2.2.2.2.2)
          have DH6 := Blk.grown DH4 hg6 (by have h9 := (hFr gh (by omega)).2.2.2.2.2; exact own_ne h9)
          have R6 := RS.refl (r := ⟨some ⟨gv, 0, none⟩, i, v, t1⟩) R4 hO6 (by rw [hkl]; exact hg6) (by rw [hkl]; exact ho6) (by show FL w6 (some ⟨gv, 0, none⟩) v.length i v; rw [hvl]; exact FV6) bt (fun x e9 => by injection e9 with e9; subst e9; show gv < _; have := hb6.size; omega)
            (hFr gv hgv).1 (hFr gv hgv).2.1 (hFr gv hgv).2.2.1 (hFr gv hgv).2.2.2.1 (hFr gv hgv).2.2.2.2.1 (na_grow (hFr gv hgv).2.2.2.2.2 (fun x e9 => by injection e9 with e9; subst e9; show gv < _; omega) ho6) R4.lts
          have hs7 := hg6.size
          rw [hs6] at hs7
          clear R4 FV4 DH4 hO6 hg6 ho6 hb6 u0 u1 q0 q1
          obtain ⟨yb, hyb⟩ : ∃ y, k * n = y := ⟨_, rfl⟩
          obtain ⟨zb, hzb⟩ : ∃ z, yb + k = z := ⟨_, rfl⟩
          have hNb : zb < N := by rw [← hzb, ← hyb, HN.out]; exact ix_lt (by omega) (by omega)
          have HZb : Hid (k * n + k = zb) := Lib.hid (by rw [← hzb, ← hyb])
          have eyb : (k : Int) * (n : Int) = (yb : Int) := by exact_mod_cast hyb
          have ezb : (yb : Int) + (k : Int) = (zb : Int) := by omega
          have wyb : IntKind.i64.wrap (yb : Int) = (yb : Int) := IntWalk.i64_in _ (by omega)
          have wzb : IntKind.i64.wrap (zb : Int) = (zb : Int) := IntWalk.i64_in _ (by omega)
          have z0b : (0 : Int) ≤ zb := by omega
          have z1b : (zb : Int) < N := by omega
          clear hyb hzb
          obtain ⟨Y2, hY2⟩ : ∃ Y, (D (Ls k) zb).toNat = Y := ⟨_, rfl⟩
          obtain ⟨x1, x2⟩ := hKW.out.at_ zb
          have HY2 := Lib.hid hY2
          have b2 : Y2 ≤ 18446744073709551615 := by omega
          have HF2 : Hid (fa (Y2 : Int) = ma (Ls k) n k k) := Lib.hid (by unfold ma; rw [HZb.out, ← hY2, Int.toNat_of_nonneg x1])
          have HDL := Lib.hid K.dl
          have HEL := Lib.hid K.el
          have hcap := R.oa.ge
          rw [hKL] at hcap
          have bz := Below.refl w6.heap.size w6
          clear hY2 x1 x2 R
          replace R6 := R6.drew
          replace FV6 := FV6.drew
          replace DH6 := DH6.drew
          replace bz := bz.drew
          have hcz := (R6.oa.at' (k := zb) (by rw [hKL]; exact hNb)).1
          rw [HY2.out] at hcz
          have hb0 := R6.bz.size
          refine wp_region_late [13] (S := fun w9 : World => Tbx w9 t Ad d.length cd Ae e.length ce ∧ w9.cell? ⟨g, zb, none⟩ = some (.float .f64 Y2)) (by kernel_rfl) ⟨R6.tb, hcz⟩ (fun hS => ?_)
          generalize w6.drew = wd at hS R6 FV6 DH6 hcz hb0 bz ⊢
          refine wpAnyL_take (i := 0) (v := ?v0_1) rfl (by kernel_rfl) (by kernel_rfl) (by kernel_rfl) (fun _ _ _ h => h) (Or.inl ⟨by rfl, ?hy0_1⟩) (by assumption) ?rest0_1
          case hy0_1 => (intro w9 hSw; clear hSw; go_simp; try with_reducible rfl)
          try simp only [Act.put, List.setIfInBounds_toArray, List.set_cons_zero, List.set_cons_succ, List.getElem_toArray, List.getElem_cons_zero, List.getElem_cons_succ]
          refine wpAnyL_take (i := 1) (v := ?v1_2) rfl (by kernel_rfl) (by kernel_rfl) (by kernel_rfl) (fun _ _ _ h => h) (Or.inl ⟨by rfl, ?hy1_2⟩) (by assumption) ?rest1_2
          case hy1_2 => (intro w9 hSw; obtain ⟨ma1, ma2⟩ := hSw; obtain ⟨y0, y1, _, _⟩ := Tbx.cells ma1; go_simp; try with_reducible rfl)
          try simp only [Act.put, List.setIfInBounds_toArray, List.set_cons_zero, List.set_cons_succ, List.getElem_toArray, List.getElem_cons_zero, List.getElem_cons_succ]
          refine wpAnyL_take (i := 2) (v := ?v2_3) rfl (by kernel_rfl) (by kernel_rfl) (by kernel_rfl) (fun _ _ _ h => h) (Or.inl ⟨by rfl, ?hy2_3⟩) (by assumption) ?rest2_3
          case hy2_3 => (intro w9 hSw; clear hSw; go_simp; try with_reducible rfl)
          try simp only [Act.put, List.setIfInBounds_toArray, List.set_cons_zero, List.set_cons_succ, List.getElem_toArray, List.getElem_cons_zero, List.getElem_cons_succ]
          refine wpAnyL_take (i := 3) (v := ?v3_4) rfl (by kernel_rfl) (by kernel_rfl) (by kernel_rfl) (fun _ _ _ h => h) (Or.inl ⟨by rfl, ?hy3_4⟩) (by assumption) ?rest3_4
          case hy3_4 => (intro w9 hSw; clear hSw; go_simp; try with_reducible rfl)
          try simp only [Act.put, List.setIfInBounds_toArray, List.set_cons_zero, List.set_cons_succ, List.getElem_toArray, List.getElem_cons_zero, List.getElem_cons_succ]
          refine wpAnyL_take (i := 4) (v := ?v4_5) rfl (by kernel_rfl) (by kernel_rfl) (by kernel_rfl) (fun _ _ _ h => h) (Or.inl ⟨by rfl, ?hy4_5⟩) (by assumption) ?rest4_5
          case hy4_5 => (intro w9 hSw; clear hSw; go_simp; try with_reducible rfl)
          try simp only [Act.put, List.setIfInBounds_toArray, List.set_cons_zero, List.set_cons_succ, List.getElem_toArray, List.getElem_cons_zero, List.getElem_cons_succ]
          refine wpAnyL_take (i := 5) (v := ?v5_6) rfl (by kernel_rfl) (by kernel_rfl) (by kernel_rfl) (fun _ _ _ h => h) (Or.inl ⟨by rfl, ?hy5_6⟩) (by assumption) ?rest5_6
          case hy5_6 => (intro w9 hSw; clear hSw; go_simp; try with_reducible rfl)
          try simp only [Act.put, List.setIfInBounds_toArray, List.set_cons_zero, List.set_cons_succ, List.getElem_toArray, List.getElem_cons_zero, List.getElem_cons_succ]
          refine wpAnyL_take (i := 6) (v := ?v6_7) rfl (by kernel_rfl) (by kernel_rfl) (by kernel_rfl) (fun _ _ _ h => h) (Or.inl ⟨by rfl, ?hy6_7⟩) (by assumption) ?rest6_7
          case hy6_7 => (intro w9 hSw; clear hSw; go_simp; try with_reducible rfl)
          try simp only [Act.put, List.setIfInBounds_toArray, List.set_cons_zero, List.set_cons_succ, List.getElem_toArray, List.getElem_cons_zero, List.getElem_cons_succ]
          refine wpAnyL_take (i := 7) (v := ?v7_8) rfl (by kernel_rfl) (by kernel_rfl) (by kernel_rfl) (fun _ _ _ h => h) (Or.inl ⟨by rfl, ?hy7_8⟩) (by assumption) ?rest7_8
          case hy7_8 => (intro w9 hSw; clear hSw; go_simp; try with_reducible rfl)
          try simp only [Act.put, List.setIfInBounds_toArray, List.set_cons_zero, List.set_cons_succ, List.getElem_toArray, List.getElem_cons_zero, List.getElem_cons_succ]
          refine wpAnyL_take (i := 8) (v := ?v8_9) rfl (by kernel_rfl) (by kernel_rfl) (by kernel_rfl) (fun _ _ _ h => h) (Or.inl ⟨by rfl, ?hy8_9⟩) (by assumption) ?rest8_9
          case hy8_9 => (intro w9 hSw; clear hSw; go_simp; try with_reducible rfl)
          try simp only [Act.put, List.setIfInBounds_toArray, List.set_cons_zero, List.set_cons_succ, List.getElem_toArray, List.getElem_cons_zero, List.getElem_cons_succ]
          refine wpAnyL_take (i := 9) (v := ?v9_10) rfl (by kernel_rfl) (by kernel_rfl) (by kernel_rfl) (fun _ _ _ h => h) (Or.inl ⟨by rfl, ?hy9_10⟩) (by assumption) ?rest9_10
          case hy9_10 => (intro w9 hSw; obtain ⟨ma1, ma2⟩ := hSw; obtain ⟨y0, y1, _, _⟩ := Tbx.cells ma1; go_simp; try with_reducible rfl)
          try simp only [Act.put, List.setIfInBounds_toArray, List.set_cons_zero, List.set_cons_succ, List.getElem_toArray, List.getElem_cons_zero, List.getElem_cons_succ]
          refine wpAnyL_ready (rs := [10]) (by kernel_rfl) (by simp) ?_
          refine AllReadyL.cons rfl (fun K hK => ?_) AllReadyL.nil
          go_simp
          have hsrc : NumF (wd.alloc (.cells #[.float .f64 Y2] 39)) (wd.heap.size + 1) (some ⟨wd.heap.size, 0, none⟩) 1 [(Y2 : Int)] := by
            have h9 := (RowF.one wd (Y2 : Int)).nums (c := 1) (B := wd.heap.size + 1) 0 1 (by simp) (by omega) (by unfold maxLen; omega) (by omega)
            exact h9
          have hse := World.size_alloc wd (.cells #[.float .f64 Y2] 39)
          have hbA := (Below.refl _ wd).alloc (Nat.le_refl _) (.cells #[.float .f64 Y2] 39)
          replace R6 := R6.on hbA
          replace FV6 := FV6.on hbA
          replace DH6 := DH6.on hbA
          clear hbA
          replace bz := bz.alloc bz.size (.cells #[.float .f64 Y2] 39)
          replace hcz := (R6.oa.at' (k := zb) (by rw [hKL]; exact hNb)).1
          rw [HY2.out] at hcz
          generalize wd.alloc (.cells #[.float .f64 Y2] 39) = we at R6 FV6 DH6 bz hcz hsrc hse ⊢
          clear hS; refine hK.out _ _ ⟨R6.tb, hcz⟩ (fun hS => ?_); clear hK K
          try simp only [Act.put, List.setIfInBounds_toArray, List.set_cons_zero, List.set_cons_succ, List.getElem_toArray, List.getElem_cons_zero, List.getElem_cons_succ]
          refine wpAnyL_ready (rs := [11]) (by kernel_rfl) (by simp) ?_
          refine AllReadyL.cons rfl (fun K hK => ?_) AllReadyL.nil
          refine step_appF we rfl _ _ (by rfl) w.heap.size Ad cd d (by rfl) R6.od _ (some ⟨wd.heap.size, 0, none⟩) 1 [(Y2 : Int)] (by rfl) hsrc (by have := HDL.out; simp; omega) R6.bz.size ?_
          intro A7 c7 w7 hO7 hg7 ho7
          have T7 := Blk.grown R6.tb hg7 (own_nb R6.ap.dt)
          have hcz7 := ((R6.oa.grown_ hg7 (fun x e9 => by injection e9 with e9; subst e9; exact own_nb R6.ap.dg)).at' (k := zb) (by rw [hKL]; exact hNb)).1
          rw [HY2.out] at hcz7
          clear hsrc
          clear hS; refine hK.out _ _ ⟨T7, hcz7⟩ (fun hS => ?_); clear hK K
          try simp only [Act.put, List.setIfInBounds_toArray, List.set_cons_zero, List.set_cons_succ, List.getElem_toArray, List.getElem_cons_zero, List.getElem_cons_succ]
          refine wpAnyL_take (i := 12) (v := ?v12_11) rfl (by kernel_rfl) (by kernel_rfl) (by kernel_rfl) (fun _ _ _ h => h) (Or.inl ⟨by rfl, ?hy12_11⟩) (by assumption) ?rest12_11
          case hy12_11 => (intro w9 hSw; clear hSw; go_simp; try with_reducible rfl)
          try simp only [Act.put, List.setIfInBounds_toArray, List.set_cons_zero, List.set_cons_succ, List.getElem_toArray, List.getElem_cons_zero, List.getElem_cons_succ]
          obtain ⟨q0, q1, q2, q3⟩ := Tbx.cells T7
          refine wpAnyL_ready (rs := [13]) (by kernel_rfl) (by simp) ?_
          refine AllReadyL.lat (by rfl) rfl (fun K hK => ?_) AllReadyL.nil
          go_simp
          clear q0 q1 q2 q3
          refine hK.out _ _ trivial (fun _ => ?_)
          clear hK K
          try simp only [Act.put, List.setIfInBounds_toArray, List.set_cons_zero, List.set_cons_succ, List.getElem_toArray, List.getElem_cons_zero, List.getElem_cons_succ]
          refine wpAnyL_done (by kernel_rfl) ?_ _
          have R8 := R6.pushD hO7 hg7 ho7 R6.lts
          have FV8 := fl_far9 (fl_far9 FV6 hg7 (fun x e9 => by injection e9 with e9; subst e9; exact own_ne (hFr gv hgv).2.2.2.1)) (grown_setCell (World.grownBy.refl w7 (some t)) 0 (.slice A7 (d ++ [(Y2 : Int)]).length c7)) (fun x e9 => by injection e9 with e9; subst e9; exact fun e8 => (hFr gv hgv).2.1 _ rfl (by injection e8))
          have DH8 := Blk.grown (Blk.grown DH6 hg7 (own_ne (hFr gh (by omega)).2.2.2.1)) (grown_setCell (World.grownBy.refl w7 (some t)) 0 (.slice A7 (d ++ [(Y2 : Int)]).length c7)) (fun e8 => (hFr gh (by omega)).2.1 _ rfl (by injection e8))
          have hs8 := hg7.size
          clear R6 FV6 DH6 hO7 hg7 ho7 T7 hcz7 hcz bz
          have hle : (d ++ [(Y2 : Int)]).length = d.length + 1 := by simp
          rw [hle] at R8 FV8 DH8
          clear hle
          generalize w7.setCell ⟨t, 0, none⟩ (.slice A7 (d.length + 1) c7) = w8 at R8 FV8 DH8 ⊢
          have hsrc9 : NumF (w8.alloc (.cells #[.float .f64 be] 39)) (w8.heap.size + 1) (some ⟨w8.heap.size, 0, none⟩) 1 [(be : Int)] := by
            have h9 := (RowF.one w8 (be : Int)).nums (c := 1) (B := w8.heap.size + 1) 0 1 (by simp) (by omega) (by unfold maxLen; omega) (by omega)
            exact h9
          have R9 := R8.alloc (.cells #[.float .f64 be] 39)
          have FV9 := FV8.alloc (.cells #[.float .f64 be] 39)
          have DH9 := DH8.alloc (.cells #[.float .f64 be] 39)
          have hs9 := R9.bz.size
          obtain ⟨p0, p1, _, _⟩ := Tbx.cells R8.tb
          have HZ : Hid (tdZ (Ls k) n k = (FloatKind.f64.format.order t1 0 == some .eq)) := Lib.hid (by
            unfold tdZ tdT
            rw [← HMT.out, ← af_zero, eq_is bt (by omega)])
          have HBE : Hid (fa (be : Int) = tdB (Ls k) n k) := Lib.hid (by rw [fa_nat]; exact HMB.out)
          have HV : Hid (Is v (n - 1 - k) (tdV (Ls k) n k)) := Lib.hid (by rw [← HIN.out]; exact HIV.out)
          have HT : Hid (af t1 = tdT (Ls k) n k) := HMT
          have hLn := Lib.hid hL0
          clear HIV HMB HMT hL0
          by_cases cz : (FloatKind.f64.format.order t1 0 == some .eq) = true
          · rw [cz] at HZ
            as_aux_lemma =>
              go_wp2_with (at_builtin; refine wpList_appF _ rfl _ _ rfl w.heap.size Ae ce e rfl R9.oe _ _ _ [(be : Int)] rfl hsrc9 (by have := HEL.out; simp; omega) R9.bz.size ?_; intro A10 c10 w10 hO10 hg10 ho10; have T10 := Blk.grown R9.tb hg10 (own_nb R9.ap.et); obtain ⟨r0, r1, r2, r3⟩ := Tbx.cells T10; have DH10 := Blk.grown (Blk.grown DH9 hg10 (own_ne (hFr gh (by omega)).2.2.2.2.1)) (grown_setCell (World.grownBy.refl w10 (some t)) 1 (.slice A10 (e.length + 1) c10)) (fun e8 => (hFr gh (by omega)).2.1 _ rfl (by injection e8)); obtain ⟨u0, u1, _, _⟩ := Rbx.cells DH10)
              have R11 := R9.pushE hO10 hg10 ho10 R9.lts
              have hle : (e ++ [(be : Int)]).length = e.length + 1 := by simp
              rw [hle] at R11
              have hs10 := hg10.size
              have K2 := K.next (tdF_zero K.now.1 K.now.2 HZ.out) HF2.out HBE.out (r := ⟨some ⟨gv, 0, none⟩, i, v, t1⟩) HV.out HT.out (by omega) (by omega)
              go_roundw
              case rel => exact ⟨k + 1, _, A7, A10, A6, c7, c10, c6, _, _, _, by omega, rfl, by go_num, (by show RS _ _ _ _ _ _ _ _ (if k + 1 = k + 1 then Ls k else Ls (k + 1)) _ _ _ _ _ _ _ _ _; rw [if_pos rfl]; exact R11.re), K2, (by show (if 0 = k + 1 then Ls k else Ls 0) = l; rw [if_neg (by omega)]; exact hLn.out)⟩
              case measure => simp [intOf]; omega
          · replace cz : (FloatKind.f64.format.order t1 0 == some .eq) = false := Bool.eq_false_iff.2 cz
            rw [cz] at HZ
            as_aux_lemma =>
              have hmk := run_makeF n (by omega)
              go_wp2_with (at_builtin; refine wpList_appF _ rfl _ _ rfl w.heap.size Ae ce e rfl R9.oe _ _ _ [(be : Int)] rfl hsrc9 (by have := HEL.out; simp; omega) R9.bz.size ?_; intro A10 c10 w10 hO10 hg10 ho10; have T10 := Blk.grown R9.tb hg10 (own_nb R9.ap.et); obtain ⟨r0, r1, r2, r3⟩ := Tbx.cells T10; have DH10 := Blk.grown (Blk.grown DH9 hg10 (own_ne (hFr gh (by omega)).2.2.2.2.1)) (grown_setCell (World.grownBy.refl w10 (some t)) 1 (.slice A10 (e.length + 1) c10)) (fun e8 => (hFr gh (by omega)).2.1 _ rfl (by injection e8)); obtain ⟨u0, u1, _, _⟩ := Rbx.cells DH10)
              have R11 := R9.pushE hO10 hg10 ho10 R9.lts
              have hle : (e ++ [(be : Int)]).length = e.length + 1 := by simp
              rw [hle] at R11
              have hs10 := hg10.size
              have FV10 := fl_far9 (fl_far9 FV9 hg10 (fun x e9 => by injection e9 with e9; subst e9; exact own_ne (hFr gv hgv).2.2.2.2.1)) (grown_setCell (World.grownBy.refl w10 (some t)) 1 (.slice A10 (e.length + 1) c10)) (fun x e9 => by injection e9 with e9; subst e9; exact fun e8 => (hFr gv hgv).2.1 _ rfl (by injection e8))
              clear T10 r0 r1 r2 r3 u0 u1 hO10 hg10 ho10 R9 FV9 DH9 hsrc9 R8 FV8 DH8 p0 p1
              obtain ⟨gp, hg9⟩ : ∃ x, w10.heap.size = x := ⟨_, rfl⟩
              have hgp : (w10.setCell ⟨t, 1, none⟩ (.slice A10 (e.length + 1) c10)).heap.size = gp := by rw [← hg9]; simp [World.setCell]
              rw [hg9]
              generalize (w10.setCell ⟨t, 1, none⟩ (.slice A10 (e.length + 1) c10)) = wb at R11 FV10 DH10 hgp ⊢
              have RP0 := RowF.new wb (List.replicate n 0)
              have bl0 := (Below.refl wb.heap.size wb).alloc (Nat.le_refl _) (.cells (LF (List.replicate n 0)).toArray 39)
              rw [hgp] at RP0
              obtain ⟨L1, L2, L3⟩ := R11.lts
              have ghg : gh ≠ g := (hFr gh (by omega)).1 _ rfl
              have gvg : gv ≠ g := (hFr gv hgv).1 _ rfl
              have HP0 := Lib.hid (Pv.start n k (tdP (Ls k) n k))
              have af05 : Hid (af 4602678819172646912 = some 4602678819172646912) := Lib.hid (by decide)
              have b05 : (4602678819172646912 : Nat) ≤ 18446744073709551615 := by omega
              have b00 : (0 : Nat) ≤ 18446744073709551615 := by omega
              clear hs10 hg9
              go_loopw [14, 15, 16, 17] (fun v14 v15 v16 v17 wr => ∃ (a : Nat) (P : List Int), a ≤ i ∧ v14 = .int .i64 ((k + 1 + a : Nat) : Int) ∧ Hid (Pv n k a P (tdP (Ls k) n k)) ∧ RowF wr gp P ∧ Below wb.heap.size wb wr) (fun x _ _ _ _ => n - (intOf x).toNat)
              case atStart => exact ⟨0, _, Nat.zero_le _, by go_num, HP0, RP0, bl0⟩
              case round =>
                clear RP0 bl0 HP0
                obtain ⟨a, P, ha, rfl, HPv, RP, bl⟩ := hrel
                obtain ⟨q, hq⟩ : ∃ q, k + 1 + a = q := ⟨_, rfl⟩
                rw [hq]
                have q0 : (0 : Int) ≤ q := by omega
                have hin := HIN.out
                by_cases hat : a < i
                · have q1 : (q : Int) < n := by omega
                  as_aux_lemma =>
                    have HQ := Lib.hid hq
                    clear hq hin
                    have DHa := Blk.on DH10 bl
                    have FVa := FV10.on bl
                    have Ra := R11.on bl
                    obtain ⟨u0, u1, _, _⟩ := Rbx.cells DHa
                    go_wp2_with fail
                    clear u0 u1
                    obtain ⟨wo, hwo⟩ : ∃ x, x = wr := ⟨_, rfl⟩
                    subst hwo
                    have HS0 : Hid (af 0 = sumA (fun j => aop .mul (ma (Ls k) n q (k + 1 + j)) (tdV (Ls k) n k j)) 0) := Lib.hid af_zero
                    go_loopw [15, 16, 17] (fun v15 v16 v17 wr => ∃ (j r : Nat), j ≤ i ∧ v16 = .int .i64 ((k + 1 + j : Nat) : Int) ∧ v15 = .float .f64 r ∧ Hid (af r = sumA (fun j => aop .mul (ma (Ls k) n q (k + 1 + j)) (tdV (Ls k) n k j)) j) ∧ r ≤ 18446744073709551615 ∧ Dr wo wr) (fun _ x _ _ => n - (intOf x).toNat)
                    case atStart => exact ⟨0, 0, Nat.zero_le _, by go_num, rfl, HS0, b00, Dr.refl _⟩
                    case round =>
                      clear HS0
                      obtain ⟨j, r, hj, rfl, rfl, HN2, br, dr⟩ := hrel
                      have hb2 := dr.below wo.heap.size
                      have DHb2 := Blk.on DHa hb2
                      have FVb2 := FVa.on hb2
                      obtain ⟨u0, u1, _, _⟩ := Rbx.cells DHb2
                      obtain ⟨p, hp⟩ : ∃ p, k + 1 + j = p := ⟨_, rfl⟩
                      rw [hp]
                      have p0 : (0 : Int) ≤ p := by omega
                      have hin := HIN.out
                      by_cases hjt : j < i
                      · have p1 : (p : Int) < n := by omega
                        as_aux_lemma =>
                          obtain ⟨p2, hp2⟩ : ∃ z, j + 1 = z := ⟨_, rfl⟩
                          have ep2 : (p : Int) - (k : Int) = (p2 : Int) := by omega
                          have wp2 : IntKind.i64.wrap (p2 : Int) = (p2 : Int) := IntWalk.i64_in _ (by omega)
                          have ep3 : (p2 : Int) - 1 = (j : Int) := by omega
                          have wp3 : IntKind.i64.wrap (j : Int) = (j : Int) := IntWalk.i64_in _ (by omega)
                          have px0 : (0 : Int) ≤ j := by omega
                          have px1 : (j : Int) < i := by omega
                          clear hp2
                          have hqn : q < n := by omega
                          have hpn : p < n := by omega
                          have HPP := Lib.hid hp
                          clear hp hin
                          obtain ⟨adw, hAw, _, hcYV⟩ := FVb2.at_ hjt
                          injection hAw with hAw
                          subst hAw
                          rw [add_at, Nat.zero_add] at hcYV
                          obtain ⟨x0, x1⟩ := HV.out.wd.at_ j
                          have HYV : Hid (af (D v j).toNat = tdV (Ls k) n k j) := Lib.hid (HV.out.at_ j (by have := HIN.out; omega))
                          obtain ⟨YV, hYV⟩ : ∃ Y, (D v j).toNat = Y := ⟨_, rfl⟩
                          rw [hYV] at HYV hcYV
                          have bV : YV ≤ 18446744073709551615 := by omega
                          clear hYV x0 x1
                          obtain ⟨yc, hyc⟩ : ∃ y, q * n = y := ⟨_, rfl⟩
                          obtain ⟨zc, hzc⟩ : ∃ z, yc + p = z := ⟨_, rfl⟩
                          have hNc : zc < N := by rw [← hzc, ← hyc, HN.out]; exact ix_lt (by omega) (by omega)
                          have HZc : Hid (q * n + p = zc) := Lib.hid (by rw [← hzc, ← hyc])
                          have eyc : (q : Int) * (n : Int) = (yc : Int) := by exact_mod_cast hyc
                          have ezc : (yc : Int) + (p : Int) = (zc : Int) := by omega
                          have wyc : IntKind.i64.wrap (yc : Int) = (yc : Int) := IntWalk.i64_in _ (by omega)
                          have wzc : IntKind.i64.wrap (zc : Int) = (zc : Int) := IntWalk.i64_in _ (by omega)
                          have z0c : (0 : Int) ≤ zc := by omega
                          have z1c : (zc : Int) < N := by omega
                          clear hyc hzc
                          have hLc := ((Ra.on hb2).oa.at' (k := zc) (by rw [hKL]; exact hNc)).1
                          obtain ⟨x0, x1⟩ := hKW.out.at_ zc
                          have HYA : Hid (af (D (Ls k) zc).toNat = ma (Ls k) n q (k + 1 + j)) := Lib.hid (by unfold ma; rw [HPP.out, HZc.out]; rfl)
                          obtain ⟨YA, hYA⟩ : ∃ Y, (D (Ls k) zc).toNat = Y := ⟨_, rfl⟩
                          rw [hYA] at HYA hLc
                          have bA : YA ≤ 18446744073709551615 := by omega
                          clear hYA x0 x1
                          have hcap2 := Ra.oa.ge
                          rw [hKL] at hcap2
                          go_wp2_with fail
                          clear u0 u1
                          have DHc := DHb2.drew
                          replace hLc : wr.drew.cell? ⟨g, zc, none⟩ = some (.float .f64 YA) := hLc
                          replace hcYV : wr.drew.cell? ⟨gv, j, none⟩ = some (.float .f64 YV) := hcYV
                          replace dr : Dr wo wr.drew := dr.trans ⟨1, rfl⟩
                          have bz : Below wr.drew.heap.size wr.drew wr.drew := Below.refl _ _
                          refine wp_region_held_drew (S := fun w9 : World => Rbx w9 gh (some ⟨gv, 0, none⟩) i i t1 ∧ w9.cell? ⟨g, zc, none⟩ = some (.float .f64 YA) ∧ w9.cell? ⟨gv, j, none⟩ = some (.float .f64 YV)) (by kernel_rfl) ⟨DHc, hLc, hcYV⟩ (fun hS => ?_)
                          generalize wr.drew = wl at hS DHc dr hLc hcYV bz ⊢
                          refine wpAnyH_take (i := 0) (v := ?v0_12) rfl (by kernel_rfl) (by kernel_rfl) (by kernel_rfl) (fun _ _ _ h => h) (Or.inl ⟨by rfl, ?hy0_12⟩) (by assumption) ?rest0_12
                          case hy0_12 => (intro w9 hSw; clear hSw; go_simp; try with_reducible rfl)
                          try simp only [Act.put, List.setIfInBounds_toArray, List.set_cons_zero, List.set_cons_succ, List.getElem_toArray, List.getElem_cons_zero, List.getElem_cons_succ]
                          refine wpAnyH_take (i := 1) (v := ?v1_13) rfl (by kernel_rfl) (by kernel_rfl) (by kernel_rfl) (fun _ _ _ h => h) (Or.inl ⟨by rfl, ?hy1_13⟩) (by assumption) ?rest1_13
                          case hy1_13 => (intro w9 hSw; clear hSw; go_simp; try with_reducible rfl)
                          try simp only [Act.put, List.setIfInBounds_toArray, List.set_cons_zero, List.set_cons_succ, List.getElem_toArray, List.getElem_cons_zero, List.getElem_cons_succ]
                          refine wpAnyH_take (i := 2) (v := ?v2_14) rfl (by kernel_rfl) (by kernel_rfl) (by kernel_rfl) (fun _ _ _ h => h) (Or.inl ⟨by rfl, ?hy2_14⟩) (by assumption) ?rest2_14
                          case hy2_14 => (intro w9 hSw; clear hSw; go_simp; try with_reducible rfl)
                          try simp only [Act.put, List.setIfInBounds_toArray, List.set_cons_zero, List.set_cons_succ, List.getElem_toArray, List.getElem_cons_zero, List.getElem_cons_succ]
                          refine wpAnyH_take (i := 3) (v := ?v3_15) rfl (by kernel_rfl) (by kernel_rfl) (by kernel_rfl) (fun _ _ _ h => h) (Or.inl ⟨by rfl, ?hy3_15⟩) (by assumption) ?rest3_15
                          case hy3_15 => (intro w9 hSw; clear hSw; go_simp; try with_reducible rfl)
                          try simp only [Act.put, List.setIfInBounds_toArray, List.set_cons_zero, List.set_cons_succ, List.getElem_toArray, List.getElem_cons_zero, List.getElem_cons_succ]
                          refine wpAnyH_take (i := 4) (v := ?v4_16) rfl (by kernel_rfl) (by kernel_rfl) (by kernel_rfl) (fun _ _ _ h => h) (Or.inl ⟨by rfl, ?hy4_16⟩) (by assumption) ?rest4_16
                          case hy4_16 => (intro w9 hSw; clear hSw; go_simp; try with_reducible rfl)
                          try simp only [Act.put, List.setIfInBounds_toArray, List.set_cons_zero, List.set_cons_succ, List.getElem_toArray, List.getElem_cons_zero, List.getElem_cons_succ]
                          refine wpAnyH_take (i := 5) (v := ?v5_17) rfl (by kernel_rfl) (by kernel_rfl) (by kernel_rfl) (fun _ _ _ h => h) (Or.inl ⟨by rfl, ?hy5_17⟩) (by assumption) ?rest5_17
                          case hy5_17 => (intro w9 hSw; clear hSw; go_simp; try with_reducible rfl)
                          try simp only [Act.put, List.setIfInBounds_toArray, List.set_cons_zero, List.set_cons_succ, List.getElem_toArray, List.getElem_cons_zero, List.getElem_cons_succ]
                          refine wpAnyH_take (i := 6) (v := ?v6_18) rfl (by kernel_rfl) (by kernel_rfl) (by kernel_rfl) (fun _ _ _ h => h) (Or.inl ⟨by rfl, ?hy6_18⟩) (by assumption) ?rest6_18
                          case hy6_18 => (intro w9 hSw; clear hSw; go_simp; try with_reducible rfl)
                          try simp only [Act.put, List.setIfInBounds_toArray, List.set_cons_zero, List.set_cons_succ, List.getElem_toArray, List.getElem_cons_zero, List.getElem_cons_succ]
                          refine wpAnyH_take (i := 7) (v := ?v7_19) rfl (by kernel_rfl) (by kernel_rfl) (by kernel_rfl) (fun _ _ _ h => h) (Or.inl ⟨by rfl, ?hy7_19⟩) (by assumption) ?rest7_19
                          case hy7_19 => (intro w9 hSw; obtain ⟨ma1, ma2, ma3⟩ := hSw; obtain ⟨u0, u1, _, _⟩ := Rbx.cells ma1; go_simp; try with_reducible rfl)
                          try simp only [Act.put, List.setIfInBounds_toArray, List.set_cons_zero, List.set_cons_succ, List.getElem_toArray, List.getElem_cons_zero, List.getElem_cons_succ]
                          refine wpAnyH_take (i := 8) (v := ?v8_20) rfl (by kernel_rfl) (by kernel_rfl) (by kernel_rfl) (fun _ _ _ h => h) (Or.inl ⟨by rfl, ?hy8_20⟩) (by assumption) ?rest8_20
                          case hy8_20 => (intro w9 hSw; clear hSw; go_simp; try with_reducible rfl)
                          try simp only [Act.put, List.setIfInBounds_toArray, List.set_cons_zero, List.set_cons_succ, List.getElem_toArray, List.getElem_cons_zero, List.getElem_cons_succ]
                          refine wpAnyH_take (i := 9) (v := ?v9_21) rfl (by kernel_rfl) (by kernel_rfl) (by kernel_rfl) (fun _ _ _ h => h) (Or.inl ⟨by rfl, ?hy9_21⟩) (by assumption) ?rest9_21
                          case hy9_21 => (intro w9 hSw; obtain ⟨ma1, ma2, ma3⟩ := hSw; obtain ⟨u0, u1, _, _⟩ := Rbx.cells ma1; go_simp; try with_reducible rfl)
                          try simp only [Act.put, List.setIfInBounds_toArray, List.set_cons_zero, List.set_cons_succ, List.getElem_toArray, List.getElem_cons_zero, List.getElem_cons_succ]
                          refine wpAnyH_take (i := 10) (v := ?v10_22) rfl (by kernel_rfl) (by kernel_rfl) (by kernel_rfl) (fun _ _ _ h => h) (Or.inl ⟨by rfl, ?hy10_22⟩) (by assumption) ?rest10_22
                          case hy10_22 => (intro w9 hSw; clear hSw; go_simp; try with_reducible rfl)
                          try simp only [Act.put, List.setIfInBounds_toArray, List.set_cons_zero, List.set_cons_succ, List.getElem_toArray, List.getElem_cons_zero, List.getElem_cons_succ]
                          refine wpAnyH_take (i := 11) (v := ?v11_23) rfl (by kernel_rfl) (by kernel_rfl) (by kernel_rfl) (fun _ _ _ h => h) (Or.inl ⟨by rfl, ?hy11_23⟩) (by assumption) ?rest11_23
                          case hy11_23 => (intro w9 hSw; clear hSw; go_simp; try with_reducible rfl)
                          try simp only [Act.put, List.setIfInBounds_toArray, List.set_cons_zero, List.set_cons_succ, List.getElem_toArray, List.getElem_cons_zero, List.getElem_cons_succ]
                          refine wpAnyH_take (i := 12) (v := ?v12_24) rfl (by kernel_rfl) (by kernel_rfl) (by kernel_rfl) (fun _ _ _ h => h) (Or.inl ⟨by rfl, ?hy12_24⟩) (by assumption) ?rest12_24
                          case hy12_24 => (intro w9 hSw; clear hSw; go_simp; try with_reducible rfl)
                          try simp only [Act.put, List.setIfInBounds_toArray, List.set_cons_zero, List.set_cons_succ, List.getElem_toArray, List.getElem_cons_zero, List.getElem_cons_succ]
                          refine wpAnyH_take (i := 13) (v := ?v13_25) rfl (by kernel_rfl) (by kernel_rfl) (by kernel_rfl) (fun _ _ _ h => h) (Or.inl ⟨by rfl, ?hy13_25⟩) (by assumption) ?rest13_25
                          case hy13_25 => (intro w9 hSw; clear hSw; go_simp; try with_reducible rfl)
                          try simp only [Act.put, List.setIfInBounds_toArray, List.set_cons_zero, List.set_cons_succ, List.getElem_toArray, List.getElem_cons_zero, List.getElem_cons_succ]
                          refine wpAnyH_take (i := 14) (v := ?v14_26) rfl (by kernel_rfl) (by kernel_rfl) (by kernel_rfl) (fun _ _ _ h => h) (Or.inl ⟨by rfl, ?hy14_26⟩) (by assumption) ?rest14_26
                          case hy14_26 => (intro w9 hSw; clear hSw; go_simp; try with_reducible rfl)
                          try simp only [Act.put, List.setIfInBounds_toArray, List.set_cons_zero, List.set_cons_succ, List.getElem_toArray, List.getElem_cons_zero, List.getElem_cons_succ]
                          refine wpAnyH_take (i := 15) (v := ?v15_27) rfl (by kernel_rfl) (by kernel_rfl) (by kernel_rfl) (fun _ _ _ h => h) (Or.inl ⟨by rfl, ?hy15_27⟩) (by assumption) ?rest15_27
                          case hy15_27 => (intro w9 hSw; obtain ⟨ma1, ma2, ma3⟩ := hSw; obtain ⟨u0, u1, _, _⟩ := Rbx.cells ma1; go_simp; try with_reducible rfl)
                          try simp only [Act.put, List.setIfInBounds_toArray, List.set_cons_zero, List.set_cons_succ, List.getElem_toArray, List.getElem_cons_zero, List.getElem_cons_succ]
                          refine wpAnyH_ready (rs := [16]) (by kernel_rfl) (by simp) ?_
                          refine AllReadyH.cons rfl (fun K hK => ?_) AllReadyH.nil
                          refine step_arith .mul (.inr (.inr (.inl rfl))) rfl _ _ _ _ YA YV rfl rfl rfl bA bV ?_
                          intro r1 w11 hb9 hq1 b1 dq
                          have H1 := Lib.hid hq1
                          clear hq1 hb9
                          replace dr := dr.trans dq
                          have hS1 := hS
                          obtain ⟨t9, ht9⟩ := dq
                          subst ht9
                          clear hS; refine hK.out _ _ hS1 (fun hS => ?_); clear hK K
                          try simp only [Act.put, List.setIfInBounds_toArray, List.set_cons_zero, List.set_cons_succ, List.getElem_toArray, List.getElem_cons_zero, List.getElem_cons_succ]
                          refine wpAnyH_take (i := 17) (v := ?v17_28) rfl (by kernel_rfl) (by kernel_rfl) (by kernel_rfl) (fun _ _ _ h => h) (Or.inl ⟨by rfl, ?hy17_28⟩) (by assumption) ?rest17_28
                          case hy17_28 => (intro w9 hSw; clear hSw; go_simp; try with_reducible rfl)
                          try simp only [Act.put, List.setIfInBounds_toArray, List.set_cons_zero, List.set_cons_succ, List.getElem_toArray, List.getElem_cons_zero, List.getElem_cons_succ]
                          refine wpAnyH_done (by kernel_rfl) ?_ _
                          obtain ⟨r2, w12, e2, d2, h22, b22⟩ := run_add (P := Try.prog) 39 (x := r) (y := r1) br b1 (wl.drewN t9)
                          have HK : Hid (af r2 = sumA (fun j => aop .mul (ma (Ls k) n q (k + 1 + j)) (tdV (Ls k) n k j)) (j + 1)) := Lib.hid (by rw [h22, HN2.out, H1.out, HYA.out, HYV.out]; rfl)
                          clear h22 H1 HN2
                          go_wp2_with fail
                          go_roundw
                          case rel => first | exact ⟨j + 1, r2, by omega, by have := HPP.out; go_num, rfl, HK, b22, dr.trans d2⟩ | exact ⟨j + 1, by omega, by have := HPP.out; go_num, HK, dr.trans d2⟩
                          case measure => simp [intOf] <;> (have := HPP.out; omega)
                      · obtain rfl : i = j := by omega
                        as_aux_lemma =>
                          have p1 : ¬ (p : Int) < n := by omega
                          clear hp hin hjt hj p0
                          obtain ⟨r3, w3, e3, d3, h3, b3⟩ := run_mul (P := Try.prog) 39 (x := t1) (y := r) bt br wr
                          have HW3 : Hid (fa (r3 : Int) = tdP (Ls k) n k a) := Lib.hid (by rw [fa_nat, h3, HT.out, HN2.out, ← HQ.out, HIN.out]; rfl)
                          clear h3 HN2
                          have hb3 := d3.below wr.heap.size
                          have RP3 := (RP.on hb2).on hb3
                          obtain ⟨hp4, hp5⟩ := RP3.at_ (k := q) (by rw [HPv.out.len]; omega)
                          have bl3 := ((bl.trans (hb2.mono bl.size)).trans (hb3.mono (Nat.le_trans bl.size hb2.size))).setCell (p := ⟨gp, q, none⟩) (by show wb.heap.size ≤ gp; omega) (.float .f64 r3)
                          have RP4 : RowF (w3.setCell ⟨gp, q, none⟩ (.float .f64 r3)) gp (P.set q (r3 : Int)) := RP3.set_ q (r3 : Int)
                          have HPn := Lib.hid (HPv.out.set HQ.out (by omega) (by omega) (by omega) HW3.out)
                          clear hb3 d3 RP3 dr hb2 bl RP HPv
                          go_wp2_with fail
                          clear e3 hp4 hp5 u0 u1
                          go_roundw
                          case rel => exact ⟨a + 1, _, by omega, by have := HQ.out; go_num, HPn, RP4, bl3⟩
                          case measure => simp [intOf] <;> (have := HQ.out; omega)
                · obtain rfl : i = a := by omega
                  as_aux_lemma =>
                    have q1 : ¬ (q : Int) < n := by omega
                    clear hq hin hat ha q0
                    have DHa := Blk.on DH10 bl
                    have FVa := FV10.on bl
                    go_wp2_with fail
                    clear q1
                    obtain ⟨wo, hwo⟩ : ∃ x, x = wr := ⟨_, rfl⟩
                    subst hwo
                    have HS0 : Hid (af 0 = sumA (fun j => aop .mul (tdP (Ls k) n k j) (tdV (Ls k) n k j)) 0) := Lib.hid af_zero
                    go_loopw [18, 19, 20] (fun v18 v19 v20 wr => ∃ (j r : Nat), j ≤ i ∧ v19 = .int .i64 ((k + 1 + j : Nat) : Int) ∧ v18 = .float .f64 r ∧ Hid (af r = sumA (fun j => aop .mul (tdP (Ls k) n k j) (tdV (Ls k) n k j)) j) ∧ r ≤ 18446744073709551615 ∧ Dr wo wr) (fun _ x _ _ => n - (intOf x).toNat)
                    case atStart => exact ⟨0, 0, Nat.zero_le _, by go_num, rfl, HS0, b00, Dr.refl _⟩
                    case round =>
                      clear HS0
                      obtain ⟨j, r, hj, rfl, rfl, HN2, br, dr⟩ := hrel
                      have hb2 := dr.below wo.heap.size
                      have DHb2 := Blk.on DHa hb2
                      have FVb2 := FVa.on hb2
                      obtain ⟨u0, u1, _, _⟩ := Rbx.cells DHb2
                      obtain ⟨p, hp⟩ : ∃ p, k + 1 + j = p := ⟨_, rfl⟩
                      rw [hp]
                      have p0 : (0 : Int) ≤ p := by omega
                      have hin := HIN.out
                      by_cases hjt : j < i
                      · have p1 : (p : Int) < n := by omega
                        as_aux_lemma =>
                          obtain ⟨p2, hp2⟩ : ∃ z, j + 1 = z := ⟨_, rfl⟩
                          have ep2 : (p : Int) - (k : Int) = (p2 : Int) := by omega
                          have wp2 : IntKind.i64.wrap (p2 : Int) = (p2 : Int) := IntWalk.i64_in _ (by omega)
                          have ep3 : (p2 : Int) - 1 = (j : Int) := by omega
                          have wp3 : IntKind.i64.wrap (j : Int) = (j : Int) := IntWalk.i64_in _ (by omega)
                          have px0 : (0 : Int) ≤ j := by omega
                          have px1 : (j : Int) < i := by omega
                          clear hp2
                          have hpn : p < n := by omega
                          have HPP := Lib.hid hp
                          clear hp hin
                          obtain ⟨adw, hAw, _, hcYV⟩ := FVb2.at_ hjt
                          injection hAw with hAw
                          subst hAw
                          rw [add_at, Nat.zero_add] at hcYV
                          obtain ⟨x0, x1⟩ := HV.out.wd.at_ j
                          have HYV : Hid (af (D v j).toNat = tdV (Ls k) n k j) := Lib.hid (HV.out.at_ j (by have := HIN.out; omega))
                          obtain ⟨YV, hYV⟩ : ∃ Y, (D v j).toNat = Y := ⟨_, rfl⟩
                          rw [hYV] at HYV hcYV
                          have bV : YV ≤ 18446744073709551615 := by omega
                          clear hYV x0 x1
                          obtain ⟨hLc, _⟩ := (RP.on hb2).at_ (k := p) (by rw [HPv.out.len]; omega)
                          obtain ⟨x0, x1⟩ := HPv.out.wd.at_ p
                          have HYA : Hid (af (D P p).toNat = tdP (Ls k) n k j) := Lib.hid (by have h9 := HPv.out.at_ j hjt; rw [HPP.out] at h9; exact h9)
                          obtain ⟨YA, hYA⟩ : ∃ Y, (D P p).toNat = Y := ⟨_, rfl⟩
                          rw [hYA] at HYA hLc
                          have bA : YA ≤ 18446744073709551615 := by omega
                          clear hYA x0 x1
                          go_wp2_with fail
                          clear u0 u1
                          have DHc := DHb2.drew
                          replace hLc : wr.drew.cell? ⟨gp, p, none⟩ = some (.float .f64 YA) := hLc
                          replace hcYV : wr.drew.cell? ⟨gv, j, none⟩ = some (.float .f64 YV) := hcYV
                          replace dr : Dr wo wr.drew := dr.trans ⟨1, rfl⟩
                          have bz : Below wr.drew.heap.size wr.drew wr.drew := Below.refl _ _
                          refine wp_region_held_drew (S := fun w9 : World => Rbx w9 gh (some ⟨gv, 0, none⟩) i i t1 ∧ w9.cell? ⟨gp, p, none⟩ = some (.float .f64 YA) ∧ w9.cell? ⟨gv, j, none⟩ = some (.float .f64 YV)) (by kernel_rfl) ⟨DHc, hLc, hcYV⟩ (fun hS => ?_)
                          generalize wr.drew = wl at hS DHc dr hLc hcYV bz ⊢
                          refine wpAnyH_take (i := 0) (v := ?v0_29) rfl (by kernel_rfl) (by kernel_rfl) (by kernel_rfl) (fun _ _ _ h => h) (Or.inl ⟨by rfl, ?hy0_29⟩) (by assumption) ?rest0_29
                          case hy0_29 => (intro w9 hSw; clear hSw; go_simp; try with_reducible rfl)
                          try simp only [Act.put, List.setIfInBounds_toArray, List.set_cons_zero, List.set_cons_succ, List.getElem_toArray, List.getElem_cons_zero, List.getElem_cons_succ]
                          refine wpAnyH_take (i := 1) (v := ?v1_30) rfl (by kernel_rfl) (by kernel_rfl) (by kernel_rfl) (fun _ _ _ h => h) (Or.inl ⟨by rfl, ?hy1_30⟩) (by assumption) ?rest1_30
                          case hy1_30 => (intro w9 hSw; clear hSw; go_simp; try with_reducible rfl)
                          try simp only [Act.put, List.setIfInBounds_toArray, List.set_cons_zero, List.set_cons_succ, List.getElem_toArray, List.getElem_cons_zero, List.getElem_cons_succ]
                          refine wpAnyH_take (i := 2) (v := ?v2_31) rfl (by kernel_rfl) (by kernel_rfl) (by kernel_rfl) (fun _ _ _ h => h) (Or.inl ⟨by rfl, ?hy2_31⟩) (by assumption) ?rest2_31
                          case hy2_31 => (intro w9 hSw; clear hSw; go_simp; try with_reducible rfl)
                          try simp only [Act.put, List.setIfInBounds_toArray, List.set_cons_zero, List.set_cons_succ, List.getElem_toArray, List.getElem_cons_zero, List.getElem_cons_succ]
                          refine wpAnyH_take (i := 3) (v := ?v3_32) rfl (by kernel_rfl) (by kernel_rfl) (by kernel_rfl) (fun _ _ _ h => h) (Or.inl ⟨by rfl, ?hy3_32⟩) (by assumption) ?rest3_32
                          case hy3_32 => (intro w9 hSw; obtain ⟨ma1, ma2, ma3⟩ := hSw; obtain ⟨u0, u1, _, _⟩ := Rbx.cells ma1; go_simp; try with_reducible rfl)
                          try simp only [Act.put, List.setIfInBounds_toArray, List.set_cons_zero, List.set_cons_succ, List.getElem_toArray, List.getElem_cons_zero, List.getElem_cons_succ]
                          refine wpAnyH_take (i := 4) (v := ?v4_33) rfl (by kernel_rfl) (by kernel_rfl) (by kernel_rfl) (fun _ _ _ h => h) (Or.inl ⟨by rfl, ?hy4_33⟩) (by assumption) ?rest4_33
                          case hy4_33 => (intro w9 hSw; clear hSw; go_simp; try with_reducible rfl)
                          try simp only [Act.put, List.setIfInBounds_toArray, List.set_cons_zero, List.set_cons_succ, List.getElem_toArray, List.getElem_cons_zero, List.getElem_cons_succ]
                          refine wpAnyH_take (i := 5) (v := ?v5_34) rfl (by kernel_rfl) (by kernel_rfl) (by kernel_rfl) (fun _ _ _ h => h) (Or.inl ⟨by rfl, ?hy5_34⟩) (by assumption) ?rest5_34
                          case hy5_34 => (intro w9 hSw; obtain ⟨ma1, ma2, ma3⟩ := hSw; obtain ⟨u0, u1, _, _⟩ := Rbx.cells ma1; go_simp; try with_reducible rfl)
                          try simp only [Act.put, List.setIfInBounds_toArray, List.set_cons_zero, List.set_cons_succ, List.getElem_toArray, List.getElem_cons_zero, List.getElem_cons_succ]
                          refine wpAnyH_take (i := 6) (v := ?v6_35) rfl (by kernel_rfl) (by kernel_rfl) (by kernel_rfl) (fun _ _ _ h => h) (Or.inl ⟨by rfl, ?hy6_35⟩) (by assumption) ?rest6_35
                          case hy6_35 => (intro w9 hSw; clear hSw; go_simp; try with_reducible rfl)
                          try simp only [Act.put, List.setIfInBounds_toArray, List.set_cons_zero, List.set_cons_succ, List.getElem_toArray, List.getElem_cons_zero, List.getElem_cons_succ]
                          refine wpAnyH_take (i := 7) (v := ?v7_36) rfl (by kernel_rfl) (by kernel_rfl) (by kernel_rfl) (fun _ _ _ h => h) (Or.inl ⟨by rfl, ?hy7_36⟩) (by assumption) ?rest7_36
                          case hy7_36 => (intro w9 hSw; clear hSw; go_simp; try with_reducible rfl)
                          try simp only [Act.put, List.setIfInBounds_toArray, List.set_cons_zero, List.set_cons_succ, List.getElem_toArray, List.getElem_cons_zero, List.getElem_cons_succ]
                          refine wpAnyH_take (i := 8) (v := ?v8_37) rfl (by kernel_rfl) (by kernel_rfl) (by kernel_rfl) (fun _ _ _ h => h) (Or.inl ⟨by rfl, ?hy8_37⟩) (by assumption) ?rest8_37
                          case hy8_37 => (intro w9 hSw; clear hSw; go_simp; try with_reducible rfl)
                          try simp only [Act.put, List.setIfInBounds_toArray, List.set_cons_zero, List.set_cons_succ, List.getElem_toArray, List.getElem_cons_zero, List.getElem_cons_succ]
                          refine wpAnyH_take (i := 9) (v := ?v9_38) rfl (by kernel_rfl) (by kernel_rfl) (by kernel_rfl) (fun _ _ _ h => h) (Or.inl ⟨by rfl, ?hy9_38⟩) (by assumption) ?rest9_38
                          case hy9_38 => (intro w9 hSw; clear hSw; go_simp; try with_reducible rfl)
                          try simp only [Act.put, List.setIfInBounds_toArray, List.set_cons_zero, List.set_cons_succ, List.getElem_toArray, List.getElem_cons_zero, List.getElem_cons_succ]
                          refine wpAnyH_take (i := 10) (v := ?v10_39) rfl (by kernel_rfl) (by kernel_rfl) (by kernel_rfl) (fun _ _ _ h => h) (Or.inl ⟨by rfl, ?hy10_39⟩) (by assumption) ?rest10_39
                          case hy10_39 => (intro w9 hSw; clear hSw; go_simp; try with_reducible rfl)
                          try simp only [Act.put, List.setIfInBounds_toArray, List.set_cons_zero, List.set_cons_succ, List.getElem_toArray, List.getElem_cons_zero, List.getElem_cons_succ]
                          refine wpAnyH_take (i := 11) (v := ?v11_40) rfl (by kernel_rfl) (by kernel_rfl) (by kernel_rfl) (fun _ _ _ h => h) (Or.inl ⟨by rfl, ?hy11_40⟩) (by assumption) ?rest11_40
                          case hy11_40 => (intro w9 hSw; obtain ⟨ma1, ma2, ma3⟩ := hSw; obtain ⟨u0, u1, _, _⟩ := Rbx.cells ma1; go_simp; try with_reducible rfl)
                          try simp only [Act.put, List.setIfInBounds_toArray, List.set_cons_zero, List.set_cons_succ, List.getElem_toArray, List.getElem_cons_zero, List.getElem_cons_succ]
                          refine wpAnyH_ready (rs := [12]) (by kernel_rfl) (by simp) ?_
                          refine AllReadyH.cons rfl (fun K hK => ?_) AllReadyH.nil
                          refine step_arith .mul (.inr (.inr (.inl rfl))) rfl _ _ _ _ YA YV rfl rfl rfl bA bV ?_
                          intro r1 w11 hb9 hq1 b1 dq
                          have H1 := Lib.hid hq1
                          clear hq1 hb9
                          replace dr := dr.trans dq
                          have hS1 := hS
                          obtain ⟨t9, ht9⟩ := dq
                          subst ht9
                          clear hS; refine hK.out _ _ hS1 (fun hS => ?_); clear hK K
                          try simp only [Act.put, List.setIfInBounds_toArray, List.set_cons_zero, List.set_cons_succ, List.getElem_toArray, List.getElem_cons_zero, List.getElem_cons_succ]
                          refine wpAnyH_take (i := 13) (v := ?v13_41) rfl (by kernel_rfl) (by kernel_rfl) (by kernel_rfl) (fun _ _ _ h => h) (Or.inl ⟨by rfl, ?hy13_41⟩) (by assumption) ?rest13_41
                          case hy13_41 => (intro w9 hSw; clear hSw; go_simp; try with_reducible rfl)
                          try simp only [Act.put, List.setIfInBounds_toArray, List.set_cons_zero, List.set_cons_succ, List.getElem_toArray, List.getElem_cons_zero, List.getElem_cons_succ]
                          refine wpAnyH_done (by kernel_rfl) ?_ _
                          obtain ⟨r2, w12, e2, d2, h22, b22⟩ := run_add (P := Try.prog) 39 (x := r) (y := r1) br b1 (wl.drewN t9)
                          have HK : Hid (af r2 = sumA (fun j => aop .mul (tdP (Ls k) n k j) (tdV (Ls k) n k j)) (j + 1)) := Lib.hid (by rw [h22, HN2.out, H1.out, HYA.out, HYV.out]; rfl)
                          clear h22 H1 HN2
                          go_wp2_with fail
                          go_roundw
                          case rel => first | exact ⟨j + 1, r2, by omega, by have := HPP.out; go_num, rfl, HK, b22, dr.trans d2⟩ | exact ⟨j + 1, by omega, by have := HPP.out; go_num, HK, dr.trans d2⟩
                          case measure => simp [intOf] <;> (have := HPP.out; omega)
                      · obtain rfl : i = j := by omega
                        as_aux_lemma =>
                          have p1 : ¬ (p : Int) < n := by omega
                          clear hp hin hjt hj p0
                          have HS : Hid (af r = tdS (Ls k) n k) := Lib.hid (by rw [HN2.out, HIN.out]; rfl)
                          obtain ⟨c1, w31, e31, d31, h31, b31⟩ := run_mul (P := Try.prog) 39 (x := 4602678819172646912) (y := t1) b05 bt wr
                          obtain ⟨c2, w32, e32, d32, h32, b32⟩ := run_mul (P := Try.prog) 39 (x := c1) (y := r) b31 br w31
                          obtain ⟨c3, hc3, hC3, b33⟩ := run_neg (P := Try.prog) b32
                          have e33 := hc3 w32
                          have HC : Hid (af c3 = tdC (Ls k) n k) := Lib.hid (by rw [hC3, h32, h31, af05.out, HT.out, HS.out]; rfl)
                          clear hC3 h32 h31 HS HN2 hc3
                          have hmk2 := hmk
                          have d33 := d31.trans d32
                          have hb3 := d33.below wr.heap.size
                          have bl2 := (bl.trans (hb2.mono bl.size)).trans (hb3.mono (Nat.le_trans bl.size hb2.size))
                          have RP2 := (RP.on hb2).on hb3
                          go_wp2_with fail
                          clear e31 e32 e33 u0 u1 hmk2 hb2 hb3 d31 d32 d33 dr bl RP DHb2 FVb2 DHa FVa
                          obtain ⟨gw, hgw⟩ : ∃ x, w32.heap.size = x := ⟨_, rfl⟩
                          have RW0 := RowF.new w32 (List.replicate n 0)
                          have bl3 := bl2.alloc bl2.size (.cells (LF (List.replicate n 0)).toArray 39)
                          have RP3 := RP2.alloc (.cells (LF (List.replicate n 0)).toArray 39)
                          have hpw := RP2.lt
                          have hpw2 : gp ≠ gw := by omega
                          rw [hgw] at RW0 hpw ⊢
                          have HW0 := Lib.hid (Pv.start n k (tdW (Ls k) n k))
                          clear RP2 bl2 hgw
                          go_loopw [23, 24] (fun v23 v24 wr => ∃ (a : Nat) (Wl : List Int), a ≤ i ∧ v23 = .int .i64 ((k + 1 + a : Nat) : Int) ∧ Hid (Pv n k a Wl (tdW (Ls k) n k)) ∧ RowF wr gw Wl ∧ RowF wr gp P ∧ Below wb.heap.size wb wr) (fun x _ _ => n - (intOf x).toNat)
                          case atStart => exact ⟨0, _, Nat.zero_le _, by go_num, HW0, RW0, RP3, bl3⟩
                          case round =>
                            clear RW0 RP3 bl3 HW0
                            obtain ⟨a, Wl, ha, rfl, HWv, RW, RP, bl⟩ := hrel
                            obtain ⟨q, hq⟩ : ∃ q, k + 1 + a = q := ⟨_, rfl⟩
                            rw [hq]
                            have q0 : (0 : Int) ≤ q := by omega
                            have hin := HIN.out
                            by_cases hat : a < i
                            · have q1 : (q : Int) < n := by omega
                              as_aux_lemma =>
                                obtain ⟨q2, hq2⟩ : ∃ z, a + 1 = z := ⟨_, rfl⟩
                                have eq2 : (q : Int) - (k : Int) = (q2 : Int) := by omega
                                have wq2 : IntKind.i64.wrap (q2 : Int) = (q2 : Int) := IntWalk.i64_in _ (by omega)
                                have eq3 : (q2 : Int) - 1 = (a : Int) := by omega
                                have wq3 : IntKind.i64.wrap (a : Int) = (a : Int) := IntWalk.i64_in _ (by omega)
                                have qx0 : (0 : Int) ≤ a := by omega
                                have qx1 : (a : Int) < i := by omega
                                clear hq2
                                have HQ := Lib.hid hq
                                clear hq hin
                                have DHa := Blk.on DH10 bl
                                have FVa := FV10.on bl
                                obtain ⟨u0, u1, _, _⟩ := Rbx.cells DHa
                                obtain ⟨adw, hAw, _, hcYV⟩ := FVa.at_ hat
                                injection hAw with hAw
                                subst hAw
                                rw [add_at, Nat.zero_add] at hcYV
                                obtain ⟨x0, x1⟩ := HV.out.wd.at_ a
                                have HYV : Hid (af (D v a).toNat = tdV (Ls k) n k a) := Lib.hid (HV.out.at_ a (by have := HIN.out; omega))
                                obtain ⟨YV, hYV⟩ : ∃ Y, (D v a).toNat = Y := ⟨_, rfl⟩
                                rw [hYV] at HYV hcYV
                                have bV : YV ≤ 18446744073709551615 := by omega
                                clear hYV x0 x1
                                obtain ⟨hpc, _⟩ := RP.at_ (k := q) (by rw [HPv.out.len]; omega)
                                obtain ⟨x0, x1⟩ := HPv.out.wd.at_ q
                                have HYP : Hid (af (D P q).toNat = tdP (Ls k) n k a) := Lib.hid (by have h9 := HPv.out.at_ a hat; rw [HQ.out] at h9; exact h9)
                                obtain ⟨YP, hYP⟩ : ∃ Y, (D P q).toNat = Y := ⟨_, rfl⟩
                                rw [hYP] at HYP hpc
                                have bP : YP ≤ 18446744073709551615 := by omega
                                clear hYP x0 x1
                                obtain ⟨r5, w5, e5, d5, h5, b5⟩ := run_mul (P := Try.prog) 39 (x := c3) (y := YV) b33 bV wr
                                have hpc5 : w5.cell? ⟨gp, q, none⟩ = some (.float .f64 YP) := by obtain ⟨z9, rfl⟩ := d5; exact hpc
                                obtain ⟨r6, w6, e6, d6, h6, b6⟩ := run_add (P := Try.prog) 39 (x := YP) (y := r5) bP b5 w5
                                have HW6 : Hid (fa (r6 : Int) = tdW (Ls k) n k a) := Lib.hid (by rw [fa_nat, h6, h5, HYP.out, HYV.out, HC.out]; rfl)
                                have hb6 := (d5.trans d6).below wr.heap.size
                                have RW6 := RW.on hb6
                                have RP6 := RP.on hb6
                                obtain ⟨hw4, hw5⟩ := RW6.at_ (k := q) (by rw [HWv.out.len]; omega)
                                have bl6 := (bl.trans (hb6.mono bl.size)).setCell (p := ⟨gw, q, none⟩) (by show wb.heap.size ≤ gw; omega) (.float .f64 r6)
                                have RW7 : RowF (w6.setCell ⟨gw, q, none⟩ (.float .f64 r6)) gw (Wl.set q (r6 : Int)) := RW6.set_ q (r6 : Int)
                                have RP7 := RP6.far (p := ⟨gw, q, none⟩) hpw2 (.float .f64 r6)
                                have HWn := Lib.hid (HWv.out.set HQ.out (by omega) (by omega) (by omega) HW6.out)
                                clear hb6 d5 d6 h5 h6 RW6 RP6 bl RW RP HWv HYP HYV HW6
                                go_wp2_with fail
                                clear e5 e6 hpc hpc5 hw4 hw5 u0 u1 hcYV
                                go_roundw
                                case rel => exact ⟨a + 1, _, by omega, by have := HQ.out; go_num, HWn, RW7, RP7, bl6⟩
                                case measure => simp [intOf] <;> (have := HQ.out; omega)
                            · obtain rfl : i = a := by omega
                              as_aux_lemma =>
                                have q1 : ¬ (q : Int) < n := by omega
                                clear hq hin hat ha q0 HPv RP
                                have DHa := Blk.on DH10 bl
                                have FVa := FV10.on bl
                                have Ra := R11.on bl
                                have hgw0 := bl.size
                                have gwg : gw ≠ g := by omega
                                clear bl DH10 FV10 R11
                                go_wp2_with fail
                                clear q1
                                have HU0 := Lib.hid (Up.start (k := k) K.now.1 K.now.2)
                                go_loopw [25, 26, 27, 28] (fun v25 v26 v27 v28 wr => ∃ (a : Nat) (L : List Int), a ≤ i ∧ v25 = .int .i64 ((k + 1 + a : Nat) : Int) ∧ Hid (Up n k (k + 1 + a) (k + 1) (Ls k) L) ∧ RS w wr N k g t (w.heap.size + 1) cap L A7 A10 A6 c7 c10 c6 (d ++ [(Y2 : Int)]) (e ++ [(be : Int)]) (hs ++ [⟨some ⟨gv, 0, none⟩, i, v, t1⟩]) ∧ Rbx wr gh (some ⟨gv, 0, none⟩) i i t1 ∧ FL wr (some ⟨gv, 0, none⟩) i i v ∧ RowF wr gw Wl) (fun x _ _ _ _ => n - (intOf x).toNat)
                                case atStart => exact ⟨0, _, Nat.zero_le _, by go_num, HU0, Ra, DHa, FVa, RW⟩
                                case round =>
                                  clear HU0 Ra DHa FVa RW
                                  obtain ⟨a, L, ha, rfl, HU, Ra, DHa, FVa, RW⟩ := hrel
                                  obtain ⟨q, hq⟩ : ∃ q, k + 1 + a = q := ⟨_, rfl⟩
                                  rw [hq] at HU ⊢
                                  have q0 : (0 : Int) ≤ q := by omega
                                  have hin := HIN.out
                                  by_cases hat : a < i
                                  · have q1 : (q : Int) < n := by omega
                                    as_aux_lemma =>
                                      obtain ⟨q2, hq2⟩ : ∃ z, a + 1 = z := ⟨_, rfl⟩
                                      have eq2 : (q : Int) - (k : Int) = (q2 : Int) := by omega
                                      have wq2 : IntKind.i64.wrap (q2 : Int) = (q2 : Int) := IntWalk.i64_in _ (by omega)
                                      have eq3 : (q2 : Int) - 1 = (a : Int) := by omega
                                      have wq3 : IntKind.i64.wrap (a : Int) = (a : Int) := IntWalk.i64_in _ (by omega)
                                      have qx0 : (0 : Int) ≤ a := by omega
                                      have qx1 : (a : Int) < i := by omega
                                      clear hq2
                                      have HQ := Lib.hid hq
                                      clear hq hin
                                      go_wp2_with fail
                                      go_loopw [26, 27, 28] (fun v26 v27 v28 wr => ∃ (b : Nat) (L : List Int), b ≤ i ∧ v26 = .int .i64 ((k + 1 + b : Nat) : Int) ∧ Hid (Up n k q (k + 1 + b) (Ls k) L) ∧ RS w wr N k g t (w.heap.size + 1) cap L A7 A10 A6 c7 c10 c6 (d ++ [(Y2 : Int)]) (e ++ [(be : Int)]) (hs ++ [⟨some ⟨gv, 0, none⟩, i, v, t1⟩]) ∧ Rbx wr gh (some ⟨gv, 0, none⟩) i i t1 ∧ FL wr (some ⟨gv, 0, none⟩) i i v ∧ RowF wr gw Wl) (fun x _ _ _ => n - (intOf x).toNat)
                                      case atStart => exact ⟨0, _, Nat.zero_le _, by go_num, HU, Ra, DHa, FVa, RW⟩
                                      case round =>
                                        clear HU Ra DHa FVa RW L
                                        obtain ⟨b, L, hb, rfl, HU, Ra, DHa, FVa, RW⟩ := hrel
                                        obtain ⟨p, hp⟩ : ∃ p, k + 1 + b = p := ⟨_, rfl⟩
                                        rw [hp] at HU ⊢
                                        have p0 : (0 : Int) ≤ p := by omega
                                        have hin := HIN.out
                                        by_cases hbt : b < i
                                        · have p1 : (p : Int) < n := by omega
                                          as_aux_lemma =>
                                            obtain ⟨p2, hp2⟩ : ∃ z, b + 1 = z := ⟨_, rfl⟩
                                            have ep2 : (p : Int) - (k : Int) = (p2 : Int) := by omega
                                            have wp2 : IntKind.i64.wrap (p2 : Int) = (p2 : Int) := IntWalk.i64_in _ (by omega)
                                            have ep3 : (p2 : Int) - 1 = (b : Int) := by omega
                                            have wp3 : IntKind.i64.wrap (b : Int) = (b : Int) := IntWalk.i64_in _ (by omega)
                                            have px0 : (0 : Int) ≤ b := by omega
                                            have px1 : (b : Int) < i := by omega
                                            clear hp2
                                            have hqn : q < n := by omega
                                            have hpn : p < n := by omega
                                            have HPP := Lib.hid hp
                                            clear hp hin
                                            obtain ⟨yc, hyc⟩ : ∃ y, q * n = y := ⟨_, rfl⟩
                                            obtain ⟨zc, hzc⟩ : ∃ z, yc + p = z := ⟨_, rfl⟩
                                            have hNc : zc < N := by rw [← hzc, ← hyc, HN.out]; exact ix_lt (by omega) (by omega)
                                            have HZc : Hid (q * n + p = zc) := Lib.hid (by rw [← hzc, ← hyc])
                                            have eyc : (q : Int) * (n : Int) = (yc : Int) := by exact_mod_cast hyc
                                            have ezc : (yc : Int) + (p : Int) = (zc : Int) := by omega
                                            have wyc : IntKind.i64.wrap (yc : Int) = (yc : Int) := IntWalk.i64_in _ (by omega)
                                            have wzc : IntKind.i64.wrap (zc : Int) = (zc : Int) := IntWalk.i64_in _ (by omega)
                                            have z0c : (0 : Int) ≤ zc := by omega
                                            have z1c : (zc : Int) < N := by omega
                                            clear hyc hzc
                                            obtain ⟨adw, hAw, _, hcYV⟩ := FVa.at_ hat
                                            injection hAw with hAw
                                            subst hAw
                                            rw [add_at, Nat.zero_add] at hcYV
                                            obtain ⟨x0, x1⟩ := HV.out.wd.at_ a
                                            have HYV : Hid (af (D v a).toNat = tdV (Ls k) n k a) := Lib.hid (HV.out.at_ a (by have := HIN.out; omega))
                                            obtain ⟨YV, hYV⟩ : ∃ Y, (D v a).toNat = Y := ⟨_, rfl⟩
                                            rw [hYV] at HYV hcYV
                                            have bV : YV ≤ 18446744073709551615 := by omega
                                            clear hYV x0 x1
                                            obtain ⟨adu, hAu, _, hcYU⟩ := FVa.at_ hbt
                                            injection hAu with hAu
                                            subst hAu
                                            rw [add_at, Nat.zero_add] at hcYU
                                            obtain ⟨x0, x1⟩ := HV.out.wd.at_ b
                                            have HYU : Hid (af (D v b).toNat = tdV (Ls k) n k b) := Lib.hid (HV.out.at_ b (by have := HIN.out; omega))
                                            obtain ⟨YU, hYU⟩ : ∃ Y, (D v b).toNat = Y := ⟨_, rfl⟩
                                            rw [hYU] at HYU hcYU
                                            have bU : YU ≤ 18446744073709551615 := by omega
                                            clear hYU x0 x1
                                            obtain ⟨hcYX, _⟩ := RW.at_ (k := q) (by rw [HWv.out.len]; omega)
                                            obtain ⟨x0, x1⟩ := HWv.out.wd.at_ q
                                            have HYX : Hid (af (D Wl q).toNat = tdW (Ls k) n k a) := Lib.hid (by have h9 := HWv.out.at_ a hat; rw [HQ.out] at h9; exact h9)
                                            obtain ⟨YX, hYX⟩ : ∃ Y, (D Wl q).toNat = Y := ⟨_, rfl⟩
                                            rw [hYX] at HYX hcYX
                                            have bX : YX ≤ 18446744073709551615 := by omega
                                            clear hYX x0 x1
                                            obtain ⟨hcYW, _⟩ := RW.at_ (k := p) (by rw [HWv.out.len]; omega)
                                            obtain ⟨x0, x1⟩ := HWv.out.wd.at_ p
                                            have HYW : Hid (af (D Wl p).toNat = tdW (Ls k) n k b) := Lib.hid (by have h9 := HWv.out.at_ b hbt; rw [HPP.out] at h9; exact h9)
                                            obtain ⟨YW, hYW⟩ : ∃ Y, (D Wl p).toNat = Y := ⟨_, rfl⟩
                                            rw [hYW] at HYW hcYW
                                            have bW : YW ≤ 18446744073709551615 := by omega
                                            clear hYW x0 x1
                                            have hLl : L.length = N := by rw [HU.out.len, HN.out]
                                            have hLc := (Ra.oa.at' (k := zc) (by rw [hLl]; exact hNc)).1
                                            obtain ⟨x0, x1⟩ := HU.out.wd.at_ zc
                                            have HYA : Hid (af (D L zc).toNat = ma (Ls k) n q p) := Lib.hid (by have h9 := HU.out.old hqn hpn; rw [← h9]; unfold ma; rw [HZc.out]; rfl)
                                            obtain ⟨YA, hYA⟩ : ∃ Y, (D L zc).toNat = Y := ⟨_, rfl⟩
                                            have HYAA := Lib.hid hYA
                                            rw [hYA] at HYA hLc
                                            have bA : YA ≤ 18446744073709551615 := by omega
                                            have hcap2 := Ra.oa.ge
                                            rw [hLl] at hcap2
                                            clear hYA x0 x1
                                            obtain ⟨u0, u1, _, _⟩ := Rbx.cells DHa
                                            go_wp2_with fail
                                            clear u0 u1
                                            have dr : Dr wr wr.drew := ⟨1, rfl⟩
                                            have DHc := DHa.drew
                                            replace hcYV : wr.drew.cell? ⟨gv, a, none⟩ = some (.float .f64 YV) := by obtain ⟨z9, e9⟩ := dr; rw [e9]; exact hcYV
                                            replace hcYW : wr.drew.cell? ⟨gw, p, none⟩ = some (.float .f64 YW) := by obtain ⟨z9, e9⟩ := dr; rw [e9]; exact hcYW
                                            have bz : Below wr.drew.heap.size wr.drew wr.drew := Below.refl _ _
                                            refine wp_region_held_drew (S := fun w9 : World => Rbx w9 gh (some ⟨gv, 0, none⟩) i i t1 ∧ w9.cell? ⟨gv, a, none⟩ = some (.float .f64 YV) ∧ w9.cell? ⟨gw, p, none⟩ = some (.float .f64 YW)) (by kernel_rfl) ⟨DHc, hcYV, hcYW⟩ (fun hS => ?_)
                                            generalize wr.drew = wl at hS DHc dr hcYV hcYW bz ⊢
                                            refine wpAnyH_take (i := 0) (v := ?v0_42) rfl (by kernel_rfl) (by kernel_rfl) (by kernel_rfl) (fun _ _ _ h => h) (Or.inl ⟨by rfl, ?hy0_42⟩) (by assumption) ?rest0_42
                                            case hy0_42 => (intro w9 hSw; clear hSw; go_simp; try with_reducible rfl)
                                            try simp only [Act.put, List.setIfInBounds_toArray, List.set_cons_zero, List.set_cons_succ, List.getElem_toArray, List.getElem_cons_zero, List.getElem_cons_succ]
                                            refine wpAnyH_take (i := 1) (v := ?v1_43) rfl (by kernel_rfl) (by kernel_rfl) (by kernel_rfl) (fun _ _ _ h => h) (Or.inl ⟨by rfl, ?hy1_43⟩) (by assumption) ?rest1_43
                                            case hy1_43 => (intro w9 hSw; obtain ⟨ma1, ma2, ma3⟩ := hSw; obtain ⟨u0, u1, _, _⟩ := Rbx.cells ma1; go_simp; try with_reducible rfl)
                                            try simp only [Act.put, List.setIfInBounds_toArray, List.set_cons_zero, List.set_cons_succ, List.getElem_toArray, List.getElem_cons_zero, List.getElem_cons_succ]
                                            refine wpAnyH_take (i := 2) (v := ?v2_44) rfl (by kernel_rfl) (by kernel_rfl) (by kernel_rfl) (fun _ _ _ h => h) (Or.inl ⟨by rfl, ?hy2_44⟩) (by assumption) ?rest2_44
                                            case hy2_44 => (intro w9 hSw; clear hSw; go_simp; try with_reducible rfl)
                                            try simp only [Act.put, List.setIfInBounds_toArray, List.set_cons_zero, List.set_cons_succ, List.getElem_toArray, List.getElem_cons_zero, List.getElem_cons_succ]
                                            refine wpAnyH_take (i := 3) (v := ?v3_45) rfl (by kernel_rfl) (by kernel_rfl) (by kernel_rfl) (fun _ _ _ h => h) (Or.inl ⟨by rfl, ?hy3_45⟩) (by assumption) ?rest3_45
                                            case hy3_45 => (intro w9 hSw; clear hSw; go_simp; try with_reducible rfl)
                                            try simp only [Act.put, List.setIfInBounds_toArray, List.set_cons_zero, List.set_cons_succ, List.getElem_toArray, List.getElem_cons_zero, List.getElem_cons_succ]
                                            refine wpAnyH_take (i := 4) (v := ?v4_46) rfl (by kernel_rfl) (by kernel_rfl) (by kernel_rfl) (fun _ _ _ h => h) (Or.inl ⟨by rfl, ?hy4_46⟩) (by assumption) ?rest4_46
                                            case hy4_46 => (intro w9 hSw; clear hSw; go_simp; try with_reducible rfl)
                                            try simp only [Act.put, List.setIfInBounds_toArray, List.set_cons_zero, List.set_cons_succ, List.getElem_toArray, List.getElem_cons_zero, List.getElem_cons_succ]
                                            refine wpAnyH_take (i := 5) (v := ?v5_47) rfl (by kernel_rfl) (by kernel_rfl) (by kernel_rfl) (fun _ _ _ h => h) (Or.inl ⟨by rfl, ?hy5_47⟩) (by assumption) ?rest5_47
                                            case hy5_47 => (intro w9 hSw; clear hSw; go_simp; try with_reducible rfl)
                                            try simp only [Act.put, List.setIfInBounds_toArray, List.set_cons_zero, List.set_cons_succ, List.getElem_toArray, List.getElem_cons_zero, List.getElem_cons_succ]
                                            refine wpAnyH_take (i := 6) (v := ?v6_48) rfl (by kernel_rfl) (by kernel_rfl) (by kernel_rfl) (fun _ _ _ h => h) (Or.inl ⟨by rfl, ?hy6_48⟩) (by assumption) ?rest6_48
                                            case hy6_48 => (intro w9 hSw; clear hSw; go_simp; try with_reducible rfl)
                                            try simp only [Act.put, List.setIfInBounds_toArray, List.set_cons_zero, List.set_cons_succ, List.getElem_toArray, List.getElem_cons_zero, List.getElem_cons_succ]
                                            refine wpAnyH_take (i := 7) (v := ?v7_49) rfl (by kernel_rfl) (by kernel_rfl) (by kernel_rfl) (fun _ _ _ h => h) (Or.inl ⟨by rfl, ?hy7_49⟩) (by assumption) ?rest7_49
                                            case hy7_49 => (intro w9 hSw; obtain ⟨ma1, ma2, ma3⟩ := hSw; obtain ⟨u0, u1, _, _⟩ := Rbx.cells ma1; go_simp; try with_reducible rfl)
                                            try simp only [Act.put, List.setIfInBounds_toArray, List.set_cons_zero, List.set_cons_succ, List.getElem_toArray, List.getElem_cons_zero, List.getElem_cons_succ]
                                            refine wpAnyH_take (i := 8) (v := ?v8_50) rfl (by kernel_rfl) (by kernel_rfl) (by kernel_rfl) (fun _ _ _ h => h) (Or.inl ⟨by rfl, ?hy8_50⟩) (by assumption) ?rest8_50
                                            case hy8_50 => (intro w9 hSw; clear hSw; go_simp; try with_reducible rfl)
                                            try simp only [Act.put, List.setIfInBounds_toArray, List.set_cons_zero, List.set_cons_succ, List.getElem_toArray, List.getElem_cons_zero, List.getElem_cons_succ]
                                            refine wpAnyH_take (i := 9) (v := ?v9_51) rfl (by kernel_rfl) (by kernel_rfl) (by kernel_rfl) (fun _ _ _ h => h) (Or.inl ⟨by rfl, ?hy9_51⟩) (by assumption) ?rest9_51
                                            case hy9_51 => (intro w9 hSw; clear hSw; go_simp; try with_reducible rfl)
                                            try simp only [Act.put, List.setIfInBounds_toArray, List.set_cons_zero, List.set_cons_succ, List.getElem_toArray, List.getElem_cons_zero, List.getElem_cons_succ]
                                            refine wpAnyH_take (i := 10) (v := ?v10_52) rfl (by kernel_rfl) (by kernel_rfl) (by kernel_rfl) (fun _ _ _ h => h) (Or.inl ⟨by rfl, ?hy10_52⟩) (by assumption) ?rest10_52
                                            case hy10_52 => (intro w9 hSw; clear hSw; go_simp; try with_reducible rfl)
                                            try simp only [Act.put, List.setIfInBounds_toArray, List.set_cons_zero, List.set_cons_succ, List.getElem_toArray, List.getElem_cons_zero, List.getElem_cons_succ]
                                            refine wpAnyH_take (i := 11) (v := ?v11_53) rfl (by kernel_rfl) (by kernel_rfl) (by kernel_rfl) (fun _ _ _ h => h) (Or.inl ⟨by rfl, ?hy11_53⟩) (by assumption) ?rest11_53
                                            case hy11_53 => (intro w9 hSw; obtain ⟨ma1, ma2, ma3⟩ := hSw; obtain ⟨u0, u1, _, _⟩ := Rbx.cells ma1; go_simp; try with_reducible rfl)
                                            try simp only [Act.put, List.setIfInBounds_toArray, List.set_cons_zero, List.set_cons_succ, List.getElem_toArray, List.getElem_cons_zero, List.getElem_cons_succ]
                                            refine wpAnyH_ready (rs := [12]) (by kernel_rfl) (by simp) ?_
                                            refine AllReadyH.cons rfl (fun K hK => ?_) AllReadyH.nil
                                            refine step_arith .mul (.inr (.inr (.inl rfl))) rfl _ _ _ _ YV YW rfl rfl rfl bV bW ?_
                                            intro r1 w11 hb9 hq1 b1 dq
                                            have H1 := Lib.hid hq1
                                            clear hq1 hb9
                                            replace dr := dr.trans dq
                                            have hS1 := hS
                                            obtain ⟨t9, ht9⟩ := dq
                                            subst ht9
                                            clear hS; refine hK.out _ _ hS1 (fun hS => ?_); clear hK K
                                            try simp only [Act.put, List.setIfInBounds_toArray, List.set_cons_zero, List.set_cons_succ, List.getElem_toArray, List.getElem_cons_zero, List.getElem_cons_succ]
                                            refine wpAnyH_take (i := 13) (v := ?v13_54) rfl (by kernel_rfl) (by kernel_rfl) (by kernel_rfl) (fun _ _ _ h => h) (Or.inl ⟨by rfl, ?hy13_54⟩) (by assumption) ?rest13_54
                                            case hy13_54 => (intro w9 hSw; clear hSw; go_simp; try with_reducible rfl)
                                            try simp only [Act.put, List.setIfInBounds_toArray, List.set_cons_zero, List.set_cons_succ, List.getElem_toArray, List.getElem_cons_zero, List.getElem_cons_succ]
                                            refine wpAnyH_done (by kernel_rfl) ?_ _
                                            have hb9 := dr.below wr.heap.size
                                            have DHd := Blk.on DHa hb9
                                            obtain ⟨u0, u1, _, _⟩ := Rbx.cells DHd
                                            go_wp2_with fail
                                            clear u0 u1
                                            replace dr : Dr wr (wl.drewN t9).drew := dr.trans ⟨1, rfl⟩
                                            clear DHc
                                            have DHc := DHd.drew
                                            clear DHd hb9
                                            replace hcYU : (wl.drewN t9).drew.cell? ⟨gv, b, none⟩ = some (.float .f64 YU) := by obtain ⟨z9, e9⟩ := dr; rw [e9]; exact hcYU
                                            replace hcYX : (wl.drewN t9).drew.cell? ⟨gw, q, none⟩ = some (.float .f64 YX) := by obtain ⟨z9, e9⟩ := dr; rw [e9]; exact hcYX
                                            have bz : Below (wl.drewN t9).drew.heap.size (wl.drewN t9).drew (wl.drewN t9).drew := Below.refl _ _
                                            refine wp_region_held_drew (S := fun w9 : World => Rbx w9 gh (some ⟨gv, 0, none⟩) i i t1 ∧ w9.cell? ⟨gv, b, none⟩ = some (.float .f64 YU) ∧ w9.cell? ⟨gw, q, none⟩ = some (.float .f64 YX)) (by kernel_rfl) ⟨DHc, hcYU, hcYX⟩ (fun hS => ?_)
                                            generalize (wl.drewN t9).drew = wm at hS DHc dr hcYU hcYX bz ⊢
                                            refine wpAnyH_take (i := 0) (v := ?v0_55) rfl (by kernel_rfl) (by kernel_rfl) (by kernel_rfl) (fun _ _ _ h => h) (Or.inl ⟨by rfl, ?hy0_55⟩) (by assumption) ?rest0_55
                                            case hy0_55 => (intro w9 hSw; clear hSw; go_simp; try with_reducible rfl)
                                            try simp only [Act.put, List.setIfInBounds_toArray, List.set_cons_zero, List.set_cons_succ, List.getElem_toArray, List.getElem_cons_zero, List.getElem_cons_succ]
                                            refine wpAnyH_take (i := 1) (v := ?v1_56) rfl (by kernel_rfl) (by kernel_rfl) (by kernel_rfl) (fun _ _ _ h => h) (Or.inl ⟨by rfl, ?hy1_56⟩) (by assumption) ?rest1_56
                                            case hy1_56 => (intro w9 hSw; clear hSw; go_simp; try with_reducible rfl)
                                            try simp only [Act.put, List.setIfInBounds_toArray, List.set_cons_zero, List.set_cons_succ, List.getElem_toArray, List.getElem_cons_zero, List.getElem_cons_succ]
                                            refine wpAnyH_take (i := 2) (v := ?v2_57) rfl (by kernel_rfl) (by kernel_rfl) (by kernel_rfl) (fun _ _ _ h => h) (Or.inl ⟨by rfl, ?hy2_57⟩) (by assumption) ?rest2_57
                                            case hy2_57 => (intro w9 hSw; clear hSw; go_simp; try with_reducible rfl)
                                            try simp only [Act.put, List.setIfInBounds_toArray, List.set_cons_zero, List.set_cons_succ, List.getElem_toArray, List.getElem_cons_zero, List.getElem_cons_succ]
                                            refine wpAnyH_take (i := 3) (v := ?v3_58) rfl (by kernel_rfl) (by kernel_rfl) (by kernel_rfl) (fun _ _ _ h => h) (Or.inl ⟨by rfl, ?hy3_58⟩) (by assumption) ?rest3_58
                                            case hy3_58 => (intro w9 hSw; obtain ⟨ma1, ma2, ma3⟩ := hSw; obtain ⟨u0, u1, _, _⟩ := Rbx.cells ma1; go_simp; try with_reducible rfl)
                                            try simp only [Act.put, List.setIfInBounds_toArray, List.set_cons_zero, List.set_cons_succ, List.getElem_toArray, List.getElem_cons_zero, List.getElem_cons_succ]
                                            refine wpAnyH_take (i := 4) (v := ?v4_59) rfl (by kernel_rfl) (by kernel_rfl) (by kernel_rfl) (fun _ _ _ h => h) (Or.inl ⟨by rfl, ?hy4_59⟩) (by assumption) ?rest4_59
                                            case hy4_59 => (intro w9 hSw; clear hSw; go_simp; try with_reducible rfl)
                                            try simp only [Act.put, List.setIfInBounds_toArray, List.set_cons_zero, List.set_cons_succ, List.getElem_toArray, List.getElem_cons_zero, List.getElem_cons_succ]
                                            refine wpAnyH_take (i := 5) (v := ?v5_60) rfl (by kernel_rfl) (by kernel_rfl) (by kernel_rfl) (fun _ _ _ h => h) (Or.inl ⟨by rfl, ?hy5_60⟩) (by assumption) ?rest5_60
                                            case hy5_60 => (intro w9 hSw; obtain ⟨ma1, ma2, ma3⟩ := hSw; obtain ⟨u0, u1, _, _⟩ := Rbx.cells ma1; go_simp; try with_reducible rfl)
                                            try simp only [Act.put, List.setIfInBounds_toArray, List.set_cons_zero, List.set_cons_succ, List.getElem_toArray, List.getElem_cons_zero, List.getElem_cons_succ]
                                            refine wpAnyH_take (i := 6) (v := ?v6_61) rfl (by kernel_rfl) (by kernel_rfl) (by kernel_rfl) (fun _ _ _ h => h) (Or.inl ⟨by rfl, ?hy6_61⟩) (by assumption) ?rest6_61
                                            case hy6_61 => (intro w9 hSw; clear hSw; go_simp; try with_reducible rfl)
                                            try simp only [Act.put, List.setIfInBounds_toArray, List.set_cons_zero, List.set_cons_succ, List.getElem_toArray, List.getElem_cons_zero, List.getElem_cons_succ]
                                            refine wpAnyH_take (i := 7) (v := ?v7_62) rfl (by kernel_rfl) (by kernel_rfl) (by kernel_rfl) (fun _ _ _ h => h) (Or.inl ⟨by rfl, ?hy7_62⟩) (by assumption) ?rest7_62
                                            case hy7_62 => (intro w9 hSw; clear hSw; go_simp; try with_reducible rfl)
                                            try simp only [Act.put, List.setIfInBounds_toArray, List.set_cons_zero, List.set_cons_succ, List.getElem_toArray, List.getElem_cons_zero, List.getElem_cons_succ]
                                            refine wpAnyH_take (i := 8) (v := ?v8_63) rfl (by kernel_rfl) (by kernel_rfl) (by kernel_rfl) (fun _ _ _ h => h) (Or.inl ⟨by rfl, ?hy8_63⟩) (by assumption) ?rest8_63
                                            case hy8_63 => (intro w9 hSw; clear hSw; go_simp; try with_reducible rfl)
                                            try simp only [Act.put, List.setIfInBounds_toArray, List.set_cons_zero, List.set_cons_succ, List.getElem_toArray, List.getElem_cons_zero, List.getElem_cons_succ]
                                            refine wpAnyH_take (i := 9) (v := ?v9_64) rfl (by kernel_rfl) (by kernel_rfl) (by kernel_rfl) (fun _ _ _ h => h) (Or.inl ⟨by rfl, ?hy9_64⟩) (by assumption) ?rest9_64
                                            case hy9_64 => (intro w9 hSw; clear hSw; go_simp; try with_reducible rfl)
                                            try simp only [Act.put, List.setIfInBounds_toArray, List.set_cons_zero, List.set_cons_succ, List.getElem_toArray, List.getElem_cons_zero, List.getElem_cons_succ]
                                            refine wpAnyH_take (i := 10) (v := ?v10_65) rfl (by kernel_rfl) (by kernel_rfl) (by kernel_rfl) (fun _ _ _ h => h) (Or.inl ⟨by rfl, ?hy10_65⟩) (by assumption) ?rest10_65
                                            case hy10_65 => (intro w9 hSw; clear hSw; go_simp; try with_reducible rfl)
                                            try simp only [Act.put, List.setIfInBounds_toArray, List.set_cons_zero, List.set_cons_succ, List.getElem_toArray, List.getElem_cons_zero, List.getElem_cons_succ]
                                            refine wpAnyH_take (i := 11) (v := ?v11_66) rfl (by kernel_rfl) (by kernel_rfl) (by kernel_rfl) (fun _ _ _ h => h) (Or.inl ⟨by rfl, ?hy11_66⟩) (by assumption) ?rest11_66
                                            case hy11_66 => (intro w9 hSw; obtain ⟨ma1, ma2, ma3⟩ := hSw; obtain ⟨u0, u1, _, _⟩ := Rbx.cells ma1; go_simp; try with_reducible rfl)
                                            try simp only [Act.put, List.setIfInBounds_toArray, List.set_cons_zero, List.set_cons_succ, List.getElem_toArray, List.getElem_cons_zero, List.getElem_cons_succ]
                                            refine wpAnyH_ready (rs := [12]) (by kernel_rfl) (by simp) ?_
                                            refine AllReadyH.cons rfl (fun K hK => ?_) AllReadyH.nil
                                            refine step_arith .mul (.inr (.inr (.inl rfl))) rfl _ _ _ _ YX YU rfl rfl rfl bX bU ?_
                                            intro r2 w11 hb9 hq1 b2 dq
                                            have H2 := Lib.hid hq1
                                            clear hq1 hb9
                                            replace dr := dr.trans dq
                                            have hS1 := hS
                                            obtain ⟨t9, ht9⟩ := dq
                                            subst ht9
                                            clear hS; refine hK.out _ _ hS1 (fun hS => ?_); clear hK K
                                            try simp only [Act.put, List.setIfInBounds_toArray, List.set_cons_zero, List.set_cons_succ, List.getElem_toArray, List.getElem_cons_zero, List.getElem_cons_succ]
                                            refine wpAnyH_take (i := 13) (v := ?v13_67) rfl (by kernel_rfl) (by kernel_rfl) (by kernel_rfl) (fun _ _ _ h => h) (Or.inl ⟨by rfl, ?hy13_67⟩) (by assumption) ?rest13_67
                                            case hy13_67 => (intro w9 hSw; clear hSw; go_simp; try with_reducible rfl)
                                            try simp only [Act.put, List.setIfInBounds_toArray, List.set_cons_zero, List.set_cons_succ, List.getElem_toArray, List.getElem_cons_zero, List.getElem_cons_succ]
                                            refine wpAnyH_done (by kernel_rfl) ?_ _
                                            have hb9 := dr.below wr.heap.size
                                            clear DHc
                                            obtain ⟨W5, hW5⟩ : ∃ W, wm.drewN t9 = W := ⟨_, rfl⟩
                                            rw [hW5] at dr hb9 ⊢
                                            obtain ⟨r3, w3, e3, d3, h3, b3⟩ := run_add (P := Try.prog) 39 (x := r1) (y := r2) b1 b2 W5
                                            obtain ⟨r4, w4, e4, d4, h4, b4⟩ := run_sub (P := Try.prog) 39 (x := YA) (y := r3) bA b3 w3
                                            have HX4 : Hid (fa (r4 : Int) = tdN (Ls k) n k q p) := Lib.hid (by
                                              have e1 : q - k - 1 = a := by have := HQ.out; omega
                                              have e2 : p - k - 1 = b := by have := HPP.out; omega
                                              unfold tdN
                                              rw [fa_nat, h4, h3, H1.out, H2.out, HYA.out, HYV.out, HYU.out, HYX.out, HYW.out, e1, e2])
                                            have hL5 : W5.cell? ⟨g, zc, none⟩ = some (.float .f64 YA) := by have h9 := ((Ra.on hb9).oa.at' (k := zc) (by rw [hLl]; exact hNc)).1; rw [HYAA.out] at h9; exact h9
                                            have d9 := (dr.trans d3).trans d4
                                            clear hb9
                                            have hb9 := d9.below wr.heap.size
                                            have R4 := Ra.on hb9
                                            have DH4 := Blk.on DHa hb9
                                            have FV4 := FVa.on hb9
                                            have RW4 := RW.on hb9
                                            obtain ⟨hm4, hm5⟩ := R4.oa.at' (k := zc) (by rw [hLl]; exact hNc)
                                            have hgs : w4.grownBy (w4.setCell ⟨g, zc, none⟩ (.float .f64 r4)) (some g) := grown_setCell (World.grownBy.refl w4 _) _ _
                                            have R5 := R4.set zc r4
                                            have DH5 := Blk.grown DH4 hgs (by simp; exact ghg)
                                            have FV5 := FV4.farB hgs (fun x e9 => by injection e9 with e9; subst e9; exact gvg)
                                            have RW5 := RW4.far (p := ⟨g, zc, none⟩) gwg (.float .f64 r4)
                                            have HUn := Lib.hid (HU.out.set hqn hpn (by have := HQ.out; omega) (by have := HPP.out; omega) HZc.out (x := (r4 : Int)) (by omega) (by omega) HX4.out)
                                            clear hb9 d9 dr d3 d4 h3 h4 H1 H2 HYA HYV HYU HYX HYW HYAA R4 DH4 FV4 RW4 Ra DHa FVa RW HU hgs hLc HX4
                                            go_wp2_with fail
                                            clear e3 e4 hL5 hm4 hm5 hcYV hcYU hcYX hcYW hW5
                                            go_roundw
                                            case rel => exact ⟨b + 1, _, by omega, by have := HPP.out; go_num, (by have h9 := HPP.out; rw [show k + 1 + (b + 1) = p + 1 by omega]; exact HUn), R5, DH5, FV5, RW5⟩
                                            case measure => simp [intOf] <;> (have := HPP.out; omega)
                                        · obtain rfl : i = b := by omega
                                          have p1 : ¬ (p : Int) < n := by omega
                                          obtain rfl : n = p := by omega
                                          have HUn := Lib.hid HU.out.row
                                          clear HU hp hin hbt hb p0
                                          go_wp2_with fail
                                          go_roundw
                                          case rel => exact ⟨a + 1, L, by omega, by have := HQ.out; go_num, (by have h9 := HQ.out; rw [show k + 1 + (a + 1) = q + 1 by omega]; exact HUn), Ra, DHa, FVa, RW⟩
                                          case measure => simp [intOf] <;> (have := HQ.out; omega)
                                  · obtain rfl : i = a := by omega
                                    as_aux_lemma =>
                                      have q1 : ¬ (q : Int) < n := by omega
                                      obtain rfl : n = q := by omega
                                      have hIs := HU.out.done HZ.out
                                      have K2 := K.next hIs HF2.out HBE.out (r := ⟨some ⟨gv, 0, none⟩, i, v, t1⟩) HV.out HT.out (by omega) (by omega)
                                      clear hq hin hat ha q0 HU DHa FVa RW hIs
                                      go_wp2_with fail
                                      go_roundw
                                      case rel => exact ⟨k + 1, _, A7, A10, A6, c7, c10, c6, _, _, _, by omega, rfl, by go_num, (by show RS _ _ _ _ _ _ _ _ (if k + 1 = k + 1 then L else Ls (k + 1)) _ _ _ _ _ _ _ _ _; rw [if_pos rfl]; exact Ra.re), K2, (by show (if 0 = k + 1 then L else Ls 0) = l; rw [if_neg (by omega)]; exact hLn.out)⟩
                                      case measure => simp [intOf]; omega
    · have hkn : k = n - 2 := by omega
      as_aux_lemma =>
        have hKL := K.now.1
        rw [← HN.out] at hKL
        have hKW := Lib.hid K.now.2
        have HKN := Lib.hid hkn
        have hlt3 : ¬ (k : Int) + 2 < n := by omega
        have HDL := K.dl
        have HD0 : Hid (∀ j, j < k → fa (D d j) = ma (Ls (min j (n - 2))) n j j) := Lib.hid (fun j hj => by rw [Nat.min_eq_left (by omega)]; exact K.dd j hj)
        have hcap := R.oa.ge
        rw [hKL] at hcap
        have hk9 : k ≤ n := by omega
        obtain ⟨y0, y1, _, _⟩ := Tbx.cells R.tb
        rw [HDL] at y0
        have HK := Lib.hid K
        clear hkn K hk
        go_wp2_with fail
        clear y0 y1
        go_loopw [29] (fun v29 wr => ∃ (i : Nat) (Ad : Option Addr) (cd : Nat) (d : List Int), k ≤ i ∧ i ≤ n ∧ v29 = .int .i64 i ∧ RS w wr N k g t (w.heap.size + 1) cap (Ls k) Ad Ae Ah cd ce ch d e hs ∧ d.length = i ∧ Wd d ∧ Hid (∀ j, j < i → fa (D d j) = ma (Ls (min j (n - 2))) n j j)) (fun i _ => n - (intOf i).toNat)
        case atStart => exact ⟨k, Ad, cd, d, Nat.le_refl _, hk9, rfl, R, HDL, HK.out.dw, HD0⟩
        case round =>
          clear R HDL HD0 hk9
          obtain ⟨i, Ad, cd, d, hki, hin, rfl, R, hdl, hdw, HDD⟩ := hrel
          have i0 : (0 : Int) ≤ i := by omega
          by_cases hit : i < n
          · have hit2 : (i : Int) < n := by omega
            have HLa := Lib.hid hdl
            obtain ⟨yd, hyd⟩ : ∃ y, i * n = y := ⟨_, rfl⟩
            obtain ⟨zd, hzd⟩ : ∃ z, yd + i = z := ⟨_, rfl⟩
            have hNd : zd < N := by rw [← hzd, ← hyd, HN.out]; exact ix_lt (by omega) (by omega)
            have HZd : Hid (i * n + i = zd) := Lib.hid (by rw [← hzd, ← hyd])
            have eyd : (i : Int) * (n : Int) = (yd : Int) := by exact_mod_cast hyd
            have ezd : (yd : Int) + (i : Int) = (zd : Int) := by omega
            have wyd : IntKind.i64.wrap (yd : Int) = (yd : Int) := IntWalk.i64_in _ (by omega)
            have wzd : IntKind.i64.wrap (zd : Int) = (zd : Int) := IntWalk.i64_in _ (by omega)
            have z0d : (0 : Int) ≤ zd := by omega
            have z1d : (zd : Int) < N := by omega
            clear hyd hzd
            obtain ⟨Ya, hYa⟩ : ∃ Y, (D (Ls k) zd).toNat = Y := ⟨_, rfl⟩
            obtain ⟨x1, x2⟩ := hKW.out.at_ zd
            have HYa := Lib.hid hYa
            have ba : Ya ≤ 18446744073709551615 := by omega
            have HEa : Hid ((Ya : Int) = D (Ls k) zd) := Lib.hid (by rw [← hYa, Int.toNat_of_nonneg x1])
            clear hYa x1 x2
            clear hdl
            go_wp2_with fail
            have bz := Below.refl wr.heap.size wr
            replace R := R.drew
            replace bz := bz.drew
            have hcz := (R.oa.at' (k := zd) (by rw [hKL]; omega)).1
            rw [HYa.out] at hcz
            have hb0a := R.bz.size
            refine wp_region_late [13] (S := fun w9 : World => Tbx w9 t Ad d.length cd Ae e.length ce ∧ w9.cell? ⟨g, zd, none⟩ = some (.float .f64 Ya)) (by kernel_rfl) ⟨R.tb, hcz⟩ (fun hS => ?_)
            generalize wr.drew = wda at hS R hcz hb0a bz ⊢
            refine wpAnyL_take (i := 0) (v := ?v0_68) rfl (by kernel_rfl) (by kernel_rfl) (by kernel_rfl) (fun _ _ _ h => h) (Or.inl ⟨by rfl, ?hy0_68⟩) (by assumption) ?rest0_68
            case hy0_68 => (intro w9 hSw; clear hSw; go_simp; try with_reducible rfl)
            try simp only [Act.put, List.setIfInBounds_toArray, List.set_cons_zero, List.set_cons_succ, List.getElem_toArray, List.getElem_cons_zero, List.getElem_cons_succ]
            refine wpAnyL_take (i := 1) (v := ?v1_69) rfl (by kernel_rfl) (by kernel_rfl) (by kernel_rfl) (fun _ _ _ h => h) (Or.inl ⟨by rfl, ?hy1_69⟩) (by assumption) ?rest1_69
            case hy1_69 => (intro w9 hSw; obtain ⟨ma1, ma2⟩ := hSw; obtain ⟨y0, y1, _, _⟩ := Tbx.cells ma1; go_simp; try with_reducible rfl)
            try simp only [Act.put, List.setIfInBounds_toArray, List.set_cons_zero, List.set_cons_succ, List.getElem_toArray, List.getElem_cons_zero, List.getElem_cons_succ]
            refine wpAnyL_take (i := 2) (v := ?v2_70) rfl (by kernel_rfl) (by kernel_rfl) (by kernel_rfl) (fun _ _ _ h => h) (Or.inl ⟨by rfl, ?hy2_70⟩) (by assumption) ?rest2_70
            case hy2_70 => (intro w9 hSw; clear hSw; go_simp; try with_reducible rfl)
            try simp only [Act.put, List.setIfInBounds_toArray, List.set_cons_zero, List.set_cons_succ, List.getElem_toArray, List.getElem_cons_zero, List.getElem_cons_succ]
            refine wpAnyL_take (i := 3) (v := ?v3_71) rfl (by kernel_rfl) (by kernel_rfl) (by kernel_rfl) (fun _ _ _ h => h) (Or.inl ⟨by rfl, ?hy3_71⟩) (by assumption) ?rest3_71
            case hy3_71 => (intro w9 hSw; clear hSw; go_simp; try with_reducible rfl)
            try simp only [Act.put, List.setIfInBounds_toArray, List.set_cons_zero, List.set_cons_succ, List.getElem_toArray, List.getElem_cons_zero, List.getElem_cons_succ]
            refine wpAnyL_take (i := 4) (v := ?v4_72) rfl (by kernel_rfl) (by kernel_rfl) (by kernel_rfl) (fun _ _ _ h => h) (Or.inl ⟨by rfl, ?hy4_72⟩) (by assumption) ?rest4_72
            case hy4_72 => (intro w9 hSw; clear hSw; go_simp; try with_reducible rfl)
            try simp only [Act.put, List.setIfInBounds_toArray, List.set_cons_zero, List.set_cons_succ, List.getElem_toArray, List.getElem_cons_zero, List.getElem_cons_succ]
            refine wpAnyL_take (i := 5) (v := ?v5_73) rfl (by kernel_rfl) (by kernel_rfl) (by kernel_rfl) (fun _ _ _ h => h) (Or.inl ⟨by rfl, ?hy5_73⟩) (by assumption) ?rest5_73
            case hy5_73 => (intro w9 hSw; clear hSw; go_simp; try with_reducible rfl)
            try simp only [Act.put, List.setIfInBounds_toArray, List.set_cons_zero, List.set_cons_succ, List.getElem_toArray, List.getElem_cons_zero, List.getElem_cons_succ]
            refine wpAnyL_take (i := 6) (v := ?v6_74) rfl (by kernel_rfl) (by kernel_rfl) (by kernel_rfl) (fun _ _ _ h => h) (Or.inl ⟨by rfl, ?hy6_74⟩) (by assumption) ?rest6_74
            case hy6_74 => (intro w9 hSw; clear hSw; go_simp; try with_reducible rfl)
            try simp only [Act.put, List.setIfInBounds_toArray, List.set_cons_zero, List.set_cons_succ, List.getElem_toArray, List.getElem_cons_zero, List.getElem_cons_succ]
            refine wpAnyL_take (i := 7) (v := ?v7_75) rfl (by kernel_rfl) (by kernel_rfl) (by kernel_rfl) (fun _ _ _ h => h) (Or.inl ⟨by rfl, ?hy7_75⟩) (by assumption) ?rest7_75
            case hy7_75 => (intro w9 hSw; clear hSw; go_simp; try with_reducible rfl)
            try simp only [Act.put, List.setIfInBounds_toArray, List.set_cons_zero, List.set_cons_succ, List.getElem_toArray, List.getElem_cons_zero, List.getElem_cons_succ]
            refine wpAnyL_take (i := 8) (v := ?v8_76) rfl (by kernel_rfl) (by kernel_rfl) (by kernel_rfl) (fun _ _ _ h => h) (Or.inl ⟨by rfl, ?hy8_76⟩) (by assumption) ?rest8_76
            case hy8_76 => (intro w9 hSw; clear hSw; go_simp; try with_reducible rfl)
            try simp only [Act.put, List.setIfInBounds_toArray, List.set_cons_zero, List.set_cons_succ, List.getElem_toArray, List.getElem_cons_zero, List.getElem_cons_succ]
            refine wpAnyL_take (i := 9) (v := ?v9_77) rfl (by kernel_rfl) (by kernel_rfl) (by kernel_rfl) (fun _ _ _ h => h) (Or.inl ⟨by rfl, ?hy9_77⟩) (by assumption) ?rest9_77
            case hy9_77 => (intro w9 hSw; obtain ⟨ma1, ma2⟩ := hSw; obtain ⟨y0, y1, _, _⟩ := Tbx.cells ma1; go_simp; try with_reducible rfl)
            try simp only [Act.put, List.setIfInBounds_toArray, List.set_cons_zero, List.set_cons_succ, List.getElem_toArray, List.getElem_cons_zero, List.getElem_cons_succ]
            refine wpAnyL_ready (rs := [10]) (by kernel_rfl) (by simp) ?_
            refine AllReadyL.cons rfl (fun K hK => ?_) AllReadyL.nil
            go_simp
            have hsrc : NumF (wda.alloc (.cells #[.float .f64 Ya] 39)) (wda.heap.size + 1) (some ⟨wda.heap.size, 0, none⟩) 1 [(Ya : Int)] := by
              have h9 := (RowF.one wda (Ya : Int)).nums (c := 1) (B := wda.heap.size + 1) 0 1 (by simp) (by omega) (by unfold maxLen; omega) (by omega)
              exact h9
            have hse := World.size_alloc wda (.cells #[.float .f64 Ya] 39)
            have hbA := (Below.refl _ wda).alloc (Nat.le_refl _) (.cells #[.float .f64 Ya] 39)
            replace R := R.on hbA
            clear hbA
            replace bz := bz.alloc bz.size (.cells #[.float .f64 Ya] 39)
            replace hcz := (R.oa.at' (k := zd) (by rw [hKL]; omega)).1
            rw [HYa.out] at hcz
            generalize wda.alloc (.cells #[.float .f64 Ya] 39) = wea at R bz hcz hsrc hse ⊢
            clear hS; refine hK.out _ _ ⟨R.tb, hcz⟩ (fun hS => ?_); clear hK K
            try simp only [Act.put, List.setIfInBounds_toArray, List.set_cons_zero, List.set_cons_succ, List.getElem_toArray, List.getElem_cons_zero, List.getElem_cons_succ]
            refine wpAnyL_ready (rs := [11]) (by kernel_rfl) (by simp) ?_
            refine AllReadyL.cons rfl (fun K hK => ?_) AllReadyL.nil
            refine step_appF wea rfl _ _ (by rfl) w.heap.size Ad cd d (by rfl) R.od _ (some ⟨wda.heap.size, 0, none⟩) 1 [(Ya : Int)] (by rfl) hsrc (by have := HLa.out; simp; omega) R.bz.size ?_
            intro Aa ca wfa hO7 hg7 ho7
            have T7 := Blk.grown R.tb hg7 (own_nb R.ap.dt)
            have hcz7 := ((R.oa.grown_ hg7 (fun x e9 => by injection e9 with e9; subst e9; exact own_nb R.ap.dg)).at' (k := zd) (by rw [hKL]; omega)).1
            rw [HYa.out] at hcz7
            clear hsrc
            clear hS; refine hK.out _ _ ⟨T7, hcz7⟩ (fun hS => ?_); clear hK K
            try simp only [Act.put, List.setIfInBounds_toArray, List.set_cons_zero, List.set_cons_succ, List.getElem_toArray, List.getElem_cons_zero, List.getElem_cons_succ]
            refine wpAnyL_take (i := 12) (v := ?v12_78) rfl (by kernel_rfl) (by kernel_rfl) (by kernel_rfl) (fun _ _ _ h => h) (Or.inl ⟨by rfl, ?hy12_78⟩) (by assumption) ?rest12_78
            case hy12_78 => (intro w9 hSw; clear hSw; go_simp; try with_reducible rfl)
            try simp only [Act.put, List.setIfInBounds_toArray, List.set_cons_zero, List.set_cons_succ, List.getElem_toArray, List.getElem_cons_zero, List.getElem_cons_succ]
            obtain ⟨q0, q1, q2, q3⟩ := Tbx.cells T7
            refine wpAnyL_ready (rs := [13]) (by kernel_rfl) (by simp) ?_
            refine AllReadyL.lat (by rfl) rfl (fun K hK => ?_) AllReadyL.nil
            go_simp
            clear q0 q1 q2 q3
            refine hK.out _ _ trivial (fun _ => ?_)
            clear hK K
            try simp only [Act.put, List.setIfInBounds_toArray, List.set_cons_zero, List.set_cons_succ, List.getElem_toArray, List.getElem_cons_zero, List.getElem_cons_succ]
            refine wpAnyL_done (by kernel_rfl) ?_ _
            have Ra := R.pushD hO7 hg7 ho7 R.lts
            have hle : (d ++ [(Ya : Int)]).length = d.length + 1 := by simp
            rw [hle] at Ra
            clear hle R hO7 hg7 ho7 T7 hcz7 hcz bz
            generalize wfa.setCell ⟨t, 0, none⟩ (.slice Aa (d.length + 1) ca) = wga at Ra ⊢
            have hdl2 : (d ++ [(Ya : Int)]).length = i + 1 := by rw [List.length_append, HLa.out]; rfl
            have HD2 : Hid (∀ j, j < i + 1 → fa (D (d ++ [(Ya : Int)]) j) = ma (Ls (min j (n - 2))) n j j) := Lib.hid (fun j hj => by
              rw [D_append, HLa.out]
              by_cases c : j < i
              · rw [if_pos c]; exact HDD.out j c
              · obtain rfl : j = i := by omega
                rw [if_neg c, Nat.sub_self]
                show fa (Ya : Int) = _
                have e9 := HKN.out
                rw [HEa.out, Nat.min_eq_right (by omega), ← e9]
                unfold ma
                rw [HZd.out])
            go_wp2_with fail
            go_roundw
            case rel => exact ⟨i + 1, Aa, ca, _, by omega, by omega, by go_num, Ra, hdl2, wd_snoc hdw (by omega), HD2⟩
            case measure => simp [intOf]; omega
          · obtain hie : i = n := by omega
            subst hie
            by_cases hn1 : 1 < i
            · obtain ⟨a1, ha1⟩ : ∃ a1, a1 + 1 = i := ⟨i - 1, by omega⟩
              have m1 : (i : Int) - 1 = (a1 : Int) := by omega
              have m2 : (1 : Int) < (i : Int) := by omega
              have m3 : IntKind.i64.wrap (a1 : Int) = (a1 : Int) := IntWalk.i64_in _ (by omega)
              have m4 : ¬ (i : Int) < i := by omega
              obtain ⟨y, hy⟩ : ∃ y, a1 * i = y := ⟨_, rfl⟩
              obtain ⟨s, hs9⟩ : ∃ s, y + i = s := ⟨_, rfl⟩
              obtain ⟨ze, hze⟩ : ∃ z, s - 2 = z := ⟨_, rfl⟩
              have hNe : y + i = N := by rw [← hy, HN.out, ← ha1, Nat.add_mul, Nat.one_mul]
              have ey : (a1 : Int) * (i : Int) = (y : Int) := by exact_mod_cast hy
              have es : (y : Int) + (i : Int) = (s : Int) := by omega
              have ez : (s : Int) - 2 = (ze : Int) := by omega
              have wy : IntKind.i64.wrap (y : Int) = (y : Int) := IntWalk.i64_in _ (by omega)
              have ws : IntKind.i64.wrap (s : Int) = (s : Int) := IntWalk.i64_in _ (by omega)
              have wz : IntKind.i64.wrap (ze : Int) = (ze : Int) := IntWalk.i64_in _ (by omega)
              have hzN : ze < N := by omega
              have z0e : (0 : Int) ≤ ze := by omega
              have z1e : (ze : Int) < N := by omega
              have HZe : Hid ((i - 1) * i + (i - 2) = ze) := Lib.hid (by rw [show i - 1 = a1 by omega, hy]; omega)
              have HLe := Lib.hid HK.out.el
              have hkb : k ≤ 512 := by have := HKN.out; omega
              have HLd := Lib.hid hdl
              clear hy hs9 hze hNe ha1 hdl hit hin hki
              obtain ⟨Ye, hYe⟩ : ∃ Y, (D (Ls k) ze).toNat = Y := ⟨_, rfl⟩
              obtain ⟨x1, x2⟩ := hKW.out.at_ ze
              have HYe := Lib.hid hYe
              have be : Ye ≤ 18446744073709551615 := by omega
              have HEe : Hid ((Ye : Int) = D (Ls k) ze) := Lib.hid (by rw [← hYe, Int.toNat_of_nonneg x1])
              clear hYe x1 x2
              go_wp2_with fail
              have bz := Below.refl wr.heap.size wr
              replace R := R.drew
              replace bz := bz.drew
              have hcz := (R.oa.at' (k := ze) (by rw [hKL]; omega)).1
              rw [HYe.out] at hcz
              have hb0e := R.bz.size
              refine wp_region_late [15] (S := fun w9 : World => Tbx w9 t Ad d.length cd Ae e.length ce ∧ w9.cell? ⟨g, ze, none⟩ = some (.float .f64 Ye)) (by kernel_rfl) ⟨R.tb, hcz⟩ (fun hS => ?_)
              generalize wr.drew = wde at hS R hcz hb0e bz ⊢
              refine wpAnyL_take (i := 0) (v := ?v0_79) rfl (by kernel_rfl) (by kernel_rfl) (by kernel_rfl) (fun _ _ _ h => h) (Or.inl ⟨by rfl, ?hy0_79⟩) (by assumption) ?rest0_79
              case hy0_79 => (intro w9 hSw; clear hSw; go_simp; try with_reducible rfl)
              try simp only [Act.put, List.setIfInBounds_toArray, List.set_cons_zero, List.set_cons_succ, List.getElem_toArray, List.getElem_cons_zero, List.getElem_cons_succ]
              refine wpAnyL_take (i := 1) (v := ?v1_80) rfl (by kernel_rfl) (by kernel_rfl) (by kernel_rfl) (fun _ _ _ h => h) (Or.inl ⟨by rfl, ?hy1_80⟩) (by assumption) ?rest1_80
              case hy1_80 => (intro w9 hSw; obtain ⟨ma1, ma2⟩ := hSw; obtain ⟨y0, y1, _, _⟩ := Tbx.cells ma1; go_simp; try with_reducible rfl)
              try simp only [Act.put, List.setIfInBounds_toArray, List.set_cons_zero, List.set_cons_succ, List.getElem_toArray, List.getElem_cons_zero, List.getElem_cons_succ]
              refine wpAnyL_take (i := 2) (v := ?v2_81) rfl (by kernel_rfl) (by kernel_rfl) (by kernel_rfl) (fun _ _ _ h => h) (Or.inl ⟨by rfl, ?hy2_81⟩) (by assumption) ?rest2_81
              case hy2_81 => (intro w9 hSw; clear hSw; go_simp; try with_reducible rfl)
              try simp only [Act.put, List.setIfInBounds_toArray, List.set_cons_zero, List.set_cons_succ, List.getElem_toArray, List.getElem_cons_zero, List.getElem_cons_succ]
              refine wpAnyL_take (i := 3) (v := ?v3_82) rfl (by kernel_rfl) (by kernel_rfl) (by kernel_rfl) (fun _ _ _ h => h) (Or.inl ⟨by rfl, ?hy3_82⟩) (by assumption) ?rest3_82
              case hy3_82 => (intro w9 hSw; clear hSw; go_simp; try with_reducible rfl)
              try simp only [Act.put, List.setIfInBounds_toArray, List.set_cons_zero, List.set_cons_succ, List.getElem_toArray, List.getElem_cons_zero, List.getElem_cons_succ]
              refine wpAnyL_take (i := 4) (v := ?v4_83) rfl (by kernel_rfl) (by kernel_rfl) (by kernel_rfl) (fun _ _ _ h => h) (Or.inl ⟨by rfl, ?hy4_83⟩) (by assumption) ?rest4_83
              case hy4_83 => (intro w9 hSw; clear hSw; go_simp; try with_reducible rfl)
              try simp only [Act.put, List.setIfInBounds_toArray, List.set_cons_zero, List.set_cons_succ, List.getElem_toArray, List.getElem_cons_zero, List.getElem_cons_succ]
              refine wpAnyL_take (i := 5) (v := ?v5_84) rfl (by kernel_rfl) (by kernel_rfl) (by kernel_rfl) (fun _ _ _ h => h) (Or.inl ⟨by rfl, ?hy5_84⟩) (by assumption) ?rest5_84
              case hy5_84 => (intro w9 hSw; clear hSw; go_simp; try with_reducible rfl)
              try simp only [Act.put, List.setIfInBounds_toArray, List.set_cons_zero, List.set_cons_succ, List.getElem_toArray, List.getElem_cons_zero, List.getElem_cons_succ]
              refine wpAnyL_take (i := 6) (v := ?v6_85) rfl (by kernel_rfl) (by kernel_rfl) (by kernel_rfl) (fun _ _ _ h => h) (Or.inl ⟨by rfl, ?hy6_85⟩) (by assumption) ?rest6_85
              case hy6_85 => (intro w9 hSw; clear hSw; go_simp; try with_reducible rfl)
              try simp only [Act.put, List.setIfInBounds_toArray, List.set_cons_zero, List.set_cons_succ, List.getElem_toArray, List.getElem_cons_zero, List.getElem_cons_succ]
              refine wpAnyL_take (i := 7) (v := ?v7_86) rfl (by kernel_rfl) (by kernel_rfl) (by kernel_rfl) (fun _ _ _ h => h) (Or.inl ⟨by rfl, ?hy7_86⟩) (by assumption) ?rest7_86
              case hy7_86 => (intro w9 hSw; clear hSw; go_simp; try with_reducible rfl)
              try simp only [Act.put, List.setIfInBounds_toArray, List.set_cons_zero, List.set_cons_succ, List.getElem_toArray, List.getElem_cons_zero, List.getElem_cons_succ]
              refine wpAnyL_take (i := 8) (v := ?v8_87) rfl (by kernel_rfl) (by kernel_rfl) (by kernel_rfl) (fun _ _ _ h => h) (Or.inl ⟨by rfl, ?hy8_87⟩) (by assumption) ?rest8_87
              case hy8_87 => (intro w9 hSw; clear hSw; go_simp; try with_reducible rfl)
              try simp only [Act.put, List.setIfInBounds_toArray, List.set_cons_zero, List.set_cons_succ, List.getElem_toArray, List.getElem_cons_zero, List.getElem_cons_succ]
              refine wpAnyL_take (i := 9) (v := ?v9_88) rfl (by kernel_rfl) (by kernel_rfl) (by kernel_rfl) (fun _ _ _ h => h) (Or.inl ⟨by rfl, ?hy9_88⟩) (by assumption) ?rest9_88
              case hy9_88 => (intro w9 hSw; clear hSw; go_simp; try with_reducible rfl)
              try simp only [Act.put, List.setIfInBounds_toArray, List.set_cons_zero, List.set_cons_succ, List.getElem_toArray, List.getElem_cons_zero, List.getElem_cons_succ]
              refine wpAnyL_take (i := 10) (v := ?v10_89) rfl (by kernel_rfl) (by kernel_rfl) (by kernel_rfl) (fun _ _ _ h => h) (Or.inl ⟨by rfl, ?hy10_89⟩) (by assumption) ?rest10_89
              case hy10_89 => (intro w9 hSw; clear hSw; go_simp; try with_reducible rfl)
              try simp only [Act.put, List.setIfInBounds_toArray, List.set_cons_zero, List.set_cons_succ, List.getElem_toArray, List.getElem_cons_zero, List.getElem_cons_succ]
              refine wpAnyL_take (i := 11) (v := ?v11_90) rfl (by kernel_rfl) (by kernel_rfl) (by kernel_rfl) (fun _ _ _ h => h) (Or.inl ⟨by rfl, ?hy11_90⟩) (by assumption) ?rest11_90
              case hy11_90 => (intro w9 hSw; obtain ⟨ma1, ma2⟩ := hSw; obtain ⟨y0, y1, _, _⟩ := Tbx.cells ma1; go_simp; try with_reducible rfl)
              try simp only [Act.put, List.setIfInBounds_toArray, List.set_cons_zero, List.set_cons_succ, List.getElem_toArray, List.getElem_cons_zero, List.getElem_cons_succ]
              refine wpAnyL_ready (rs := [12]) (by kernel_rfl) (by simp) ?_
              refine AllReadyL.cons rfl (fun K hK => ?_) AllReadyL.nil
              go_simp
              have hsrc : NumF (wde.alloc (.cells #[.float .f64 Ye] 39)) (wde.heap.size + 1) (some ⟨wde.heap.size, 0, none⟩) 1 [(Ye : Int)] := by
                have h9 := (RowF.one wde (Ye : Int)).nums (c := 1) (B := wde.heap.size + 1) 0 1 (by simp) (by omega) (by unfold maxLen; omega) (by omega)
                exact h9
              have hse := World.size_alloc wde (.cells #[.float .f64 Ye] 39)
              have hbA := (Below.refl _ wde).alloc (Nat.le_refl _) (.cells #[.float .f64 Ye] 39)
              replace R := R.on hbA
              clear hbA
              replace bz := bz.alloc bz.size (.cells #[.float .f64 Ye] 39)
              replace hcz := (R.oa.at' (k := ze) (by rw [hKL]; omega)).1
              rw [HYe.out] at hcz
              generalize wde.alloc (.cells #[.float .f64 Ye] 39) = wee at R bz hcz hsrc hse ⊢
              clear hS; refine hK.out _ _ ⟨R.tb, hcz⟩ (fun hS => ?_); clear hK K
              try simp only [Act.put, List.setIfInBounds_toArray, List.set_cons_zero, List.set_cons_succ, List.getElem_toArray, List.getElem_cons_zero, List.getElem_cons_succ]
              refine wpAnyL_ready (rs := [13]) (by kernel_rfl) (by simp) ?_
              refine AllReadyL.cons rfl (fun K hK => ?_) AllReadyL.nil
              refine step_appF wee rfl _ _ (by rfl) w.heap.size Ae ce e (by rfl) R.oe _ (some ⟨wde.heap.size, 0, none⟩) 1 [(Ye : Int)] (by rfl) hsrc (by have := HLe.out; simp; omega) R.bz.size ?_
              intro Ae ce wfe hO7 hg7 ho7
              have T7 := Blk.grown R.tb hg7 (own_nb R.ap.et)
              have hcz7 := ((R.oa.grown_ hg7 (fun x e9 => by injection e9 with e9; subst e9; exact own_nb R.ap.eg)).at' (k := ze) (by rw [hKL]; omega)).1
              rw [HYe.out] at hcz7
              clear hsrc
              clear hS; refine hK.out _ _ ⟨T7, hcz7⟩ (fun hS => ?_); clear hK K
              try simp only [Act.put, List.setIfInBounds_toArray, List.set_cons_zero, List.set_cons_succ, List.getElem_toArray, List.getElem_cons_zero, List.getElem_cons_succ]
              refine wpAnyL_take (i := 14) (v := ?v14_91) rfl (by kernel_rfl) (by kernel_rfl) (by kernel_rfl) (fun _ _ _ h => h) (Or.inl ⟨by rfl, ?hy14_91⟩) (by assumption) ?rest14_91
              case hy14_91 => (intro w9 hSw; clear hSw; go_simp; try with_reducible rfl)
              try simp only [Act.put, List.setIfInBounds_toArray, List.set_cons_zero, List.set_cons_succ, List.getElem_toArray, List.getElem_cons_zero, List.getElem_cons_succ]
              obtain ⟨q0, q1, q2, q3⟩ := Tbx.cells T7
              refine wpAnyL_ready (rs := [15]) (by kernel_rfl) (by simp) ?_
              refine AllReadyL.lat (by rfl) rfl (fun K hK => ?_) AllReadyL.nil
              go_simp
              clear q0 q1 q2 q3
              refine hK.out _ _ trivial (fun _ => ?_)
              clear hK K
              try simp only [Act.put, List.setIfInBounds_toArray, List.set_cons_zero, List.set_cons_succ, List.getElem_toArray, List.getElem_cons_zero, List.getElem_cons_succ]
              refine wpAnyL_done (by kernel_rfl) ?_ _
              have Re := R.pushE hO7 hg7 ho7 R.lts
              have hle : (e ++ [(Ye : Int)]).length = e.length + 1 := by simp
              rw [hle] at Re
              clear hle R hO7 hg7 ho7 T7 hcz7 hcz bz
              generalize wfe.setCell ⟨t, 1, none⟩ (.slice Ae (e.length + 1) ce) = wge at Re ⊢
              have hle : (e ++ [(Ye : Int)]).length = e.length + 1 := by simp
              have TD := Lib.hid (Td.fin HK.out HKN.out HLd.out (fun j hj => HDD.out j hj) (e2 := e ++ [(Ye : Int)]) (by rw [List.length_append, HLe.out]; show k + 1 = _; have := HKN.out; omega)
                (fun j hj => by rw [D_append, HLe.out, if_pos hj])
                (fun _ => by
                  have e9 := HKN.out
                  rw [D_append, HLe.out, if_neg (by omega), show i - 2 - k = 0 by omega]
                  show fa (Ye : Int) = _
                  rw [HEe.out, ← e9]
                  unfold ma
                  rw [e9, HZe.out]))
              obtain ⟨y0, y1, _, _⟩ := Tbx.cells Re.tb
              obtain ⟨z0, z1, z2, z3⟩ := Tbx.cells Re.zb
              go_wp2_with fail
              have RZ := Re.zb
              have x0 : (((wge.setCell ⟨w.heap.size + 1, 0, none⟩ (.slice Ad d.length cd)).setCell ⟨w.heap.size + 1, 1, none⟩ (.slice Ae (e.length + 1) ce))).cell? ⟨w.heap.size + 1, 0, none⟩ = some (.slice Ad d.length cd) := by
                have q := Blk.set_ (Blk.set_ RZ 0 (.slice Ad d.length cd)) 1 (.slice Ae (e.length + 1) ce)
                exact Blk.cell q 0 rfl
              have x1 : (((wge.setCell ⟨w.heap.size + 1, 0, none⟩ (.slice Ad d.length cd)).setCell ⟨w.heap.size + 1, 1, none⟩ (.slice Ae (e.length + 1) ce))).cell? ⟨w.heap.size + 1, 1, none⟩ = some (.slice Ae (e.length + 1) ce) := by
                have q := Blk.set_ (Blk.set_ RZ 0 (.slice Ad d.length cd)) 1 (.slice Ae (e.length + 1) ce)
                exact Blk.cell q 1 rfl
              have hgs : wge.grownBy (((wge.setCell ⟨w.heap.size + 1, 0, none⟩ (.slice Ad d.length cd)).setCell ⟨w.heap.size + 1, 1, none⟩ (.slice Ae (e.length + 1) ce))) (some (w.heap.size + 1)) := grown_setCell (grown_setCell (World.grownBy.refl wge _) 0 _) 1 _
              refine bodyPost_ret (v := .tuple #[tV Ad d.length cd Ae (e.length + 1) ce, .slice Ah k ch]) (by simp [results, Try.results12, go_sem, x0, x1]) rfl ?_
              have nz : ∀ B, NB B (w.heap.size + 1) → ∀ x, B = some x → some x.block ≠ some (w.heap.size + 1) := fun B q x hx e9 => q x hx (by injection e9)
              exact ⟨Ls, Ad, cd, d, Ae, ce, (e ++ [(Ye : Int)]), Ah, ch, hs, by rw [HK.out.hl, hle], (Re.od.grown_ hgs (nz _ Re.ap.dz)).fl hdw, (Re.oe.grown_ hgs (nz _ Re.ap.ez)).fl (wd_snoc HK.out.ew (by omega)), (Re.oh.grown_ hgs (nz _ Re.ap.hz)).rl (fun r hr => ⟨(Re.el r hr).1.farB hgs (Re.ap.rz r hr), (Re.el r hr).2⟩), TD.out, hL0, Re.bz.grown hgs Re.bz.size (fun b e9 => by injection e9 with e9; omega)⟩
            · skip
              have m2 : ¬ (1 : Int) < (i : Int) := by omega
              have m4 : ¬ (i : Int) < i := by omega
              have i1 : i = 1 := by omega
              have TD := Lib.hid (Td.fin HK.out HKN.out hdl (fun j hj => HDD.out j hj) (e2 := e) (by rw [HK.out.el, HKN.out]; omega) (fun j hj => rfl) (fun h9 => absurd h9 hn1))
              have HI1 := Lib.hid i1
              clear i1 hdl hit hin hki
              obtain ⟨y0, y1, _, _⟩ := Tbx.cells R.tb
              obtain ⟨z0, z1, z2, z3⟩ := Tbx.cells R.zb
              go_wp2_with fail
              have RZ := R.zb
              have x0 : (((wr.setCell ⟨w.heap.size + 1, 0, none⟩ (.slice Ad d.length cd)).setCell ⟨w.heap.size + 1, 1, none⟩ (.slice Ae (e.length) ce))).cell? ⟨w.heap.size + 1, 0, none⟩ = some (.slice Ad d.length cd) := by
                have q := Blk.set_ (Blk.set_ RZ 0 (.slice Ad d.length cd)) 1 (.slice Ae (e.length) ce)
                exact Blk.cell q 0 rfl
              have x1 : (((wr.setCell ⟨w.heap.size + 1, 0, none⟩ (.slice Ad d.length cd)).setCell ⟨w.heap.size + 1, 1, none⟩ (.slice Ae (e.length) ce))).cell? ⟨w.heap.size + 1, 1, none⟩ = some (.slice Ae (e.length) ce) := by
                have q := Blk.set_ (Blk.set_ RZ 0 (.slice Ad d.length cd)) 1 (.slice Ae (e.length) ce)
                exact Blk.cell q 1 rfl
              have hgs : wr.grownBy (((wr.setCell ⟨w.heap.size + 1, 0, none⟩ (.slice Ad d.length cd)).setCell ⟨w.heap.size + 1, 1, none⟩ (.slice Ae (e.length) ce))) (some (w.heap.size + 1)) := grown_setCell (grown_setCell (World.grownBy.refl wr _) 0 _) 1 _
              refine bodyPost_ret (v := .tuple #[tV Ad d.length cd Ae (e.length) ce, .slice Ah k ch]) (by simp [results, Try.results12, go_sem, x0, x1]) rfl ?_
              have nz : ∀ B, NB B (w.heap.size + 1) → ∀ x, B = some x → some x.block ≠ some (w.heap.size + 1) := fun B q x hx e9 => q x hx (by injection e9)
              exact ⟨Ls, Ad, cd, d, Ae, ce, e, Ah, ch, hs, by rw [HK.out.hl], (R.od.grown_ hgs (nz _ R.ap.dz)).fl hdw, (R.oe.grown_ hgs (nz _ R.ap.ez)).fl HK.out.ew, (R.oh.grown_ hgs (nz _ R.ap.hz)).rl (fun r hr => ⟨(R.el r hr).1.farB hgs (R.ap.rz r hr), (R.el r hr).2⟩), TD.out, hL0, R.bz.grown hgs R.bz.size (fun b e9 => by injection e9 with e9; omega)⟩
end Go.Proofs.Ytaemkjcmjgefeaa
