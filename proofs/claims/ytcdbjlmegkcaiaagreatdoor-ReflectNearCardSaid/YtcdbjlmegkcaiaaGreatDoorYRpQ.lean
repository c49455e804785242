/-
  Layer 9: the law of nearness: its walk. (Written by wip/tools/gen_rpq.py.)
-/
import Derived.Test.YtcdbjlmegkcaiaaGreatDoorYRpN
import Derived.Test.YtcdbjlmegkcaiaaGreatDoorYRpO
import Derived.Test.YtcdbjlmegkcaiaaGreatDoorYRfD
import Derived.Test.YtcdbjlmegkcaiaaGreatDoorYRfH
import Derived.Test.YtcdbjlmegkcaiaaGreatDoorYRfM
import Derived.Test.YtcdbjlmegkcaiaaGreatDoorYDyR
import Derived.Test.YtcdbjlmegkcaiaaGreatDoorYDyG
namespace Go.Proofs.YtcdbjlmegkcaiaaGreatDoor
open Go Go.RowKit Go.Sort Go.Bw
set_option linter.unusedVariables false
set_option linter.unusedSimpArgs false

attribute [local go_sem] run_store_float
abbrev RTrue (w : World) (e : Ending) (w' : World) : Prop := e = .returned (.bool true) ∧ Below w.heap.size w w'

set_option maxRecDepth 100000 in
theorem lShift {w : World} {b : Bool} {A : Option Addr} {c n : Nat} {x : Int} {l : List Int} (n1 : 1 ≤ n) (n16 : n ≤ 16) (h : Lv w A l.length c l) (hd : Dn b l x (nf (64 * n * 64 * n : Int) 0)) (hT : Tab w) :
    Calls Tryz.prog 12 #[dyV b A l.length c x, .int .i64 (-106)] w (DyK (bN n) 0 w) := by
  have i := (nfK_in n1 n16).1
  have s := hd.short h.lim i (by decide) (by decide)
  have := dShift_yes (b := b) (x := x) h (by omega) hT (hd.okE i (by decide) (by decide)) (-106) (by decide) (by decide)
  rw [hd.is h.lim, (bN_is n1 n16).1] at this
  exact this
theorem kk_bd {k : Nat} (h : k ≤ 16) : 0 ≤ 64 * (k : Int) * 64 * k ∧ 64 * (k : Int) * 64 * k ≤ 1048576 := by
  rcases k with _ | _ | _ | _ | _ | _ | _ | _ | _ | _ | _ | _ | _ | _ | _ | _ | _ | k <;> first | omega | exact ⟨by decide, by decide⟩
theorem tame_of {x : List Int} {n : Nat} (hl : x.length = n) (hw : Wd x) (h : ∀ j, j < n → r9B (GD x j).toNat = true) : Tame x n :=
  ⟨hl, hw, fun i hi => (r9B_rg (h i hi)).1, fun i hi => (r9B_rg (h i hi)).2⟩
/-- beta, tau and the reflection, in one list -/
theorem bt_num {b t k : Nat} {v z : List Int} (hz : [(b : Int), (t : Int)] ++ v = z) (hv : v.length = k) :
    z.length = k + 2 ∧ (GD z 0).toNat = b ∧ (GD z 1).toNat = t ∧ ∀ i, (GD z (2 + i)).toNat = (GD v i).toNat := by
  subst hz
  refine ⟨by simp [hv], by simp [GD], by simp [GD], fun i => ?_⟩
  rw [show 2 + i = i + 1 + 1 by omega]
  show (GD ((b : Int) :: (t : Int) :: v) (i + 1 + 1)).toNat = _
  rw [GD_cons_succ, GD_cons_succ]
theorem bt_wd {b t : Nat} {v z : List Int} (hz : [(b : Int), (t : Int)] ++ v = z) (hv : Wd v) (hb : b ≤ 18446744073709551615) (ht : t ≤ 18446744073709551615) : Wd z := by
  subst hz
  intro x hx
  simp only [List.cons_append, List.nil_append, List.mem_cons] at hx
  rcases hx with rfl | rfl | hx
  · omega
  · omega
  · exact hv x hx
theorem bt_fin {b t k : Nat} {v z : List Int} (hz : [(b : Int), (t : Int)] ++ v = z) (hv : v.length = k) (hb : finN b) (ht : finN t) (hf : ∀ i, i < k → finN (GD v i).toNat) : ∀ i, i < k + 2 → finN (GD z i).toNat := fun i hi => by
  obtain ⟨_, h0, h1, h2⟩ := bt_num hz hv
  rcases i with _ | _ | i
  · rw [h0]; exact hb
  · rw [h1]; exact ht
  · rw [show i + 1 + 1 = 2 + i by omega, h2]; exact hf i (by omega)

set_option maxRecDepth 100000 in
set_option maxHeartbeats 4000000 in
theorem near_few {x : List Int} {A : Option Addr} {n c : Nat} {w : World} (h : FL w A n c x) (hn : n < 1 ∨ 16 < n) :
    Calls Tryz.prog 3 #[.slice A n c] w (RTrue w) := by
  have hmx := h.max
  rcases Nat.lt_or_ge n 1 with c1 | c1
  · have d1 : (n : Int) < 1 := by omega
    clear hn h c1
    go_enter Tryz.func3, Tryz.ntmps3
    go_wp2_with fail
    with_reducible refine (known_any _).mono ?_
    rintro e w1 ⟨rfl, hb⟩
    go_wp2_with fail
    go_ret
    exact ⟨rfl, hb⟩
  · have d1 : ¬ (n : Int) < 1 := by omega
    have d2 : (16 : Int) < n := by omega
    clear hn h c1
    go_enter Tryz.func3, Tryz.ntmps3
    go_wp2_with fail
    with_reducible refine (known_any _).mono ?_
    rintro e w1 ⟨rfl, hb⟩
    go_wp2_with fail
    go_ret
    exact ⟨rfl, hb⟩

set_option maxRecDepth 100000 in
set_option maxHeartbeats 32000000 in
theorem near_many {x : List Int} {A : Option Addr} {n c : Nat} {w0 : World} (h : FL w0 A n c x) (n1 : 1 ≤ n) (n16 : n ≤ 16) (hT0 : Tab w0) :
    Calls Tryz.prog 3 #[.slice A n c] w0 (RTrue w0) := by
  have hmx := h.max
  have HX := Lib.hid h.2.2
  have HN := Lib.hid h.1
  have d1 : ¬ (n : Int) < 1 := by omega
  have d2 : ¬ (16 : Int) < n := by omega
  go_enter Tryz.func3, Tryz.ntmps3
  go_wp2_with fail
  go_loopw [4] (fun i wr => ∃ (k : Nat), k ≤ n ∧ i = .int .i64 k ∧ Hid (∀ j, j < k → r9B (GD x j).toNat = true) ∧ Below w0.heap.size w0 wr) (fun i _ => n - (intOf i).toNat)
  case atStart => exact ⟨0, Nat.zero_le _, rfl, Lib.hid (fun j hj => absurd hj (Nat.not_lt_zero j)), Below.refl _ _⟩
  case round =>
    obtain ⟨k, hk, rfl, HB, bz⟩ := hrel
    by_cases hlt : k < n
    · have k0 : (0 : Int) ≤ k := by omega
      have k1 : (k : Int) < n := by omega
      obtain ⟨ad, rfl, hb1, hc1⟩ := (h.on bz).at_ hlt
      have hwk := HX.out.at_ k
      obtain ⟨Y, hy⟩ : ∃ Y, (GD x k).toNat = Y := ⟨_, rfl⟩
      rw [hy] at hc1
      have yb : Y ≤ 18446744073709551615 := by omega
      have HY := Lib.hid hy
      clear hy hwk d1 d2
      have pi := fun W => in9_any yb W
      cases hr : r9B Y
      · rw [hr] at pi
        clear hr h
        go_wp2_with fail
        with_reducible refine (pi _).mono ?_
        rintro e w1 ⟨rfl, rfl⟩
        go_wp2_with fail
        with_reducible refine (known_any _).mono ?_
        rintro e w1 ⟨rfl, hb⟩
        go_wp2_with fail
        go_ret
        exact ⟨rfl, bz.trans (hb.mono bz.size)⟩
      · rw [hr] at pi
        have HR := Lib.hid hr
        clear hr h
        go_wp2_with fail
        with_reducible refine (pi _).mono ?_
        rintro e w1 ⟨rfl, rfl⟩
        go_wp2_with fail
        go_roundw
        case rel => exact ⟨k + 1, by omega, by go_num, Lib.hid (fun j hj => by
          rcases Nat.lt_or_ge j k with h9 | h9
          · exact HB.out j h9
          · obtain rfl : j = k := by omega
            rw [HY.out]; exact HR.out), bz⟩
        case measure => simp [intOf]; omega
    · obtain rfl : k = n := by omega
      have ht := tame_of HN.out HX.out HB.out
      have HTA := Lib.hid ht
      have hlN := HN.out
      clear HB hlt hk ht d1 d2
      replace h := h.on bz
      go_wp2_with fail
      with_reducible refine (gMake_any h (by omega) (by omega)).mono ?_
      rintro e w1 ⟨gv, t, b, v, rfl, RV, hgv, IV, hmt, hmb, bt, bb, hb⟩
      replace h := h.on hb
      replace bz := bz.trans (hb.mono bz.size)
      clear hb
      have FV : FL w1 (some ⟨gv, 0, none⟩) k k v := by have h9 := RV.fl IV.wd (by rw [IV.len]; unfold maxLen; omega); rw [IV.len] at h9; exact h9
      have hgl := RV.lt
      have HIV := Lib.hid IV
      have HMT := Lib.hid hmt
      have HMB := Lib.hid hmb
      clear IV hmt hmb RV hgv
      have DH := GBlk.new w1 [.slice (some ⟨gv, 0, none⟩) k k, .float .f64 t] 27
      have hbA := (Below.refl _ w1).alloc (Nat.le_refl _) (.cells #[.slice (some ⟨gv, 0, none⟩) k k, .float .f64 t] 27)
      replace h := h.on hbA
      replace FV := FV.on hbA
      replace bz := bz.trans (hbA.mono bz.size)
      have hsz1 := hbA.size
      clear hbA
      obtain ⟨y0, y1, _, _⟩ := Rbx.cells DH
      have pl : Calls Tryz.prog 7 #[mV k 1 A k c, .int .i64 0, .int .i64 0, rV (some ⟨gv, 0, none⟩) k k t] (w1.alloc (.cells #[.slice (some ⟨gv, 0, none⟩) k k, .float .f64 t] 27)) (MatP (w1.alloc (.cells #[.slice (some ⟨gv, 0, none⟩) k k, .float .f64 t] 27)) k 1 k (tg (lP (eqA (af t) (some 0)) 0 k 0 (1 - 0)) (lF x v 1 0 k (af t)) x 1)) := gLeft_yes (M := k) (q := 1) (n := k) (p := 0) (f := 0) h FV bt (by omega) (by omega) (by omega) (by omega) (by omega) (by omega) (fun a e => by injection e with e; subst e; show gv < _; rw [World.size_alloc]; omega)
      have PL := Lib.hid pl
      clear pl
      go_wp2_with fail
      with_reducible refine PL.out.mono ?_
      rintro e w2 ⟨gm, cap, L, rfl, OL, IL, hb⟩
      replace h := h.on hb
      replace FV := FV.on hb
      replace DH := DH.on hb
      replace bz := bz.trans (hb.mono bz.size)
      clear hb y0 y1 PL
      have NL := near_law HTA.out n1 n16 HIV.out HMT.out HMB.out IL
      have FM : FL w2 (some ⟨gm, 0, none⟩) k cap L := by have h9 := OL.fl IL.wd; rw [IL.len] at h9; exact h9
      have NU := near_nums NL n1 n16 HTA.out.fin (wd_nat HX.out) (wd_nat HIV.out.wd) (wd_nat IL.wd) bt bb
      have HNL := Lib.hid NL
      have HNU := Lib.hid NU
      clear OL IL NL NU
      have DA := GBlk.new w2 [.int .i64 k, .int .i64 1, .slice (some ⟨gm, 0, none⟩) k cap] 32
      have hbA := (Below.refl _ w2).alloc (Nat.le_refl _) (.cells #[.int .i64 k, .int .i64 1, .slice (some ⟨gm, 0, none⟩) k cap] 32)
      replace h := h.on hbA
      replace FV := FV.on hbA
      replace FM := FM.on hbA
      replace DH := DH.on hbA
      replace bz := bz.trans (hbA.mono bz.size)
      clear hbA
      have hzw := bz.size
      obtain ⟨y0, y1, _, _⟩ := Rbx.cells DH
      obtain ⟨z0, z1, z2, _, _, _⟩ := Mbx.cells DA
      have hkk : ((k : Int) != (k : Int)) = false := by simp
      go_wp2_with fail
      with_reducible refine (exact_any FM HNL.out.fL (by omega) (hT0.onD bz)).mono ?_
      rintro e w3 ⟨Al, cl, el, rfl, Ol, hel, Nl, hb⟩
      replace h := h.on hb
      replace FV := FV.on hb
      replace DH := DH.on hb
      replace bz := bz.trans (hb.mono bz.size)
      clear hb y0 y1 z0 z1 z2 FM DA
      obtain ⟨gl, rfl, hgl0, hgl1⟩ := Ol.form (by omega)
      have hgw : w0.heap.size ≤ gl := Nat.le_trans hzw hgl0
      go_wp2_with fail
      with_reducible refine (exact_any h HTA.out.fin (by omega) (hT0.onD bz)).mono ?_
      rintro e w4 ⟨Ax, cx, ex, rfl, Ox, hex, Nx, hb⟩
      replace FV := FV.on hb
      replace DH := DH.on hb
      replace Ol := Ol.below hb
      replace Nl := Nl.on hb
      replace bz := bz.trans (hb.mono bz.size)
      have hs4 := hb.size
      clear hb h hzw
      obtain ⟨y0, y1, _, _⟩ := Rbx.cells DH
      have OB : OwnF (w4.alloc (.cells #[.float .f64 b, .float .f64 t] 25)) w4.heap.size (some ⟨w4.heap.size, 0, none⟩) 2 [(b : Int), (t : Int)] := RowF.own (g := w4.heap.size) (l := [(b : Int), (t : Int)]) (RowF.new w4 [(b : Int), (t : Int)]) 2 (by simp) (by unfold maxLen; simp) (Nat.le_refl _)
      obtain ⟨z, hz⟩ : ∃ z, [(b : Int), (t : Int)] ++ v = z := ⟨_, rfl⟩
      have hzl := (bt_num hz HIV.out.len).1
      have HZ := Lib.hid hz
      have hvl := HIV.out.len
      obtain ⟨x0, x1, _, _⟩ := Rbx.cells (GBlk.alloc DH (.cells #[.float .f64 b, .float .f64 t] 25))
      have FV4 : NumF (w4.alloc (.cells #[.float .f64 b, .float .f64 t] 25)) (w4.alloc (.cells #[.float .f64 b, .float .f64 t] 25)).heap.size (some ⟨gv, 0, none⟩) k v := (FV.on ((Below.refl _ w4).alloc (Nat.le_refl _) (.cells #[.float .f64 b, .float .f64 t] 25))).2.1
      go_wp2_with (at_builtin; refine wpList_appF _ rfl _ _ rfl w4.heap.size (some ⟨w4.heap.size, 0, none⟩) 2 [(b : Int), (t : Int)] rfl OB _ (some ⟨gv, 0, none⟩) k v (by rw [hvl]; rfl) FV4 (by rw [hvl]; simp; omega) (by simp) ?_; intro A3 c3 w5 hO3 hg3 _; rw [hz] at hO3 ⊢)
      have hb := below_appF ((Below.refl w4.heap.size w4).alloc (Nat.le_refl _) (.cells #[.float .f64 b, .float .f64 t] 25)) OB hg3 (by simp)
      have FZ : FL w5 A3 (k + 2) c3 z := by have h9 := hO3.fl (bt_wd hz HIV.out.wd bb bt); rw [hzl] at h9; exact h9
      replace Ol := Ol.below hb
      replace Nl := Nl.on hb
      replace Ox := Ox.below hb
      replace Nx := Nx.on hb
      replace bz := bz.trans (hb.mono bz.size)
      have hs5 := hb.size
      clear hb hg3 OB FV4 hO3 x0 x1 y0 y1 DH FV hz
      with_reducible refine (exact_any FZ (bt_fin HZ.out HIV.out.len HNL.out.fb HNL.out.ft HNL.out.fv) (by omega) (hT0.onD bz)).mono ?_
      rintro e w6 ⟨Av, cv, ev, rfl, Ov, hev, Nv, hb⟩
      replace Ol := Ol.below hb
      replace Nl := Nl.on hb
      replace Ox := Ox.below hb
      replace Nx := Nx.on hb
      replace bz := bz.trans (hb.mono bz.size)
      clear hb FZ
      have zn := bt_num HZ.out HIV.out.len
      obtain ⟨gz, rfl, hgz0, hgz1⟩ := Ov.form (by omega)
      have l0 : 0 < el.length := by omega
      have v0 : 0 < ev.length := by omega
      have v1 : 1 < ev.length := by omega
      have hl0 : el[0]? = some el[0] := List.getElem?_eq_getElem l0
      have hv0 : ev[0]? = some ev[0] := List.getElem?_eq_getElem v0
      have hv1 : ev[1]? = some ev[1] := List.getElem?_eq_getElem v1
      generalize el[0] = dl at hl0
      generalize ev[0] = dv at hv0
      generalize ev[1] = dt at hv1
      obtain ⟨ml, nl⟩ := Nl 0 dl hl0
      obtain ⟨mv, nv⟩ := Nv 0 dv hv0
      obtain ⟨mt, nt⟩ := Nv 1 dt hv1
      have nl' : Dn dl.b dl.l dl.x (wL L 0) := nl
      have nv' : Dn dv.b dv.l dv.x (wN b) := by have h9 := nv; simp only [zn.2.1] at h9; exact h9
      have nt' : Dn dt.b dt.l dt.x (wN t) := by have h9 := nt; simp only [zn.2.2.1] at h9; exact h9
      have iL := wL_in (HNL.out.fL 0 (by omega))
      have iB := wN_in b (fin_cls9 HNL.out.fb)
      obtain ⟨p0, p1, p2⟩ := Ol.cell hl0
      obtain ⟨q0, q1, q2⟩ := Ov.cell hv0
      obtain ⟨r0, r1, r2⟩ := Ov.cell hv1
      simp only [Nat.zero_mul, Nat.zero_add, Nat.one_mul, Nat.reduceAdd] at p0 p1 p2 q0 q1 q2 r0 r1 r2
      have f0 := Ol.free 0
      have f1 := Ol.free 1
      have f2 := Ol.free 2
      have k0 : (0 : Int) < k := by omega
      obtain ⟨NV, hNV⟩ : ∃ NV, k + 2 = NV := ⟨_, rfl⟩
      have HNV := Lib.hid hNV
      have z2 : (2 : Int) < NV := by omega
      have z1 : (1 : Int) < NV := by omega
      have kn : 0 < k := by omega
      have zn0 : 0 < NV := by omega
      have zn1 : 1 < NV := by omega
      have zn2 : 2 ≤ NV := by omega
      have lcv := Ov.le
      have lcl := Ol.le
      rw [hev, hNV] at lcv
      rw [hel] at lcl
      rw [hNV]
      clear nl nv nt hNV zn v0 v1 l0
      go_wp2_with fail
      refine wp_region_held_drew (S := fun w9 : World => w9.cell? ⟨gz, 0, none⟩ = some (.bool dv.b) ∧ w9.cell? ⟨gz, 1, none⟩ = some (.slice dv.A dv.l.length dv.c) ∧ w9.cell? ⟨gz, 2, none⟩ = some (.int .i64 dv.x)) (by kernel_rfl) ⟨q0, q1, q2⟩ (fun hS => ?_)
      refine wpAnyH_take (i := 0) (v := ?v0_1) rfl (by kernel_rfl) (by kernel_rfl) (by kernel_rfl) (fun _ _ _ h => h) (Or.inl ⟨by rfl, ?hy0_1⟩) (by assumption) ?rest0_1
      case hy0_1 => (intro w9 hSw; clear hSw; go_simp; try with_reducible rfl)
      simp only [Act.put, List.setIfInBounds_toArray, List.set_cons_zero, List.set_cons_succ, List.getElem_toArray, List.getElem_cons_zero, List.getElem_cons_succ]
      refine wpAnyH_take (i := 1) (v := ?v1_2) rfl (by kernel_rfl) (by kernel_rfl) (by kernel_rfl) (fun _ _ _ h => h) (Or.inl ⟨by rfl, ?hy1_2⟩) (by assumption) ?rest1_2
      case hy1_2 => (intro w9 hSw; clear hSw; go_simp; try with_reducible rfl)
      simp only [Act.put, List.setIfInBounds_toArray, List.set_cons_zero, List.set_cons_succ, List.getElem_toArray, List.getElem_cons_zero, List.getElem_cons_succ]
      refine wpAnyH_take (i := 2) (v := ?v2_3) rfl (by kernel_rfl) (by kernel_rfl) (by kernel_rfl) (fun _ _ _ h => h) (Or.inl ⟨by rfl, ?hy2_3⟩) (by assumption) ?rest2_3
      case hy2_3 => (intro w9 hSw; clear hSw; go_simp; try with_reducible rfl)
      simp only [Act.put, List.setIfInBounds_toArray, List.set_cons_zero, List.set_cons_succ, List.getElem_toArray, List.getElem_cons_zero, List.getElem_cons_succ]
      refine wpAnyH_take (i := 4) (v := ?v4_4) rfl (by kernel_rfl) (by kernel_rfl) (by kernel_rfl) (fun _ _ _ h => h) (Or.inl ⟨by rfl, ?hy4_4⟩) (by assumption) ?rest4_4
      case hy4_4 => (intro w9 hSw; clear hSw; go_simp; try with_reducible rfl)
      simp only [Act.put, List.setIfInBounds_toArray, List.set_cons_zero, List.set_cons_succ, List.getElem_toArray, List.getElem_cons_zero, List.getElem_cons_succ]
      refine wpAnyH_take (i := 5) (v := ?v5_5) rfl (by kernel_rfl) (by kernel_rfl) (by kernel_rfl) (fun _ _ _ h => h) (Or.inl ⟨by rfl, ?hy5_5⟩) (by assumption) ?rest5_5
      case hy5_5 => (intro w9 hSw; clear hSw; go_simp; try with_reducible rfl)
      simp only [Act.put, List.setIfInBounds_toArray, List.set_cons_zero, List.set_cons_succ, List.getElem_toArray, List.getElem_cons_zero, List.getElem_cons_succ]
      refine wpAnyH_take (i := 6) (v := ?v6_6) rfl (by kernel_rfl) (by kernel_rfl) (by kernel_rfl) (fun _ _ _ h => h) (Or.inl ⟨by rfl, ?hy6_6⟩) (by assumption) ?rest6_6
      case hy6_6 => (intro w9 hSw; obtain ⟨s0, s1, s2⟩ := hSw; go_simp; try with_reducible rfl)
      simp only [Act.put, List.setIfInBounds_toArray, List.set_cons_zero, List.set_cons_succ, List.getElem_toArray, List.getElem_cons_zero, List.getElem_cons_succ]
      replace p0 : w6.drew.cell? ⟨gl, 0, none⟩ = _ := p0
      replace p1 : w6.drew.cell? ⟨gl, 1, none⟩ = _ := p1
      replace p2 : w6.drew.cell? ⟨gl, 2, none⟩ = _ := p2
      have hbD : Below w6.heap.size w6 w6.drew := (Below.refl _ _).drew
      refine wpAnyH_ready (rs := [3]) (by kernel_rfl) (by simp) ?_
      refine AllReadyH.cons rfl (fun K hK => ?_) AllReadyH.nil
      go_simp
      clear hS
      refine hK.out _ _ ⟨q0, q1, q2⟩ (fun hS => ?_)
      clear hK K
      try simp only [Act.put, List.setIfInBounds_toArray, List.set_cons_zero, List.set_cons_succ, List.getElem_toArray, List.getElem_cons_zero, List.getElem_cons_succ]
      refine wpAnyH_ready (rs := [7]) (by kernel_rfl) (by simp) ?_
      refine AllReadyH.cons rfl (fun K hK => ?_) AllReadyH.nil
      go_simp
      with_reducible refine (dSub_in (P := -1074) (Q := 1024) (ml.on hbD) nl' (mv.on hbD) nv' (hT0.onD (bz.trans (hbD.mono bz.size))) iL iB (by decide) (by decide) (by decide) (by decide)).mono ?_
      rintro e w7 ⟨bd, qd, Ad, cd, xd, rfl, hdd, md, hb⟩
      replace hb := hbD.trans (hb.mono hbD.size)
      replace Ol := Ol.below hb
      replace Nl := Nl.on hb
      replace Ox := Ox.below hb
      replace Nx := Nx.on hb
      replace Ov := Ov.below hb
      replace Nv := Nv.on hb
      replace bz := bz.trans (hb.mono bz.size)
      replace mt := mt.on hb
      replace q0 := cellB q0 hb
      replace q1 := cellB q1 hb
      replace q2 := cellB q2 hb
      replace r0 := cellB r0 hb
      replace r1 := cellB r1 hb
      replace r2 := cellB r2 hb
      clear hb p0 p1 p2 f0 f1 f2 ml mv
      obtain ⟨p0, p1, p2⟩ := Ol.cell hl0
      simp only [Nat.zero_mul, Nat.zero_add] at p0 p1 p2
      have f0 := Ol.free 0
      have f1 := Ol.free 1
      have f2 := Ol.free 2
      clear hS
      refine hK.out _ _ ⟨q0, q1, q2⟩ (fun hS => ?_)
      clear hK K
      try simp only [Act.put, List.setIfInBounds_toArray, List.set_cons_zero, List.set_cons_succ, List.getElem_toArray, List.getElem_cons_zero, List.getElem_cons_succ]
      refine wpAnyH_take (i := 8) (v := ?v8_7) rfl (by kernel_rfl) (by kernel_rfl) (by kernel_rfl) (fun _ _ _ h => h) (Or.inl ⟨by rfl, ?hy8_7⟩) (by assumption) ?rest8_7
      case hy8_7 => (intro w9 hSw; clear hSw; go_simp; try with_reducible rfl)
      simp only [Act.put, List.setIfInBounds_toArray, List.set_cons_zero, List.set_cons_succ, List.getElem_toArray, List.getElem_cons_zero, List.getElem_cons_succ]
      refine wpAnyH_take (i := 9) (v := ?v9_8) rfl (by kernel_rfl) (by kernel_rfl) (by kernel_rfl) (fun _ _ _ h => h) (Or.inl ⟨by rfl, ?hy9_8⟩) (by assumption) ?rest9_8
      case hy9_8 => (intro w9 hSw; clear hSw; go_simp; try with_reducible rfl)
      simp only [Act.put, List.setIfInBounds_toArray, List.set_cons_zero, List.set_cons_succ, List.getElem_toArray, List.getElem_cons_zero, List.getElem_cons_succ]
      refine wpAnyH_take (i := 10) (v := ?v10_9) rfl (by kernel_rfl) (by kernel_rfl) (by kernel_rfl) (fun _ _ _ h => h) (Or.inl ⟨by rfl, ?hy10_9⟩) (by assumption) ?rest10_9
      case hy10_9 => (intro w9 hSw; clear hSw; go_simp; try with_reducible rfl)
      simp only [Act.put, List.setIfInBounds_toArray, List.set_cons_zero, List.set_cons_succ, List.getElem_toArray, List.getElem_cons_zero, List.getElem_cons_succ]
      refine wpAnyH_take (i := 11) (v := ?v11_10) rfl (by kernel_rfl) (by kernel_rfl) (by kernel_rfl) (fun _ _ _ h => h) (Or.inl ⟨by rfl, ?hy11_10⟩) (by assumption) ?rest11_10
      case hy11_10 => (intro w9 hSw; clear hSw; go_simp; try with_reducible rfl)
      simp only [Act.put, List.setIfInBounds_toArray, List.set_cons_zero, List.set_cons_succ, List.getElem_toArray, List.getElem_cons_zero, List.getElem_cons_succ]
      have hne : gz ≠ gl := by omega
      refine wpAnyH_ready (rs := [12]) (by kernel_rfl) (by simp) ?_
      refine AllReadyH.cons rfl (fun K hK => ?_) AllReadyH.nil
      go_simp
      clear hS
      refine hK.out _ _ ⟨(cell_oth3 hne _ _ _ q0), (cell_oth3 hne _ _ _ q1), (cell_oth3 hne _ _ _ q2)⟩ (fun hS => ?_)
      clear hK K
      try simp only [Act.put, List.setIfInBounds_toArray, List.set_cons_zero, List.set_cons_succ, List.getElem_toArray, List.getElem_cons_zero, List.getElem_cons_succ]
      refine wpAnyH_take (i := 13) (v := ?v13_11) rfl (by kernel_rfl) (by kernel_rfl) (by kernel_rfl) (fun _ _ _ h => h) (Or.inl ⟨by rfl, ?hy13_11⟩) (by assumption) ?rest13_11
      case hy13_11 => (intro w9 hSw; clear hSw; go_simp; try with_reducible rfl)
      simp only [Act.put, List.setIfInBounds_toArray, List.set_cons_zero, List.set_cons_succ, List.getElem_toArray, List.getElem_cons_zero, List.getElem_cons_succ]
      refine wpAnyH_done (by kernel_rfl) ?_ _
      have Ol2 : OwnD (((w7.setCell ⟨gl, 0, none⟩ (.bool bd)).setCell ⟨gl, 1, none⟩ (.slice Ad qd.length cd)).setCell ⟨gl, 2, none⟩ (.int .i64 xd)) _ _ _ (el.set 0 ⟨bd, Ad, cd, xd, qd⟩) := Ol.set0 ⟨bd, Ad, cd, xd, qd⟩ (by omega)
      have Nl2 := (Nl.set3 Ol hl0 (.bool bd) (.slice Ad qd.length cd) (.int .i64 xd)).set0 (e := ⟨bd, Ad, cd, xd, qd⟩) (Lv.set0 Ol hl0 md _ _ _) hdd
      have Nx2 := Nx.set3 Ol hl0 (.bool bd) (.slice Ad qd.length cd) (.int .i64 xd)
      have Nv2 := Nv.set3 Ol hl0 (.bool bd) (.slice Ad qd.length cd) (.int .i64 xd)
      have mt2 := Lv.set0 Ol hl0 mt (.bool bd) (.slice Ad qd.length cd) (.int .i64 xd)
      have Ox2 := Ox.far3 (g := gl) (by omega) (.bool bd) (.slice Ad qd.length cd) (.int .i64 xd)
      have Ov2 := Ov.far3 (g := gl) (by omega) (.bool bd) (.slice Ad qd.length cd) (.int .i64 xd)
      have bz2 := ((bz.setCell (p := ⟨gl, 0, none⟩) hgw (.bool bd)).setCell (p := ⟨gl, 1, none⟩) hgw (.slice Ad qd.length cd)).setCell (p := ⟨gl, 2, none⟩) hgw (.int .i64 xd)
      replace r0 := cell_oth3 hne (.bool bd) (.slice Ad qd.length cd) (.int .i64 xd) r0
      replace r1 := cell_oth3 hne (.bool bd) (.slice Ad qd.length cd) (.int .i64 xd) r1
      replace r2 := cell_oth3 hne (.bool bd) (.slice Ad qd.length cd) (.int .i64 xd) r2
      clear Ol Nl Ox Nx Ov Nv mt bz hS p0 p1 p2 q0 q1 q2 f0 f1 f2 hne md hbD
      generalize (((w7.setCell ⟨gl, 0, none⟩ (.bool bd)).setCell ⟨gl, 1, none⟩ (.slice Ad qd.length cd)).setCell ⟨gl, 2, none⟩ (.int .i64 xd)) = w at Ol2 Nl2 Nx2 Nv2 mt2 Ox2 Ov2 bz2 r0 r1 r2 ⊢
      have hTw : Tab w := hT0.onD bz2
      have Dl2 := LN.dl Ol2 Nl2 (by rw [List.length_set, hel]) HNU.out.il
      have Dx2 := LN.dl Ox2 Nx2 hex HNU.out.ix
      have Dv2 := LN.dl Ov2 Nv2 hev (fun i hi => (wN_in _ (fin_cls9 (bt_fin HZ.out HIV.out.len HNL.out.fb HNL.out.ft HNL.out.fv i hi))).mono (by decide) (by decide))
      have Nw := (LN.drop Nv2 2).congr (f' := wL v) (fun i hi => by show wN (GD z (2 + i)).toNat = wN (GD v i).toNat; rw [(bt_num HZ.out HIV.out.len).2.2.2])
      have pX : ∀ W, Below w.heap.size w W → Calls Tryz.prog 10 #[.slice Ax k cx, .slice Ax k cx] W (DyK (sqN (wL x) k) 0 W) := fun W hb => lDot (Dx2.on hb) (Nx2.on hb) (hTw.onD hb) (by omega) HNU.out.ix
      have pL : ∀ W, Below w.heap.size w W → Calls Tryz.prog 10 #[.slice (some ⟨gl, 0, none⟩) k cl, .slice (some ⟨gl, 0, none⟩) k cl] W (DyK (sqN (fL L b) k) 0 W) := fun W hb => lDot (Dl2.on hb) (Nl2.on hb) (hTw.onD hb) (by omega) HNU.out.il
      have pV : ∀ W c', Below w.heap.size w W → Calls Tryz.prog 10 #[.slice (some ⟨gz, 6, none⟩) (NV - 2) c', .slice (some ⟨gz, 6, none⟩) (NV - 2) c'] W (DyK (sqN (wL v) k) 0 W) := fun W c' hb => by
        have h9 : Dl w (some ⟨gz, 6, none⟩) (k + 2 - 2) c' (ev.drop 2) := Dl.drop (k := 2) Dv2 (by omega)
        rw [HNV.out] at h9
        have hnv : NV - 2 = k := by have := HNV.out; omega
        rw [hnv] at h9 ⊢
        exact lDot (h9.on hb) (Nw.on hb) (hTw.onD hb) (by omega) HNU.out.iv
      obtain ⟨iX, iB, iM, iS, j0, j1, j2, j3, j4⟩ := HNU.out.bnds n1 n16
      have iF : (sqN (fL L b) k).In (-2148) 2080 := dot_in (by omega) HNU.out.il
      have iT := HNU.out.iT
      have far := HNU.out.far
      have unit := HNU.out.unit
      unfold tN at j3 j4 unit
      clear Ol2 Nl2 Nx2 Nv2 Ox2 Ov2 Dl2 Dx2 Dv2 Nw iL hl0 hv0 hv1 hgl0 hgl1 hgz0 hgw hel hex hev hlN hdd nl' nv' hT0
      have hgz7 : gz < w.heap.size := World.block_lt_of_cell? _ _ r0
      generalize sqN (wL x) k = X at pX iX iM far
      generalize sqN (fL L b) k = FF at pL iF far
      generalize sqN (wL v) k = S at pV iS j0 j1 j2 j3 j4 unit
      generalize wN t = T at nt' iT j0 j1 j2 j3 j4 unit
      have mt := mt2
      clear mt2
      have u1 := kk_bd n16
      have bw : Below w.heap.size w w := Below.refl _ _
      go_wp2_with fail
      with_reducible refine (pX _ (by go_grown)).mono ?_
      rintro e w11 ⟨b11, q11, A11, c11, x11, rfl, hd11, m11, hb⟩
      have hs11 := hb.size
      try simp only [World.size_alloc, World.size_setCell] at hs11
      replace bw : Below w.heap.size w w11 := dy_end (by go_grown) hb
      replace mt := Lv.on mt hb
      clear hb
      replace mt := Lv.alloc mt (.cells #[.bool b11, .slice A11 q11.length c11, .int .i64 x11] 40)
      replace m11 := Lv.alloc m11 (.cells #[.bool b11, .slice A11 q11.length c11, .int .i64 x11] 40)
      have XB := Blk.new w11 [.bool b11, .slice A11 q11.length c11, .int .i64 x11] 40
      have XB_0 := Blk.cell XB 0 rfl
      have XB_1 := Blk.cell XB 1 rfl
      have XB_2 := Blk.cell XB 2 rfl
      have XB_f0 := Blk.free XB 0
      have XB_f1 := Blk.free XB 1
      have XB_f2 := Blk.free XB 2
      go_upto_region 20 with fail
      clear XB_0 XB_1 XB_2 XB_f0 XB_f1 XB_f2
      replace bw : Below w.heap.size w (w11.alloc (.cells #[.bool b11, .slice A11 q11.length c11, .int .i64 x11] 40)) := by go_grown
      have ltXB := Blk.lt XB
      generalize (w11.alloc (.cells #[.bool b11, .slice A11 q11.length c11, .int .i64 x11] 40)) = W1 at bw mt m11 XB ltXB ⊢
      have XB_0 := Blk.cell XB 0 rfl
      have XB_1 := Blk.cell XB 1 rfl
      have XB_2 := Blk.cell XB 2 rfl
      have XB_f0 := Blk.free XB 0
      have XB_f1 := Blk.free XB 1
      have XB_f2 := Blk.free XB 2
      go_wp2_with fail
      with_reducible refine (pL _ (by go_grown)).mono ?_
      rintro e w12 ⟨b12, q12, A12, c12, x12, rfl, hd12, m12, hb⟩
      clear XB_0 XB_1 XB_2 XB_f0 XB_f1 XB_f2
      have hs12 := hb.size
      try simp only [World.size_alloc, World.size_setCell] at hs12
      replace bw : Below w.heap.size w w12 := dy_end (by go_grown) hb
      replace mt := Lv.on mt hb
      replace m11 := Lv.on m11 hb
      replace XB := Blk.on XB hb
      clear hb
      have XB_0 := Blk.cell XB 0 rfl
      have XB_1 := Blk.cell XB 1 rfl
      have XB_2 := Blk.cell XB 2 rfl
      have XB_f0 := Blk.free XB 0
      have XB_f1 := Blk.free XB 1
      have XB_f2 := Blk.free XB 2
      replace mt := Lv.alloc mt (.cells #[.bool b12, .slice A12 q12.length c12, .int .i64 x12] 40)
      replace m11 := Lv.alloc m11 (.cells #[.bool b12, .slice A12 q12.length c12, .int .i64 x12] 40)
      replace m12 := Lv.alloc m12 (.cells #[.bool b12, .slice A12 q12.length c12, .int .i64 x12] 40)
      replace XB := Blk.alloc XB (.cells #[.bool b12, .slice A12 q12.length c12, .int .i64 x12] 40)
      have FB := Blk.new w12 [.bool b12, .slice A12 q12.length c12, .int .i64 x12] 40
      have XB_v0_0 := Blk.cell XB 0 rfl
      have XB_v0_1 := Blk.cell XB 1 rfl
      have XB_v0_2 := Blk.cell XB 2 rfl
      have XB_v0_f0 := Blk.free XB 0
      have XB_v0_f1 := Blk.free XB 1
      have XB_v0_f2 := Blk.free XB 2
      have FB_0 := Blk.cell FB 0 rfl
      have FB_1 := Blk.cell FB 1 rfl
      have FB_2 := Blk.cell FB 2 rfl
      have FB_f0 := Blk.free FB 0
      have FB_f1 := Blk.free FB 1
      have FB_f2 := Blk.free FB 2
      go_upto_region 21 with fail
      clear XB_0 XB_1 XB_2 XB_f0 XB_f1 XB_f2 XB_v0_0 XB_v0_1 XB_v0_2 XB_v0_f0 XB_v0_f1 XB_v0_f2
      clear FB_0 FB_1 FB_2 FB_f0 FB_f1 FB_f2
      replace bw : Below w.heap.size w (w12.alloc (.cells #[.bool b12, .slice A12 q12.length c12, .int .i64 x12] 40)) := by go_grown
      have ltXB := Blk.lt XB
      have ltFB := Blk.lt FB
      generalize (w12.alloc (.cells #[.bool b12, .slice A12 q12.length c12, .int .i64 x12] 40)) = W2 at bw mt m11 m12 XB FB ltXB ltFB ⊢
      have XB_0 := Blk.cell XB 0 rfl
      have XB_1 := Blk.cell XB 1 rfl
      have XB_2 := Blk.cell XB 2 rfl
      have XB_f0 := Blk.free XB 0
      have XB_f1 := Blk.free XB 1
      have XB_f2 := Blk.free XB 2
      have FB_0 := Blk.cell FB 0 rfl
      have FB_1 := Blk.cell FB 1 rfl
      have FB_2 := Blk.cell FB 2 rfl
      have FB_f0 := Blk.free FB 0
      have FB_f1 := Blk.free FB 1
      have FB_f2 := Blk.free FB 2
      go_wp2_with fail
      with_reducible refine (dWhole_any (64 * (k : Int) * 64 * k) (hTw.onD (by go_grown)) (by omega) (by omega)).mono ?_
      rintro e w13 ⟨b13, q13, A13, c13, x13, rfl, hd13, m13, hb⟩
      clear XB_0 XB_1 XB_2 XB_f0 XB_f1 XB_f2
      clear FB_0 FB_1 FB_2 FB_f0 FB_f1 FB_f2
      have hs13 := hb.size
      try simp only [World.size_alloc, World.size_setCell] at hs13
      replace bw : Below w.heap.size w w13 := dy_end (by go_grown) hb
      replace mt := Lv.on mt hb
      replace m11 := Lv.on m11 hb
      replace m12 := Lv.on m12 hb
      replace XB := Blk.on XB hb
      replace FB := Blk.on FB hb
      clear hb
      have XB_0 := Blk.cell XB 0 rfl
      have XB_1 := Blk.cell XB 1 rfl
      have XB_2 := Blk.cell XB 2 rfl
      have XB_f0 := Blk.free XB 0
      have XB_f1 := Blk.free XB 1
      have XB_f2 := Blk.free XB 2
      have FB_0 := Blk.cell FB 0 rfl
      have FB_1 := Blk.cell FB 1 rfl
      have FB_2 := Blk.cell FB 2 rfl
      have FB_f0 := Blk.free FB 0
      have FB_f1 := Blk.free FB 1
      have FB_f2 := Blk.free FB 2
      replace mt := Lv.alloc mt (.cells #[.bool b13, .slice A13 q13.length c13, .int .i64 x13] 40)
      replace m11 := Lv.alloc m11 (.cells #[.bool b13, .slice A13 q13.length c13, .int .i64 x13] 40)
      replace m12 := Lv.alloc m12 (.cells #[.bool b13, .slice A13 q13.length c13, .int .i64 x13] 40)
      replace m13 := Lv.alloc m13 (.cells #[.bool b13, .slice A13 q13.length c13, .int .i64 x13] 40)
      replace XB := Blk.alloc XB (.cells #[.bool b13, .slice A13 q13.length c13, .int .i64 x13] 40)
      replace FB := Blk.alloc FB (.cells #[.bool b13, .slice A13 q13.length c13, .int .i64 x13] 40)
      have BB := Blk.new w13 [.bool b13, .slice A13 q13.length c13, .int .i64 x13] 40
      have XB_v1_0 := Blk.cell XB 0 rfl
      have XB_v1_1 := Blk.cell XB 1 rfl
      have XB_v1_2 := Blk.cell XB 2 rfl
      have XB_v1_f0 := Blk.free XB 0
      have XB_v1_f1 := Blk.free XB 1
      have XB_v1_f2 := Blk.free XB 2
      have FB_v2_0 := Blk.cell FB 0 rfl
      have FB_v2_1 := Blk.cell FB 1 rfl
      have FB_v2_2 := Blk.cell FB 2 rfl
      have FB_v2_f0 := Blk.free FB 0
      have FB_v2_f1 := Blk.free FB 1
      have FB_v2_f2 := Blk.free FB 2
      have BB_0 := Blk.cell BB 0 rfl
      have BB_1 := Blk.cell BB 1 rfl
      have BB_2 := Blk.cell BB 2 rfl
      have BB_f0 := Blk.free BB 0
      have BB_f1 := Blk.free BB 1
      have BB_f2 := Blk.free BB 2
      go_upto_region 22 with fail
      clear XB_0 XB_1 XB_2 XB_f0 XB_f1 XB_f2 XB_v1_0 XB_v1_1 XB_v1_2 XB_v1_f0 XB_v1_f1 XB_v1_f2
      clear FB_0 FB_1 FB_2 FB_f0 FB_f1 FB_f2 FB_v2_0 FB_v2_1 FB_v2_2 FB_v2_f0 FB_v2_f1 FB_v2_f2
      clear BB_0 BB_1 BB_2 BB_f0 BB_f1 BB_f2
      replace bw : Below w.heap.size w (w13.alloc (.cells #[.bool b13, .slice A13 q13.length c13, .int .i64 x13] 40)) := by go_grown
      have ltXB := Blk.lt XB
      have ltFB := Blk.lt FB
      have ltBB := Blk.lt BB
      generalize (w13.alloc (.cells #[.bool b13, .slice A13 q13.length c13, .int .i64 x13] 40)) = W3 at bw mt m11 m12 m13 XB FB BB ltXB ltFB ltBB ⊢
      have XB_0 := Blk.cell XB 0 rfl
      have XB_1 := Blk.cell XB 1 rfl
      have XB_2 := Blk.cell XB 2 rfl
      have XB_f0 := Blk.free XB 0
      have XB_f1 := Blk.free XB 1
      have XB_f2 := Blk.free XB 2
      have FB_0 := Blk.cell FB 0 rfl
      have FB_1 := Blk.cell FB 1 rfl
      have FB_2 := Blk.cell FB 2 rfl
      have FB_f0 := Blk.free FB 0
      have FB_f1 := Blk.free FB 1
      have FB_f2 := Blk.free FB 2
      have BB_0 := Blk.cell BB 0 rfl
      have BB_1 := Blk.cell BB 1 rfl
      have BB_2 := Blk.cell BB 2 rfl
      have BB_f0 := Blk.free BB 0
      have BB_f1 := Blk.free BB 1
      have BB_f2 := Blk.free BB 2
      go_wp2_with fail
      with_reducible refine (lShift n1 n16 m13 hd13 (hTw.onD (by go_grown))).mono ?_
      rintro e w14 ⟨b14, q14, A14, c14, x14, rfl, hd14, m14, hb⟩
      clear XB_0 XB_1 XB_2 XB_f0 XB_f1 XB_f2
      clear FB_0 FB_1 FB_2 FB_f0 FB_f1 FB_f2
      clear BB_0 BB_1 BB_2 BB_f0 BB_f1 BB_f2
      have hs14 := hb.size
      try simp only [World.size_alloc, World.size_setCell] at hs14
      replace bw : Below w.heap.size w w14 := dy_end (by go_grown) hb
      replace mt := Lv.on mt hb
      replace m11 := Lv.on m11 hb
      replace m12 := Lv.on m12 hb
      replace m13 := Lv.on m13 hb
      replace XB := Blk.on XB hb
      replace FB := Blk.on FB hb
      replace BB := Blk.on BB hb
      clear hb
      have XB_0 := Blk.cell XB 0 rfl
      have XB_1 := Blk.cell XB 1 rfl
      have XB_2 := Blk.cell XB 2 rfl
      have XB_f0 := Blk.free XB 0
      have XB_f1 := Blk.free XB 1
      have XB_f2 := Blk.free XB 2
      have FB_0 := Blk.cell FB 0 rfl
      have FB_1 := Blk.cell FB 1 rfl
      have FB_2 := Blk.cell FB 2 rfl
      have FB_f0 := Blk.free FB 0
      have FB_f1 := Blk.free FB 1
      have FB_f2 := Blk.free FB 2
      have BB_0 := Blk.cell BB 0 rfl
      have BB_1 := Blk.cell BB 1 rfl
      have BB_2 := Blk.cell BB 2 rfl
      have BB_f0 := Blk.free BB 0
      have BB_f1 := Blk.free BB 1
      have BB_f2 := Blk.free BB 2
      replace mt := Lv.put mt BB (b14) (A14) (q14.length) (c14) (x14)
      replace m11 := Lv.put m11 BB (b14) (A14) (q14.length) (c14) (x14)
      replace m12 := Lv.put m12 BB (b14) (A14) (q14.length) (c14) (x14)
      replace m13 := Lv.put m13 BB (b14) (A14) (q14.length) (c14) (x14)
      replace m14 := Lv.put m14 BB (b14) (A14) (q14.length) (c14) (x14)
      replace XB := Blk.putO XB (g := w13.heap.size) (by omega) (.bool (b14)) (.slice (A14) (q14.length) (c14)) (.int .i64 (x14))
      replace FB := Blk.putO FB (g := w13.heap.size) (by omega) (.bool (b14)) (.slice (A14) (q14.length) (c14)) (.int .i64 (x14))
      replace BB := Dbx.put BB (b14) (A14) (q14.length) (c14) (x14)
      go_upto_region 23 with fail
      clear XB_0 XB_1 XB_2 XB_f0 XB_f1 XB_f2
      clear FB_0 FB_1 FB_2 FB_f0 FB_f1 FB_f2
      clear BB_0 BB_1 BB_2 BB_f0 BB_f1 BB_f2
      replace bw : Below w.heap.size w (((w14.setCell ⟨w13.heap.size, 0, none⟩ (.bool b14)).setCell ⟨w13.heap.size, 1, none⟩ (.slice A14 q14.length c14)).setCell ⟨w13.heap.size, 2, none⟩ (.int .i64 x14)) := by go_grown
      have ltXB := Blk.lt XB
      have ltFB := Blk.lt FB
      have ltBB := Blk.lt BB
      generalize (((w14.setCell ⟨w13.heap.size, 0, none⟩ (.bool b14)).setCell ⟨w13.heap.size, 1, none⟩ (.slice A14 q14.length c14)).setCell ⟨w13.heap.size, 2, none⟩ (.int .i64 x14)) = W4 at bw mt m11 m12 m14 XB FB BB ltXB ltFB ltBB ⊢
      have XB_0 := Blk.cell XB 0 rfl
      have XB_1 := Blk.cell XB 1 rfl
      have XB_2 := Blk.cell XB 2 rfl
      have XB_f0 := Blk.free XB 0
      have XB_f1 := Blk.free XB 1
      have XB_f2 := Blk.free XB 2
      have FB_0 := Blk.cell FB 0 rfl
      have FB_1 := Blk.cell FB 1 rfl
      have FB_2 := Blk.cell FB 2 rfl
      have FB_f0 := Blk.free FB 0
      have FB_f1 := Blk.free FB 1
      have FB_f2 := Blk.free FB 2
      have BB_0 := Blk.cell BB 0 rfl
      have BB_1 := Blk.cell BB 1 rfl
      have BB_2 := Blk.cell BB 2 rfl
      have BB_f0 := Blk.free BB 0
      have BB_f1 := Blk.free BB 1
      have BB_f2 := Blk.free BB 2
      go_wp2_with fail
      with_reducible refine (dMul_in (m14.on (by go_grown)) hd14 (m11.on (by go_grown)) hd11 (hTw.onD (by go_grown)) iB iX (by decide) (by decide) (by decide) (by decide) (by decide) (by decide) (by decide) (by decide)).mono ?_
      rintro e w15 ⟨b15, q15, A15, c15, x15, rfl, hd15, m15, hb⟩
      clear XB_0 XB_1 XB_2 XB_f0 XB_f1 XB_f2
      clear FB_0 FB_1 FB_2 FB_f0 FB_f1 FB_f2
      clear BB_0 BB_1 BB_2 BB_f0 BB_f1 BB_f2
      have hs15 := hb.size
      try simp only [World.size_alloc, World.size_setCell] at hs15
      replace bw : Below w.heap.size w w15 := dy_end (by go_grown) hb
      replace mt := Lv.on mt hb
      replace m11 := Lv.on m11 hb
      replace m12 := Lv.on m12 hb
      replace m14 := Lv.on m14 hb
      replace XB := Blk.on XB hb
      replace FB := Blk.on FB hb
      replace BB := Blk.on BB hb
      clear hb
      have XB_0 := Blk.cell XB 0 rfl
      have XB_1 := Blk.cell XB 1 rfl
      have XB_2 := Blk.cell XB 2 rfl
      have XB_f0 := Blk.free XB 0
      have XB_f1 := Blk.free XB 1
      have XB_f2 := Blk.free XB 2
      have FB_0 := Blk.cell FB 0 rfl
      have FB_1 := Blk.cell FB 1 rfl
      have FB_2 := Blk.cell FB 2 rfl
      have FB_f0 := Blk.free FB 0
      have FB_f1 := Blk.free FB 1
      have FB_f2 := Blk.free FB 2
      have BB_0 := Blk.cell BB 0 rfl
      have BB_1 := Blk.cell BB 1 rfl
      have BB_2 := Blk.cell BB 2 rfl
      have BB_f0 := Blk.free BB 0
      have BB_f1 := Blk.free BB 1
      have BB_f2 := Blk.free BB 2
      replace mt := Lv.alloc mt (.cells #[.bool b15, .slice A15 q15.length c15, .int .i64 x15] 40)
      replace m11 := Lv.alloc m11 (.cells #[.bool b15, .slice A15 q15.length c15, .int .i64 x15] 40)
      replace m12 := Lv.alloc m12 (.cells #[.bool b15, .slice A15 q15.length c15, .int .i64 x15] 40)
      replace m14 := Lv.alloc m14 (.cells #[.bool b15, .slice A15 q15.length c15, .int .i64 x15] 40)
      replace m15 := Lv.alloc m15 (.cells #[.bool b15, .slice A15 q15.length c15, .int .i64 x15] 40)
      replace XB := Blk.alloc XB (.cells #[.bool b15, .slice A15 q15.length c15, .int .i64 x15] 40)
      replace FB := Blk.alloc FB (.cells #[.bool b15, .slice A15 q15.length c15, .int .i64 x15] 40)
      replace BB := Blk.alloc BB (.cells #[.bool b15, .slice A15 q15.length c15, .int .i64 x15] 40)
      have MB := Blk.new w15 [.bool b15, .slice A15 q15.length c15, .int .i64 x15] 40
      have XB_v3_0 := Blk.cell XB 0 rfl
      have XB_v3_1 := Blk.cell XB 1 rfl
      have XB_v3_2 := Blk.cell XB 2 rfl
      have XB_v3_f0 := Blk.free XB 0
      have XB_v3_f1 := Blk.free XB 1
      have XB_v3_f2 := Blk.free XB 2
      have FB_v4_0 := Blk.cell FB 0 rfl
      have FB_v4_1 := Blk.cell FB 1 rfl
      have FB_v4_2 := Blk.cell FB 2 rfl
      have FB_v4_f0 := Blk.free FB 0
      have FB_v4_f1 := Blk.free FB 1
      have FB_v4_f2 := Blk.free FB 2
      have BB_v5_0 := Blk.cell BB 0 rfl
      have BB_v5_1 := Blk.cell BB 1 rfl
      have BB_v5_2 := Blk.cell BB 2 rfl
      have BB_v5_f0 := Blk.free BB 0
      have BB_v5_f1 := Blk.free BB 1
      have BB_v5_f2 := Blk.free BB 2
      have MB_0 := Blk.cell MB 0 rfl
      have MB_1 := Blk.cell MB 1 rfl
      have MB_2 := Blk.cell MB 2 rfl
      have MB_f0 := Blk.free MB 0
      have MB_f1 := Blk.free MB 1
      have MB_f2 := Blk.free MB 2
      go_upto_region 26 with fail
      clear XB_0 XB_1 XB_2 XB_f0 XB_f1 XB_f2 XB_v3_0 XB_v3_1 XB_v3_2 XB_v3_f0 XB_v3_f1 XB_v3_f2
      clear FB_0 FB_1 FB_2 FB_f0 FB_f1 FB_f2 FB_v4_0 FB_v4_1 FB_v4_2 FB_v4_f0 FB_v4_f1 FB_v4_f2
      clear BB_0 BB_1 BB_2 BB_f0 BB_f1 BB_f2 BB_v5_0 BB_v5_1 BB_v5_2 BB_v5_f0 BB_v5_f1 BB_v5_f2
      clear MB_0 MB_1 MB_2 MB_f0 MB_f1 MB_f2
      replace bw : Below w.heap.size w (w15.alloc (.cells #[.bool b15, .slice A15 q15.length c15, .int .i64 x15] 40)) := by go_grown
      have ltXB := Blk.lt XB
      have ltFB := Blk.lt FB
      have ltBB := Blk.lt BB
      have ltMB := Blk.lt MB
      generalize (w15.alloc (.cells #[.bool b15, .slice A15 q15.length c15, .int .i64 x15] 40)) = W5 at bw mt m11 m12 m14 m15 XB FB BB MB ltXB ltFB ltBB ltMB ⊢
      have XB_0 := Blk.cell XB 0 rfl
      have XB_1 := Blk.cell XB 1 rfl
      have XB_2 := Blk.cell XB 2 rfl
      have XB_f0 := Blk.free XB 0
      have XB_f1 := Blk.free XB 1
      have XB_f2 := Blk.free XB 2
      have FB_0 := Blk.cell FB 0 rfl
      have FB_1 := Blk.cell FB 1 rfl
      have FB_2 := Blk.cell FB 2 rfl
      have FB_f0 := Blk.free FB 0
      have FB_f1 := Blk.free FB 1
      have FB_f2 := Blk.free FB 2
      have BB_0 := Blk.cell BB 0 rfl
      have BB_1 := Blk.cell BB 1 rfl
      have BB_2 := Blk.cell BB 2 rfl
      have BB_f0 := Blk.free BB 0
      have BB_f1 := Blk.free BB 1
      have BB_f2 := Blk.free BB 2
      have MB_0 := Blk.cell MB 0 rfl
      have MB_1 := Blk.cell MB 1 rfl
      have MB_2 := Blk.cell MB 2 rfl
      have MB_f0 := Blk.free MB 0
      have MB_f1 := Blk.free MB 1
      have MB_f2 := Blk.free MB 2
      go_wp2_with fail
      with_reducible refine (lCmp (P := -2254) (Q := 2101) m12 hd12 m15 hd15 (hTw.onD (by go_grown)) (iF.mono (by decide) (by decide)) iM (by decide) (by decide) (by decide) far).mono ?_
      rintro e w16 ⟨s1, rfl, hs1, hb⟩
      clear XB_0 XB_1 XB_2 XB_f0 XB_f1 XB_f2
      clear FB_0 FB_1 FB_2 FB_f0 FB_f1 FB_f2
      clear BB_0 BB_1 BB_2 BB_f0 BB_f1 BB_f2
      clear MB_0 MB_1 MB_2 MB_f0 MB_f1 MB_f2
      have hs16 := hb.size
      try simp only [World.size_alloc, World.size_setCell] at hs16
      replace bw : Below w.heap.size w w16 := dy_end (by go_grown) hb
      replace mt := Lv.on mt hb
      replace m11 := Lv.on m11 hb
      replace m12 := Lv.on m12 hb
      replace m14 := Lv.on m14 hb
      replace m15 := Lv.on m15 hb
      replace XB := Blk.on XB hb
      replace FB := Blk.on FB hb
      replace BB := Blk.on BB hb
      replace MB := Blk.on MB hb
      clear hb
      have XB_0 := Blk.cell XB 0 rfl
      have XB_1 := Blk.cell XB 1 rfl
      have XB_2 := Blk.cell XB 2 rfl
      have XB_f0 := Blk.free XB 0
      have XB_f1 := Blk.free XB 1
      have XB_f2 := Blk.free XB 2
      have FB_0 := Blk.cell FB 0 rfl
      have FB_1 := Blk.cell FB 1 rfl
      have FB_2 := Blk.cell FB 2 rfl
      have FB_f0 := Blk.free FB 0
      have FB_f1 := Blk.free FB 1
      have FB_f2 := Blk.free FB 2
      have BB_0 := Blk.cell BB 0 rfl
      have BB_1 := Blk.cell BB 1 rfl
      have BB_2 := Blk.cell BB 2 rfl
      have BB_f0 := Blk.free BB 0
      have BB_f1 := Blk.free BB 1
      have BB_f2 := Blk.free BB 2
      have MB_0 := Blk.cell MB 0 rfl
      have MB_1 := Blk.cell MB 1 rfl
      have MB_2 := Blk.cell MB 2 rfl
      have MB_f0 := Blk.free MB 0
      have MB_f1 := Blk.free MB 1
      have MB_f2 := Blk.free MB 2
      have hs1n : ¬ (0 : Int) < s1 := by omega
      clear XB_0 XB_1 XB_2 XB_f0 XB_f1 XB_f2
      clear XB
      clear FB_0 FB_1 FB_2 FB_f0 FB_f1 FB_f2
      clear FB
      clear MB_0 MB_1 MB_2 MB_f0 MB_f1 MB_f2
      clear MB
      clear m11
      clear m12
      clear m15
      go_upto_region 29 with fail
      clear BB_0 BB_1 BB_2 BB_f0 BB_f1 BB_f2
      replace bw : Below w.heap.size w w16 := by go_grown
      have ltBB := Blk.lt BB
      generalize w16 = W29 at bw mt m14 BB ltBB ⊢
      have ra0 := cellB r0 bw
      have ra1 := cellB r1 bw
      have ra2 := cellB r2 bw
      have hcv : (2 : Int) ≤ cv := by omega
      have hcn : ¬ cv = 2 := by have := HNV.out; omega
      have zi2 : (2 : Int) ≤ NV := by omega
      have hsz29 := bw.size
      rename_i K29 hK29
      have key29 : ∀ (V29 : World) (gSB : Nat) (b17 : Bool) (A17 : Option Addr) (q17 : List Int) (c17 : Nat) (x17 : Int) (X0 X1 X2 X3 X4 X5 X6 X8 X9 X10 X11 X12 X13 X15 X16 X17 X18 X20 X21 X22 X24 X25 X26 X27 X28 X29 X30 X31 X32 X33 X34 X35 X36 X37 X38 X39 X40 X41 X42 X43 X44 X45 X46 X47 X48 X49 X50 X51 X52 X53 X54 X55 X56 X57 X58 X59 X60 X61 X62 X63 X64 X65 X66 X67 X68 X69 X70 X71 X72 X73 X74 X75 X76 X77 X78 X79 X80 X81 X82 X83 X84 X85 X86 X87 X88 X89 X90 X91 X92 X93 X94 X95 X96 X97 X98 X99 X100 X101 X102 X103 X104 X105 X106 X107 X108 X109 X110 X111 X112 X113 X114 X115 X116 X117 X118 X119 X120 X121 X122 X123 X124 X125 X126 X127 X128 X129 X130 X131 X132 X133 X134 X135 X136 X137 X138 X139 X140 X141 X142 X143 X144 X145 X146 X147 X148 X149 X150 X151 X152 X153 X154 X155 X156 X157 X158 X159 X160 X161 X162 X163 X164 X165 X166 X167 X168 X169 X170 X171 X172 X173 X174 X175 X176 X177 X178 X179 X180 X181 X182 X183 X184 X185 X186 X187 X188 X189 X190 X191 X192 X193 X194 X195 X196 X197 X198 X199 X200 X201 X202 X203 X204 X205 X206 X207 X208 X209 X210 X211 X212 X213 X214 X215 X216 X217 X218 X219 X220 X221 X222 X223 X224 X225 X226 X227 X228 X229 X230 X231 X232 X233 X234 X235 X236 X237 X238 X239 X240 X241 X242 X243 X244 X245 X246 X247 X248 X249 X250 X251 X252 X253 X254 X255 : Value), Below w.heap.size w V29 → Lv V29 dt.A dt.l.length dt.c dt.l → Lv V29 A14 q14.length c14 q14 → Blk V29 w13.heap.size [.bool b14, .slice A14 q14.length c14, .int .i64 x14] → Blk V29 gSB [.bool b17, .slice A17 q17.length c17, .int .i64 x17] → Lv V29 A17 q17.length c17 q17 → Dn b17 q17 x17 (S) → W29.heap.size ≤ gSB → K29 { tmps := #[X0, X1, X2, X3, X4, X5, X6, .int .i64 0, X8, X9, X10, X11, X12, X13, .slice (some ⟨gz, 0, none⟩) NV cv, X15, X16, X17, X18, .pointer (some ⟨w13.heap.size, 0, none⟩), X20, X21, X22, .pointer (some ⟨gSB, 0, none⟩), X24, X25, X26, X27, X28, X29, X30, X31, X32, X33, X34, X35, X36, X37, X38, X39, X40, X41, X42, X43, X44, X45, X46, X47, X48, X49, X50, X51, X52, X53, X54, X55, X56, X57, X58, X59, X60, X61, X62, X63, X64, X65, X66, X67, X68, X69, X70, X71, X72, X73, X74, X75, X76, X77, X78, X79, X80, X81, X82, X83, X84, X85, X86, X87, X88, X89, X90, X91, X92, X93, X94, X95, X96, X97, X98, X99, X100, X101, X102, X103, X104, X105, X106, X107, X108, X109, X110, X111, X112, X113, X114, X115, X116, X117, X118, X119, X120, X121, X122, X123, X124, X125, X126, X127, X128, X129, X130, X131, X132, X133, X134, X135, X136, X137, X138, X139, X140, X141, X142, X143, X144, X145, X146, X147, X148, X149, X150, X151, X152, X153, X154, X155, X156, X157, X158, X159, X160, X161, X162, X163, X164, X165, X166, X167, X168, X169, X170, X171, X172, X173, X174, X175, X176, X177, X178, X179, X180, X181, X182, X183, X184, X185, X186, X187, X188, X189, X190, X191, X192, X193, X194, X195, X196, X197, X198, X199, X200, X201, X202, X203, X204, X205, X206, X207, X208, X209, X210, X211, X212, X213, X214, X215, X216, X217, X218, X219, X220, X221, X222, X223, X224, X225, X226, X227, X228, X229, X230, X231, X232, X233, X234, X235, X236, X237, X238, X239, X240, X241, X242, X243, X244, X245, X246, X247, X248, X249, X250, X251, X252, X253, X254, X255], defers := [] } V29 := by
        intro V29 gSB b17 A17 q17 c17 x17 X0 X1 X2 X3 X4 X5 X6 X8 X9 X10 X11 X12 X13 X15 X16 X17 X18 X20 X21 X22 X24 X25 X26 X27 X28 X29 X30 X31 X32 X33 X34 X35 X36 X37 X38 X39 X40 X41 X42 X43 X44 X45 X46 X47 X48 X49 X50 X51 X52 X53 X54 X55 X56 X57 X58 X59 X60 X61 X62 X63 X64 X65 X66 X67 X68 X69 X70 X71 X72 X73 X74 X75 X76 X77 X78 X79 X80 X81 X82 X83 X84 X85 X86 X87 X88 X89 X90 X91 X92 X93 X94 X95 X96 X97 X98 X99 X100 X101 X102 X103 X104 X105 X106 X107 X108 X109 X110 X111 X112 X113 X114 X115 X116 X117 X118 X119 X120 X121 X122 X123 X124 X125 X126 X127 X128 X129 X130 X131 X132 X133 X134 X135 X136 X137 X138 X139 X140 X141 X142 X143 X144 X145 X146 X147 X148 X149 X150 X151 X152 X153 X154 X155 X156 X157 X158 X159 X160 X161 X162 X163 X164 X165 X166 X167 X168 X169 X170 X171 X172 X173 X174 X175 X176 X177 X178 X179 X180 X181 X182 X183 X184 X185 X186 X187 X188 X189 X190 X191 X192 X193 X194 X195 X196 X197 X198 X199 X200 X201 X202 X203 X204 X205 X206 X207 X208 X209 X210 X211 X212 X213 X214 X215 X216 X217 X218 X219 X220 X221 X222 X223 X224 X225 X226 X227 X228 X229 X230 X231 X232 X233 X234 X235 X236 X237 X238 X239 X240 X241 X242 X243 X244 X245 X246 X247 X248 X249 X250 X251 X252 X253 X254 X255 bw mt m14 BB SB m17 hd17 hloSB
        have BB_0 := Blk.cell BB 0 rfl
        have BB_1 := Blk.cell BB 1 rfl
        have BB_2 := Blk.cell BB 2 rfl
        have BB_f0 := Blk.free BB 0
        have BB_f1 := Blk.free BB 1
        have BB_f2 := Blk.free BB 2
        have SB_0 := Blk.cell SB 0 rfl
        have SB_1 := Blk.cell SB 1 rfl
        have SB_2 := Blk.cell SB 2 rfl
        have SB_f0 := Blk.free SB 0
        have SB_f1 := Blk.free SB 1
        have SB_f2 := Blk.free SB 2
        go_upto_region 30 with fail
        clear BB_0 BB_1 BB_2 BB_f0 BB_f1 BB_f2
        clear SB_0 SB_1 SB_2 SB_f0 SB_f1 SB_f2
        replace bw : Below w.heap.size w V29 := by go_grown
        have ltBB := Blk.lt BB
        have ltSB := Blk.lt SB
        generalize V29 = W30 at bw mt m14 m17 BB SB ltBB ltSB ⊢
        have ra0 := cellB r0 bw
        have ra1 := cellB r1 bw
        have ra2 := cellB r2 bw
        have BB_0 := Blk.cell BB 0 rfl
        have BB_1 := Blk.cell BB 1 rfl
        have BB_2 := Blk.cell BB 2 rfl
        have BB_f0 := Blk.free BB 0
        have BB_f1 := Blk.free BB 1
        have BB_f2 := Blk.free BB 2
        have SB_0 := Blk.cell SB 0 rfl
        have SB_1 := Blk.cell SB 1 rfl
        have SB_2 := Blk.cell SB 2 rfl
        have SB_f0 := Blk.free SB 0
        have SB_f1 := Blk.free SB 1
        have SB_f2 := Blk.free SB 2
        clear BB_0 BB_1 BB_2 BB_f0 BB_f1 BB_f2
        have hsz30 := bw.size
        rename_i K30 hK30
        have key30 : ∀ (V30 : World) (gTB : Nat) (b18 : Bool) (A18 : Option Addr) (q18 : List Int) (c18 : Nat) (x18 : Int) (X0 X1 X2 X3 X4 X5 X6 X8 X10 X11 X12 X13 X15 X16 X17 X18 X20 X21 X22 X25 X26 X27 X28 X29 X30 X31 X32 X33 X34 X35 X36 X37 X38 X39 X40 X41 X42 X43 X44 X45 X46 X47 X48 X49 X50 X51 X52 X53 X54 X55 X56 X57 X58 X59 X60 X61 X62 X63 X64 X65 X66 X67 X68 X69 X70 X71 X72 X73 X74 X75 X76 X77 X78 X79 X80 X81 X82 X83 X84 X85 X86 X87 X88 X89 X90 X91 X92 X93 X94 X95 X96 X97 X98 X99 X100 X101 X102 X103 X104 X105 X106 X107 X108 X109 X110 X111 X112 X113 X114 X115 X116 X117 X118 X119 X120 X121 X122 X123 X124 X125 X126 X127 X128 X129 X130 X131 X132 X133 X134 X135 X136 X137 X138 X139 X140 X141 X142 X143 X144 X145 X146 X147 X148 X149 X150 X151 X152 X153 X154 X155 X156 X157 X158 X159 X160 X161 X162 X163 X164 X165 X166 X167 X168 X169 X170 X171 X172 X173 X174 X175 X176 X177 X178 X179 X180 X181 X182 X183 X184 X185 X186 X187 X188 X189 X190 X191 X192 X193 X194 X195 X196 X197 X198 X199 X200 X201 X202 X203 X204 X205 X206 X207 X208 X209 X210 X211 X212 X213 X214 X215 X216 X217 X218 X219 X220 X221 X222 X223 X224 X225 X226 X227 X228 X229 X230 X231 X232 X233 X234 X235 X236 X237 X238 X239 X240 X241 X242 X243 X244 X245 X246 X247 X248 X249 X250 X251 X252 X253 X254 X255 : Value), Below w.heap.size w V30 → Lv V30 dt.A dt.l.length dt.c dt.l → Lv V30 A14 q14.length c14 q14 → Lv V30 A17 q17.length c17 q17 → Blk V30 w13.heap.size [.bool b14, .slice A14 q14.length c14, .int .i64 x14] → Blk V30 gSB [.bool b17, .slice A17 q17.length c17, .int .i64 x17] → Blk V30 gTB [.bool b18, .slice A18 q18.length c18, .int .i64 x18] → Lv V30 A18 q18.length c18 q18 → Dn b18 q18 x18 (mulN T S) → W30.heap.size ≤ gTB → K30 { tmps := #[X0, X1, X2, X3, X4, X5, X6, .int .i64 0, X8, .int .i64 0, X10, X11, X12, X13, .slice (some ⟨gz, 0, none⟩) NV cv, X15, X16, X17, X18, .pointer (some ⟨w13.heap.size, 0, none⟩), X20, X21, X22, .pointer (some ⟨gSB, 0, none⟩), .pointer (some ⟨gTB, 0, none⟩), X25, X26, X27, X28, X29, X30, X31, X32, X33, X34, X35, X36, X37, X38, X39, X40, X41, X42, X43, X44, X45, X46, X47, X48, X49, X50, X51, X52, X53, X54, X55, X56, X57, X58, X59, X60, X61, X62, X63, X64, X65, X66, X67, X68, X69, X70, X71, X72, X73, X74, X75, X76, X77, X78, X79, X80, X81, X82, X83, X84, X85, X86, X87, X88, X89, X90, X91, X92, X93, X94, X95, X96, X97, X98, X99, X100, X101, X102, X103, X104, X105, X106, X107, X108, X109, X110, X111, X112, X113, X114, X115, X116, X117, X118, X119, X120, X121, X122, X123, X124, X125, X126, X127, X128, X129, X130, X131, X132, X133, X134, X135, X136, X137, X138, X139, X140, X141, X142, X143, X144, X145, X146, X147, X148, X149, X150, X151, X152, X153, X154, X155, X156, X157, X158, X159, X160, X161, X162, X163, X164, X165, X166, X167, X168, X169, X170, X171, X172, X173, X174, X175, X176, X177, X178, X179, X180, X181, X182, X183, X184, X185, X186, X187, X188, X189, X190, X191, X192, X193, X194, X195, X196, X197, X198, X199, X200, X201, X202, X203, X204, X205, X206, X207, X208, X209, X210, X211, X212, X213, X214, X215, X216, X217, X218, X219, X220, X221, X222, X223, X224, X225, X226, X227, X228, X229, X230, X231, X232, X233, X234, X235, X236, X237, X238, X239, X240, X241, X242, X243, X244, X245, X246, X247, X248, X249, X250, X251, X252, X253, X254, X255], defers := [] } V30 := by
          intro V30 gTB b18 A18 q18 c18 x18 X0 X1 X2 X3 X4 X5 X6 X8 X10 X11 X12 X13 X15 X16 X17 X18 X20 X21 X22 X25 X26 X27 X28 X29 X30 X31 X32 X33 X34 X35 X36 X37 X38 X39 X40 X41 X42 X43 X44 X45 X46 X47 X48 X49 X50 X51 X52 X53 X54 X55 X56 X57 X58 X59 X60 X61 X62 X63 X64 X65 X66 X67 X68 X69 X70 X71 X72 X73 X74 X75 X76 X77 X78 X79 X80 X81 X82 X83 X84 X85 X86 X87 X88 X89 X90 X91 X92 X93 X94 X95 X96 X97 X98 X99 X100 X101 X102 X103 X104 X105 X106 X107 X108 X109 X110 X111 X112 X113 X114 X115 X116 X117 X118 X119 X120 X121 X122 X123 X124 X125 X126 X127 X128 X129 X130 X131 X132 X133 X134 X135 X136 X137 X138 X139 X140 X141 X142 X143 X144 X145 X146 X147 X148 X149 X150 X151 X152 X153 X154 X155 X156 X157 X158 X159 X160 X161 X162 X163 X164 X165 X166 X167 X168 X169 X170 X171 X172 X173 X174 X175 X176 X177 X178 X179 X180 X181 X182 X183 X184 X185 X186 X187 X188 X189 X190 X191 X192 X193 X194 X195 X196 X197 X198 X199 X200 X201 X202 X203 X204 X205 X206 X207 X208 X209 X210 X211 X212 X213 X214 X215 X216 X217 X218 X219 X220 X221 X222 X223 X224 X225 X226 X227 X228 X229 X230 X231 X232 X233 X234 X235 X236 X237 X238 X239 X240 X241 X242 X243 X244 X245 X246 X247 X248 X249 X250 X251 X252 X253 X254 X255 bw mt m14 m17 BB SB TB m18 hd18 hloTB
          have BB_0 := Blk.cell BB 0 rfl
          have BB_1 := Blk.cell BB 1 rfl
          have BB_2 := Blk.cell BB 2 rfl
          have BB_f0 := Blk.free BB 0
          have BB_f1 := Blk.free BB 1
          have BB_f2 := Blk.free BB 2
          have SB_0 := Blk.cell SB 0 rfl
          have SB_1 := Blk.cell SB 1 rfl
          have SB_2 := Blk.cell SB 2 rfl
          have SB_f0 := Blk.free SB 0
          have SB_f1 := Blk.free SB 1
          have SB_f2 := Blk.free SB 2
          have TB_0 := Blk.cell TB 0 rfl
          have TB_1 := Blk.cell TB 1 rfl
          have TB_2 := Blk.cell TB 2 rfl
          have TB_f0 := Blk.free TB 0
          have TB_f1 := Blk.free TB 1
          have TB_f2 := Blk.free TB 2
          go_upto_region 33 with fail
          clear BB_0 BB_1 BB_2 BB_f0 BB_f1 BB_f2
          clear SB_0 SB_1 SB_2 SB_f0 SB_f1 SB_f2
          clear TB_0 TB_1 TB_2 TB_f0 TB_f1 TB_f2
          replace bw : Below w.heap.size w V30 := by go_grown
          have ltBB := Blk.lt BB
          have ltSB := Blk.lt SB
          have ltTB := Blk.lt TB
          generalize V30 = W33 at bw mt m14 m17 m18 BB SB TB ltBB ltSB ltTB ⊢
          have ra0 := cellB r0 bw
          have ra1 := cellB r1 bw
          have ra2 := cellB r2 bw
          have BB_0 := Blk.cell BB 0 rfl
          have BB_1 := Blk.cell BB 1 rfl
          have BB_2 := Blk.cell BB 2 rfl
          have BB_f0 := Blk.free BB 0
          have BB_f1 := Blk.free BB 1
          have BB_f2 := Blk.free BB 2
          have SB_0 := Blk.cell SB 0 rfl
          have SB_1 := Blk.cell SB 1 rfl
          have SB_2 := Blk.cell SB 2 rfl
          have SB_f0 := Blk.free SB 0
          have SB_f1 := Blk.free SB 1
          have SB_f2 := Blk.free SB 2
          have TB_0 := Blk.cell TB 0 rfl
          have TB_1 := Blk.cell TB 1 rfl
          have TB_2 := Blk.cell TB 2 rfl
          have TB_f0 := Blk.free TB 0
          have TB_f1 := Blk.free TB 1
          have TB_f2 := Blk.free TB 2
          have hbD : Below W33.heap.size W33 W33.drew := (Below.refl _ _).drew
          clear BB_0 BB_1 BB_2 BB_f0 BB_f1 BB_f2
          clear SB_0 SB_1 SB_2 SB_f0 SB_f1 SB_f2
          clear TB_0 TB_1 TB_2 TB_f0 TB_f1 TB_f2
          replace mt := Lv.on mt hbD
          replace m14 := Lv.on m14 hbD
          replace m17 := Lv.on m17 hbD
          replace m18 := Lv.on m18 hbD
          replace BB := Blk.on BB hbD
          replace SB := Blk.on SB hbD
          replace TB := Blk.on TB hbD
          replace bw : Below w.heap.size w W33.drew := dy_end bw hbD
          clear hbD
          have BB_0 := Blk.cell BB 0 rfl
          have BB_1 := Blk.cell BB 1 rfl
          have BB_2 := Blk.cell BB 2 rfl
          have BB_f0 := Blk.free BB 0
          have BB_f1 := Blk.free BB 1
          have BB_f2 := Blk.free BB 2
          have SB_0 := Blk.cell SB 0 rfl
          have SB_1 := Blk.cell SB 1 rfl
          have SB_2 := Blk.cell SB 2 rfl
          have SB_f0 := Blk.free SB 0
          have SB_f1 := Blk.free SB 1
          have SB_f2 := Blk.free SB 2
          have TB_0 := Blk.cell TB 0 rfl
          have TB_1 := Blk.cell TB 1 rfl
          have TB_2 := Blk.cell TB 2 rfl
          have TB_f0 := Blk.free TB 0
          have TB_f1 := Blk.free TB 1
          have TB_f2 := Blk.free TB 2
          have hsz33 := bw.size
          rename_i K33 hK33
          have key33 : ∀ (V33 : World) (b20 : Bool) (A20 : Option Addr) (q20 : List Int) (c20 : Nat) (x20 : Int) (X0 X1 X2 X3 X4 X5 X6 X8 X9 X10 X11 X12 X13 X15 X16 X17 X18 X20 X21 X22 X25 X26 X27 X28 X29 X30 X31 X32 X33 X34 X35 X36 X37 X38 X39 X40 X41 X42 X43 X44 X45 X46 X47 X48 X49 X50 X51 X52 X53 X54 X55 X56 X57 X58 X59 X60 X61 X62 X63 X64 X65 X66 X67 X68 X69 X70 X71 X72 X73 X74 X75 X76 X77 X78 X79 X80 X81 X82 X83 X84 X85 X86 X87 X88 X89 X90 X91 X92 X93 X94 X95 X96 X97 X98 X99 X100 X101 X102 X103 X104 X105 X106 X107 X108 X109 X110 X111 X112 X113 X114 X115 X116 X117 X118 X119 X120 X121 X122 X123 X124 X125 X126 X127 X128 X129 X130 X131 X132 X133 X134 X135 X136 X137 X138 X139 X140 X141 X142 X143 X144 X145 X146 X147 X148 X149 X150 X151 X152 X153 X154 X155 X156 X157 X158 X159 X160 X161 X162 X163 X164 X165 X166 X167 X168 X169 X170 X171 X172 X173 X174 X175 X176 X177 X178 X179 X180 X181 X182 X183 X184 X185 X186 X187 X188 X189 X190 X191 X192 X193 X194 X195 X196 X197 X198 X199 X200 X201 X202 X203 X204 X205 X206 X207 X208 X209 X210 X211 X212 X213 X214 X215 X216 X217 X218 X219 X220 X221 X222 X223 X224 X225 X226 X227 X228 X229 X230 X231 X232 X233 X234 X235 X236 X237 X238 X239 X240 X241 X242 X243 X244 X245 X246 X247 X248 X249 X250 X251 X252 X253 X254 X255 : Value), Below w.heap.size w V33 → Lv V33 dt.A dt.l.length dt.c dt.l → Lv V33 A14 q14.length c14 q14 → Lv V33 A17 q17.length c17 q17 → Blk V33 w13.heap.size [.bool b14, .slice A14 q14.length c14, .int .i64 x14] → Blk V33 gSB [.bool b17, .slice A17 q17.length c17, .int .i64 x17] → Blk V33 gTB [.bool b20, .slice A20 q20.length c20, .int .i64 x20] → Lv V33 A20 q20.length c20 q20 → Dn b20 q20 x20 (sumN (mulN T S) (negN (nf 2 0))) → K33 { tmps := #[X0, X1, X2, X3, X4, X5, X6, .int .i64 0, X8, X9, X10, X11, X12, X13, .slice (some ⟨gz, 0, none⟩) NV cv, X15, X16, X17, X18, .pointer (some ⟨w13.heap.size, 0, none⟩), X20, X21, X22, .pointer (some ⟨gSB, 0, none⟩), .pointer (some ⟨gTB, 0, none⟩), X25, X26, X27, X28, X29, X30, X31, X32, X33, X34, X35, X36, X37, X38, X39, X40, X41, X42, X43, X44, X45, X46, X47, X48, X49, X50, X51, X52, X53, X54, X55, X56, X57, X58, X59, X60, X61, X62, X63, X64, X65, X66, X67, X68, X69, X70, X71, X72, X73, X74, X75, X76, X77, X78, X79, X80, X81, X82, X83, X84, X85, X86, X87, X88, X89, X90, X91, X92, X93, X94, X95, X96, X97, X98, X99, X100, X101, X102, X103, X104, X105, X106, X107, X108, X109, X110, X111, X112, X113, X114, X115, X116, X117, X118, X119, X120, X121, X122, X123, X124, X125, X126, X127, X128, X129, X130, X131, X132, X133, X134, X135, X136, X137, X138, X139, X140, X141, X142, X143, X144, X145, X146, X147, X148, X149, X150, X151, X152, X153, X154, X155, X156, X157, X158, X159, X160, X161, X162, X163, X164, X165, X166, X167, X168, X169, X170, X171, X172, X173, X174, X175, X176, X177, X178, X179, X180, X181, X182, X183, X184, X185, X186, X187, X188, X189, X190, X191, X192, X193, X194, X195, X196, X197, X198, X199, X200, X201, X202, X203, X204, X205, X206, X207, X208, X209, X210, X211, X212, X213, X214, X215, X216, X217, X218, X219, X220, X221, X222, X223, X224, X225, X226, X227, X228, X229, X230, X231, X232, X233, X234, X235, X236, X237, X238, X239, X240, X241, X242, X243, X244, X245, X246, X247, X248, X249, X250, X251, X252, X253, X254, X255], defers := [] } V33 := by
            intro V33 b20 A20 q20 c20 x20 X0 X1 X2 X3 X4 X5 X6 X8 X9 X10 X11 X12 X13 X15 X16 X17 X18 X20 X21 X22 X25 X26 X27 X28 X29 X30 X31 X32 X33 X34 X35 X36 X37 X38 X39 X40 X41 X42 X43 X44 X45 X46 X47 X48 X49 X50 X51 X52 X53 X54 X55 X56 X57 X58 X59 X60 X61 X62 X63 X64 X65 X66 X67 X68 X69 X70 X71 X72 X73 X74 X75 X76 X77 X78 X79 X80 X81 X82 X83 X84 X85 X86 X87 X88 X89 X90 X91 X92 X93 X94 X95 X96 X97 X98 X99 X100 X101 X102 X103 X104 X105 X106 X107 X108 X109 X110 X111 X112 X113 X114 X115 X116 X117 X118 X119 X120 X121 X122 X123 X124 X125 X126 X127 X128 X129 X130 X131 X132 X133 X134 X135 X136 X137 X138 X139 X140 X141 X142 X143 X144 X145 X146 X147 X148 X149 X150 X151 X152 X153 X154 X155 X156 X157 X158 X159 X160 X161 X162 X163 X164 X165 X166 X167 X168 X169 X170 X171 X172 X173 X174 X175 X176 X177 X178 X179 X180 X181 X182 X183 X184 X185 X186 X187 X188 X189 X190 X191 X192 X193 X194 X195 X196 X197 X198 X199 X200 X201 X202 X203 X204 X205 X206 X207 X208 X209 X210 X211 X212 X213 X214 X215 X216 X217 X218 X219 X220 X221 X222 X223 X224 X225 X226 X227 X228 X229 X230 X231 X232 X233 X234 X235 X236 X237 X238 X239 X240 X241 X242 X243 X244 X245 X246 X247 X248 X249 X250 X251 X252 X253 X254 X255 bw mt m14 m17 BB SB TB m20 hd20
            have BB_0 := Blk.cell BB 0 rfl
            have BB_1 := Blk.cell BB 1 rfl
            have BB_2 := Blk.cell BB 2 rfl
            have BB_f0 := Blk.free BB 0
            have BB_f1 := Blk.free BB 1
            have BB_f2 := Blk.free BB 2
            have SB_0 := Blk.cell SB 0 rfl
            have SB_1 := Blk.cell SB 1 rfl
            have SB_2 := Blk.cell SB 2 rfl
            have SB_f0 := Blk.free SB 0
            have SB_f1 := Blk.free SB 1
            have SB_f2 := Blk.free SB 2
            have TB_0 := Blk.cell TB 0 rfl
            have TB_1 := Blk.cell TB 1 rfl
            have TB_2 := Blk.cell TB 2 rfl
            have TB_f0 := Blk.free TB 0
            have TB_f1 := Blk.free TB 1
            have TB_f2 := Blk.free TB 2
            go_upto_region 36 with fail
            clear BB_0 BB_1 BB_2 BB_f0 BB_f1 BB_f2
            clear SB_0 SB_1 SB_2 SB_f0 SB_f1 SB_f2
            clear TB_0 TB_1 TB_2 TB_f0 TB_f1 TB_f2
            replace bw : Below w.heap.size w V33 := by go_grown
            have ltBB := Blk.lt BB
            have ltSB := Blk.lt SB
            have ltTB := Blk.lt TB
            generalize V33 = W36 at bw mt m14 m17 m20 BB SB TB ltBB ltSB ltTB ⊢
            have ra0 := cellB r0 bw
            have ra1 := cellB r1 bw
            have ra2 := cellB r2 bw
            have hbD : Below W36.heap.size W36 W36.drew := (Below.refl _ _).drew
            replace mt := Lv.on mt hbD
            replace m14 := Lv.on m14 hbD
            replace m17 := Lv.on m17 hbD
            replace m20 := Lv.on m20 hbD
            replace BB := Blk.on BB hbD
            replace SB := Blk.on SB hbD
            replace TB := Blk.on TB hbD
            replace bw : Below w.heap.size w W36.drew := dy_end bw hbD
            clear hbD
            replace ra0 : W36.drew.cell? _ = _ := ra0
            replace ra1 : W36.drew.cell? _ = _ := ra1
            replace ra2 : W36.drew.cell? _ = _ := ra2
            have BB_0 := Blk.cell BB 0 rfl
            have BB_1 := Blk.cell BB 1 rfl
            have BB_2 := Blk.cell BB 2 rfl
            have BB_f0 := Blk.free BB 0
            have BB_f1 := Blk.free BB 1
            have BB_f2 := Blk.free BB 2
            have SB_0 := Blk.cell SB 0 rfl
            have SB_1 := Blk.cell SB 1 rfl
            have SB_2 := Blk.cell SB 2 rfl
            have SB_f0 := Blk.free SB 0
            have SB_f1 := Blk.free SB 1
            have SB_f2 := Blk.free SB 2
            have TB_0 := Blk.cell TB 0 rfl
            have TB_1 := Blk.cell TB 1 rfl
            have TB_2 := Blk.cell TB 2 rfl
            have TB_f0 := Blk.free TB 0
            have TB_f1 := Blk.free TB 1
            have TB_f2 := Blk.free TB 2
            refine wp_region_held_drew (S := fun w9 : World => w9.cell? ⟨gz, 3, none⟩ = some (.bool dt.b) ∧ w9.cell? ⟨gz, 4, none⟩ = some (.slice dt.A dt.l.length dt.c) ∧ w9.cell? ⟨gz, 5, none⟩ = some (.int .i64 dt.x)) (by kernel_rfl) ⟨ra0, ra1, ra2⟩ (fun hS => ?_)
            refine wpAnyH_take (i := 1) (v := ?v1_12) rfl (by kernel_rfl) (by kernel_rfl) (by kernel_rfl) (fun _ _ _ h => h) (Or.inl ⟨by rfl, ?hy1_12⟩) (by assumption) ?rest1_12
            case hy1_12 => (intro w9 hSw; clear hSw; go_simp; try with_reducible rfl)
            simp only [Act.put, List.setIfInBounds_toArray, List.set_cons_zero, List.set_cons_succ, List.getElem_toArray, List.getElem_cons_zero, List.getElem_cons_succ]
            refine wpAnyH_take (i := 2) (v := ?v2_13) rfl (by kernel_rfl) (by kernel_rfl) (by kernel_rfl) (fun _ _ _ h => h) (Or.inl ⟨by rfl, ?hy2_13⟩) (by assumption) ?rest2_13
            case hy2_13 => (intro w9 hSw; clear hSw; go_simp; try with_reducible rfl)
            simp only [Act.put, List.setIfInBounds_toArray, List.set_cons_zero, List.set_cons_succ, List.getElem_toArray, List.getElem_cons_zero, List.getElem_cons_succ]
            refine wpAnyH_take (i := 3) (v := ?v3_14) rfl (by kernel_rfl) (by kernel_rfl) (by kernel_rfl) (fun _ _ _ h => h) (Or.inl ⟨by rfl, ?hy3_14⟩) (by assumption) ?rest3_14
            case hy3_14 => (intro w9 hSw; obtain ⟨s0, s1, s2⟩ := hSw; go_simp; try with_reducible rfl)
            simp only [Act.put, List.setIfInBounds_toArray, List.set_cons_zero, List.set_cons_succ, List.getElem_toArray, List.getElem_cons_zero, List.getElem_cons_succ]
            refine wpAnyH_ready (rs := [0]) (by kernel_rfl) (by simp) ?_
            refine AllReadyH.cons rfl (fun K hK => ?_) AllReadyH.nil
            go_simp
            clear hS
            refine hK.out _ _ ⟨ra0, ra1, ra2⟩ (fun hS => ?_)
            clear hK K
            try simp only [Act.put, List.setIfInBounds_toArray, List.set_cons_zero, List.set_cons_succ, List.getElem_toArray, List.getElem_cons_zero, List.getElem_cons_succ]
            refine wpAnyH_ready (rs := [4]) (by kernel_rfl) (by simp) ?_
            refine AllReadyH.cons rfl (fun K hK => ?_) AllReadyH.nil
            go_simp
            with_reducible refine (dMul_in m20 hd20 mt nt' (hTw.onD bw) j1 iT (by decide) (by decide) (by decide) (by decide) (by decide) (by decide) (by decide) (by decide)).mono ?_
            rintro e w21 ⟨b21, q21, A21, c21, x21, rfl, hd21, m21, hb⟩
            clear BB_0 BB_1 BB_2 BB_f0 BB_f1 BB_f2
            clear SB_0 SB_1 SB_2 SB_f0 SB_f1 SB_f2
            clear TB_0 TB_1 TB_2 TB_f0 TB_f1 TB_f2
            have hs21 := hb.size
            try simp only [World.size_drew] at hs21
            replace bw : Below w.heap.size w w21 := dy_end bw hb
            replace mt := Lv.on mt hb
            replace m14 := Lv.on m14 hb
            replace m17 := Lv.on m17 hb
            replace m20 := Lv.on m20 hb
            replace BB := Blk.on BB hb
            replace SB := Blk.on SB hb
            replace TB := Blk.on TB hb
            replace ra0 := cellB ra0 hb
            replace ra1 := cellB ra1 hb
            replace ra2 := cellB ra2 hb
            clear hb
            clear hS
            refine hK.out _ _ ⟨ra0, ra1, ra2⟩ (fun hS => ?_)
            clear hK K
            try simp only [Act.put, List.setIfInBounds_toArray, List.set_cons_zero, List.set_cons_succ, List.getElem_toArray, List.getElem_cons_zero, List.getElem_cons_succ]
            refine wpAnyH_take (i := 5) (v := ?v5_15) rfl (by kernel_rfl) (by kernel_rfl) (by kernel_rfl) (fun _ _ _ h => h) (Or.inl ⟨by rfl, ?hy5_15⟩) (by assumption) ?rest5_15
            case hy5_15 => (intro w9 hSw; clear hSw; go_simp; try with_reducible rfl)
            simp only [Act.put, List.setIfInBounds_toArray, List.set_cons_zero, List.set_cons_succ, List.getElem_toArray, List.getElem_cons_zero, List.getElem_cons_succ]
            refine wpAnyH_take (i := 6) (v := ?v6_16) rfl (by kernel_rfl) (by kernel_rfl) (by kernel_rfl) (fun _ _ _ h => h) (Or.inl ⟨by rfl, ?hy6_16⟩) (by assumption) ?rest6_16
            case hy6_16 => (intro w9 hSw; clear hSw; go_simp; try with_reducible rfl)
            simp only [Act.put, List.setIfInBounds_toArray, List.set_cons_zero, List.set_cons_succ, List.getElem_toArray, List.getElem_cons_zero, List.getElem_cons_succ]
            refine wpAnyH_take (i := 7) (v := ?v7_17) rfl (by kernel_rfl) (by kernel_rfl) (by kernel_rfl) (fun _ _ _ h => h) (Or.inl ⟨by rfl, ?hy7_17⟩) (by assumption) ?rest7_17
            case hy7_17 => (intro w9 hSw; clear hSw; go_simp; try with_reducible rfl)
            simp only [Act.put, List.setIfInBounds_toArray, List.set_cons_zero, List.set_cons_succ, List.getElem_toArray, List.getElem_cons_zero, List.getElem_cons_succ]
            have BB_0 := Blk.cell BB 0 rfl
            have BB_1 := Blk.cell BB 1 rfl
            have BB_2 := Blk.cell BB 2 rfl
            have BB_f0 := Blk.free BB 0
            have BB_f1 := Blk.free BB 1
            have BB_f2 := Blk.free BB 2
            have SB_0 := Blk.cell SB 0 rfl
            have SB_1 := Blk.cell SB 1 rfl
            have SB_2 := Blk.cell SB 2 rfl
            have SB_f0 := Blk.free SB 0
            have SB_f1 := Blk.free SB 1
            have SB_f2 := Blk.free SB 2
            have TB_0 := Blk.cell TB 0 rfl
            have TB_1 := Blk.cell TB 1 rfl
            have TB_2 := Blk.cell TB 2 rfl
            have TB_f0 := Blk.free TB 0
            have TB_f1 := Blk.free TB 1
            have TB_f2 := Blk.free TB 2
            have hne : gz ≠ gTB := by have := bw.size; omega
            refine wpAnyH_ready (rs := [8]) (by kernel_rfl) (by simp) ?_
            refine AllReadyH.cons rfl (fun K hK => ?_) AllReadyH.nil
            go_simp
            clear hS
            refine hK.out _ _ ⟨(cell_oth3 hne _ _ _ ra0), (cell_oth3 hne _ _ _ ra1), (cell_oth3 hne _ _ _ ra2)⟩ (fun hS => ?_)
            clear hK K
            try simp only [Act.put, List.setIfInBounds_toArray, List.set_cons_zero, List.set_cons_succ, List.getElem_toArray, List.getElem_cons_zero, List.getElem_cons_succ]
            refine wpAnyH_take (i := 9) (v := ?v9_18) rfl (by kernel_rfl) (by kernel_rfl) (by kernel_rfl) (fun _ _ _ h => h) (Or.inl ⟨by rfl, ?hy9_18⟩) (by assumption) ?rest9_18
            case hy9_18 => (intro w9 hSw; clear hSw; go_simp; try with_reducible rfl)
            simp only [Act.put, List.setIfInBounds_toArray, List.set_cons_zero, List.set_cons_succ, List.getElem_toArray, List.getElem_cons_zero, List.getElem_cons_succ]
            refine wpAnyH_done (by kernel_rfl) ?_ _
            clear ra0 ra1 ra2 hne
            clear BB_0 BB_1 BB_2 BB_f0 BB_f1 BB_f2
            clear SB_0 SB_1 SB_2 SB_f0 SB_f1 SB_f2
            clear TB_0 TB_1 TB_2 TB_f0 TB_f1 TB_f2
            replace mt := Lv.put mt TB (b21) (A21) (q21.length) (c21) (x21)
            replace m14 := Lv.put m14 TB (b21) (A21) (q21.length) (c21) (x21)
            replace m17 := Lv.put m17 TB (b21) (A21) (q21.length) (c21) (x21)
            replace m21 := Lv.put m21 TB (b21) (A21) (q21.length) (c21) (x21)
            replace BB := Blk.putO BB (g := gTB) (by omega) (.bool (b21)) (.slice (A21) (q21.length) (c21)) (.int .i64 (x21))
            replace SB := Blk.putO SB (g := gTB) (by omega) (.bool (b21)) (.slice (A21) (q21.length) (c21)) (.int .i64 (x21))
            replace TB := Dbx.put TB (b21) (A21) (q21.length) (c21) (x21)
            have BB_0 := Blk.cell BB 0 rfl
            have BB_1 := Blk.cell BB 1 rfl
            have BB_2 := Blk.cell BB 2 rfl
            have BB_f0 := Blk.free BB 0
            have BB_f1 := Blk.free BB 1
            have BB_f2 := Blk.free BB 2
            have SB_0 := Blk.cell SB 0 rfl
            have SB_1 := Blk.cell SB 1 rfl
            have SB_2 := Blk.cell SB 2 rfl
            have SB_f0 := Blk.free SB 0
            have SB_f1 := Blk.free SB 1
            have SB_f2 := Blk.free SB 2
            have TB_0 := Blk.cell TB 0 rfl
            have TB_1 := Blk.cell TB 1 rfl
            have TB_2 := Blk.cell TB 2 rfl
            have TB_f0 := Blk.free TB 0
            have TB_f1 := Blk.free TB 1
            have TB_f2 := Blk.free TB 2
            go_upto_region 37 with fail
            clear BB_0 BB_1 BB_2 BB_f0 BB_f1 BB_f2
            clear SB_0 SB_1 SB_2 SB_f0 SB_f1 SB_f2
            clear TB_0 TB_1 TB_2 TB_f0 TB_f1 TB_f2
            replace bw : Below w.heap.size w (((w21.setCell ⟨gTB, 0, none⟩ (.bool b21)).setCell ⟨gTB, 1, none⟩ (.slice A21 q21.length c21)).setCell ⟨gTB, 2, none⟩ (.int .i64 x21)) := by go_grown
            have ltBB := Blk.lt BB
            have ltSB := Blk.lt SB
            have ltTB := Blk.lt TB
            generalize (((w21.setCell ⟨gTB, 0, none⟩ (.bool b21)).setCell ⟨gTB, 1, none⟩ (.slice A21 q21.length c21)).setCell ⟨gTB, 2, none⟩ (.int .i64 x21)) = W37 at bw mt m14 m17 m21 BB SB TB ltBB ltSB ltTB ⊢
            have BB_0 := Blk.cell BB 0 rfl
            have BB_1 := Blk.cell BB 1 rfl
            have BB_2 := Blk.cell BB 2 rfl
            have BB_f0 := Blk.free BB 0
            have BB_f1 := Blk.free BB 1
            have BB_f2 := Blk.free BB 2
            have SB_0 := Blk.cell SB 0 rfl
            have SB_1 := Blk.cell SB 1 rfl
            have SB_2 := Blk.cell SB 2 rfl
            have SB_f0 := Blk.free SB 0
            have SB_f1 := Blk.free SB 1
            have SB_f2 := Blk.free SB 2
            have TB_0 := Blk.cell TB 0 rfl
            have TB_1 := Blk.cell TB 1 rfl
            have TB_2 := Blk.cell TB 2 rfl
            have TB_f0 := Blk.free TB 0
            have TB_f1 := Blk.free TB 1
            have TB_f2 := Blk.free TB 2
            go_wp2_with fail
            with_reducible refine (dMul_in (m21.on (by go_grown)) hd21 (m17.on (by go_grown)) hd17 (hTw.onD (by go_grown)) j2 iS (by decide) (by decide) (by decide) (by decide) (by decide) (by decide) (by decide) (by decide)).mono ?_
            rintro e w22 ⟨b22, q22, A22, c22, x22, rfl, hd22, m22, hb⟩
            clear BB_0 BB_1 BB_2 BB_f0 BB_f1 BB_f2
            clear SB_0 SB_1 SB_2 SB_f0 SB_f1 SB_f2
            clear TB_0 TB_1 TB_2 TB_f0 TB_f1 TB_f2
            have hs22 := hb.size
            try simp only [World.size_alloc, World.size_setCell] at hs22
            replace bw : Below w.heap.size w w22 := dy_end (by go_grown) hb
            replace mt := Lv.on mt hb
            replace m14 := Lv.on m14 hb
            replace m17 := Lv.on m17 hb
            replace m21 := Lv.on m21 hb
            replace BB := Blk.on BB hb
            replace SB := Blk.on SB hb
            replace TB := Blk.on TB hb
            clear hb
            have BB_0 := Blk.cell BB 0 rfl
            have BB_1 := Blk.cell BB 1 rfl
            have BB_2 := Blk.cell BB 2 rfl
            have BB_f0 := Blk.free BB 0
            have BB_f1 := Blk.free BB 1
            have BB_f2 := Blk.free BB 2
            have SB_0 := Blk.cell SB 0 rfl
            have SB_1 := Blk.cell SB 1 rfl
            have SB_2 := Blk.cell SB 2 rfl
            have SB_f0 := Blk.free SB 0
            have SB_f1 := Blk.free SB 1
            have SB_f2 := Blk.free SB 2
            have TB_0 := Blk.cell TB 0 rfl
            have TB_1 := Blk.cell TB 1 rfl
            have TB_2 := Blk.cell TB 2 rfl
            have TB_f0 := Blk.free TB 0
            have TB_f1 := Blk.free TB 1
            have TB_f2 := Blk.free TB 2
            replace mt := Lv.put mt TB (b22) (A22) (q22.length) (c22) (x22)
            replace m14 := Lv.put m14 TB (b22) (A22) (q22.length) (c22) (x22)
            replace m17 := Lv.put m17 TB (b22) (A22) (q22.length) (c22) (x22)
            replace m21 := Lv.put m21 TB (b22) (A22) (q22.length) (c22) (x22)
            replace m22 := Lv.put m22 TB (b22) (A22) (q22.length) (c22) (x22)
            replace BB := Blk.putO BB (g := gTB) (by omega) (.bool (b22)) (.slice (A22) (q22.length) (c22)) (.int .i64 (x22))
            replace SB := Blk.putO SB (g := gTB) (by omega) (.bool (b22)) (.slice (A22) (q22.length) (c22)) (.int .i64 (x22))
            replace TB := Dbx.put TB (b22) (A22) (q22.length) (c22) (x22)
            go_upto_region 40 with fail
            clear BB_0 BB_1 BB_2 BB_f0 BB_f1 BB_f2
            clear SB_0 SB_1 SB_2 SB_f0 SB_f1 SB_f2
            clear TB_0 TB_1 TB_2 TB_f0 TB_f1 TB_f2
            replace bw : Below w.heap.size w (((w22.setCell ⟨gTB, 0, none⟩ (.bool b22)).setCell ⟨gTB, 1, none⟩ (.slice A22 q22.length c22)).setCell ⟨gTB, 2, none⟩ (.int .i64 x22)) := by go_grown
            have ltBB := Blk.lt BB
            have ltSB := Blk.lt SB
            have ltTB := Blk.lt TB
            generalize (((w22.setCell ⟨gTB, 0, none⟩ (.bool b22)).setCell ⟨gTB, 1, none⟩ (.slice A22 q22.length c22)).setCell ⟨gTB, 2, none⟩ (.int .i64 x22)) = W40 at bw mt m14 m17 m22 BB SB TB ltBB ltSB ltTB ⊢
            have BB_0 := Blk.cell BB 0 rfl
            have BB_1 := Blk.cell BB 1 rfl
            have BB_2 := Blk.cell BB 2 rfl
            have BB_f0 := Blk.free BB 0
            have BB_f1 := Blk.free BB 1
            have BB_f2 := Blk.free BB 2
            have SB_0 := Blk.cell SB 0 rfl
            have SB_1 := Blk.cell SB 1 rfl
            have SB_2 := Blk.cell SB 2 rfl
            have SB_f0 := Blk.free SB 0
            have SB_f1 := Blk.free SB 1
            have SB_f2 := Blk.free SB 2
            have TB_0 := Blk.cell TB 0 rfl
            have TB_1 := Blk.cell TB 1 rfl
            have TB_2 := Blk.cell TB 2 rfl
            have TB_f0 := Blk.free TB 0
            have TB_f1 := Blk.free TB 1
            have TB_f2 := Blk.free TB 2
            go_wp2_with fail
            with_reducible refine (dMul_in (m22.on (by go_grown)) hd22 (m22.on (by go_grown)) hd22 (hTw.onD (by go_grown)) j3 j3 (by decide) (by decide) (by decide) (by decide) (by decide) (by decide) (by decide) (by decide)).mono ?_
            rintro e w23 ⟨b23, q23, A23, c23, x23, rfl, hd23, m23, hb⟩
            clear BB_0 BB_1 BB_2 BB_f0 BB_f1 BB_f2
            clear SB_0 SB_1 SB_2 SB_f0 SB_f1 SB_f2
            clear TB_0 TB_1 TB_2 TB_f0 TB_f1 TB_f2
            have hs23 := hb.size
            try simp only [World.size_alloc, World.size_setCell] at hs23
            replace bw : Below w.heap.size w w23 := dy_end (by go_grown) hb
            replace mt := Lv.on mt hb
            replace m14 := Lv.on m14 hb
            replace m17 := Lv.on m17 hb
            replace m22 := Lv.on m22 hb
            replace BB := Blk.on BB hb
            replace SB := Blk.on SB hb
            replace TB := Blk.on TB hb
            clear hb
            have BB_0 := Blk.cell BB 0 rfl
            have BB_1 := Blk.cell BB 1 rfl
            have BB_2 := Blk.cell BB 2 rfl
            have BB_f0 := Blk.free BB 0
            have BB_f1 := Blk.free BB 1
            have BB_f2 := Blk.free BB 2
            have SB_0 := Blk.cell SB 0 rfl
            have SB_1 := Blk.cell SB 1 rfl
            have SB_2 := Blk.cell SB 2 rfl
            have SB_f0 := Blk.free SB 0
            have SB_f1 := Blk.free SB 1
            have SB_f2 := Blk.free SB 2
            have TB_0 := Blk.cell TB 0 rfl
            have TB_1 := Blk.cell TB 1 rfl
            have TB_2 := Blk.cell TB 2 rfl
            have TB_f0 := Blk.free TB 0
            have TB_f1 := Blk.free TB 1
            have TB_f2 := Blk.free TB 2
            replace mt := Lv.put mt TB (b23) (A23) (q23.length) (c23) (x23)
            replace m14 := Lv.put m14 TB (b23) (A23) (q23.length) (c23) (x23)
            replace m17 := Lv.put m17 TB (b23) (A23) (q23.length) (c23) (x23)
            replace m22 := Lv.put m22 TB (b23) (A23) (q23.length) (c23) (x23)
            replace m23 := Lv.put m23 TB (b23) (A23) (q23.length) (c23) (x23)
            replace BB := Blk.putO BB (g := gTB) (by omega) (.bool (b23)) (.slice (A23) (q23.length) (c23)) (.int .i64 (x23))
            replace SB := Blk.putO SB (g := gTB) (by omega) (.bool (b23)) (.slice (A23) (q23.length) (c23)) (.int .i64 (x23))
            replace TB := Dbx.put TB (b23) (A23) (q23.length) (c23) (x23)
            go_upto_region 43 with fail
            clear BB_0 BB_1 BB_2 BB_f0 BB_f1 BB_f2
            clear SB_0 SB_1 SB_2 SB_f0 SB_f1 SB_f2
            clear TB_0 TB_1 TB_2 TB_f0 TB_f1 TB_f2
            replace bw : Below w.heap.size w (((w23.setCell ⟨gTB, 0, none⟩ (.bool b23)).setCell ⟨gTB, 1, none⟩ (.slice A23 q23.length c23)).setCell ⟨gTB, 2, none⟩ (.int .i64 x23)) := by go_grown
            have ltBB := Blk.lt BB
            have ltSB := Blk.lt SB
            have ltTB := Blk.lt TB
            generalize (((w23.setCell ⟨gTB, 0, none⟩ (.bool b23)).setCell ⟨gTB, 1, none⟩ (.slice A23 q23.length c23)).setCell ⟨gTB, 2, none⟩ (.int .i64 x23)) = W43 at bw mt m14 m17 m23 BB SB TB ltBB ltSB ltTB ⊢
            have BB_0 := Blk.cell BB 0 rfl
            have BB_1 := Blk.cell BB 1 rfl
            have BB_2 := Blk.cell BB 2 rfl
            have BB_f0 := Blk.free BB 0
            have BB_f1 := Blk.free BB 1
            have BB_f2 := Blk.free BB 2
            have SB_0 := Blk.cell SB 0 rfl
            have SB_1 := Blk.cell SB 1 rfl
            have SB_2 := Blk.cell SB 2 rfl
            have SB_f0 := Blk.free SB 0
            have SB_f1 := Blk.free SB 1
            have SB_f2 := Blk.free SB 2
            have TB_0 := Blk.cell TB 0 rfl
            have TB_1 := Blk.cell TB 1 rfl
            have TB_2 := Blk.cell TB 2 rfl
            have TB_f0 := Blk.free TB 0
            have TB_f1 := Blk.free TB 1
            have TB_f2 := Blk.free TB 2
            go_wp2_with fail
            with_reducible refine (lCmp (P := -12888) (Q := 12418) m23 hd23 m14 hd14 (hTw.onD (by go_grown)) j4 (iB.mono (by decide) (by decide)) (by decide) (by decide) (by decide) unit).mono ?_
            rintro e w24 ⟨s2, rfl, hs2, hb⟩
            clear BB_0 BB_1 BB_2 BB_f0 BB_f1 BB_f2
            clear SB_0 SB_1 SB_2 SB_f0 SB_f1 SB_f2
            clear TB_0 TB_1 TB_2 TB_f0 TB_f1 TB_f2
            have hs24 := hb.size
            try simp only [World.size_alloc, World.size_setCell] at hs24
            replace bw : Below w.heap.size w w24 := dy_end (by go_grown) hb
            replace mt := Lv.on mt hb
            replace m14 := Lv.on m14 hb
            replace m17 := Lv.on m17 hb
            replace m23 := Lv.on m23 hb
            replace BB := Blk.on BB hb
            replace SB := Blk.on SB hb
            replace TB := Blk.on TB hb
            clear hb
            have BB_0 := Blk.cell BB 0 rfl
            have BB_1 := Blk.cell BB 1 rfl
            have BB_2 := Blk.cell BB 2 rfl
            have BB_f0 := Blk.free BB 0
            have BB_f1 := Blk.free BB 1
            have BB_f2 := Blk.free BB 2
            have SB_0 := Blk.cell SB 0 rfl
            have SB_1 := Blk.cell SB 1 rfl
            have SB_2 := Blk.cell SB 2 rfl
            have SB_f0 := Blk.free SB 0
            have SB_f1 := Blk.free SB 1
            have SB_f2 := Blk.free SB 2
            have TB_0 := Blk.cell TB 0 rfl
            have TB_1 := Blk.cell TB 1 rfl
            have TB_2 := Blk.cell TB 2 rfl
            have TB_f0 := Blk.free TB 0
            have TB_f1 := Blk.free TB 1
            have TB_f2 := Blk.free TB 2
            go_wp2_with fail
            with_reducible refine (known_any _).mono ?_
            rintro e w25 ⟨rfl, hb⟩
            clear BB_0 BB_1 BB_2 BB_f0 BB_f1 BB_f2
            clear SB_0 SB_1 SB_2 SB_f0 SB_f1 SB_f2
            clear TB_0 TB_1 TB_2 TB_f0 TB_f1 TB_f2
            have hs25 := hb.size
            try simp only [World.size_alloc, World.size_setCell] at hs25
            replace bw : Below w.heap.size w w25 := dy_end (by go_grown) hb
            replace mt := Lv.on mt hb
            replace m14 := Lv.on m14 hb
            replace m17 := Lv.on m17 hb
            replace m23 := Lv.on m23 hb
            replace BB := Blk.on BB hb
            replace SB := Blk.on SB hb
            replace TB := Blk.on TB hb
            clear hb
            have BB_0 := Blk.cell BB 0 rfl
            have BB_1 := Blk.cell BB 1 rfl
            have BB_2 := Blk.cell BB 2 rfl
            have BB_f0 := Blk.free BB 0
            have BB_f1 := Blk.free BB 1
            have BB_f2 := Blk.free BB 2
            have SB_0 := Blk.cell SB 0 rfl
            have SB_1 := Blk.cell SB 1 rfl
            have SB_2 := Blk.cell SB 2 rfl
            have SB_f0 := Blk.free SB 0
            have SB_f1 := Blk.free SB 1
            have SB_f2 := Blk.free SB 2
            have TB_0 := Blk.cell TB 0 rfl
            have TB_1 := Blk.cell TB 1 rfl
            have TB_2 := Blk.cell TB 2 rfl
            have TB_f0 := Blk.free TB 0
            have TB_f1 := Blk.free TB 1
            have TB_f2 := Blk.free TB 2
            go_wp2_with fail
            go_ret
            exact ⟨rfl, dy_end bz2 (by go_grown)⟩
          refine wp_region_held_drew (S := fun _ => True) (by kernel_rfl) trivial (fun hS => ?_)
          refine wpAnyH_ready (rs := [0, 1]) (by kernel_rfl) (by simp) ?_
          refine (AllReadyH.cons rfl (fun K hK => ?_) (AllReadyH.cons rfl (fun K hK => ?_) AllReadyH.nil))
          · go_simp
            refine hK.out _ _ trivial (fun hS => ?_)
            clear hK K
            try simp only [Act.put, List.setIfInBounds_toArray, List.set_cons_zero, List.set_cons_succ, List.getElem_toArray, List.getElem_cons_zero, List.getElem_cons_succ]
            refine wpAnyH_ready (rs := [1]) (by kernel_rfl) (by simp) ?_
            refine AllReadyH.cons rfl (fun K hK => ?_) AllReadyH.nil
            go_simp
            with_reducible refine (dWhole_any 2 (hTw.onD bw) (by decide) (by decide)).mono ?_
            rintro e w26 ⟨b26, q26, A26, c26, x26, rfl, hd26, m26, hb⟩
            clear BB_0 BB_1 BB_2 BB_f0 BB_f1 BB_f2
            clear SB_0 SB_1 SB_2 SB_f0 SB_f1 SB_f2
            clear TB_0 TB_1 TB_2 TB_f0 TB_f1 TB_f2
            have hs26 := hb.size
            try simp only [World.size_drew] at hs26
            replace bw : Below w.heap.size w w26 := dy_end bw hb
            replace mt := Lv.on mt hb
            replace m14 := Lv.on m14 hb
            replace m17 := Lv.on m17 hb
            replace m18 := Lv.on m18 hb
            replace BB := Blk.on BB hb
            replace SB := Blk.on SB hb
            replace TB := Blk.on TB hb
            clear hb
            have BB_0 := Blk.cell BB 0 rfl
            have BB_1 := Blk.cell BB 1 rfl
            have BB_2 := Blk.cell BB 2 rfl
            have BB_f0 := Blk.free BB 0
            have BB_f1 := Blk.free BB 1
            have BB_f2 := Blk.free BB 2
            have SB_0 := Blk.cell SB 0 rfl
            have SB_1 := Blk.cell SB 1 rfl
            have SB_2 := Blk.cell SB 2 rfl
            have SB_f0 := Blk.free SB 0
            have SB_f1 := Blk.free SB 1
            have SB_f2 := Blk.free SB 2
            have TB_0 := Blk.cell TB 0 rfl
            have TB_1 := Blk.cell TB 1 rfl
            have TB_2 := Blk.cell TB 2 rfl
            have TB_f0 := Blk.free TB 0
            have TB_f1 := Blk.free TB 1
            have TB_f2 := Blk.free TB 2
            refine hK.out _ _ trivial (fun hS => ?_)
            clear hK K
            try simp only [Act.put, List.setIfInBounds_toArray, List.set_cons_zero, List.set_cons_succ, List.getElem_toArray, List.getElem_cons_zero, List.getElem_cons_succ]
            refine wpAnyH_ready (rs := [2]) (by kernel_rfl) (by simp) ?_
            refine AllReadyH.cons rfl (fun K hK => ?_) AllReadyH.nil
            go_simp
            with_reducible refine (dSub_in m18 hd18 m26 hd26 (hTw.onD bw) j0 two_in9 (by decide) (by decide) (by decide) (by decide)).mono ?_
            rintro e w27 ⟨b27, q27, A27, c27, x27, rfl, hd27, m27, hb⟩
            clear BB_0 BB_1 BB_2 BB_f0 BB_f1 BB_f2
            clear SB_0 SB_1 SB_2 SB_f0 SB_f1 SB_f2
            clear TB_0 TB_1 TB_2 TB_f0 TB_f1 TB_f2
            have hs27 := hb.size
            try simp only [World.size_drew] at hs27
            replace bw : Below w.heap.size w w27 := dy_end bw hb
            replace mt := Lv.on mt hb
            replace m14 := Lv.on m14 hb
            replace m17 := Lv.on m17 hb
            replace m18 := Lv.on m18 hb
            replace m26 := Lv.on m26 hb
            replace BB := Blk.on BB hb
            replace SB := Blk.on SB hb
            replace TB := Blk.on TB hb
            clear hb
            have BB_0 := Blk.cell BB 0 rfl
            have BB_1 := Blk.cell BB 1 rfl
            have BB_2 := Blk.cell BB 2 rfl
            have BB_f0 := Blk.free BB 0
            have BB_f1 := Blk.free BB 1
            have BB_f2 := Blk.free BB 2
            have SB_0 := Blk.cell SB 0 rfl
            have SB_1 := Blk.cell SB 1 rfl
            have SB_2 := Blk.cell SB 2 rfl
            have SB_f0 := Blk.free SB 0
            have SB_f1 := Blk.free SB 1
            have SB_f2 := Blk.free SB 2
            have TB_0 := Blk.cell TB 0 rfl
            have TB_1 := Blk.cell TB 1 rfl
            have TB_2 := Blk.cell TB 2 rfl
            have TB_f0 := Blk.free TB 0
            have TB_f1 := Blk.free TB 1
            have TB_f2 := Blk.free TB 2
            refine hK.out _ _ trivial (fun hS => ?_)
            clear hK K
            try simp only [Act.put, List.setIfInBounds_toArray, List.set_cons_zero, List.set_cons_succ, List.getElem_toArray, List.getElem_cons_zero, List.getElem_cons_succ]
            refine wpAnyH_take (i := 3) (v := ?v3_19) rfl (by kernel_rfl) (by kernel_rfl) (by kernel_rfl) (fun _ _ _ h => h) (Or.inl ⟨by rfl, ?hy3_19⟩) (by assumption) ?rest3_19
            case hy3_19 => (intro w9 hSw; clear hSw; go_simp; try with_reducible rfl)
            simp only [Act.put, List.setIfInBounds_toArray, List.set_cons_zero, List.set_cons_succ, List.getElem_toArray, List.getElem_cons_zero, List.getElem_cons_succ]
            refine wpAnyH_take (i := 4) (v := ?v4_20) rfl (by kernel_rfl) (by kernel_rfl) (by kernel_rfl) (fun _ _ _ h => h) (Or.inl ⟨by rfl, ?hy4_20⟩) (by assumption) ?rest4_20
            case hy4_20 => (intro w9 hSw; clear hSw; go_simp; try with_reducible rfl)
            simp only [Act.put, List.setIfInBounds_toArray, List.set_cons_zero, List.set_cons_succ, List.getElem_toArray, List.getElem_cons_zero, List.getElem_cons_succ]
            refine wpAnyH_take (i := 5) (v := ?v5_21) rfl (by kernel_rfl) (by kernel_rfl) (by kernel_rfl) (fun _ _ _ h => h) (Or.inl ⟨by rfl, ?hy5_21⟩) (by assumption) ?rest5_21
            case hy5_21 => (intro w9 hSw; clear hSw; go_simp; try with_reducible rfl)
            simp only [Act.put, List.setIfInBounds_toArray, List.set_cons_zero, List.set_cons_succ, List.getElem_toArray, List.getElem_cons_zero, List.getElem_cons_succ]
            refine wpAnyH_ready (rs := [6]) (by kernel_rfl) (by simp) ?_
            refine AllReadyH.cons rfl (fun K hK => ?_) AllReadyH.nil
            go_simp
            refine hK.out _ _ trivial (fun hS => ?_)
            clear hK K
            try simp only [Act.put, List.setIfInBounds_toArray, List.set_cons_zero, List.set_cons_succ, List.getElem_toArray, List.getElem_cons_zero, List.getElem_cons_succ]
            refine wpAnyH_take (i := 7) (v := ?v7_22) rfl (by kernel_rfl) (by kernel_rfl) (by kernel_rfl) (fun _ _ _ h => h) (Or.inl ⟨by rfl, ?hy7_22⟩) (by assumption) ?rest7_22
            case hy7_22 => (intro w9 hSw; clear hSw; go_simp; try with_reducible rfl)
            simp only [Act.put, List.setIfInBounds_toArray, List.set_cons_zero, List.set_cons_succ, List.getElem_toArray, List.getElem_cons_zero, List.getElem_cons_succ]
            refine wpAnyH_done (by kernel_rfl) ?_ _
            clear BB_0 BB_1 BB_2 BB_f0 BB_f1 BB_f2
            clear SB_0 SB_1 SB_2 SB_f0 SB_f1 SB_f2
            clear TB_0 TB_1 TB_2 TB_f0 TB_f1 TB_f2
            replace mt := Lv.put mt TB (b27) (A27) (q27.length) (c27) (x27)
            replace m14 := Lv.put m14 TB (b27) (A27) (q27.length) (c27) (x27)
            replace m17 := Lv.put m17 TB (b27) (A27) (q27.length) (c27) (x27)
            replace m18 := Lv.put m18 TB (b27) (A27) (q27.length) (c27) (x27)
            replace m26 := Lv.put m26 TB (b27) (A27) (q27.length) (c27) (x27)
            replace m27 := Lv.put m27 TB (b27) (A27) (q27.length) (c27) (x27)
            replace BB := Blk.putO BB (g := gTB) (by omega) (.bool (b27)) (.slice (A27) (q27.length) (c27)) (.int .i64 (x27))
            replace SB := Blk.putO SB (g := gTB) (by omega) (.bool (b27)) (.slice (A27) (q27.length) (c27)) (.int .i64 (x27))
            replace TB := Dbx.put TB (b27) (A27) (q27.length) (c27) (x27)
            exact key33 _ _ _ _ _ _ _ _ _ _ _ _ _ _ _ _ _ _ _ _ _ _ _ _ _ _ _ _ _ _ _ _ _ _ _ _ _ _ _ _ _ _ _ _ _ _ _ _ _ _ _ _ _ _ _ _ _ _ _ _ _ _ _ _ _ _ _ _ _ _ _ _ _ _ _ _ _ _ _ _ _ _ _ _ _ _ _ _ _ _ _ _ _ _ _ _ _ _ _ _ _ _ _ _ _ _ _ _ _ _ _ _ _ _ _ _ _ _ _ _ _ _ _ _ _ _ _ _ _ _ _ _ _ _ _ _ _ _ _ _ _ _ _ _ _ _ _ _ _ _ _ _ _ _ _ _ _ _ _ _ _ _ _ _ _ _ _ _ _ _ _ _ _ _ _ _ _ _ _ _ _ _ _ _ _ _ _ _ _ _ _ _ _ _ _ _ _ _ _ _ _ _ _ _ _ _ _ _ _ _ _ _ _ _ _ _ _ _ _ _ _ _ _ _ _ _ _ _ _ _ _ _ _ _ _ _ _ _ _ _ _ _ _ _ _ _ _ _ _ _ _ _ _ _ _ _ _ (by go_grown) mt m14 m17 BB SB TB m27 hd27
          · go_simp
            with_reducible refine (dWhole_any 2 (hTw.onD bw) (by decide) (by decide)).mono ?_
            rintro e w26 ⟨b26, q26, A26, c26, x26, rfl, hd26, m26, hb⟩
            clear BB_0 BB_1 BB_2 BB_f0 BB_f1 BB_f2
            clear SB_0 SB_1 SB_2 SB_f0 SB_f1 SB_f2
            clear TB_0 TB_1 TB_2 TB_f0 TB_f1 TB_f2
            have hs26 := hb.size
            try simp only [World.size_drew] at hs26
            replace bw : Below w.heap.size w w26 := dy_end bw hb
            replace mt := Lv.on mt hb
            replace m14 := Lv.on m14 hb
            replace m17 := Lv.on m17 hb
            replace m18 := Lv.on m18 hb
            replace BB := Blk.on BB hb
            replace SB := Blk.on SB hb
            replace TB := Blk.on TB hb
            clear hb
            have BB_0 := Blk.cell BB 0 rfl
            have BB_1 := Blk.cell BB 1 rfl
            have BB_2 := Blk.cell BB 2 rfl
            have BB_f0 := Blk.free BB 0
            have BB_f1 := Blk.free BB 1
            have BB_f2 := Blk.free BB 2
            have SB_0 := Blk.cell SB 0 rfl
            have SB_1 := Blk.cell SB 1 rfl
            have SB_2 := Blk.cell SB 2 rfl
            have SB_f0 := Blk.free SB 0
            have SB_f1 := Blk.free SB 1
            have SB_f2 := Blk.free SB 2
            have TB_0 := Blk.cell TB 0 rfl
            have TB_1 := Blk.cell TB 1 rfl
            have TB_2 := Blk.cell TB 2 rfl
            have TB_f0 := Blk.free TB 0
            have TB_f1 := Blk.free TB 1
            have TB_f2 := Blk.free TB 2
            refine hK.out _ _ trivial (fun hS => ?_)
            clear hK K
            try simp only [Act.put, List.setIfInBounds_toArray, List.set_cons_zero, List.set_cons_succ, List.getElem_toArray, List.getElem_cons_zero, List.getElem_cons_succ]
            refine wpAnyH_ready (rs := [0]) (by kernel_rfl) (by simp) ?_
            refine AllReadyH.cons rfl (fun K hK => ?_) AllReadyH.nil
            go_simp
            refine hK.out _ _ trivial (fun hS => ?_)
            clear hK K
            try simp only [Act.put, List.setIfInBounds_toArray, List.set_cons_zero, List.set_cons_succ, List.getElem_toArray, List.getElem_cons_zero, List.getElem_cons_succ]
            refine wpAnyH_ready (rs := [2]) (by kernel_rfl) (by simp) ?_
            refine AllReadyH.cons rfl (fun K hK => ?_) AllReadyH.nil
            go_simp
            with_reducible refine (dSub_in m18 hd18 m26 hd26 (hTw.onD bw) j0 two_in9 (by decide) (by decide) (by decide) (by decide)).mono ?_
            rintro e w27 ⟨b27, q27, A27, c27, x27, rfl, hd27, m27, hb⟩
            clear BB_0 BB_1 BB_2 BB_f0 BB_f1 BB_f2
            clear SB_0 SB_1 SB_2 SB_f0 SB_f1 SB_f2
            clear TB_0 TB_1 TB_2 TB_f0 TB_f1 TB_f2
            have hs27 := hb.size
            try simp only [World.size_drew] at hs27
            replace bw : Below w.heap.size w w27 := dy_end bw hb
            replace mt := Lv.on mt hb
            replace m14 := Lv.on m14 hb
            replace m17 := Lv.on m17 hb
            replace m18 := Lv.on m18 hb
            replace m26 := Lv.on m26 hb
            replace BB := Blk.on BB hb
            replace SB := Blk.on SB hb
            replace TB := Blk.on TB hb
            clear hb
            have BB_0 := Blk.cell BB 0 rfl
            have BB_1 := Blk.cell BB 1 rfl
            have BB_2 := Blk.cell BB 2 rfl
            have BB_f0 := Blk.free BB 0
            have BB_f1 := Blk.free BB 1
            have BB_f2 := Blk.free BB 2
            have SB_0 := Blk.cell SB 0 rfl
            have SB_1 := Blk.cell SB 1 rfl
            have SB_2 := Blk.cell SB 2 rfl
            have SB_f0 := Blk.free SB 0
            have SB_f1 := Blk.free SB 1
            have SB_f2 := Blk.free SB 2
            have TB_0 := Blk.cell TB 0 rfl
            have TB_1 := Blk.cell TB 1 rfl
            have TB_2 := Blk.cell TB 2 rfl
            have TB_f0 := Blk.free TB 0
            have TB_f1 := Blk.free TB 1
            have TB_f2 := Blk.free TB 2
            refine hK.out _ _ trivial (fun hS => ?_)
            clear hK K
            try simp only [Act.put, List.setIfInBounds_toArray, List.set_cons_zero, List.set_cons_succ, List.getElem_toArray, List.getElem_cons_zero, List.getElem_cons_succ]
            refine wpAnyH_take (i := 3) (v := ?v3_23) rfl (by kernel_rfl) (by kernel_rfl) (by kernel_rfl) (fun _ _ _ h => h) (Or.inl ⟨by rfl, ?hy3_23⟩) (by assumption) ?rest3_23
            case hy3_23 => (intro w9 hSw; clear hSw; go_simp; try with_reducible rfl)
            simp only [Act.put, List.setIfInBounds_toArray, List.set_cons_zero, List.set_cons_succ, List.getElem_toArray, List.getElem_cons_zero, List.getElem_cons_succ]
            refine wpAnyH_take (i := 4) (v := ?v4_24) rfl (by kernel_rfl) (by kernel_rfl) (by kernel_rfl) (fun _ _ _ h => h) (Or.inl ⟨by rfl, ?hy4_24⟩) (by assumption) ?rest4_24
            case hy4_24 => (intro w9 hSw; clear hSw; go_simp; try with_reducible rfl)
            simp only [Act.put, List.setIfInBounds_toArray, List.set_cons_zero, List.set_cons_succ, List.getElem_toArray, List.getElem_cons_zero, List.getElem_cons_succ]
            refine wpAnyH_take (i := 5) (v := ?v5_25) rfl (by kernel_rfl) (by kernel_rfl) (by kernel_rfl) (fun _ _ _ h => h) (Or.inl ⟨by rfl, ?hy5_25⟩) (by assumption) ?rest5_25
            case hy5_25 => (intro w9 hSw; clear hSw; go_simp; try with_reducible rfl)
            simp only [Act.put, List.setIfInBounds_toArray, List.set_cons_zero, List.set_cons_succ, List.getElem_toArray, List.getElem_cons_zero, List.getElem_cons_succ]
            refine wpAnyH_ready (rs := [6]) (by kernel_rfl) (by simp) ?_
            refine AllReadyH.cons rfl (fun K hK => ?_) AllReadyH.nil
            go_simp
            refine hK.out _ _ trivial (fun hS => ?_)
            clear hK K
            try simp only [Act.put, List.setIfInBounds_toArray, List.set_cons_zero, List.set_cons_succ, List.getElem_toArray, List.getElem_cons_zero, List.getElem_cons_succ]
            refine wpAnyH_take (i := 7) (v := ?v7_26) rfl (by kernel_rfl) (by kernel_rfl) (by kernel_rfl) (fun _ _ _ h => h) (Or.inl ⟨by rfl, ?hy7_26⟩) (by assumption) ?rest7_26
            case hy7_26 => (intro w9 hSw; clear hSw; go_simp; try with_reducible rfl)
            simp only [Act.put, List.setIfInBounds_toArray, List.set_cons_zero, List.set_cons_succ, List.getElem_toArray, List.getElem_cons_zero, List.getElem_cons_succ]
            refine wpAnyH_done (by kernel_rfl) ?_ _
            clear BB_0 BB_1 BB_2 BB_f0 BB_f1 BB_f2
            clear SB_0 SB_1 SB_2 SB_f0 SB_f1 SB_f2
            clear TB_0 TB_1 TB_2 TB_f0 TB_f1 TB_f2
            replace mt := Lv.put mt TB (b27) (A27) (q27.length) (c27) (x27)
            replace m14 := Lv.put m14 TB (b27) (A27) (q27.length) (c27) (x27)
            replace m17 := Lv.put m17 TB (b27) (A27) (q27.length) (c27) (x27)
            replace m18 := Lv.put m18 TB (b27) (A27) (q27.length) (c27) (x27)
            replace m26 := Lv.put m26 TB (b27) (A27) (q27.length) (c27) (x27)
            replace m27 := Lv.put m27 TB (b27) (A27) (q27.length) (c27) (x27)
            replace BB := Blk.putO BB (g := gTB) (by omega) (.bool (b27)) (.slice (A27) (q27.length) (c27)) (.int .i64 (x27))
            replace SB := Blk.putO SB (g := gTB) (by omega) (.bool (b27)) (.slice (A27) (q27.length) (c27)) (.int .i64 (x27))
            replace TB := Dbx.put TB (b27) (A27) (q27.length) (c27) (x27)
            exact key33 _ _ _ _ _ _ _ _ _ _ _ _ _ _ _ _ _ _ _ _ _ _ _ _ _ _ _ _ _ _ _ _ _ _ _ _ _ _ _ _ _ _ _ _ _ _ _ _ _ _ _ _ _ _ _ _ _ _ _ _ _ _ _ _ _ _ _ _ _ _ _ _ _ _ _ _ _ _ _ _ _ _ _ _ _ _ _ _ _ _ _ _ _ _ _ _ _ _ _ _ _ _ _ _ _ _ _ _ _ _ _ _ _ _ _ _ _ _ _ _ _ _ _ _ _ _ _ _ _ _ _ _ _ _ _ _ _ _ _ _ _ _ _ _ _ _ _ _ _ _ _ _ _ _ _ _ _ _ _ _ _ _ _ _ _ _ _ _ _ _ _ _ _ _ _ _ _ _ _ _ _ _ _ _ _ _ _ _ _ _ _ _ _ _ _ _ _ _ _ _ _ _ _ _ _ _ _ _ _ _ _ _ _ _ _ _ _ _ _ _ _ _ _ _ _ _ _ _ _ _ _ _ _ _ _ _ _ _ _ _ _ _ _ _ _ _ _ _ _ _ _ _ _ _ _ _ _ (by go_grown) mt m14 m17 BB SB TB m27 hd27
        have hHeld0 := Below.refl W30.heap.size W30
        refine wp_region_held_drew (S := fun w9 : World => Below W30.heap.size W30 w9) (by kernel_rfl) ((Below.refl _ _).drew) (fun hHeld => ?_)
        refine wpAnyH_take (i := 0) (v := ?v0_27) rfl (by kernel_rfl) (by kernel_rfl) (by kernel_rfl) (fun _ _ _ h => h) (Or.inl ⟨by rfl, ?hy0_27⟩) (by assumption) ?rest0_27
        case hy0_27 => (intro w9 hSw;  clear hSw; go_simp; try with_reducible rfl)
        simp only [Act.put, List.setIfInBounds_toArray, List.set_cons_zero, List.set_cons_succ, List.getElem_toArray, List.getElem_cons_zero, List.getElem_cons_succ]
        refine wpAnyH_take (i := 1) (v := ?v1_28) rfl (by kernel_rfl) (by kernel_rfl) (by kernel_rfl) (fun _ _ _ h => h) (Or.inl ⟨by rfl, ?hy1_28⟩) (by assumption) ?rest1_28
        case hy1_28 => (intro w9 hSw;  clear hSw; go_simp; try with_reducible rfl)
        simp only [Act.put, List.setIfInBounds_toArray, List.set_cons_zero, List.set_cons_succ, List.getElem_toArray, List.getElem_cons_zero, List.getElem_cons_succ]
        refine wpAnyH_take (i := 2) (v := ?v2_29) rfl (by kernel_rfl) (by kernel_rfl) (by kernel_rfl) (fun _ _ _ h => h) (Or.inl ⟨by rfl, ?hy2_29⟩) (by assumption) ?rest2_29
        case hy2_29 => (intro w9 hSw; have c0 := cellB ra0 hSw; have c1 := cellB ra1 hSw; have c2 := cellB ra2 hSw; clear hSw; go_simp; try with_reducible rfl)
        simp only [Act.put, List.setIfInBounds_toArray, List.set_cons_zero, List.set_cons_succ, List.getElem_toArray, List.getElem_cons_zero, List.getElem_cons_succ]
        refine wpAnyH_take (i := 3) (v := ?v3_30) rfl (by kernel_rfl) (by kernel_rfl) (by kernel_rfl) (fun _ _ _ h => h) (Or.inl ⟨by rfl, ?hy3_30⟩) (by assumption) ?rest3_30
        case hy3_30 => (intro w9 hSw; have c0 := cellB SB_0 hSw; have c1 := cellB SB_1 hSw; have c2 := cellB SB_2 hSw; clear hSw; go_simp; try with_reducible rfl)
        simp only [Act.put, List.setIfInBounds_toArray, List.set_cons_zero, List.set_cons_succ, List.getElem_toArray, List.getElem_cons_zero, List.getElem_cons_succ]
        refine wpAnyH_ready (rs := [4, 8]) (by kernel_rfl) (by simp) ?_
        refine (AllReadyH.cons rfl (fun K hK => ?_) (AllReadyH.cons rfl (fun K hK => ?_) AllReadyH.nil))
        · go_simp
          with_reducible refine (dMul_in (mt.on (by go_grown)) nt' (m17.on (by go_grown)) hd17 (hTw.onD (by go_grown)) iT iS (by decide) (by decide) (by decide) (by decide) (by decide) (by decide) (by decide) (by decide)).mono ?_
          rintro e w28 ⟨b28, q28, A28, c28, x28, rfl, hd28, m28, hb⟩
          have hs28 := hb.size
          simp only [World.size_drew] at hs28
          have hr : Below W30.heap.size W30 w28 := dy_end hHeld hb
          replace bw : Below w.heap.size w w28 := dy_end bw hr
          replace BB := Blk.on BB hr
          replace SB := Blk.on SB hr
          replace mt := Lv.on mt hr
          replace m14 := Lv.on m14 hr
          replace m17 := Lv.on m17 hr
          refine hK.out _ _ (hr) (fun hHeld => ?_)
          clear hK K
          try simp only [Act.put, List.setIfInBounds_toArray, List.set_cons_zero, List.set_cons_succ, List.getElem_toArray, List.getElem_cons_zero, List.getElem_cons_succ]
          clear hb hr
          refine wpAnyH_take (i := 5) (v := ?v5_31) rfl (by kernel_rfl) (by kernel_rfl) (by kernel_rfl) (fun _ _ _ h => h) (Or.inl ⟨by rfl, ?hy5_31⟩) (by assumption) ?rest5_31
          case hy5_31 => (intro w9 hSw;  clear hSw; go_simp; try with_reducible rfl)
          simp only [Act.put, List.setIfInBounds_toArray, List.set_cons_zero, List.set_cons_succ, List.getElem_toArray, List.getElem_cons_zero, List.getElem_cons_succ]
          refine wpAnyH_take (i := 6) (v := ?v6_32) rfl (by kernel_rfl) (by kernel_rfl) (by kernel_rfl) (fun _ _ _ h => h) (Or.inl ⟨by rfl, ?hy6_32⟩) (by assumption) ?rest6_32
          case hy6_32 => (intro w9 hSw;  clear hSw; go_simp; try with_reducible rfl)
          simp only [Act.put, List.setIfInBounds_toArray, List.set_cons_zero, List.set_cons_succ, List.getElem_toArray, List.getElem_cons_zero, List.getElem_cons_succ]
          refine wpAnyH_take (i := 7) (v := ?v7_33) rfl (by kernel_rfl) (by kernel_rfl) (by kernel_rfl) (fun _ _ _ h => h) (Or.inl ⟨by rfl, ?hy7_33⟩) (by assumption) ?rest7_33
          case hy7_33 => (intro w9 hSw;  clear hSw; go_simp; try with_reducible rfl)
          simp only [Act.put, List.setIfInBounds_toArray, List.set_cons_zero, List.set_cons_succ, List.getElem_toArray, List.getElem_cons_zero, List.getElem_cons_succ]
          refine wpAnyH_ready (rs := [8]) (by kernel_rfl) (by simp) ?_
          refine AllReadyH.cons rfl (fun K hK => ?_) AllReadyH.nil
          go_simp
          refine hK.out _ _ (by go_grown) (fun hHeld => ?_)
          clear hK K
          try simp only [Act.put, List.setIfInBounds_toArray, List.set_cons_zero, List.set_cons_succ, List.getElem_toArray, List.getElem_cons_zero, List.getElem_cons_succ]
          have TB := Blk.new w28 [.bool false, .slice none 0 0, .int .i64 0] 40
          have TB_0 := Blk.cell TB 0 rfl
          have TB_1 := Blk.cell TB 1 rfl
          have TB_2 := Blk.cell TB 2 rfl
          have TB_f0 := Blk.free TB 0
          have TB_f1 := Blk.free TB 1
          have TB_f2 := Blk.free TB 2
          refine wpAnyH_ready (rs := [9]) (by kernel_rfl) (by simp) ?_
          refine AllReadyH.cons rfl (fun K hK => ?_) AllReadyH.nil
          go_simp
          refine hK.out _ _ (by go_grown) (fun hHeld => ?_)
          clear hK K
          try simp only [Act.put, List.setIfInBounds_toArray, List.set_cons_zero, List.set_cons_succ, List.getElem_toArray, List.getElem_cons_zero, List.getElem_cons_succ]
          refine wpAnyH_take (i := 10) (v := ?v10_34) rfl (by kernel_rfl) (by kernel_rfl) (by kernel_rfl) (fun _ _ _ h => h) (Or.inl ⟨by rfl, ?hy10_34⟩) (by assumption) ?rest10_34
          case hy10_34 => (intro w9 hSw;  clear hSw; go_simp; try with_reducible rfl)
          simp only [Act.put, List.setIfInBounds_toArray, List.set_cons_zero, List.set_cons_succ, List.getElem_toArray, List.getElem_cons_zero, List.getElem_cons_succ]
          refine wpAnyH_done (by kernel_rfl) ?_ _
          clear TB_0 TB_1 TB_2 TB_f0 TB_f1 TB_f2
          replace mt := Lv.alloc mt (.cells #[.bool b28, .slice A28 q28.length c28, .int .i64 x28] 40)
          replace m14 := Lv.alloc m14 (.cells #[.bool b28, .slice A28 q28.length c28, .int .i64 x28] 40)
          replace m17 := Lv.alloc m17 (.cells #[.bool b28, .slice A28 q28.length c28, .int .i64 x28] 40)
          replace m28 := Lv.alloc m28 (.cells #[.bool b28, .slice A28 q28.length c28, .int .i64 x28] 40)
          replace BB := Blk.alloc BB (.cells #[.bool b28, .slice A28 q28.length c28, .int .i64 x28] 40)
          replace SB := Blk.alloc SB (.cells #[.bool b28, .slice A28 q28.length c28, .int .i64 x28] 40)
          replace TB := Blk.new w28 [.bool b28, .slice A28 q28.length c28, .int .i64 x28] 40
          clear hHeld hHeld0 ra0 ra1 ra2
          exact key30 _ _ _ _ _ _ _ _ _ _ _ _ _ _ _ _ _ _ _ _ _ _ _ _ _ _ _ _ _ _ _ _ _ _ _ _ _ _ _ _ _ _ _ _ _ _ _ _ _ _ _ _ _ _ _ _ _ _ _ _ _ _ _ _ _ _ _ _ _ _ _ _ _ _ _ _ _ _ _ _ _ _ _ _ _ _ _ _ _ _ _ _ _ _ _ _ _ _ _ _ _ _ _ _ _ _ _ _ _ _ _ _ _ _ _ _ _ _ _ _ _ _ _ _ _ _ _ _ _ _ _ _ _ _ _ _ _ _ _ _ _ _ _ _ _ _ _ _ _ _ _ _ _ _ _ _ _ _ _ _ _ _ _ _ _ _ _ _ _ _ _ _ _ _ _ _ _ _ _ _ _ _ _ _ _ _ _ _ _ _ _ _ _ _ _ _ _ _ _ _ _ _ _ _ _ _ _ _ _ _ _ _ _ _ _ _ _ _ _ _ _ _ _ _ _ _ _ _ _ _ _ _ _ _ _ _ _ _ _ _ _ _ _ _ _ _ _ _ _ _ _ _ _ _ _ _ _ (by go_grown) mt m14 m17 BB SB TB m28 hd28 (by omega)
        · go_simp
          refine hK.out _ _ (by go_grown) (fun hHeld => ?_)
          clear hK K
          try simp only [Act.put, List.setIfInBounds_toArray, List.set_cons_zero, List.set_cons_succ, List.getElem_toArray, List.getElem_cons_zero, List.getElem_cons_succ]
          have TB := Blk.new W30.drew [.bool false, .slice none 0 0, .int .i64 0] 40
          simp only [World.size_drew] at TB
          refine wpAnyH_ready (rs := [4]) (by kernel_rfl) (by simp) ?_
          refine AllReadyH.cons rfl (fun K hK => ?_) AllReadyH.nil
          go_simp
          with_reducible refine (dMul_in (mt.on (by go_grown)) nt' (m17.on (by go_grown)) hd17 (hTw.onD (by go_grown)) iT iS (by decide) (by decide) (by decide) (by decide) (by decide) (by decide) (by decide) (by decide)).mono ?_
          rintro e w28 ⟨b28, q28, A28, c28, x28, rfl, hd28, m28, hb⟩
          have hs28 := hb.size
          simp only [World.size_alloc, World.size_drew] at hs28
          have hr : Below W30.heap.size W30 w28 := dy_end hHeld hb
          replace bw : Below w.heap.size w w28 := dy_end bw hr
          replace BB := Blk.on BB hr
          replace SB := Blk.on SB hr
          replace mt := Lv.on mt hr
          replace m14 := Lv.on m14 hr
          replace m17 := Lv.on m17 hr
          replace TB := Blk.on TB hb
          refine hK.out _ _ (hr) (fun hHeld => ?_)
          clear hK K
          try simp only [Act.put, List.setIfInBounds_toArray, List.set_cons_zero, List.set_cons_succ, List.getElem_toArray, List.getElem_cons_zero, List.getElem_cons_succ]
          clear hb hr
          refine wpAnyH_take (i := 5) (v := ?v5_35) rfl (by kernel_rfl) (by kernel_rfl) (by kernel_rfl) (fun _ _ _ h => h) (Or.inl ⟨by rfl, ?hy5_35⟩) (by assumption) ?rest5_35
          case hy5_35 => (intro w9 hSw;  clear hSw; go_simp; try with_reducible rfl)
          simp only [Act.put, List.setIfInBounds_toArray, List.set_cons_zero, List.set_cons_succ, List.getElem_toArray, List.getElem_cons_zero, List.getElem_cons_succ]
          refine wpAnyH_take (i := 6) (v := ?v6_36) rfl (by kernel_rfl) (by kernel_rfl) (by kernel_rfl) (fun _ _ _ h => h) (Or.inl ⟨by rfl, ?hy6_36⟩) (by assumption) ?rest6_36
          case hy6_36 => (intro w9 hSw;  clear hSw; go_simp; try with_reducible rfl)
          simp only [Act.put, List.setIfInBounds_toArray, List.set_cons_zero, List.set_cons_succ, List.getElem_toArray, List.getElem_cons_zero, List.getElem_cons_succ]
          refine wpAnyH_take (i := 7) (v := ?v7_37) rfl (by kernel_rfl) (by kernel_rfl) (by kernel_rfl) (fun _ _ _ h => h) (Or.inl ⟨by rfl, ?hy7_37⟩) (by assumption) ?rest7_37
          case hy7_37 => (intro w9 hSw;  clear hSw; go_simp; try with_reducible rfl)
          simp only [Act.put, List.setIfInBounds_toArray, List.set_cons_zero, List.set_cons_succ, List.getElem_toArray, List.getElem_cons_zero, List.getElem_cons_succ]
          have TB_0 := Blk.cell TB 0 rfl
          have TB_1 := Blk.cell TB 1 rfl
          have TB_2 := Blk.cell TB 2 rfl
          have TB_f0 := Blk.free TB 0
          have TB_f1 := Blk.free TB 1
          have TB_f2 := Blk.free TB 2
          refine wpAnyH_ready (rs := [9]) (by kernel_rfl) (by simp) ?_
          refine AllReadyH.cons rfl (fun K hK => ?_) AllReadyH.nil
          go_simp
          refine hK.out _ _ (by go_grown) (fun hHeld => ?_)
          clear hK K
          try simp only [Act.put, List.setIfInBounds_toArray, List.set_cons_zero, List.set_cons_succ, List.getElem_toArray, List.getElem_cons_zero, List.getElem_cons_succ]
          refine wpAnyH_take (i := 10) (v := ?v10_38) rfl (by kernel_rfl) (by kernel_rfl) (by kernel_rfl) (fun _ _ _ h => h) (Or.inl ⟨by rfl, ?hy10_38⟩) (by assumption) ?rest10_38
          case hy10_38 => (intro w9 hSw;  clear hSw; go_simp; try with_reducible rfl)
          simp only [Act.put, List.setIfInBounds_toArray, List.set_cons_zero, List.set_cons_succ, List.getElem_toArray, List.getElem_cons_zero, List.getElem_cons_succ]
          refine wpAnyH_done (by kernel_rfl) ?_ _
          clear TB_0 TB_1 TB_2 TB_f0 TB_f1 TB_f2
          replace mt := Lv.put mt TB b28 A28 q28.length c28 x28
          replace m14 := Lv.put m14 TB b28 A28 q28.length c28 x28
          replace m17 := Lv.put m17 TB b28 A28 q28.length c28 x28
          replace m28 := Lv.put m28 TB b28 A28 q28.length c28 x28
          replace BB := Blk.putO BB (g := W30.heap.size) (by omega) (.bool b28) (.slice A28 q28.length c28) (.int .i64 x28)
          replace SB := Blk.putO SB (g := W30.heap.size) (by omega) (.bool b28) (.slice A28 q28.length c28) (.int .i64 x28)
          replace TB := Dbx.put TB b28 A28 q28.length c28 x28
          clear hHeld hHeld0 ra0 ra1 ra2
          exact key30 _ _ _ _ _ _ _ _ _ _ _ _ _ _ _ _ _ _ _ _ _ _ _ _ _ _ _ _ _ _ _ _ _ _ _ _ _ _ _ _ _ _ _ _ _ _ _ _ _ _ _ _ _ _ _ _ _ _ _ _ _ _ _ _ _ _ _ _ _ _ _ _ _ _ _ _ _ _ _ _ _ _ _ _ _ _ _ _ _ _ _ _ _ _ _ _ _ _ _ _ _ _ _ _ _ _ _ _ _ _ _ _ _ _ _ _ _ _ _ _ _ _ _ _ _ _ _ _ _ _ _ _ _ _ _ _ _ _ _ _ _ _ _ _ _ _ _ _ _ _ _ _ _ _ _ _ _ _ _ _ _ _ _ _ _ _ _ _ _ _ _ _ _ _ _ _ _ _ _ _ _ _ _ _ _ _ _ _ _ _ _ _ _ _ _ _ _ _ _ _ _ _ _ _ _ _ _ _ _ _ _ _ _ _ _ _ _ _ _ _ _ _ _ _ _ _ _ _ _ _ _ _ _ _ _ _ _ _ _ _ _ _ _ _ _ _ _ _ _ _ _ _ _ _ _ _ _ (by go_grown) mt m14 m17 BB SB TB m28 hd28 (by omega)
      have hHeld0 := Below.refl W29.heap.size W29
      refine wp_region_held_drew (S := fun w9 : World => Below W29.heap.size W29 w9) (by kernel_rfl) ((Below.refl _ _).drew) (fun hHeld => ?_)
      refine wpAnyH_take (i := 0) (v := ?v0_39) rfl (by kernel_rfl) (by kernel_rfl) (by kernel_rfl) (fun _ _ _ h => h) (Or.inl ⟨by rfl, ?hy0_39⟩) (by assumption) ?rest0_39
      case hy0_39 => (intro w9 hSw;  clear hSw; go_simp; try with_reducible rfl)
      simp only [Act.put, List.setIfInBounds_toArray, List.set_cons_zero, List.set_cons_succ, List.getElem_toArray, List.getElem_cons_zero, List.getElem_cons_succ]
      refine wpAnyH_take (i := 1) (v := ?v1_40) rfl (by kernel_rfl) (by kernel_rfl) (by kernel_rfl) (fun _ _ _ h => h) (Or.inl ⟨by rfl, ?hy1_40⟩) (by assumption) ?rest1_40
      case hy1_40 => (intro w9 hSw;  clear hSw; go_simp; try with_reducible rfl)
      simp only [Act.put, List.setIfInBounds_toArray, List.set_cons_zero, List.set_cons_succ, List.getElem_toArray, List.getElem_cons_zero, List.getElem_cons_succ]
      refine wpAnyH_take (i := 2) (v := ?v2_41) rfl (by kernel_rfl) (by kernel_rfl) (by kernel_rfl) (fun _ _ _ h => h) (Or.inl ⟨by rfl, ?hy2_41⟩) (by assumption) ?rest2_41
      case hy2_41 => (intro w9 hSw;  clear hSw; go_simp; try with_reducible rfl)
      simp only [Act.put, List.setIfInBounds_toArray, List.set_cons_zero, List.set_cons_succ, List.getElem_toArray, List.getElem_cons_zero, List.getElem_cons_succ]
      refine wpAnyH_take (i := 3) (v := ?v3_42) rfl (by kernel_rfl) (by kernel_rfl) (by kernel_rfl) (fun _ _ _ h => h) (Or.inl ⟨by rfl, ?hy3_42⟩) (by assumption) ?rest3_42
      case hy3_42 => (intro w9 hSw;  clear hSw; go_simp; try with_reducible rfl)
      simp only [Act.put, List.setIfInBounds_toArray, List.set_cons_zero, List.set_cons_succ, List.getElem_toArray, List.getElem_cons_zero, List.getElem_cons_succ]
      refine wpAnyH_ready (rs := [4, 8]) (by kernel_rfl) (by simp) ?_
      refine (AllReadyH.cons rfl (fun K hK => ?_) (AllReadyH.cons rfl (fun K hK => ?_) AllReadyH.nil))
      · go_simp
        with_reducible refine (pV _ _ (by go_grown)).mono ?_
        rintro e w29 ⟨b29, q29, A29, c29, x29, rfl, hd29, m29, hb⟩
        have hs29 := hb.size
        simp only [World.size_drew] at hs29
        have hr : Below W29.heap.size W29 w29 := dy_end hHeld hb
        replace bw : Below w.heap.size w w29 := dy_end bw hr
        replace BB := Blk.on BB hr
        replace mt := Lv.on mt hr
        replace m14 := Lv.on m14 hr
        refine hK.out _ _ (hr) (fun hHeld => ?_)
        clear hK K
        try simp only [Act.put, List.setIfInBounds_toArray, List.set_cons_zero, List.set_cons_succ, List.getElem_toArray, List.getElem_cons_zero, List.getElem_cons_succ]
        clear hb hr
        refine wpAnyH_take (i := 5) (v := ?v5_43) rfl (by kernel_rfl) (by kernel_rfl) (by kernel_rfl) (fun _ _ _ h => h) (Or.inl ⟨by rfl, ?hy5_43⟩) (by assumption) ?rest5_43
        case hy5_43 => (intro w9 hSw;  clear hSw; go_simp; try with_reducible rfl)
        simp only [Act.put, List.setIfInBounds_toArray, List.set_cons_zero, List.set_cons_succ, List.getElem_toArray, List.getElem_cons_zero, List.getElem_cons_succ]
        refine wpAnyH_take (i := 6) (v := ?v6_44) rfl (by kernel_rfl) (by kernel_rfl) (by kernel_rfl) (fun _ _ _ h => h) (Or.inl ⟨by rfl, ?hy6_44⟩) (by assumption) ?rest6_44
        case hy6_44 => (intro w9 hSw;  clear hSw; go_simp; try with_reducible rfl)
        simp only [Act.put, List.setIfInBounds_toArray, List.set_cons_zero, List.set_cons_succ, List.getElem_toArray, List.getElem_cons_zero, List.getElem_cons_succ]
        refine wpAnyH_take (i := 7) (v := ?v7_45) rfl (by kernel_rfl) (by kernel_rfl) (by kernel_rfl) (fun _ _ _ h => h) (Or.inl ⟨by rfl, ?hy7_45⟩) (by assumption) ?rest7_45
        case hy7_45 => (intro w9 hSw;  clear hSw; go_simp; try with_reducible rfl)
        simp only [Act.put, List.setIfInBounds_toArray, List.set_cons_zero, List.set_cons_succ, List.getElem_toArray, List.getElem_cons_zero, List.getElem_cons_succ]
        refine wpAnyH_ready (rs := [8]) (by kernel_rfl) (by simp) ?_
        refine AllReadyH.cons rfl (fun K hK => ?_) AllReadyH.nil
        go_simp
        refine hK.out _ _ (by go_grown) (fun hHeld => ?_)
        clear hK K
        try simp only [Act.put, List.setIfInBounds_toArray, List.set_cons_zero, List.set_cons_succ, List.getElem_toArray, List.getElem_cons_zero, List.getElem_cons_succ]
        have SB := Blk.new w29 [.bool false, .slice none 0 0, .int .i64 0] 40
        have SB_0 := Blk.cell SB 0 rfl
        have SB_1 := Blk.cell SB 1 rfl
        have SB_2 := Blk.cell SB 2 rfl
        have SB_f0 := Blk.free SB 0
        have SB_f1 := Blk.free SB 1
        have SB_f2 := Blk.free SB 2
        refine wpAnyH_ready (rs := [9]) (by kernel_rfl) (by simp) ?_
        refine AllReadyH.cons rfl (fun K hK => ?_) AllReadyH.nil
        go_simp
        refine hK.out _ _ (by go_grown) (fun hHeld => ?_)
        clear hK K
        try simp only [Act.put, List.setIfInBounds_toArray, List.set_cons_zero, List.set_cons_succ, List.getElem_toArray, List.getElem_cons_zero, List.getElem_cons_succ]
        refine wpAnyH_take (i := 10) (v := ?v10_46) rfl (by kernel_rfl) (by kernel_rfl) (by kernel_rfl) (fun _ _ _ h => h) (Or.inl ⟨by rfl, ?hy10_46⟩) (by assumption) ?rest10_46
        case hy10_46 => (intro w9 hSw;  clear hSw; go_simp; try with_reducible rfl)
        simp only [Act.put, List.setIfInBounds_toArray, List.set_cons_zero, List.set_cons_succ, List.getElem_toArray, List.getElem_cons_zero, List.getElem_cons_succ]
        refine wpAnyH_done (by kernel_rfl) ?_ _
        clear SB_0 SB_1 SB_2 SB_f0 SB_f1 SB_f2
        replace mt := Lv.alloc mt (.cells #[.bool b29, .slice A29 q29.length c29, .int .i64 x29] 40)
        replace m14 := Lv.alloc m14 (.cells #[.bool b29, .slice A29 q29.length c29, .int .i64 x29] 40)
        replace m29 := Lv.alloc m29 (.cells #[.bool b29, .slice A29 q29.length c29, .int .i64 x29] 40)
        replace BB := Blk.alloc BB (.cells #[.bool b29, .slice A29 q29.length c29, .int .i64 x29] 40)
        replace SB := Blk.new w29 [.bool b29, .slice A29 q29.length c29, .int .i64 x29] 40
        clear hHeld hHeld0 ra0 ra1 ra2
        exact key29 _ _ _ _ _ _ _ _ _ _ _ _ _ _ _ _ _ _ _ _ _ _ _ _ _ _ _ _ _ _ _ _ _ _ _ _ _ _ _ _ _ _ _ _ _ _ _ _ _ _ _ _ _ _ _ _ _ _ _ _ _ _ _ _ _ _ _ _ _ _ _ _ _ _ _ _ _ _ _ _ _ _ _ _ _ _ _ _ _ _ _ _ _ _ _ _ _ _ _ _ _ _ _ _ _ _ _ _ _ _ _ _ _ _ _ _ _ _ _ _ _ _ _ _ _ _ _ _ _ _ _ _ _ _ _ _ _ _ _ _ _ _ _ _ _ _ _ _ _ _ _ _ _ _ _ _ _ _ _ _ _ _ _ _ _ _ _ _ _ _ _ _ _ _ _ _ _ _ _ _ _ _ _ _ _ _ _ _ _ _ _ _ _ _ _ _ _ _ _ _ _ _ _ _ _ _ _ _ _ _ _ _ _ _ _ _ _ _ _ _ _ _ _ _ _ _ _ _ _ _ _ _ _ _ _ _ _ _ _ _ _ _ _ _ _ _ _ _ _ _ _ _ _ _ _ _ _ _ _ (by go_grown) mt m14 BB SB m29 hd29 (by omega)
      · go_simp
        refine hK.out _ _ (by go_grown) (fun hHeld => ?_)
        clear hK K
        try simp only [Act.put, List.setIfInBounds_toArray, List.set_cons_zero, List.set_cons_succ, List.getElem_toArray, List.getElem_cons_zero, List.getElem_cons_succ]
        have SB := Blk.new W29.drew [.bool false, .slice none 0 0, .int .i64 0] 40
        simp only [World.size_drew] at SB
        refine wpAnyH_ready (rs := [4]) (by kernel_rfl) (by simp) ?_
        refine AllReadyH.cons rfl (fun K hK => ?_) AllReadyH.nil
        go_simp
        with_reducible refine (pV _ _ (by go_grown)).mono ?_
        rintro e w29 ⟨b29, q29, A29, c29, x29, rfl, hd29, m29, hb⟩
        have hs29 := hb.size
        simp only [World.size_alloc, World.size_drew] at hs29
        have hr : Below W29.heap.size W29 w29 := dy_end hHeld hb
        replace bw : Below w.heap.size w w29 := dy_end bw hr
        replace BB := Blk.on BB hr
        replace mt := Lv.on mt hr
        replace m14 := Lv.on m14 hr
        replace SB := Blk.on SB hb
        refine hK.out _ _ (hr) (fun hHeld => ?_)
        clear hK K
        try simp only [Act.put, List.setIfInBounds_toArray, List.set_cons_zero, List.set_cons_succ, List.getElem_toArray, List.getElem_cons_zero, List.getElem_cons_succ]
        clear hb hr
        refine wpAnyH_take (i := 5) (v := ?v5_47) rfl (by kernel_rfl) (by kernel_rfl) (by kernel_rfl) (fun _ _ _ h => h) (Or.inl ⟨by rfl, ?hy5_47⟩) (by assumption) ?rest5_47
        case hy5_47 => (intro w9 hSw;  clear hSw; go_simp; try with_reducible rfl)
        simp only [Act.put, List.setIfInBounds_toArray, List.set_cons_zero, List.set_cons_succ, List.getElem_toArray, List.getElem_cons_zero, List.getElem_cons_succ]
        refine wpAnyH_take (i := 6) (v := ?v6_48) rfl (by kernel_rfl) (by kernel_rfl) (by kernel_rfl) (fun _ _ _ h => h) (Or.inl ⟨by rfl, ?hy6_48⟩) (by assumption) ?rest6_48
        case hy6_48 => (intro w9 hSw;  clear hSw; go_simp; try with_reducible rfl)
        simp only [Act.put, List.setIfInBounds_toArray, List.set_cons_zero, List.set_cons_succ, List.getElem_toArray, List.getElem_cons_zero, List.getElem_cons_succ]
        refine wpAnyH_take (i := 7) (v := ?v7_49) rfl (by kernel_rfl) (by kernel_rfl) (by kernel_rfl) (fun _ _ _ h => h) (Or.inl ⟨by rfl, ?hy7_49⟩) (by assumption) ?rest7_49
        case hy7_49 => (intro w9 hSw;  clear hSw; go_simp; try with_reducible rfl)
        simp only [Act.put, List.setIfInBounds_toArray, List.set_cons_zero, List.set_cons_succ, List.getElem_toArray, List.getElem_cons_zero, List.getElem_cons_succ]
        have SB_0 := Blk.cell SB 0 rfl
        have SB_1 := Blk.cell SB 1 rfl
        have SB_2 := Blk.cell SB 2 rfl
        have SB_f0 := Blk.free SB 0
        have SB_f1 := Blk.free SB 1
        have SB_f2 := Blk.free SB 2
        refine wpAnyH_ready (rs := [9]) (by kernel_rfl) (by simp) ?_
        refine AllReadyH.cons rfl (fun K hK => ?_) AllReadyH.nil
        go_simp
        refine hK.out _ _ (by go_grown) (fun hHeld => ?_)
        clear hK K
        try simp only [Act.put, List.setIfInBounds_toArray, List.set_cons_zero, List.set_cons_succ, List.getElem_toArray, List.getElem_cons_zero, List.getElem_cons_succ]
        refine wpAnyH_take (i := 10) (v := ?v10_50) rfl (by kernel_rfl) (by kernel_rfl) (by kernel_rfl) (fun _ _ _ h => h) (Or.inl ⟨by rfl, ?hy10_50⟩) (by assumption) ?rest10_50
        case hy10_50 => (intro w9 hSw;  clear hSw; go_simp; try with_reducible rfl)
        simp only [Act.put, List.setIfInBounds_toArray, List.set_cons_zero, List.set_cons_succ, List.getElem_toArray, List.getElem_cons_zero, List.getElem_cons_succ]
        refine wpAnyH_done (by kernel_rfl) ?_ _
        clear SB_0 SB_1 SB_2 SB_f0 SB_f1 SB_f2
        replace mt := Lv.put mt SB b29 A29 q29.length c29 x29
        replace m14 := Lv.put m14 SB b29 A29 q29.length c29 x29
        replace m29 := Lv.put m29 SB b29 A29 q29.length c29 x29
        replace BB := Blk.putO BB (g := W29.heap.size) (by omega) (.bool b29) (.slice A29 q29.length c29) (.int .i64 x29)
        replace SB := Dbx.put SB b29 A29 q29.length c29 x29
        clear hHeld hHeld0 ra0 ra1 ra2
        exact key29 _ _ _ _ _ _ _ _ _ _ _ _ _ _ _ _ _ _ _ _ _ _ _ _ _ _ _ _ _ _ _ _ _ _ _ _ _ _ _ _ _ _ _ _ _ _ _ _ _ _ _ _ _ _ _ _ _ _ _ _ _ _ _ _ _ _ _ _ _ _ _ _ _ _ _ _ _ _ _ _ _ _ _ _ _ _ _ _ _ _ _ _ _ _ _ _ _ _ _ _ _ _ _ _ _ _ _ _ _ _ _ _ _ _ _ _ _ _ _ _ _ _ _ _ _ _ _ _ _ _ _ _ _ _ _ _ _ _ _ _ _ _ _ _ _ _ _ _ _ _ _ _ _ _ _ _ _ _ _ _ _ _ _ _ _ _ _ _ _ _ _ _ _ _ _ _ _ _ _ _ _ _ _ _ _ _ _ _ _ _ _ _ _ _ _ _ _ _ _ _ _ _ _ _ _ _ _ _ _ _ _ _ _ _ _ _ _ _ _ _ _ _ _ _ _ _ _ _ _ _ _ _ _ _ _ _ _ _ _ _ _ _ _ _ _ _ _ _ _ _ _ _ _ _ _ _ _ _ _ (by go_grown) mt m14 BB SB m29 hd29 (by omega)

theorem near_any {x : List Int} {A : Option Addr} {n c : Nat} {w : World} (h : FL w A n c x) (hT : Tab w) :
    Calls Tryz.prog 3 #[.slice A n c] w (RTrue w) := by
  by_cases hn : n < 1 ∨ 16 < n
  · exact near_few h hn
  · exact near_many h (by omega) (by omega) hT
end Go.Proofs.YtcdbjlmegkcaiaaGreatDoor
