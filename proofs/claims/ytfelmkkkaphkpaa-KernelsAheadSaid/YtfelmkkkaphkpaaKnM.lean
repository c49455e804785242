/-
  Layer 8, walks: the program's Gemm. (Written by wip/tools/gen_knm.py.)
-/
import Derived.Test.YtfelmkkkaphkpaaKnL
namespace Go.Proofs.Ytfelmkkkaphkpaa
open Go.RowKit Go.Bw Go.Sort Go.Shelf
set_option linter.unusedVariables false
set_option linter.unusedSimpArgs false

theorem fl_at {v : Vu} {c : Nat} {l : List Int} {m q : Nat} (hR : v.R = m) (hC : v.C = q) {i j : Nat} (hi : i < m) (hj : j < q) : D (v.fl c l) (i * q + j) = v.at_ c l i j := by
  have hk := ix_lt hi hj
  have e : (v.R * v.C).toNat = m * q := by rw [hR, hC]; exact_mod_cast Int.toNat_natCast (m * q)
  rw [fl_D _ _ _ (by rw [e]; exact hk)]
  unfold Vu.ei Vu.ej
  rw [hC, Int.toNat_natCast]
  have q0 : 0 < q := by omega
  have e1 : (i * q + j) / q = i := by rw [Nat.mul_comm, Nat.mul_add_div q0, Nat.div_eq_of_lt hj, Nat.add_zero]
  have e2 : (i * q + j) % q = j := by rw [Nat.mul_comm, Nat.mul_add_mod, Nat.mod_eq_of_lt hj]
  rw [e1, e2]
theorem T_at {v : Vu} {c : Nat} {l : List Int} (i j : Int) : v.T.at_ c l j i = v.at_ c l i j := by
  unfold Vu.at_
  rw [T_has, T_ix]
/-- a turned view shows the turned matrix -/
theorem Sv.turn {w : World} {x : Vu} {X : List Int} (h : Sv w x X) (hp : x.p ≠ none) {p q : Nat} (hR : x.R = p) (hC : x.C = q) : ∃ XT, Sv w x.turnO XT ∧ ∀ j t, j < q → t < p → ma XT p j t = ma X q t j := by
  obtain ⟨s, c, n, B, g, cap, K, l, h1, h2, h3⟩ := h
  have e : x.turnO = x.T := by unfold Vu.turnO; rw [show (x.p == none) = false by cases hq : x.p; exact absurd hq hp; rfl]; rfl
  have hv := turn_vk h1
  refine ⟨x.turnO.fl c l, ⟨s, c, n, B, g, cap, K, l, hv, fun _ => h2 hp, rfl⟩, fun j t hj ht => ?_⟩
  unfold ma
  rw [e, fl_at (v := x.T) (m := q) (q := p) hC hR hj ht, ← h3, fl_at hR hC ht hj, T_at]
theorem Rws.pinrow {w : World} {B o : Nat} {G : Option Addr} {cG m q : Nat} {l : List Int} {i : Nat} (hi : i < m) : ∃ A5 c5, ∀ W, Rws W B o G cG m q l → W.cell? ⟨o, i, none⟩ = some (.slice A5 q c5) ∧ FL W A5 q c5 ((l.drop (i * q)).take q) := by
  refine ⟨(if cG = i * q then G else G.map (·.add (i * q))), cG - i * q, fun W h => ?_⟩
  have hc := Blk.cell h.blk i (rowsV_get hi)
  rw [if_pos hi] at hc
  have hk : (i + 1) * q ≤ m * q := Nat.mul_le_mul_right q hi
  rw [Nat.add_mul, Nat.one_mul, ← h.len] at hk
  exact ⟨hc, FL.cut (show FL W G l.length cG l from ⟨rfl, h.own.nums, h.wd⟩) hk⟩
theorem Rws.pin {w : World} {B o : Nat} {G : Option Addr} {cG m q : Nat} {l : List Int} {i j : Nat} (h0 : Rws w B o G cG m q l) (hi : i < m) (hj : j < q) : ∃ ad c5, ∀ W, Rws W B o G cG m q l → W.cell? ⟨o, i, none⟩ = some (.slice (some ad) q c5) ∧ W.cell? (ad.add j) = some (.float .f64 (D l (i * q + j)).toNat) := by
  obtain ⟨A5, c5, h⟩ := Rws.pinrow (w := w) (B := B) (o := o) (G := G) (cG := cG) (q := q) (l := l) hi
  obtain ⟨ad, rfl, _, _⟩ := (h w h0).2.at_ hj
  refine ⟨ad, c5, fun W hW => ⟨(h W hW).1, ?_⟩⟩
  have hf := (h W hW).2
  have := hf.2.1.at_some (k := j) (by rw [hf.1]; exact hj)
  rwa [D_take, if_pos hj, D_drop] at this
theorem dot_rc {U XT X : List Int} {p q i j : Nat} (hj : j < q) (h : ∀ j t, j < q → t < p → ma XT p j t = ma X q t j) : dotA ((U.drop (i * p)).take p) ((XT.drop (j * p)).take p) p = sumA (fun t => aop .mul (ma U p i t) (ma X q t j)) p := by
  unfold dotA
  exact sumA_congr fun t ht => by rw [D_row ht, D_row ht, h j t hj ht]
section
variable {w : World} {u x y : Vu} {U X Y : List Int} {K : Int} {B s g cap c n a b m p q : Nat} {l : List Int}
set_option maxRecDepth 100000 in
set_option maxHeartbeats 8000000 in
theorem Gemm_yes (ba : a ≤ 18446744073709551615) (bb : b ≤ 18446744073709551615) (hu : Sv w u U) (hx : Sv w x X) (hy : Sv w y Y) (he : refE ((u.C == x.R) && (szd y u.R x.C)) [u, x, y] = 0) (hv : Vk y s c n K) (hs : St w B s g cap c l) (hl : l.length = n) (hj : Inj y c) (hum0 : y.R = m) (huq0 : y.C = q) (hup0 : u.C = p) :
    Calls Try.prog 43 #[.float .f64 a, u.V, x.V, .float .f64 b, y.V] w (WrA w B s g cap c y l (fun _ _ => true) (fun i j => bothA (af b) (ma Y q i j) (af a) (sumA (fun t => aop .mul (ma U p i t) (ma X q t j)) p))) := by
  have he0 := he
  have hfit := (refE_some he).1
  have HPN : Hid (y.p ≠ none) := Lib.hid ((refE_some he).2 y (by simp))
  rw [hfit] at he
  have HE := Lib.hid he
  simp only [Bool.and_eq_true] at hfit
  obtain ⟨h0, h1⟩ := hfit
  have e0 := eq_of_beq h0
  have e1 := szd_is h1
  have hR5 := hy.R
  have hC5 := hy.C
  have hP5 := hu.C
  have hur : u.R = (m : Int) := by rw [← e1.1]; exact hum0
  have hxc : x.C = (q : Int) := by rw [← e1.2]; exact huq0
  have hxr : x.R = (p : Int) := by rw [← e0]; exact hup0
  obtain ⟨XT, hXT, HXT⟩ := hx.turn ((refE_some he0).2 x (by simp)) hxr hxc
  have htR : x.turnO.R = (q : Int) ∧ x.turnO.C = (p : Int) := by have e : x.turnO = x.T := by { unfold Vu.turnO; rw [show (x.p == none) = false by cases hq : x.p; exact absurd hq ((refE_some he0).2 x (by simp)); rfl]; rfl }; rw [e]; exact ⟨hxc, hxr⟩
  rw [hum0] at hR5
  rw [huq0] at hC5
  rw [hup0] at hP5
  have HXS := Lib.hid hXT
  have HXD := Lib.hid HXT
  have HTR := Lib.hid htR
  have HUR := Lib.hid hur
  have HUC := Lib.hid hup0
  have HR9 := Lib.hid hum0
  have HC9 := Lib.hid huq0
  obtain ⟨f, hf⟩ : ∃ f : Nat → Nat → Option Nat, (fun i j => bothA (af b) (ma Y q i j) (af a) (sumA (fun t => aop .mul (ma U p i t) (ma X q t j)) p)) = f := ⟨_, rfl⟩
  have HF := Lib.hid (show ∀ i j, bothA (af b) (ma Y q i j) (af a) (sumA (fun t => aop .mul (ma U p i t) (ma X q t j)) p) = f i j from fun i j => by rw [← hf])
  rw [hf]
  clear hf e0 e1 hur hxc hxr hXT HXT htR hum0 huq0 hup0 he0
  have HSu := Lib.hid hu
  have HSx := Lib.hid hx
  have HSy := Lib.hid hy
  have HST := Lib.hid hs
  have HVK := Lib.hid hv
  have HIJ := Lib.hid hj
  have HLL := Lib.hid hl
  have p4 := fun (W : World) (bz : Below w.heap.size w W) => sized_is y u.R x.C W
  simp only [h1] at p4
  have hcr : (u.C == x.R) = true := h0
  clear he hs hv hj hl hu hx hy h0 h1
  have Du := Blk.new w u.L 30
  have Dx := Blk.new (w.alloc (.cells u.L.toArray 30)) x.L 30
  replace Du := Du.alloc (.cells x.L.toArray 30)
  simp only [World.size_alloc] at Dx
  have Dy := Blk.new ((w.alloc (.cells u.L.toArray 30)).alloc (.cells x.L.toArray 30)) y.L 30
  replace Du := Du.alloc (.cells y.L.toArray 30)
  replace Dx := Dx.alloc (.cells y.L.toArray 30)
  simp only [World.size_alloc] at Dy
  have bz := (((Below.refl _ w).alloc (Nat.le_refl _) (.cells u.L.toArray 30)).alloc (by simp <;> omega) (.cells x.L.toArray 30)).alloc (by simp <;> omega) (.cells y.L.toArray 30)
  have hsz0 : (((w.alloc (.cells u.L.toArray 30)).alloc (.cells x.L.toArray 30)).alloc (.cells y.L.toArray 30)).heap.size = w.heap.size + 3 := by simp
  go_enter Try.func43, Try.ntmps43
  go_wp2_with fail
  replace Du := Du.drew
  replace Dx := Dx.drew
  replace Dy := Dy.drew
  replace bz := bz.drew
  refine wp_region_held_drew (S := fun w9 : World => Vbx w9 w.heap.size u ∧ Vbx w9 (w.heap.size + 1) x ∧ Vbx w9 (w.heap.size + 2) y) (by kernel_rfl) ⟨Du, Dx, Dy⟩ (fun hS => ?_)
  generalize (((w.alloc (.cells u.L.toArray 30)).alloc (.cells x.L.toArray 30)).alloc (.cells y.L.toArray 30)).drew = wd at hS Du Dx Dy  bz ⊢
  refine wpAnyH_take (i := 0) (v := ?v0_33) rfl (by kernel_rfl) (by kernel_rfl) (by kernel_rfl) (fun _ _ _ h => h) (Or.inl ⟨by rfl, ?hy0_33⟩) (by assumption) ?rest0_33
  case hy0_33 => (intro w9 hSw; obtain ⟨m0, m1, m2⟩ := hSw; refine (ld_v (by rfl) (by kernel_rfl) m0).trans ?_; with_reducible rfl)
  try simp only [Act.put, List.setIfInBounds_toArray, List.set_cons_zero, List.set_cons_succ, List.getElem_toArray, List.getElem_cons_zero, List.getElem_cons_succ]
  refine wpAnyH_take (i := 2) (v := ?v2_34) rfl (by kernel_rfl) (by kernel_rfl) (by kernel_rfl) (fun _ _ _ h => h) (Or.inl ⟨by rfl, ?hy2_34⟩) (by assumption) ?rest2_34
  case hy2_34 => (intro w9 hSw; obtain ⟨m0, m1, m2⟩ := hSw; refine (ld_v (by rfl) (by kernel_rfl) m1).trans ?_; with_reducible rfl)
  try simp only [Act.put, List.setIfInBounds_toArray, List.set_cons_zero, List.set_cons_succ, List.getElem_toArray, List.getElem_cons_zero, List.getElem_cons_succ]
  refine wpAnyH_ready (rs := [1]) (by kernel_rfl) (by simp) ?_
  refine AllReadyH.cons rfl (fun K hK => ?_) AllReadyH.nil
  go_simp
  with_reducible refine (Cols_any u _).mono ?_
  rintro e w1 ⟨rfl, hb⟩
  replace Du := Du.on hb
  replace Dx := Dx.on hb
  replace Dy := Dy.on hb
  replace bz := bz.trans (hb.mono bz.size)
  clear hb
  refine hK.out _ _ ⟨Du, Dx, Dy⟩ (fun hH => ?_)
  clear hK K hS
  have hS := hH
  clear hH
  try simp only [Act.put, List.setIfInBounds_toArray, List.set_cons_zero, List.set_cons_succ, List.getElem_toArray, List.getElem_cons_zero, List.getElem_cons_succ]
  refine wpAnyH_ready (rs := [3]) (by kernel_rfl) (by simp) ?_
  refine AllReadyH.cons rfl (fun K hK => ?_) AllReadyH.nil
  go_simp
  with_reducible refine (Rows_any x _).mono ?_
  rintro e w2 ⟨rfl, hb⟩
  replace Du := Du.on hb
  replace Dx := Dx.on hb
  replace Dy := Dy.on hb
  replace bz := bz.trans (hb.mono bz.size)
  clear hb
  refine hK.out _ _ ⟨Du, Dx, Dy⟩ (fun hH => ?_)
  clear hK K hS
  have hS := hH
  clear hH
  try simp only [Act.put, List.setIfInBounds_toArray, List.set_cons_zero, List.set_cons_succ, List.getElem_toArray, List.getElem_cons_zero, List.getElem_cons_succ]
  refine wpAnyH_take (i := 4) (v := ?v4_35) rfl (by kernel_rfl) (by kernel_rfl) (by kernel_rfl) (fun _ _ _ h => h) (Or.inl ⟨by rfl, ?hy4_35⟩) (by assumption) ?rest4_35
  case hy4_35 => (intro w9 hSw; clear hSw; go_simp; try with_reducible rfl)
  try simp only [Act.put, List.setIfInBounds_toArray, List.set_cons_zero, List.set_cons_succ, List.getElem_toArray, List.getElem_cons_zero, List.getElem_cons_succ]
  refine wpAnyH_take (i := 5) (v := ?v5_36) rfl (by kernel_rfl) (by kernel_rfl) (by kernel_rfl) (fun _ _ _ h => h) (Or.inl ⟨by rfl, ?hy5_36⟩) (by assumption) ?rest5_36
  case hy5_36 => (intro w9 hSw; clear hSw; go_simp; try with_reducible rfl)
  try simp only [Act.put, List.setIfInBounds_toArray, List.set_cons_zero, List.set_cons_succ, List.getElem_toArray, List.getElem_cons_zero, List.getElem_cons_succ]
  refine wpAnyH_take (i := 6) (v := ?v6_37) rfl (by kernel_rfl) (by kernel_rfl) (by kernel_rfl) (fun _ _ _ h => h) (Or.inl ⟨by rfl, ?hy6_37⟩) (by assumption) ?rest6_37
  case hy6_37 => (intro w9 hSw; obtain ⟨m0, m1, m2⟩ := hSw; refine (ld_v (by rfl) (by kernel_rfl) m2).trans ?_; with_reducible rfl)
  try simp only [Act.put, List.setIfInBounds_toArray, List.set_cons_zero, List.set_cons_succ, List.getElem_toArray, List.getElem_cons_zero, List.getElem_cons_succ]
  refine wpAnyH_take (i := 7) (v := ?v7_38) rfl (by kernel_rfl) (by kernel_rfl) (by kernel_rfl) (fun _ _ _ h => h) (Or.inl ⟨by rfl, ?hy7_38⟩) (by assumption) ?rest7_38
  case hy7_38 => (intro w9 hSw; obtain ⟨m0, m1, m2⟩ := hSw; refine (ld_v (by rfl) (by kernel_rfl) m0).trans ?_; with_reducible rfl)
  try simp only [Act.put, List.setIfInBounds_toArray, List.set_cons_zero, List.set_cons_succ, List.getElem_toArray, List.getElem_cons_zero, List.getElem_cons_succ]
  refine wpAnyH_take (i := 9) (v := ?v9_39) rfl (by kernel_rfl) (by kernel_rfl) (by kernel_rfl) (fun _ _ _ h => h) (Or.inl ⟨by rfl, ?hy9_39⟩) (by assumption) ?rest9_39
  case hy9_39 => (intro w9 hSw; obtain ⟨m0, m1, m2⟩ := hSw; refine (ld_v (by rfl) (by kernel_rfl) m1).trans ?_; with_reducible rfl)
  try simp only [Act.put, List.setIfInBounds_toArray, List.set_cons_zero, List.set_cons_succ, List.getElem_toArray, List.getElem_cons_zero, List.getElem_cons_succ]
  refine wpAnyH_ready (rs := [8]) (by kernel_rfl) (by simp) ?_
  refine AllReadyH.cons rfl (fun K hK => ?_) AllReadyH.nil
  go_simp
  with_reducible refine (Rows_any u _).mono ?_
  rintro e w3 ⟨rfl, hb⟩
  replace Du := Du.on hb
  replace Dx := Dx.on hb
  replace Dy := Dy.on hb
  replace bz := bz.trans (hb.mono bz.size)
  clear hb
  refine hK.out _ _ ⟨Du, Dx, Dy⟩ (fun hH => ?_)
  clear hK K hS
  have hS := hH
  clear hH
  try simp only [Act.put, List.setIfInBounds_toArray, List.set_cons_zero, List.set_cons_succ, List.getElem_toArray, List.getElem_cons_zero, List.getElem_cons_succ]
  refine wpAnyH_ready (rs := [10]) (by kernel_rfl) (by simp) ?_
  refine AllReadyH.cons rfl (fun K hK => ?_) AllReadyH.nil
  go_simp
  with_reducible refine (Cols_any x _).mono ?_
  rintro e w4 ⟨rfl, hb⟩
  replace Du := Du.on hb
  replace Dx := Dx.on hb
  replace Dy := Dy.on hb
  replace bz := bz.trans (hb.mono bz.size)
  clear hb
  refine hK.out _ _ ⟨Du, Dx, Dy⟩ (fun hH => ?_)
  clear hK K hS
  have hS := hH
  clear hH
  try simp only [Act.put, List.setIfInBounds_toArray, List.set_cons_zero, List.set_cons_succ, List.getElem_toArray, List.getElem_cons_zero, List.getElem_cons_succ]
  refine wpAnyH_ready (rs := [11]) (by kernel_rfl) (by simp) ?_
  refine AllReadyH.cons rfl (fun K hK => ?_) AllReadyH.nil
  go_simp
  with_reducible refine (p4 _ bz).mono ?_
  rintro e w5 ⟨rfl, hb⟩
  replace Du := Du.on hb
  replace Dx := Dx.on hb
  replace Dy := Dy.on hb
  replace bz := bz.trans (hb.mono bz.size)
  clear hb
  refine hK.out _ _ ⟨Du, Dx, Dy⟩ (fun hH => ?_)
  clear hK K hS
  have hS := hH
  clear hH
  try simp only [Act.put, List.setIfInBounds_toArray, List.set_cons_zero, List.set_cons_succ, List.getElem_toArray, List.getElem_cons_zero, List.getElem_cons_succ]
  refine wpAnyH_take (i := 12) (v := ?v12_40) rfl (by kernel_rfl) (by kernel_rfl) (by kernel_rfl) (fun _ _ _ h => h) (Or.inl ⟨by rfl, ?hy12_40⟩) (by assumption) ?rest12_40
  case hy12_40 => (intro w9 hSw; clear hSw; go_simp; try with_reducible rfl)
  try simp only [Act.put, List.setIfInBounds_toArray, List.set_cons_zero, List.set_cons_succ, List.getElem_toArray, List.getElem_cons_zero, List.getElem_cons_succ]
  refine wpAnyH_take (i := 13) (v := ?v13_41) rfl (by kernel_rfl) (by kernel_rfl) (by kernel_rfl) (fun _ _ _ h => h) (Or.inl ⟨by rfl, ?hy13_41⟩) (by assumption) ?rest13_41
  case hy13_41 => (intro w9 hSw; clear hSw; go_simp; try with_reducible rfl)
  try simp only [Act.put, List.setIfInBounds_toArray, List.set_cons_zero, List.set_cons_succ, List.getElem_toArray, List.getElem_cons_zero, List.getElem_cons_succ]
  refine wpAnyH_done (by kernel_rfl) ?_ _
  obtain ⟨v0_0, v0_1, v0_2, v0_3, v0_4, v0_5, v0_6, v0_7, v0_8⟩ := Vbx.cells Du
  obtain ⟨v1_0, v1_1, v1_2, v1_3, v1_4, v1_5, v1_6, v1_7, v1_8⟩ := Vbx.cells Dx
  obtain ⟨v2_0, v2_1, v2_2, v2_3, v2_4, v2_5, v2_6, v2_7, v2_8⟩ := Vbx.cells Dy
  have hL : VLs (w5.alloc (.cells #[.pointer u.p, .int .i64 u.f0, .int .i64 u.f1, .int .i64 u.d0, .int .i64 u.d1, .int .i64 u.r0, .int .i64 u.r1, .int .i64 u.R, .int .i64 u.C, .pointer x.p, .int .i64 x.f0, .int .i64 x.f1, .int .i64 x.d0, .int .i64 x.d1, .int .i64 x.r0, .int .i64 x.r1, .int .i64 x.R, .int .i64 x.C, .pointer y.p, .int .i64 y.f0, .int .i64 y.f1, .int .i64 y.d0, .int .i64 y.d1, .int .i64 y.r0, .int .i64 y.r1, .int .i64 y.R, .int .i64 y.C] 30)) ⟨w5.heap.size, 0, none⟩ [u, x, y] := VLs.of (Blk.new w5 ([u, x, y].flatMap Vu.L) 30)
  replace Du := Du.on ((Below.refl _ _).alloc (Nat.le_refl _) ((.cells #[.pointer u.p, .int .i64 u.f0, .int .i64 u.f1, .int .i64 u.d0, .int .i64 u.d1, .int .i64 u.r0, .int .i64 u.r1, .int .i64 u.R, .int .i64 u.C, .pointer x.p, .int .i64 x.f0, .int .i64 x.f1, .int .i64 x.d0, .int .i64 x.d1, .int .i64 x.r0, .int .i64 x.r1, .int .i64 x.R, .int .i64 x.C, .pointer y.p, .int .i64 y.f0, .int .i64 y.f1, .int .i64 y.d0, .int .i64 y.d1, .int .i64 y.r0, .int .i64 y.r1, .int .i64 y.R, .int .i64 y.C] 30)))
  replace Dx := Dx.on ((Below.refl _ _).alloc (Nat.le_refl _) ((.cells #[.pointer u.p, .int .i64 u.f0, .int .i64 u.f1, .int .i64 u.d0, .int .i64 u.d1, .int .i64 u.r0, .int .i64 u.r1, .int .i64 u.R, .int .i64 u.C, .pointer x.p, .int .i64 x.f0, .int .i64 x.f1, .int .i64 x.d0, .int .i64 x.d1, .int .i64 x.r0, .int .i64 x.r1, .int .i64 x.R, .int .i64 x.C, .pointer y.p, .int .i64 y.f0, .int .i64 y.f1, .int .i64 y.d0, .int .i64 y.d1, .int .i64 y.r0, .int .i64 y.r1, .int .i64 y.R, .int .i64 y.C] 30)))
  replace Dy := Dy.on ((Below.refl _ _).alloc (Nat.le_refl _) ((.cells #[.pointer u.p, .int .i64 u.f0, .int .i64 u.f1, .int .i64 u.d0, .int .i64 u.d1, .int .i64 u.r0, .int .i64 u.r1, .int .i64 u.R, .int .i64 u.C, .pointer x.p, .int .i64 x.f0, .int .i64 x.f1, .int .i64 x.d0, .int .i64 x.d1, .int .i64 x.r0, .int .i64 x.r1, .int .i64 x.R, .int .i64 x.C, .pointer y.p, .int .i64 y.f0, .int .i64 y.f1, .int .i64 y.d0, .int .i64 y.d1, .int .i64 y.r0, .int .i64 y.r1, .int .i64 y.R, .int .i64 y.C] 30)))
  replace bz := bz.alloc bz.size ((.cells #[.pointer u.p, .int .i64 u.f0, .int .i64 u.f1, .int .i64 u.d0, .int .i64 u.d1, .int .i64 u.r0, .int .i64 u.r1, .int .i64 u.R, .int .i64 u.C, .pointer x.p, .int .i64 x.f0, .int .i64 x.f1, .int .i64 x.d0, .int .i64 x.d1, .int .i64 x.r0, .int .i64 x.r1, .int .i64 x.R, .int .i64 x.C, .pointer y.p, .int .i64 y.f0, .int .i64 y.f1, .int .i64 y.d0, .int .i64 y.d1, .int .i64 y.r0, .int .i64 y.r1, .int .i64 y.R, .int .i64 y.C] 30))
  go_wp2_with fail
  with_reducible refine (refused_is true (vs := [u, x, y]) (n := 3) rfl (by omega) hL (by intro z hz; simp only [List.mem_cons, List.mem_nil_iff, or_false] at hz; rcases hz with rfl | rfl | rfl; exact ⟨_, HSu.out.on bz⟩; exact ⟨_, HSx.out.on bz⟩; exact ⟨_, HSy.out.on bz⟩)).mono ?_
  rintro e w6 ⟨rfl, hb⟩
  clear v0_0 v0_1 v0_2 v0_3 v0_4 v0_5 v0_6 v0_7 v0_8 v1_0 v1_1 v1_2 v1_3 v1_4 v1_5 v1_6 v1_7 v1_8 v2_0 v2_1 v2_2 v2_3 v2_4 v2_5 v2_6 v2_7 v2_8
  replace Du := Du.on hb
  replace Dx := Dx.on hb
  replace Dy := Dy.on hb
  replace hL := hL.on hb
  replace bz := bz.trans (hb.mono bz.size)
  clear hb hL
  rw [HE.out]
  go_wp2_with fail
  replace Du := Du.drew
  replace Dx := Dx.drew
  replace Dy := Dy.drew
  replace bz := bz.drew
  refine wp_region_held_drew (S := fun w9 : World => Vbx w9 w.heap.size u ∧ Vbx w9 (w.heap.size + 1) x ∧ Vbx w9 (w.heap.size + 2) y) (by kernel_rfl) ⟨Du, Dx, Dy⟩ (fun hS => ?_)
  generalize w6.drew = wf at hS Du Dx Dy  bz ⊢
  refine wpAnyH_take (i := 0) (v := ?v0_42) rfl (by kernel_rfl) (by kernel_rfl) (by kernel_rfl) (fun _ _ _ h => h) (Or.inl ⟨by rfl, ?hy0_42⟩) (by assumption) ?rest0_42
  case hy0_42 => (intro w9 hSw; obtain ⟨m0, m1, m2⟩ := hSw; refine (ld_v (by rfl) (by kernel_rfl) m2).trans ?_; with_reducible rfl)
  try simp only [Act.put, List.setIfInBounds_toArray, List.set_cons_zero, List.set_cons_succ, List.getElem_toArray, List.getElem_cons_zero, List.getElem_cons_succ]
  refine wpAnyH_take (i := 1) (v := ?v1_43) rfl (by kernel_rfl) (by kernel_rfl) (by kernel_rfl) (fun _ _ _ h => h) (Or.inl ⟨by rfl, ?hy1_43⟩) (by assumption) ?rest1_43
  case hy1_43 => (intro w9 hSw; clear hSw; go_simp; try with_reducible rfl)
  try simp only [Act.put, List.setIfInBounds_toArray, List.set_cons_zero, List.set_cons_succ, List.getElem_toArray, List.getElem_cons_zero, List.getElem_cons_succ]
  refine wpAnyH_take (i := 2) (v := ?v2_44) rfl (by kernel_rfl) (by kernel_rfl) (by kernel_rfl) (fun _ _ _ h => h) (Or.inl ⟨by rfl, ?hy2_44⟩) (by assumption) ?rest2_44
  case hy2_44 => (intro w9 hSw; obtain ⟨m0, m1, m2⟩ := hSw; refine (ld_v (by rfl) (by kernel_rfl) m1).trans ?_; with_reducible rfl)
  try simp only [Act.put, List.setIfInBounds_toArray, List.set_cons_zero, List.set_cons_succ, List.getElem_toArray, List.getElem_cons_zero, List.getElem_cons_succ]
  refine wpAnyH_take (i := 5) (v := ?v5_45) rfl (by kernel_rfl) (by kernel_rfl) (by kernel_rfl) (fun _ _ _ h => h) (Or.inl ⟨by rfl, ?hy5_45⟩) (by assumption) ?rest5_45
  case hy5_45 => (intro w9 hSw; obtain ⟨m0, m1, m2⟩ := hSw; refine (ld_v (by rfl) (by kernel_rfl) m2).trans ?_; with_reducible rfl)
  try simp only [Act.put, List.setIfInBounds_toArray, List.set_cons_zero, List.set_cons_succ, List.getElem_toArray, List.getElem_cons_zero, List.getElem_cons_succ]
  refine wpAnyH_ready (rs := [3]) (by kernel_rfl) (by simp) ?_
  refine AllReadyH.cons rfl (fun K hK => ?_) AllReadyH.nil
  go_simp
  with_reducible refine (T_any x _).mono ?_
  rintro e w7 ⟨rfl, hb⟩
  replace Du := Du.on hb
  replace Dx := Dx.on hb
  replace Dy := Dy.on hb
  replace bz := bz.trans (hb.mono bz.size)
  clear hb
  refine hK.out _ _ ⟨Du, Dx, Dy⟩ (fun hH => ?_)
  clear hK K hS
  have hS := hH
  clear hH
  try simp only [Act.put, List.setIfInBounds_toArray, List.set_cons_zero, List.set_cons_succ, List.getElem_toArray, List.getElem_cons_zero, List.getElem_cons_succ]
  refine wpAnyH_ready (rs := [4]) (by kernel_rfl) (by simp) ?_
  refine AllReadyH.cons rfl (fun K hK => ?_) AllReadyH.nil
  go_simp
  have hBhN := Nat.lt_of_lt_of_le HST.out.gt.2 bz.size
  with_reducible refine (rows_is (HXS.out.on bz) HTR.out.1 HTR.out.2).mono ?_
  rintro e w8 ⟨o2, G2, cG2, rfl, hN, hb⟩
  replace Du := Du.on hb
  replace Dx := Dx.on hb
  replace Dy := Dy.on hb
  replace bz := bz.trans (hb.mono bz.size)
  clear hb
  refine hK.out _ _ ⟨Du, Dx, Dy⟩ (fun hH => ?_)
  clear hK K hS
  have hS := hH
  clear hH
  try simp only [Act.put, List.setIfInBounds_toArray, List.set_cons_zero, List.set_cons_succ, List.getElem_toArray, List.getElem_cons_zero, List.getElem_cons_succ]
  refine wpAnyH_ready (rs := [6]) (by kernel_rfl) (by simp) ?_
  refine AllReadyH.cons rfl (fun K hK => ?_) AllReadyH.nil
  go_simp
  have hBhU := Nat.lt_of_lt_of_le HST.out.gt.2 bz.size
  with_reducible refine (rows_is (HSy.out.on bz) HR9.out HC9.out).mono ?_
  rintro e w9 ⟨o3, G3, cG3, rfl, hU, hb⟩
  replace Du := Du.on hb
  replace Dx := Dx.on hb
  replace Dy := Dy.on hb
  replace hN := hN.on hb
  replace bz := bz.trans (hb.mono bz.size)
  clear hb
  refine hK.out _ _ ⟨Du, Dx, Dy⟩ (fun hH => ?_)
  clear hK K hS
  have hS := hH
  clear hH
  try simp only [Act.put, List.setIfInBounds_toArray, List.set_cons_zero, List.set_cons_succ, List.getElem_toArray, List.getElem_cons_zero, List.getElem_cons_succ]
  refine wpAnyH_take (i := 7) (v := ?v7_46) rfl (by kernel_rfl) (by kernel_rfl) (by kernel_rfl) (fun _ _ _ h => h) (Or.inl ⟨by rfl, ?hy7_46⟩) (by assumption) ?rest7_46
  case hy7_46 => (intro w9 hSw; clear hSw; go_simp; try with_reducible rfl)
  try simp only [Act.put, List.setIfInBounds_toArray, List.set_cons_zero, List.set_cons_succ, List.getElem_toArray, List.getElem_cons_zero, List.getElem_cons_succ]
  refine wpAnyH_take (i := 8) (v := ?v8_47) rfl (by kernel_rfl) (by kernel_rfl) (by kernel_rfl) (fun _ _ _ h => h) (Or.inl ⟨by rfl, ?hy8_47⟩) (by assumption) ?rest8_47
  case hy8_47 => (intro w9 hSw; clear hSw; go_simp; try with_reducible rfl)
  try simp only [Act.put, List.setIfInBounds_toArray, List.set_cons_zero, List.set_cons_succ, List.getElem_toArray, List.getElem_cons_zero, List.getElem_cons_succ]
  refine wpAnyH_take (i := 9) (v := ?v9_48) rfl (by kernel_rfl) (by kernel_rfl) (by kernel_rfl) (fun _ _ _ h => h) (Or.inl ⟨by rfl, ?hy9_48⟩) (by assumption) ?rest9_48
  case hy9_48 => (intro w9 hSw; clear hSw; go_simp; try with_reducible rfl)
  try simp only [Act.put, List.setIfInBounds_toArray, List.set_cons_zero, List.set_cons_succ, List.getElem_toArray, List.getElem_cons_zero, List.getElem_cons_succ]
  refine wpAnyH_done (by kernel_rfl) ?_ _
  obtain ⟨v0_0, v0_1, v0_2, v0_3, v0_4, v0_5, v0_6, v0_7, v0_8⟩ := Vbx.cells Du
  obtain ⟨v1_0, v1_1, v1_2, v1_3, v1_4, v1_5, v1_6, v1_7, v1_8⟩ := Vbx.cells Dx
  obtain ⟨v2_0, v2_1, v2_2, v2_3, v2_4, v2_5, v2_6, v2_7, v2_8⟩ := Vbx.cells Dy
  have hBhM := Nat.lt_of_lt_of_le HST.out.gt.2 bz.size
  go_wp2_with fail
  with_reducible refine (rows_is (HSu.out.on bz) HUR.out HUC.out).mono ?_
  rintro e w10 ⟨o1, G1, cG1, rfl, hM, hb⟩
  clear v0_0 v0_1 v0_2 v0_3 v0_4 v0_5 v0_6 v0_7 v0_8 v1_0 v1_1 v1_2 v1_3 v1_4 v1_5 v1_6 v1_7 v1_8 v2_0 v2_1 v2_2 v2_3 v2_4 v2_5 v2_6 v2_7 v2_8
  replace Du := Du.on hb
  replace Dx := Dx.on hb
  replace Dy := Dy.on hb
  replace hN := hN.on hb
  replace hU := hU.on hb
  replace bz := bz.trans (hb.mono bz.size)
  clear hb
  have hs1 := HST.out.on bz
  have hgr := grown_below bz (some g)
  have hW : Wr y c l l (fun a b => decide (a < 0 ∨ (a = 0 ∧ b < 0))) f := Wr.start y c l f (fun a b _ => by simp)
  clear bz Dx Dy Du
  go_wp2_with fail
  go_loopw [52] (fun i wr => ∃ (k : Nat) (lx : List Int), k ≤ m ∧ i = .int .i64 k ∧ Wr y c l lx (fun a b => decide (a < k ∨ (a = k ∧ b < 0))) f ∧ St wr B s g cap c lx ∧ w.grownBy wr (some g) ∧ Rws wr w9.heap.size o1 G1 cG1 m p U ∧ Rws wr w7.heap.size o2 G2 cG2 q p XT ∧ Rws wr w8.heap.size o3 G3 cG3 m q Y) (fun i _ => m - (intOf i).toNat)
  case atStart => exact ⟨0, l, Nat.zero_le _, rfl, hW, hs1, hgr, hM, hN, hU⟩
  case round =>
    clear hW hs1 hgr hM hN hU
    obtain ⟨i, lx, hi, rfl, hW, hs1, hgr, hM, hN, hU⟩ := hrel
    by_cases hlt : i < m
    · have i0 : (0 : Int) ≤ i := by omega
      have i1 : (i : Int) < m := by omega
      obtain ⟨A5, c5, hp5⟩ := Rws.pinrow (w := wr) (B := w9.heap.size) (o := o1) (G := G1) (cG := cG1) (q := p) (l := U) hlt
      have HP5 := Lib.hid hp5
      have hc5 := (hp5 _ hM).1
      clear hp5
      go_wp2_with fail
      clear hc5
      go_loopw [59] (fun j wr => ∃ (jj : Nat) (lx : List Int), jj ≤ q ∧ j = .int .i64 jj ∧ Wr y c l lx (fun a b => decide (a < i ∨ (a = i ∧ b < jj))) f ∧ St wr B s g cap c lx ∧ w.grownBy wr (some g) ∧ Rws wr w9.heap.size o1 G1 cG1 m p U ∧ Rws wr w7.heap.size o2 G2 cG2 q p XT ∧ Rws wr w8.heap.size o3 G3 cG3 m q Y) (fun j _ => q - (intOf j).toNat)
      case atStart => exact ⟨0, lx, by omega, by go_num, hW, hs1, hgr, hM, hN, hU⟩
      case round =>
        clear hW hs1 hgr hM hN hU
        obtain ⟨j, lx, hj, rfl, hW, hs1, hgr, hM, hN, hU⟩ := hrel
        by_cases hjt : j < q
        · have j0 : (0 : Int) ≤ j := by omega
          have j1 : (j : Int) < q := by omega
          have hh : y.has i j = true := (has_iff _ _ _).2 (by rw [HR9.out, HC9.out]; omega)
          obtain ⟨A6, c6, hp6⟩ := Rws.pinrow (w := wr) (B := w7.heap.size) (o := o2) (G := G2) (cG := cG2) (q := p) (l := XT) hjt
          have HP6 := Lib.hid hp6
          have hc6 := (hp6 _ hN).1
          clear hp6
          obtain ⟨ad, c7, hp7⟩ := hU.pin hlt hjt
          obtain ⟨yl, yu⟩ := hU.wd.at_ (i * q + j)
          have bV : (D Y (i * q + j)).toNat ≤ 18446744073709551615 := by omega
          have HV : Hid (af (D Y (i * q + j)).toNat = ma Y q i j) := Lib.hid rfl
          generalize (D Y (i * q + j)).toNat = V at *
          have HPU := Lib.hid hp7
          clear hp7 yl yu
          go_wp2_with fail
          clear hc6
          have bz := (Below.refl wr.heap.size wr).drew
          replace hM := hM.on (Below.refl _ wr).drew
          replace hN := hN.on (Below.refl _ wr).drew
          replace hU := hU.on (Below.refl _ wr).drew
          replace hs1 := hs1.on (Below.refl _ wr).drew
          refine wp_region_held_drew (S := fun w9 : World => w9.cell? ⟨o3, i, none⟩ = some (.slice (some ad) q c7) ∧ w9.cell? (ad.add j) = some (.float .f64 V)) (by kernel_rfl) (HPU.out _ hU) (fun hS => ?_)
          refine wpAnyH_take (i := 0) (v := ?v0_49) rfl (by kernel_rfl) (by kernel_rfl) (by kernel_rfl) (fun _ _ _ h => h) (Or.inl ⟨by rfl, ?hy0_49⟩) (by assumption) ?rest0_49
          case hy0_49 => (intro w9 hSw; clear hSw; go_simp; try with_reducible rfl)
          try simp only [Act.put, List.setIfInBounds_toArray, List.set_cons_zero, List.set_cons_succ, List.getElem_toArray, List.getElem_cons_zero, List.getElem_cons_succ]
          refine wpAnyH_take (i := 1) (v := ?v1_50) rfl (by kernel_rfl) (by kernel_rfl) (by kernel_rfl) (fun _ _ _ h => h) (Or.inl ⟨by rfl, ?hy1_50⟩) (by assumption) ?rest1_50
          case hy1_50 => (intro w9 hSw; clear hSw; go_simp; try with_reducible rfl)
          try simp only [Act.put, List.setIfInBounds_toArray, List.set_cons_zero, List.set_cons_succ, List.getElem_toArray, List.getElem_cons_zero, List.getElem_cons_succ]
          refine wpAnyH_take (i := 2) (v := ?v2_51) rfl (by kernel_rfl) (by kernel_rfl) (by kernel_rfl) (fun _ _ _ h => h) (Or.inl ⟨by rfl, ?hy2_51⟩) (by assumption) ?rest2_51
          case hy2_51 => (intro w9 hSw; clear hSw; go_simp; try with_reducible rfl)
          try simp only [Act.put, List.setIfInBounds_toArray, List.set_cons_zero, List.set_cons_succ, List.getElem_toArray, List.getElem_cons_zero, List.getElem_cons_succ]
          refine wpAnyH_take (i := 3) (v := ?v3_52) rfl (by kernel_rfl) (by kernel_rfl) (by kernel_rfl) (fun _ _ _ h => h) (Or.inl ⟨by rfl, ?hy3_52⟩) (by assumption) ?rest3_52
          case hy3_52 => (intro w9 hSw; clear hSw; go_simp; try with_reducible rfl)
          try simp only [Act.put, List.setIfInBounds_toArray, List.set_cons_zero, List.set_cons_succ, List.getElem_toArray, List.getElem_cons_zero, List.getElem_cons_succ]
          refine wpAnyH_take (i := 4) (v := ?v4_53) rfl (by kernel_rfl) (by kernel_rfl) (by kernel_rfl) (fun _ _ _ h => h) (Or.inl ⟨by rfl, ?hy4_53⟩) (by assumption) ?rest4_53
          case hy4_53 => (intro w9 hSw; clear hSw; go_simp; try with_reducible rfl)
          try simp only [Act.put, List.setIfInBounds_toArray, List.set_cons_zero, List.set_cons_succ, List.getElem_toArray, List.getElem_cons_zero, List.getElem_cons_succ]
          refine wpAnyH_take (i := 5) (v := ?v5_54) rfl (by kernel_rfl) (by kernel_rfl) (by kernel_rfl) (fun _ _ _ h => h) (Or.inl ⟨by rfl, ?hy5_54⟩) (by assumption) ?rest5_54
          case hy5_54 => (intro w9 hSw; clear hSw; go_simp; try with_reducible rfl)
          try simp only [Act.put, List.setIfInBounds_toArray, List.set_cons_zero, List.set_cons_succ, List.getElem_toArray, List.getElem_cons_zero, List.getElem_cons_succ]
          refine wpAnyH_take (i := 6) (v := ?v6_55) rfl (by kernel_rfl) (by kernel_rfl) (by kernel_rfl) (fun _ _ _ h => h) (Or.inl ⟨by rfl, ?hy6_55⟩) (by assumption) ?rest6_55
          case hy6_55 => (intro w9 hSw; clear hSw; go_simp; try with_reducible rfl)
          try simp only [Act.put, List.setIfInBounds_toArray, List.set_cons_zero, List.set_cons_succ, List.getElem_toArray, List.getElem_cons_zero, List.getElem_cons_succ]
          refine wpAnyH_take (i := 7) (v := ?v7_56) rfl (by kernel_rfl) (by kernel_rfl) (by kernel_rfl) (fun _ _ _ h => h) (Or.inl ⟨by rfl, ?hy7_56⟩) (by assumption) ?rest7_56
          case hy7_56 => (intro w9 hSw; obtain ⟨m0, m1⟩ := hSw; go_simp; try with_reducible rfl)
          try simp only [Act.put, List.setIfInBounds_toArray, List.set_cons_zero, List.set_cons_succ, List.getElem_toArray, List.getElem_cons_zero, List.getElem_cons_succ]
          refine wpAnyH_take (i := 8) (v := ?v8_57) rfl (by kernel_rfl) (by kernel_rfl) (by kernel_rfl) (fun _ _ _ h => h) (Or.inl ⟨by rfl, ?hy8_57⟩) (by assumption) ?rest8_57
          case hy8_57 => (intro w9 hSw; clear hSw; go_simp; try with_reducible rfl)
          try simp only [Act.put, List.setIfInBounds_toArray, List.set_cons_zero, List.set_cons_succ, List.getElem_toArray, List.getElem_cons_zero, List.getElem_cons_succ]
          refine wpAnyH_take (i := 9) (v := ?v9_58) rfl (by kernel_rfl) (by kernel_rfl) (by kernel_rfl) (fun _ _ _ h => h) (Or.inl ⟨by rfl, ?hy9_58⟩) (by assumption) ?rest9_58
          case hy9_58 => (intro w9 hSw; clear hSw; go_simp; try with_reducible rfl)
          try simp only [Act.put, List.setIfInBounds_toArray, List.set_cons_zero, List.set_cons_succ, List.getElem_toArray, List.getElem_cons_zero, List.getElem_cons_succ]
          refine wpAnyH_take (i := 10) (v := ?v10_59) rfl (by kernel_rfl) (by kernel_rfl) (by kernel_rfl) (fun _ _ _ h => h) (Or.inl ⟨by rfl, ?hy10_59⟩) (by assumption) ?rest10_59
          case hy10_59 => (intro w9 hSw; obtain ⟨m0, m1⟩ := hSw; go_simp; try with_reducible rfl)
          try simp only [Act.put, List.setIfInBounds_toArray, List.set_cons_zero, List.set_cons_succ, List.getElem_toArray, List.getElem_cons_zero, List.getElem_cons_succ]
          refine wpAnyH_take (i := 12) (v := ?v12_60) rfl (by kernel_rfl) (by kernel_rfl) (by kernel_rfl) (fun _ _ _ h => h) (Or.inl ⟨by rfl, ?hy12_60⟩) (by assumption) ?rest12_60
          case hy12_60 => (intro w9 hSw; clear hSw; go_simp; try with_reducible rfl)
          try simp only [Act.put, List.setIfInBounds_toArray, List.set_cons_zero, List.set_cons_succ, List.getElem_toArray, List.getElem_cons_zero, List.getElem_cons_succ]
          refine wpAnyH_take (i := 13) (v := ?v13_61) rfl (by kernel_rfl) (by kernel_rfl) (by kernel_rfl) (fun _ _ _ h => h) (Or.inl ⟨by rfl, ?hy13_61⟩) (by assumption) ?rest13_61
          case hy13_61 => (intro w9 hSw; clear hSw; go_simp; try with_reducible rfl)
          try simp only [Act.put, List.setIfInBounds_toArray, List.set_cons_zero, List.set_cons_succ, List.getElem_toArray, List.getElem_cons_zero, List.getElem_cons_succ]
          refine wpAnyH_take (i := 14) (v := ?v14_62) rfl (by kernel_rfl) (by kernel_rfl) (by kernel_rfl) (fun _ _ _ h => h) (Or.inl ⟨by rfl, ?hy14_62⟩) (by assumption) ?rest14_62
          case hy14_62 => (intro w9 hSw; clear hSw; go_simp; try with_reducible rfl)
          try simp only [Act.put, List.setIfInBounds_toArray, List.set_cons_zero, List.set_cons_succ, List.getElem_toArray, List.getElem_cons_zero, List.getElem_cons_succ]
          refine wpAnyH_ready (rs := [11, 15]) (by kernel_rfl) (by simp) ?_
          refine (AllReadyH.cons rfl (fun K hK => ?_) (AllReadyH.cons rfl (fun K hK => ?_) AllReadyH.nil))
          · refine step_arith .mul (.inr (.inr (.inl rfl))) rfl _ _ _ _ b V rfl rfl rfl bb bV ?_
            intro r11 w11 hb h11 b11 hdr
            have H11 := Lib.hid h11
            clear h11 hdr
            replace hM := hM.on hb
            replace hN := hN.on hb
            replace hU := hU.on hb
            replace hs1 := hs1.on hb
            replace bz := bz.trans (hb.mono bz.size)
            clear hb
            refine hK.out _ _ (HPU.out _ hU) (fun hH => ?_)
            clear hK K hS
            have hS := hH
            clear hH
            try simp only [Act.put, List.setIfInBounds_toArray, List.set_cons_zero, List.set_cons_succ, List.getElem_toArray, List.getElem_cons_zero, List.getElem_cons_succ]
            refine wpAnyH_ready (rs := [15]) (by kernel_rfl) (by simp) ?_
            refine AllReadyH.cons rfl (fun K hK => ?_) AllReadyH.nil
            go_simp
            with_reducible refine (dot_any (HP5.out _ hM).2 (HP6.out _ hN).2 (Nat.le_refl _)).mono ?_
            rintro e w12 ⟨rD, rfl, hD, bD, hb⟩
            replace hM := hM.on hb
            replace hN := hN.on hb
            replace hU := hU.on hb
            replace hs1 := hs1.on hb
            replace bz := bz.trans (hb.mono bz.size)
            clear hb
            rw [dot_rc hjt HXD.out] at hD
            have HD := Lib.hid hD
            clear hD
            refine hK.out _ _ (HPU.out _ hU) (fun hH => ?_)
            clear hK K hS
            have hS := hH
            clear hH
            try simp only [Act.put, List.setIfInBounds_toArray, List.set_cons_zero, List.set_cons_succ, List.getElem_toArray, List.getElem_cons_zero, List.getElem_cons_succ]
            refine wpAnyH_ready (rs := [16]) (by kernel_rfl) (by simp) ?_
            refine AllReadyH.cons rfl (fun K hK => ?_) AllReadyH.nil
            refine step_arith .mul (.inr (.inr (.inl rfl))) rfl _ _ _ _ a rD rfl rfl rfl ba bD ?_
            intro r16 w13 hb h16 b16 hdr
            have H16 := Lib.hid h16
            clear h16 hdr
            replace hM := hM.on hb
            replace hN := hN.on hb
            replace hU := hU.on hb
            replace hs1 := hs1.on hb
            replace bz := bz.trans (hb.mono bz.size)
            clear hb
            refine hK.out _ _ (HPU.out _ hU) (fun hH => ?_)
            clear hK K hS
            have hS := hH
            clear hH
            try simp only [Act.put, List.setIfInBounds_toArray, List.set_cons_zero, List.set_cons_succ, List.getElem_toArray, List.getElem_cons_zero, List.getElem_cons_succ]
            refine wpAnyH_ready (rs := [17]) (by kernel_rfl) (by simp) ?_
            refine AllReadyH.cons rfl (fun K hK => ?_) AllReadyH.nil
            refine step_arith .add (.inl rfl) rfl _ _ _ _ r11 r16 rfl rfl rfl b11 b16 ?_
            intro r17 w14 hb h17 b17 hdr
            have H17 := Lib.hid h17
            clear h17 hdr
            replace hM := hM.on hb
            replace hN := hN.on hb
            replace hU := hU.on hb
            replace hs1 := hs1.on hb
            replace bz := bz.trans (hb.mono bz.size)
            clear hb
            refine hK.out _ _ (HPU.out _ hU) (fun hH => ?_)
            clear hK K hS
            have hS := hH
            clear hH
            try simp only [Act.put, List.setIfInBounds_toArray, List.set_cons_zero, List.set_cons_succ, List.getElem_toArray, List.getElem_cons_zero, List.getElem_cons_succ]
            refine wpAnyH_ready (rs := [18]) (by kernel_rfl) (by simp) ?_
            refine AllReadyH.cons rfl (fun K hK => ?_) AllReadyH.nil
            go_simp
            have HR : Hid (af r17 = f i j) := Lib.hid (by rw [H17.out, H11.out, H16.out, HD.out, HV.out]; exact HF.out i j)
            with_reducible refine (set_wr hW HVK.out HIJ.out HLL.out hs1 hh (r := r17) (Q := fun a b => decide (a < i ∨ (a = i ∧ b < (j + 1)))) HR.out b17 (fun a b hab => by simp only [← Bool.decide_or, decide_eq_decide]; omega)).mono ?_
            rintro e w9 ⟨u5, lx2, rfl, hs2, hg2, hW2⟩
            replace hM := hM.grown hg2 (fun k e => by injection e with e; omega)
            replace hN := hN.grown hg2 (fun k e => by injection e with e; omega)
            replace hU := hU.grown hg2 (fun k e => by injection e with e; omega)
            have hgr2 := grown_trans (grown_on hgr bz) hg2
            clear hs1 hW
            refine hK.out _ _ (HPU.out _ hU) (fun hH => ?_)
            clear hK K hS
            have hS := hH
            clear hH
            try simp only [Act.put, List.setIfInBounds_toArray, List.set_cons_zero, List.set_cons_succ, List.getElem_toArray, List.getElem_cons_zero, List.getElem_cons_succ]
            refine wpAnyH_done (by kernel_rfl) ?_ _
            go_wp2_with fail
            go_roundw
            case rel => exact ⟨j + 1, lx2, by omega, by go_num, hW2, hs2, hgr2, hM, hN, hU⟩
            case measure => simp [intOf]; omega
          · go_simp
            with_reducible refine (dot_any (HP5.out _ hM).2 (HP6.out _ hN).2 (Nat.le_refl _)).mono ?_
            rintro e w11 ⟨rD, rfl, hD, bD, hb⟩
            replace hM := hM.on hb
            replace hN := hN.on hb
            replace hU := hU.on hb
            replace hs1 := hs1.on hb
            replace bz := bz.trans (hb.mono bz.size)
            clear hb
            rw [dot_rc hjt HXD.out] at hD
            have HD := Lib.hid hD
            clear hD
            refine hK.out _ _ (HPU.out _ hU) (fun hH => ?_)
            clear hK K hS
            have hS := hH
            clear hH
            try simp only [Act.put, List.setIfInBounds_toArray, List.set_cons_zero, List.set_cons_succ, List.getElem_toArray, List.getElem_cons_zero, List.getElem_cons_succ]
            refine wpAnyH_ready (rs := [11, 16]) (by kernel_rfl) (by simp) ?_
            refine (AllReadyH.cons rfl (fun K hK => ?_) (AllReadyH.cons rfl (fun K hK => ?_) AllReadyH.nil))
            · refine step_arith .mul (.inr (.inr (.inl rfl))) rfl _ _ _ _ b V rfl rfl rfl bb bV ?_
              intro r11 w12 hb h11 b11 hdr
              have H11 := Lib.hid h11
              clear h11 hdr
              replace hM := hM.on hb
              replace hN := hN.on hb
              replace hU := hU.on hb
              replace hs1 := hs1.on hb
              replace bz := bz.trans (hb.mono bz.size)
              clear hb
              refine hK.out _ _ (HPU.out _ hU) (fun hH => ?_)
              clear hK K hS
              have hS := hH
              clear hH
              try simp only [Act.put, List.setIfInBounds_toArray, List.set_cons_zero, List.set_cons_succ, List.getElem_toArray, List.getElem_cons_zero, List.getElem_cons_succ]
              refine wpAnyH_ready (rs := [16]) (by kernel_rfl) (by simp) ?_
              refine AllReadyH.cons rfl (fun K hK => ?_) AllReadyH.nil
              refine step_arith .mul (.inr (.inr (.inl rfl))) rfl _ _ _ _ a rD rfl rfl rfl ba bD ?_
              intro r16 w13 hb h16 b16 hdr
              have H16 := Lib.hid h16
              clear h16 hdr
              replace hM := hM.on hb
              replace hN := hN.on hb
              replace hU := hU.on hb
              replace hs1 := hs1.on hb
              replace bz := bz.trans (hb.mono bz.size)
              clear hb
              refine hK.out _ _ (HPU.out _ hU) (fun hH => ?_)
              clear hK K hS
              have hS := hH
              clear hH
              try simp only [Act.put, List.setIfInBounds_toArray, List.set_cons_zero, List.set_cons_succ, List.getElem_toArray, List.getElem_cons_zero, List.getElem_cons_succ]
              refine wpAnyH_ready (rs := [17]) (by kernel_rfl) (by simp) ?_
              refine AllReadyH.cons rfl (fun K hK => ?_) AllReadyH.nil
              refine step_arith .add (.inl rfl) rfl _ _ _ _ r11 r16 rfl rfl rfl b11 b16 ?_
              intro r17 w14 hb h17 b17 hdr
              have H17 := Lib.hid h17
              clear h17 hdr
              replace hM := hM.on hb
              replace hN := hN.on hb
              replace hU := hU.on hb
              replace hs1 := hs1.on hb
              replace bz := bz.trans (hb.mono bz.size)
              clear hb
              refine hK.out _ _ (HPU.out _ hU) (fun hH => ?_)
              clear hK K hS
              have hS := hH
              clear hH
              try simp only [Act.put, List.setIfInBounds_toArray, List.set_cons_zero, List.set_cons_succ, List.getElem_toArray, List.getElem_cons_zero, List.getElem_cons_succ]
              refine wpAnyH_ready (rs := [18]) (by kernel_rfl) (by simp) ?_
              refine AllReadyH.cons rfl (fun K hK => ?_) AllReadyH.nil
              go_simp
              have HR : Hid (af r17 = f i j) := Lib.hid (by rw [H17.out, H11.out, H16.out, HD.out, HV.out]; exact HF.out i j)
              with_reducible refine (set_wr hW HVK.out HIJ.out HLL.out hs1 hh (r := r17) (Q := fun a b => decide (a < i ∨ (a = i ∧ b < (j + 1)))) HR.out b17 (fun a b hab => by simp only [← Bool.decide_or, decide_eq_decide]; omega)).mono ?_
              rintro e w9 ⟨u5, lx2, rfl, hs2, hg2, hW2⟩
              replace hM := hM.grown hg2 (fun k e => by injection e with e; omega)
              replace hN := hN.grown hg2 (fun k e => by injection e with e; omega)
              replace hU := hU.grown hg2 (fun k e => by injection e with e; omega)
              have hgr2 := grown_trans (grown_on hgr bz) hg2
              clear hs1 hW
              refine hK.out _ _ (HPU.out _ hU) (fun hH => ?_)
              clear hK K hS
              have hS := hH
              clear hH
              try simp only [Act.put, List.setIfInBounds_toArray, List.set_cons_zero, List.set_cons_succ, List.getElem_toArray, List.getElem_cons_zero, List.getElem_cons_succ]
              refine wpAnyH_done (by kernel_rfl) ?_ _
              go_wp2_with fail
              go_roundw
              case rel => exact ⟨j + 1, lx2, by omega, by go_num, hW2, hs2, hgr2, hM, hN, hU⟩
              case measure => simp [intOf]; omega
            · refine step_arith .mul (.inr (.inr (.inl rfl))) rfl _ _ _ _ a rD rfl rfl rfl ba bD ?_
              intro r16 w12 hb h16 b16 hdr
              have H16 := Lib.hid h16
              clear h16 hdr
              replace hM := hM.on hb
              replace hN := hN.on hb
              replace hU := hU.on hb
              replace hs1 := hs1.on hb
              replace bz := bz.trans (hb.mono bz.size)
              clear hb
              refine hK.out _ _ (HPU.out _ hU) (fun hH => ?_)
              clear hK K hS
              have hS := hH
              clear hH
              try simp only [Act.put, List.setIfInBounds_toArray, List.set_cons_zero, List.set_cons_succ, List.getElem_toArray, List.getElem_cons_zero, List.getElem_cons_succ]
              refine wpAnyH_ready (rs := [11]) (by kernel_rfl) (by simp) ?_
              refine AllReadyH.cons rfl (fun K hK => ?_) AllReadyH.nil
              refine step_arith .mul (.inr (.inr (.inl rfl))) rfl _ _ _ _ b V rfl rfl rfl bb bV ?_
              intro r11 w13 hb h11 b11 hdr
              have H11 := Lib.hid h11
              clear h11 hdr
              replace hM := hM.on hb
              replace hN := hN.on hb
              replace hU := hU.on hb
              replace hs1 := hs1.on hb
              replace bz := bz.trans (hb.mono bz.size)
              clear hb
              refine hK.out _ _ (HPU.out _ hU) (fun hH => ?_)
              clear hK K hS
              have hS := hH
              clear hH
              try simp only [Act.put, List.setIfInBounds_toArray, List.set_cons_zero, List.set_cons_succ, List.getElem_toArray, List.getElem_cons_zero, List.getElem_cons_succ]
              refine wpAnyH_ready (rs := [17]) (by kernel_rfl) (by simp) ?_
              refine AllReadyH.cons rfl (fun K hK => ?_) AllReadyH.nil
              refine step_arith .add (.inl rfl) rfl _ _ _ _ r11 r16 rfl rfl rfl b11 b16 ?_
              intro r17 w14 hb h17 b17 hdr
              have H17 := Lib.hid h17
              clear h17 hdr
              replace hM := hM.on hb
              replace hN := hN.on hb
              replace hU := hU.on hb
              replace hs1 := hs1.on hb
              replace bz := bz.trans (hb.mono bz.size)
              clear hb
              refine hK.out _ _ (HPU.out _ hU) (fun hH => ?_)
              clear hK K hS
              have hS := hH
              clear hH
              try simp only [Act.put, List.setIfInBounds_toArray, List.set_cons_zero, List.set_cons_succ, List.getElem_toArray, List.getElem_cons_zero, List.getElem_cons_succ]
              refine wpAnyH_ready (rs := [18]) (by kernel_rfl) (by simp) ?_
              refine AllReadyH.cons rfl (fun K hK => ?_) AllReadyH.nil
              go_simp
              have HR : Hid (af r17 = f i j) := Lib.hid (by rw [H17.out, H11.out, H16.out, HD.out, HV.out]; exact HF.out i j)
              with_reducible refine (set_wr hW HVK.out HIJ.out HLL.out hs1 hh (r := r17) (Q := fun a b => decide (a < i ∨ (a = i ∧ b < (j + 1)))) HR.out b17 (fun a b hab => by simp only [← Bool.decide_or, decide_eq_decide]; omega)).mono ?_
              rintro e w9 ⟨u5, lx2, rfl, hs2, hg2, hW2⟩
              replace hM := hM.grown hg2 (fun k e => by injection e with e; omega)
              replace hN := hN.grown hg2 (fun k e => by injection e with e; omega)
              replace hU := hU.grown hg2 (fun k e => by injection e with e; omega)
              have hgr2 := grown_trans (grown_on hgr bz) hg2
              clear hs1 hW
              refine hK.out _ _ (HPU.out _ hU) (fun hH => ?_)
              clear hK K hS
              have hS := hH
              clear hH
              try simp only [Act.put, List.setIfInBounds_toArray, List.set_cons_zero, List.set_cons_succ, List.getElem_toArray, List.getElem_cons_zero, List.getElem_cons_succ]
              refine wpAnyH_done (by kernel_rfl) ?_ _
              go_wp2_with fail
              go_roundw
              case rel => exact ⟨j + 1, lx2, by omega, by go_num, hW2, hs2, hgr2, hM, hN, hU⟩
              case measure => simp [intOf]; omega
        · have hW9 := hW.congr (Q := fun a b => decide (a < (i + 1) ∨ (a = (i + 1) ∧ b < 0))) (fun a b hab => by have hb9 := (has_iff _ _ _).1 hab; rw [HR9.out, HC9.out] at hb9; simp only [decide_eq_decide]; omega)
          go_wp2_with fail
          go_roundw
          case rel => exact ⟨i + 1, lx, by omega, by go_num, hW9, hs1, hgr, hM, hN, hU⟩
          case measure => simp [intOf]; omega
    · obtain rfl : i = m := by omega
      go_wp2_with fail
      go_ret
      exact ⟨lx, rfl, hs1, hgr, hW.congr (fun a b hab => by have hb9 := (has_iff _ _ _).1 hab; rw [HR9.out, HC9.out] at hb9; simp; omega)⟩
end
end Go.Proofs.Ytfelmkkkaphkpaa
