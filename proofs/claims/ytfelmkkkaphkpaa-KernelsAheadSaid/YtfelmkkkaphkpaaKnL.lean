/-
  Layer 8, walks: the program's Gemv, Ger. (Written by wip/tools/gen_knl.py.)
-/
import Derived.Test.YtfelmkkkaphkpaaKnI
namespace Go.Proofs.Ytfelmkkkaphkpaa
open Go.RowKit Go.Bw Go.Sort Go.Shelf
set_option linter.unusedVariables false
set_option linter.unusedSimpArgs false

theorem szd_is {v : Vu} {r c : Int} (h : szd v r c = true) : v.R = r ∧ v.C = c := by
  unfold szd at h
  obtain ⟨h1, h2⟩ := Bool.and_eq_true_iff.1 h
  exact ⟨eq_of_beq h1, eq_of_beq h2⟩
theorem len_vec {v : Vu} (h : v.vec = true) : v.len = v.R * v.C := by unfold Vu.len; rw [if_pos h]
theorem dot_row {U X : List Int} {q k : Nat} : dotA ((U.drop (k * q)).take q) X q = sumA (fun t => aop .mul (ma U q k t) (fa (D X t))) q := by
  unfold dotA
  exact sumA_congr fun t ht => by rw [D_row ht]
section
variable {w : World} {u x y : Vu} {U X Y : List Int} {K : Int} {B s g cap c n a b m q : Nat} {l : List Int}
set_option maxRecDepth 100000 in
set_option maxHeartbeats 8000000 in
theorem Gemv_yes (ba : a ≤ 18446744073709551615) (bb : b ≤ 18446744073709551615) (hu : Sv w u U) (hx : Sv w x X) (hy : Sv w y Y) (he : refE ((x.vec) && (y.vec) && (szd u y.len x.len)) [u, x, y] = 0) (hv : Vk y s c n K) (hs : St w B s g cap c l) (hl : l.length = n) (hj : Inj y c) (hum0 : u.R = m) (huq0 : u.C = q) :
    Calls Try.prog 34 #[.float .f64 a, u.V, x.V, .float .f64 b, y.V] w (WrA w B s g cap c y l (fun _ _ => true) (fun i j => bothA (af b) (fa (D Y (vix y i j))) (af a) (sumA (fun t => aop .mul (ma U q (vix y i j) t) (fa (D X t))) q))) := by
  have hfit := (refE_some he).1
  have HPN : Hid (y.p ≠ none) := Lib.hid ((refE_some he).2 y (by simp))
  rw [hfit] at he
  have HE := Lib.hid he
  simp only [Bool.and_eq_true] at hfit
  obtain ⟨⟨h0, h1⟩, h2⟩ := hfit
  have e1 := szd_is h2
  rw [len_vec h1, len_vec h0] at e1
  have hvec := Lib.hid h1
  have hxl := hx.len
  have hR5 := hu.R
  have hum : u.R = (m : Int) := hum0
  have hm : (y.R * y.C).toNat = m := by omega
  have hqx : q ≤ X.length := by omega
  have hm5 : m ≤ 512 * 512 := by omega
  have HF := Lib.hid (show ∀ k, bothA (af b) (fa (D Y k)) (af a) (dotA ((U.drop (k * q)).take q) X q) = (fun k => bothA (af b) (fa (D Y k)) (af a) (sumA (fun t => aop .mul (ma U q k t) (fa (D X t))) q)) k from fun k => by rw [dot_row])
  have HUM := Lib.hid hum0
  have HUQ := Lib.hid huq0
  have HM := Lib.hid hm
  clear e1 hxl hR5 hum hum0 huq0 hm
  have HSu := Lib.hid hu
  have HSx := Lib.hid hx
  have HSy := Lib.hid hy
  have HST := Lib.hid hs
  have HVK := Lib.hid hv
  have HIJ := Lib.hid hj
  have HLL := Lib.hid hl
  have p0 := fun (W : World) (bz : Below w.heap.size w W) => Vector_any x W
  simp only [h0] at p0
  have p1 := fun (W : World) (bz : Below w.heap.size w W) => Vector_any y W
  simp only [h1] at p1
  have p4 := fun (W : World) (bz : Below w.heap.size w W) => sized_is u y.len x.len W
  simp only [h2] at p4
  clear he hs hv hj hl hu hx hy h0 h1 h2
  have Du := Blk.new w u.L 30
  have Dx := Blk.new (w.alloc (.cells u.L.toArray 30)) x.L 30
  replace Du := Du.alloc (.cells x.L.toArray 30)
  simp only [World.size_alloc] at Dx
  have Dy := Blk.new ((w.alloc (.cells u.L.toArray 30)).alloc (.cells x.L.toArray 30)) y.L 30
  replace Du := Du.alloc (.cells y.L.toArray 30)
  replace Dx := Dx.alloc (.cells y.L.toArray 30)
  simp only [World.size_alloc] at Dy
  have bz := (((Below.refl _ w).alloc (Nat.le_refl _) (.cells u.L.toArray 30)).alloc (by simp <;> omega) (.cells x.L.toArray 30)).alloc (by simp <;> omega) (.cells y.L.toArray 30)
  have hsz0 : (((w.alloc (.cells u.L.toArray 30)).alloc (.cells x.L.toArray 30)).alloc (.cells y.L.toArray 30)).heap.size = w.heap.size + 3 := by simp
  go_enter Try.func34, Try.ntmps34
  go_wp2_with fail
  replace Du := Du.drew
  replace Dx := Dx.drew
  replace Dy := Dy.drew
  replace bz := bz.drew
  refine wp_region_held_drew (S := fun w9 : World => Vbx w9 w.heap.size u ∧ Vbx w9 (w.heap.size + 1) x ∧ Vbx w9 (w.heap.size + 2) y) (by kernel_rfl) ⟨Du, Dx, Dy⟩ (fun hS => ?_)
  generalize (((w.alloc (.cells u.L.toArray 30)).alloc (.cells x.L.toArray 30)).alloc (.cells y.L.toArray 30)).drew = wd at hS Du Dx Dy  bz ⊢
  refine wpAnyH_take (i := 0) (v := ?v0_1) rfl (by kernel_rfl) (by kernel_rfl) (by kernel_rfl) (fun _ _ _ h => h) (Or.inl ⟨by rfl, ?hy0_1⟩) (by assumption) ?rest0_1
  case hy0_1 => (intro w9 hSw; obtain ⟨m0, m1, m2⟩ := hSw; refine (ld_v (by rfl) (by kernel_rfl) m1).trans ?_; with_reducible rfl)
  try simp only [Act.put, List.setIfInBounds_toArray, List.set_cons_zero, List.set_cons_succ, List.getElem_toArray, List.getElem_cons_zero, List.getElem_cons_succ]
  refine wpAnyH_ready (rs := [1]) (by kernel_rfl) (by simp) ?_
  refine AllReadyH.cons rfl (fun K hK => ?_) AllReadyH.nil
  go_simp
  with_reducible refine (p0 _ bz).mono ?_
  rintro e w1 ⟨rfl, hb⟩
  replace Du := Du.on hb
  replace Dx := Dx.on hb
  replace Dy := Dy.on hb
  replace bz := bz.trans (hb.mono bz.size)
  clear hb
  refine hK.out _ _ ⟨Du, Dx, Dy⟩ (fun hH => ?_)
  clear hK K hS
  have hS := hH
  clear hH
  try simp only [Act.put, List.setIfInBounds_toArray, List.set_cons_zero, List.set_cons_succ, List.getElem_toArray, List.getElem_cons_zero, List.getElem_cons_succ]
  refine wpAnyH_take (i := 2) (v := ?v2_2) rfl (by kernel_rfl) (by kernel_rfl) (by kernel_rfl) (fun _ _ _ h => h) (Or.inl ⟨by rfl, ?hy2_2⟩) (by assumption) ?rest2_2
  case hy2_2 => (intro w9 hSw; clear hSw; go_simp; try with_reducible rfl)
  try simp only [Act.put, List.setIfInBounds_toArray, List.set_cons_zero, List.set_cons_succ, List.getElem_toArray, List.getElem_cons_zero, List.getElem_cons_succ]
  refine wpAnyH_take (i := 3) (v := ?v3_3) rfl (by kernel_rfl) (by kernel_rfl) (by kernel_rfl) (fun _ _ _ h => h) (Or.inl ⟨by rfl, ?hy3_3⟩) (by assumption) ?rest3_3
  case hy3_3 => (intro w9 hSw; obtain ⟨m0, m1, m2⟩ := hSw; refine (ld_v (by rfl) (by kernel_rfl) m2).trans ?_; with_reducible rfl)
  try simp only [Act.put, List.setIfInBounds_toArray, List.set_cons_zero, List.set_cons_succ, List.getElem_toArray, List.getElem_cons_zero, List.getElem_cons_succ]
  refine wpAnyH_ready (rs := [4]) (by kernel_rfl) (by simp) ?_
  refine AllReadyH.cons rfl (fun K hK => ?_) AllReadyH.nil
  go_simp
  with_reducible refine (p1 _ bz).mono ?_
  rintro e w2 ⟨rfl, hb⟩
  replace Du := Du.on hb
  replace Dx := Dx.on hb
  replace Dy := Dy.on hb
  replace bz := bz.trans (hb.mono bz.size)
  clear hb
  refine hK.out _ _ ⟨Du, Dx, Dy⟩ (fun hH => ?_)
  clear hK K hS
  have hS := hH
  clear hH
  try simp only [Act.put, List.setIfInBounds_toArray, List.set_cons_zero, List.set_cons_succ, List.getElem_toArray, List.getElem_cons_zero, List.getElem_cons_succ]
  refine wpAnyH_take (i := 5) (v := ?v5_4) rfl (by kernel_rfl) (by kernel_rfl) (by kernel_rfl) (fun _ _ _ h => h) (Or.inl ⟨by rfl, ?hy5_4⟩) (by assumption) ?rest5_4
  case hy5_4 => (intro w9 hSw; clear hSw; go_simp; try with_reducible rfl)
  try simp only [Act.put, List.setIfInBounds_toArray, List.set_cons_zero, List.set_cons_succ, List.getElem_toArray, List.getElem_cons_zero, List.getElem_cons_succ]
  refine wpAnyH_take (i := 6) (v := ?v6_5) rfl (by kernel_rfl) (by kernel_rfl) (by kernel_rfl) (fun _ _ _ h => h) (Or.inl ⟨by rfl, ?hy6_5⟩) (by assumption) ?rest6_5
  case hy6_5 => (intro w9 hSw; clear hSw; go_simp; try with_reducible rfl)
  try simp only [Act.put, List.setIfInBounds_toArray, List.set_cons_zero, List.set_cons_succ, List.getElem_toArray, List.getElem_cons_zero, List.getElem_cons_succ]
  refine wpAnyH_take (i := 7) (v := ?v7_6) rfl (by kernel_rfl) (by kernel_rfl) (by kernel_rfl) (fun _ _ _ h => h) (Or.inl ⟨by rfl, ?hy7_6⟩) (by assumption) ?rest7_6
  case hy7_6 => (intro w9 hSw; obtain ⟨m0, m1, m2⟩ := hSw; refine (ld_v (by rfl) (by kernel_rfl) m0).trans ?_; with_reducible rfl)
  try simp only [Act.put, List.setIfInBounds_toArray, List.set_cons_zero, List.set_cons_succ, List.getElem_toArray, List.getElem_cons_zero, List.getElem_cons_succ]
  refine wpAnyH_take (i := 8) (v := ?v8_7) rfl (by kernel_rfl) (by kernel_rfl) (by kernel_rfl) (fun _ _ _ h => h) (Or.inl ⟨by rfl, ?hy8_7⟩) (by assumption) ?rest8_7
  case hy8_7 => (intro w9 hSw; obtain ⟨m0, m1, m2⟩ := hSw; refine (ld_v (by rfl) (by kernel_rfl) m2).trans ?_; with_reducible rfl)
  try simp only [Act.put, List.setIfInBounds_toArray, List.set_cons_zero, List.set_cons_succ, List.getElem_toArray, List.getElem_cons_zero, List.getElem_cons_succ]
  refine wpAnyH_take (i := 10) (v := ?v10_8) rfl (by kernel_rfl) (by kernel_rfl) (by kernel_rfl) (fun _ _ _ h => h) (Or.inl ⟨by rfl, ?hy10_8⟩) (by assumption) ?rest10_8
  case hy10_8 => (intro w9 hSw; obtain ⟨m0, m1, m2⟩ := hSw; refine (ld_v (by rfl) (by kernel_rfl) m1).trans ?_; with_reducible rfl)
  try simp only [Act.put, List.setIfInBounds_toArray, List.set_cons_zero, List.set_cons_succ, List.getElem_toArray, List.getElem_cons_zero, List.getElem_cons_succ]
  refine wpAnyH_ready (rs := [9]) (by kernel_rfl) (by simp) ?_
  refine AllReadyH.cons rfl (fun K hK => ?_) AllReadyH.nil
  go_simp
  with_reducible refine (svLen (HSy.out.on bz)).mono ?_
  rintro e w3 ⟨rfl, hb⟩
  replace Du := Du.on hb
  replace Dx := Dx.on hb
  replace Dy := Dy.on hb
  replace bz := bz.trans (hb.mono bz.size)
  clear hb
  refine hK.out _ _ ⟨Du, Dx, Dy⟩ (fun hH => ?_)
  clear hK K hS
  have hS := hH
  clear hH
  try simp only [Act.put, List.setIfInBounds_toArray, List.set_cons_zero, List.set_cons_succ, List.getElem_toArray, List.getElem_cons_zero, List.getElem_cons_succ]
  refine wpAnyH_ready (rs := [11]) (by kernel_rfl) (by simp) ?_
  refine AllReadyH.cons rfl (fun K hK => ?_) AllReadyH.nil
  go_simp
  with_reducible refine (svLen (HSx.out.on bz)).mono ?_
  rintro e w4 ⟨rfl, hb⟩
  replace Du := Du.on hb
  replace Dx := Dx.on hb
  replace Dy := Dy.on hb
  replace bz := bz.trans (hb.mono bz.size)
  clear hb
  refine hK.out _ _ ⟨Du, Dx, Dy⟩ (fun hH => ?_)
  clear hK K hS
  have hS := hH
  clear hH
  try simp only [Act.put, List.setIfInBounds_toArray, List.set_cons_zero, List.set_cons_succ, List.getElem_toArray, List.getElem_cons_zero, List.getElem_cons_succ]
  refine wpAnyH_ready (rs := [12]) (by kernel_rfl) (by simp) ?_
  refine AllReadyH.cons rfl (fun K hK => ?_) AllReadyH.nil
  go_simp
  with_reducible refine (p4 _ bz).mono ?_
  rintro e w5 ⟨rfl, hb⟩
  replace Du := Du.on hb
  replace Dx := Dx.on hb
  replace Dy := Dy.on hb
  replace bz := bz.trans (hb.mono bz.size)
  clear hb
  refine hK.out _ _ ⟨Du, Dx, Dy⟩ (fun hH => ?_)
  clear hK K hS
  have hS := hH
  clear hH
  try simp only [Act.put, List.setIfInBounds_toArray, List.set_cons_zero, List.set_cons_succ, List.getElem_toArray, List.getElem_cons_zero, List.getElem_cons_succ]
  refine wpAnyH_take (i := 13) (v := ?v13_9) rfl (by kernel_rfl) (by kernel_rfl) (by kernel_rfl) (fun _ _ _ h => h) (Or.inl ⟨by rfl, ?hy13_9⟩) (by assumption) ?rest13_9
  case hy13_9 => (intro w9 hSw; clear hSw; go_simp; try with_reducible rfl)
  try simp only [Act.put, List.setIfInBounds_toArray, List.set_cons_zero, List.set_cons_succ, List.getElem_toArray, List.getElem_cons_zero, List.getElem_cons_succ]
  refine wpAnyH_take (i := 14) (v := ?v14_10) rfl (by kernel_rfl) (by kernel_rfl) (by kernel_rfl) (fun _ _ _ h => h) (Or.inl ⟨by rfl, ?hy14_10⟩) (by assumption) ?rest14_10
  case hy14_10 => (intro w9 hSw; clear hSw; go_simp; try with_reducible rfl)
  try simp only [Act.put, List.setIfInBounds_toArray, List.set_cons_zero, List.set_cons_succ, List.getElem_toArray, List.getElem_cons_zero, List.getElem_cons_succ]
  refine wpAnyH_done (by kernel_rfl) ?_ _
  obtain ⟨v0_0, v0_1, v0_2, v0_3, v0_4, v0_5, v0_6, v0_7, v0_8⟩ := Vbx.cells Du
  obtain ⟨v1_0, v1_1, v1_2, v1_3, v1_4, v1_5, v1_6, v1_7, v1_8⟩ := Vbx.cells Dx
  obtain ⟨v2_0, v2_1, v2_2, v2_3, v2_4, v2_5, v2_6, v2_7, v2_8⟩ := Vbx.cells Dy
  have hL : VLs (w5.alloc (.cells #[.pointer u.p, .int .i64 u.f0, .int .i64 u.f1, .int .i64 u.d0, .int .i64 u.d1, .int .i64 u.r0, .int .i64 u.r1, .int .i64 u.R, .int .i64 u.C, .pointer x.p, .int .i64 x.f0, .int .i64 x.f1, .int .i64 x.d0, .int .i64 x.d1, .int .i64 x.r0, .int .i64 x.r1, .int .i64 x.R, .int .i64 x.C, .pointer y.p, .int .i64 y.f0, .int .i64 y.f1, .int .i64 y.d0, .int .i64 y.d1, .int .i64 y.r0, .int .i64 y.r1, .int .i64 y.R, .int .i64 y.C] 30)) ⟨w5.heap.size, 0, none⟩ [u, x, y] := VLs.of (Blk.new w5 ([u, x, y].flatMap Vu.L) 30)
  replace Du := Du.on ((Below.refl _ _).alloc (Nat.le_refl _) ((.cells #[.pointer u.p, .int .i64 u.f0, .int .i64 u.f1, .int .i64 u.d0, .int .i64 u.d1, .int .i64 u.r0, .int .i64 u.r1, .int .i64 u.R, .int .i64 u.C, .pointer x.p, .int .i64 x.f0, .int .i64 x.f1, .int .i64 x.d0, .int .i64 x.d1, .int .i64 x.r0, .int .i64 x.r1, .int .i64 x.R, .int .i64 x.C, .pointer y.p, .int .i64 y.f0, .int .i64 y.f1, .int .i64 y.d0, .int .i64 y.d1, .int .i64 y.r0, .int .i64 y.r1, .int .i64 y.R, .int .i64 y.C] 30)))
  replace Dx := Dx.on ((Below.refl _ _).alloc (Nat.le_refl _) ((.cells #[.pointer u.p, .int .i64 u.f0, .int .i64 u.f1, .int .i64 u.d0, .int .i64 u.d1, .int .i64 u.r0, .int .i64 u.r1, .int .i64 u.R, .int .i64 u.C, .pointer x.p, .int .i64 x.f0, .int .i64 x.f1, .int .i64 x.d0, .int .i64 x.d1, .int .i64 x.r0, .int .i64 x.r1, .int .i64 x.R, .int .i64 x.C, .pointer y.p, .int .i64 y.f0, .int .i64 y.f1, .int .i64 y.d0, .int .i64 y.d1, .int .i64 y.r0, .int .i64 y.r1, .int .i64 y.R, .int .i64 y.C] 30)))
  replace Dy := Dy.on ((Below.refl _ _).alloc (Nat.le_refl _) ((.cells #[.pointer u.p, .int .i64 u.f0, .int .i64 u.f1, .int .i64 u.d0, .int .i64 u.d1, .int .i64 u.r0, .int .i64 u.r1, .int .i64 u.R, .int .i64 u.C, .pointer x.p, .int .i64 x.f0, .int .i64 x.f1, .int .i64 x.d0, .int .i64 x.d1, .int .i64 x.r0, .int .i64 x.r1, .int .i64 x.R, .int .i64 x.C, .pointer y.p, .int .i64 y.f0, .int .i64 y.f1, .int .i64 y.d0, .int .i64 y.d1, .int .i64 y.r0, .int .i64 y.r1, .int .i64 y.R, .int .i64 y.C] 30)))
  replace bz := bz.alloc bz.size ((.cells #[.pointer u.p, .int .i64 u.f0, .int .i64 u.f1, .int .i64 u.d0, .int .i64 u.d1, .int .i64 u.r0, .int .i64 u.r1, .int .i64 u.R, .int .i64 u.C, .pointer x.p, .int .i64 x.f0, .int .i64 x.f1, .int .i64 x.d0, .int .i64 x.d1, .int .i64 x.r0, .int .i64 x.r1, .int .i64 x.R, .int .i64 x.C, .pointer y.p, .int .i64 y.f0, .int .i64 y.f1, .int .i64 y.d0, .int .i64 y.d1, .int .i64 y.r0, .int .i64 y.r1, .int .i64 y.R, .int .i64 y.C] 30))
  go_wp2_with fail
  with_reducible refine (refused_is true (vs := [u, x, y]) (n := 3) rfl (by omega) hL (by intro z hz; simp only [List.mem_cons, List.mem_nil_iff, or_false] at hz; rcases hz with rfl | rfl | rfl; exact ⟨_, HSu.out.on bz⟩; exact ⟨_, HSx.out.on bz⟩; exact ⟨_, HSy.out.on bz⟩)).mono ?_
  rintro e w6 ⟨rfl, hb⟩
  clear v0_0 v0_1 v0_2 v0_3 v0_4 v0_5 v0_6 v0_7 v0_8 v1_0 v1_1 v1_2 v1_3 v1_4 v1_5 v1_6 v1_7 v1_8 v2_0 v2_1 v2_2 v2_3 v2_4 v2_5 v2_6 v2_7 v2_8
  replace Du := Du.on hb
  replace Dx := Dx.on hb
  replace Dy := Dy.on hb
  replace hL := hL.on hb
  replace bz := bz.trans (hb.mono bz.size)
  clear hb hL
  rw [HE.out]
  go_wp2_with fail
  replace Du := Du.drew
  replace Dx := Dx.drew
  replace Dy := Dy.drew
  replace bz := bz.drew
  refine wp_region_held_drew (S := fun w9 : World => Vbx w9 w.heap.size u ∧ Vbx w9 (w.heap.size + 1) x ∧ Vbx w9 (w.heap.size + 2) y) (by kernel_rfl) ⟨Du, Dx, Dy⟩ (fun hS => ?_)
  generalize w6.drew = wf at hS Du Dx Dy  bz ⊢
  refine wpAnyH_take (i := 0) (v := ?v0_11) rfl (by kernel_rfl) (by kernel_rfl) (by kernel_rfl) (fun _ _ _ h => h) (Or.inl ⟨by rfl, ?hy0_11⟩) (by assumption) ?rest0_11
  case hy0_11 => (intro w9 hSw; clear hSw; go_simp; try with_reducible rfl)
  try simp only [Act.put, List.setIfInBounds_toArray, List.set_cons_zero, List.set_cons_succ, List.getElem_toArray, List.getElem_cons_zero, List.getElem_cons_succ]
  refine wpAnyH_take (i := 1) (v := ?v1_12) rfl (by kernel_rfl) (by kernel_rfl) (by kernel_rfl) (fun _ _ _ h => h) (Or.inl ⟨by rfl, ?hy1_12⟩) (by assumption) ?rest1_12
  case hy1_12 => (intro w9 hSw; obtain ⟨m0, m1, m2⟩ := hSw; refine (ld_v (by rfl) (by kernel_rfl) m0).trans ?_; with_reducible rfl)
  try simp only [Act.put, List.setIfInBounds_toArray, List.set_cons_zero, List.set_cons_succ, List.getElem_toArray, List.getElem_cons_zero, List.getElem_cons_succ]
  refine wpAnyH_take (i := 3) (v := ?v3_13) rfl (by kernel_rfl) (by kernel_rfl) (by kernel_rfl) (fun _ _ _ h => h) (Or.inl ⟨by rfl, ?hy3_13⟩) (by assumption) ?rest3_13
  case hy3_13 => (intro w9 hSw; obtain ⟨m0, m1, m2⟩ := hSw; refine (ld_v (by rfl) (by kernel_rfl) m1).trans ?_; with_reducible rfl)
  try simp only [Act.put, List.setIfInBounds_toArray, List.set_cons_zero, List.set_cons_succ, List.getElem_toArray, List.getElem_cons_zero, List.getElem_cons_succ]
  refine wpAnyH_take (i := 5) (v := ?v5_14) rfl (by kernel_rfl) (by kernel_rfl) (by kernel_rfl) (fun _ _ _ h => h) (Or.inl ⟨by rfl, ?hy5_14⟩) (by assumption) ?rest5_14
  case hy5_14 => (intro w9 hSw; clear hSw; go_simp; try with_reducible rfl)
  try simp only [Act.put, List.setIfInBounds_toArray, List.set_cons_zero, List.set_cons_succ, List.getElem_toArray, List.getElem_cons_zero, List.getElem_cons_succ]
  refine wpAnyH_take (i := 6) (v := ?v6_15) rfl (by kernel_rfl) (by kernel_rfl) (by kernel_rfl) (fun _ _ _ h => h) (Or.inl ⟨by rfl, ?hy6_15⟩) (by assumption) ?rest6_15
  case hy6_15 => (intro w9 hSw; obtain ⟨m0, m1, m2⟩ := hSw; refine (ld_v (by rfl) (by kernel_rfl) m2).trans ?_; with_reducible rfl)
  try simp only [Act.put, List.setIfInBounds_toArray, List.set_cons_zero, List.set_cons_succ, List.getElem_toArray, List.getElem_cons_zero, List.getElem_cons_succ]
  refine wpAnyH_ready (rs := [2]) (by kernel_rfl) (by simp) ?_
  refine AllReadyH.cons rfl (fun K hK => ?_) AllReadyH.nil
  go_simp
  have hBhR := Nat.lt_of_lt_of_le HST.out.gt.2 bz.size
  with_reducible refine (rows_is (HSu.out.on bz) HUM.out HUQ.out).mono ?_
  rintro e w7 ⟨o, G, cG, rfl, hR, hb⟩
  replace Du := Du.on hb
  replace Dx := Dx.on hb
  replace Dy := Dy.on hb
  replace bz := bz.trans (hb.mono bz.size)
  clear hb
  refine hK.out _ _ ⟨Du, Dx, Dy⟩ (fun hH => ?_)
  clear hK K hS
  have hS := hH
  clear hH
  try simp only [Act.put, List.setIfInBounds_toArray, List.set_cons_zero, List.set_cons_succ, List.getElem_toArray, List.getElem_cons_zero, List.getElem_cons_succ]
  refine wpAnyH_ready (rs := [4]) (by kernel_rfl) (by simp) ?_
  refine AllReadyH.cons rfl (fun K hK => ?_) AllReadyH.nil
  go_simp
  have hBhX := Nat.lt_of_lt_of_le HST.out.gt.2 bz.size
  with_reducible refine (floats_is (HSx.out.on bz)).mono ?_
  rintro e w8 ⟨A, cA, rfl, ho, hb⟩
  replace Du := Du.on hb
  replace Dx := Dx.on hb
  replace Dy := Dy.on hb
  replace hR := hR.on hb
  replace bz := bz.trans (hb.mono bz.size)
  clear hb
  have hAhX : ∀ a, A = some a → a.block ≠ g := fun a e => by have := (ho.gt e).1; omega
  have hX := ho.fl HSx.out.wd
  clear ho
  refine hK.out _ _ ⟨Du, Dx, Dy⟩ (fun hH => ?_)
  clear hK K hS
  have hS := hH
  clear hH
  try simp only [Act.put, List.setIfInBounds_toArray, List.set_cons_zero, List.set_cons_succ, List.getElem_toArray, List.getElem_cons_zero, List.getElem_cons_succ]
  refine wpAnyH_ready (rs := [7]) (by kernel_rfl) (by simp) ?_
  refine AllReadyH.cons rfl (fun K hK => ?_) AllReadyH.nil
  go_simp
  with_reducible refine (times_is (F := fun k => bothA (af b) (fa (D Y k)) (af a) (sumA (fun t => aop .mul (ma U q k t) (fa (D X t))) q)) ba bb hR hBhR hX hqx hAhX (HSy.out.on bz) HVK.out (HST.out.on bz) HLL.out HIJ.out HPN.out hvec.out HM.out hm5 HF.out).mono ?_
  rintro e w9 ⟨lx, rfl, hs2, hg2, hW2⟩
  replace Du := Du.grown hg2 (by simp; have := HST.out.gt.2; omega)
  replace Dx := Dx.grown hg2 (by simp; have := HST.out.gt.2; omega)
  replace Dy := Dy.grown hg2 (by simp; have := HST.out.gt.2; omega)
  have hgr := grown_trans (grown_below bz (some g)) hg2
  clear hR hX bz
  refine hK.out _ _ ⟨Du, Dx, Dy⟩ (fun hH => ?_)
  clear hK K hS
  have hS := hH
  clear hH
  try simp only [Act.put, List.setIfInBounds_toArray, List.set_cons_zero, List.set_cons_succ, List.getElem_toArray, List.getElem_cons_zero, List.getElem_cons_succ]
  refine wpAnyH_done (by kernel_rfl) ?_ _
  go_wp2_with fail
  go_ret
  exact ⟨lx, rfl, hs2, hgr, hW2⟩
set_option maxRecDepth 100000 in
set_option maxHeartbeats 8000000 in
theorem Ger_yes (ba : a ≤ 18446744073709551615) (hx : Sv w x X) (hy : Sv w y Y) (hu : Sv w u U) (he : refE ((x.vec) && (y.vec) && (szd u x.len y.len)) [x, y, u] = 0) (hv : Vk u s c n K) (hs : St w B s g cap c l) (hl : l.length = n) (hj : Inj u c) (hum0 : u.R = m) (huq0 : u.C = q) :
    Calls Try.prog 39 #[.float .f64 a, x.V, y.V, u.V] w (WrA w B s g cap c u l (fun _ _ => true) (fun i j => aop .add (ma U q i j) (aop .mul (aop .mul (af a) (fa (D X i))) (fa (D Y j))))) := by
  have hfit := (refE_some he).1
  have HPN : Hid (u.p ≠ none) := Lib.hid ((refE_some he).2 u (by simp))
  rw [hfit] at he
  have HE := Lib.hid he
  simp only [Bool.and_eq_true] at hfit
  obtain ⟨⟨h0, h1⟩, h2⟩ := hfit
  have e1 := szd_is h2
  rw [len_vec h0, len_vec h1] at e1
  have hxl := hx.len
  have hyl := hy.len
  have hR5 := hu.R
  have hC5 := hu.C
  have hum : u.R = (m : Int) := hum0
  have huq : u.C = (q : Int) := huq0
  have hxm : X.length ≤ m ∧ m ≤ X.length := by omega
  have hyq : Y.length ≤ q ∧ q ≤ Y.length := by omega
  have hm5 : m ≤ 512 := by omega
  have hq5 : q ≤ 512 := by omega
  have HR9 := Lib.hid hum0
  have HC9 := Lib.hid huq0
  clear e1 hxl hyl hum hum0 huq huq0 hR5 hC5
  obtain ⟨f, hf⟩ : ∃ f : Nat → Nat → Option Nat, (fun i j => aop .add (ma U q i j) (aop .mul (aop .mul (af a) (fa (D X i))) (fa (D Y j)))) = f := ⟨_, rfl⟩
  have HF := Lib.hid (show ∀ i j, aop .add (ma U q i j) (aop .mul (aop .mul (af a) (fa (D X i))) (fa (D Y j))) = f i j from fun i j => by rw [← hf])
  rw [hf]
  clear hf
  have HSx := Lib.hid hx
  have HSy := Lib.hid hy
  have HSu := Lib.hid hu
  have HST := Lib.hid hs
  have HVK := Lib.hid hv
  have HIJ := Lib.hid hj
  have HLL := Lib.hid hl
  have p0 := fun (W : World) (bz : Below w.heap.size w W) => Vector_any x W
  simp only [h0] at p0
  have p1 := fun (W : World) (bz : Below w.heap.size w W) => Vector_any y W
  simp only [h1] at p1
  have p4 := fun (W : World) (bz : Below w.heap.size w W) => sized_is u x.len y.len W
  simp only [h2] at p4
  clear he hs hv hj hl hx hy hu h0 h1 h2
  have Dx := Blk.new w x.L 30
  have Dy := Blk.new (w.alloc (.cells x.L.toArray 30)) y.L 30
  replace Dx := Dx.alloc (.cells y.L.toArray 30)
  simp only [World.size_alloc] at Dy
  have Du := Blk.new ((w.alloc (.cells x.L.toArray 30)).alloc (.cells y.L.toArray 30)) u.L 30
  replace Dx := Dx.alloc (.cells u.L.toArray 30)
  replace Dy := Dy.alloc (.cells u.L.toArray 30)
  simp only [World.size_alloc] at Du
  have bz := (((Below.refl _ w).alloc (Nat.le_refl _) (.cells x.L.toArray 30)).alloc (by simp <;> omega) (.cells y.L.toArray 30)).alloc (by simp <;> omega) (.cells u.L.toArray 30)
  have hsz0 : (((w.alloc (.cells x.L.toArray 30)).alloc (.cells y.L.toArray 30)).alloc (.cells u.L.toArray 30)).heap.size = w.heap.size + 3 := by simp
  go_enter Try.func39, Try.ntmps39
  go_wp2_with fail
  replace Dx := Dx.drew
  replace Dy := Dy.drew
  replace Du := Du.drew
  replace bz := bz.drew
  refine wp_region_held_drew (S := fun w9 : World => Vbx w9 w.heap.size x ∧ Vbx w9 (w.heap.size + 1) y ∧ Vbx w9 (w.heap.size + 2) u) (by kernel_rfl) ⟨Dx, Dy, Du⟩ (fun hS => ?_)
  generalize (((w.alloc (.cells x.L.toArray 30)).alloc (.cells y.L.toArray 30)).alloc (.cells u.L.toArray 30)).drew = wd at hS Dx Dy Du  bz ⊢
  refine wpAnyH_take (i := 0) (v := ?v0_16) rfl (by kernel_rfl) (by kernel_rfl) (by kernel_rfl) (fun _ _ _ h => h) (Or.inl ⟨by rfl, ?hy0_16⟩) (by assumption) ?rest0_16
  case hy0_16 => (intro w9 hSw; obtain ⟨m0, m1, m2⟩ := hSw; refine (ld_v (by rfl) (by kernel_rfl) m0).trans ?_; with_reducible rfl)
  try simp only [Act.put, List.setIfInBounds_toArray, List.set_cons_zero, List.set_cons_succ, List.getElem_toArray, List.getElem_cons_zero, List.getElem_cons_succ]
  refine wpAnyH_ready (rs := [1]) (by kernel_rfl) (by simp) ?_
  refine AllReadyH.cons rfl (fun K hK => ?_) AllReadyH.nil
  go_simp
  with_reducible refine (p0 _ bz).mono ?_
  rintro e w1 ⟨rfl, hb⟩
  replace Dx := Dx.on hb
  replace Dy := Dy.on hb
  replace Du := Du.on hb
  replace bz := bz.trans (hb.mono bz.size)
  clear hb
  refine hK.out _ _ ⟨Dx, Dy, Du⟩ (fun hH => ?_)
  clear hK K hS
  have hS := hH
  clear hH
  try simp only [Act.put, List.setIfInBounds_toArray, List.set_cons_zero, List.set_cons_succ, List.getElem_toArray, List.getElem_cons_zero, List.getElem_cons_succ]
  refine wpAnyH_take (i := 2) (v := ?v2_17) rfl (by kernel_rfl) (by kernel_rfl) (by kernel_rfl) (fun _ _ _ h => h) (Or.inl ⟨by rfl, ?hy2_17⟩) (by assumption) ?rest2_17
  case hy2_17 => (intro w9 hSw; clear hSw; go_simp; try with_reducible rfl)
  try simp only [Act.put, List.setIfInBounds_toArray, List.set_cons_zero, List.set_cons_succ, List.getElem_toArray, List.getElem_cons_zero, List.getElem_cons_succ]
  refine wpAnyH_take (i := 3) (v := ?v3_18) rfl (by kernel_rfl) (by kernel_rfl) (by kernel_rfl) (fun _ _ _ h => h) (Or.inl ⟨by rfl, ?hy3_18⟩) (by assumption) ?rest3_18
  case hy3_18 => (intro w9 hSw; obtain ⟨m0, m1, m2⟩ := hSw; refine (ld_v (by rfl) (by kernel_rfl) m1).trans ?_; with_reducible rfl)
  try simp only [Act.put, List.setIfInBounds_toArray, List.set_cons_zero, List.set_cons_succ, List.getElem_toArray, List.getElem_cons_zero, List.getElem_cons_succ]
  refine wpAnyH_ready (rs := [4]) (by kernel_rfl) (by simp) ?_
  refine AllReadyH.cons rfl (fun K hK => ?_) AllReadyH.nil
  go_simp
  with_reducible refine (p1 _ bz).mono ?_
  rintro e w2 ⟨rfl, hb⟩
  replace Dx := Dx.on hb
  replace Dy := Dy.on hb
  replace Du := Du.on hb
  replace bz := bz.trans (hb.mono bz.size)
  clear hb
  refine hK.out _ _ ⟨Dx, Dy, Du⟩ (fun hH => ?_)
  clear hK K hS
  have hS := hH
  clear hH
  try simp only [Act.put, List.setIfInBounds_toArray, List.set_cons_zero, List.set_cons_succ, List.getElem_toArray, List.getElem_cons_zero, List.getElem_cons_succ]
  refine wpAnyH_take (i := 5) (v := ?v5_19) rfl (by kernel_rfl) (by kernel_rfl) (by kernel_rfl) (fun _ _ _ h => h) (Or.inl ⟨by rfl, ?hy5_19⟩) (by assumption) ?rest5_19
  case hy5_19 => (intro w9 hSw; clear hSw; go_simp; try with_reducible rfl)
  try simp only [Act.put, List.setIfInBounds_toArray, List.set_cons_zero, List.set_cons_succ, List.getElem_toArray, List.getElem_cons_zero, List.getElem_cons_succ]
  refine wpAnyH_take (i := 6) (v := ?v6_20) rfl (by kernel_rfl) (by kernel_rfl) (by kernel_rfl) (fun _ _ _ h => h) (Or.inl ⟨by rfl, ?hy6_20⟩) (by assumption) ?rest6_20
  case hy6_20 => (intro w9 hSw; clear hSw; go_simp; try with_reducible rfl)
  try simp only [Act.put, List.setIfInBounds_toArray, List.set_cons_zero, List.set_cons_succ, List.getElem_toArray, List.getElem_cons_zero, List.getElem_cons_succ]
  refine wpAnyH_take (i := 7) (v := ?v7_21) rfl (by kernel_rfl) (by kernel_rfl) (by kernel_rfl) (fun _ _ _ h => h) (Or.inl ⟨by rfl, ?hy7_21⟩) (by assumption) ?rest7_21
  case hy7_21 => (intro w9 hSw; obtain ⟨m0, m1, m2⟩ := hSw; refine (ld_v (by rfl) (by kernel_rfl) m2).trans ?_; with_reducible rfl)
  try simp only [Act.put, List.setIfInBounds_toArray, List.set_cons_zero, List.set_cons_succ, List.getElem_toArray, List.getElem_cons_zero, List.getElem_cons_succ]
  refine wpAnyH_take (i := 8) (v := ?v8_22) rfl (by kernel_rfl) (by kernel_rfl) (by kernel_rfl) (fun _ _ _ h => h) (Or.inl ⟨by rfl, ?hy8_22⟩) (by assumption) ?rest8_22
  case hy8_22 => (intro w9 hSw; obtain ⟨m0, m1, m2⟩ := hSw; refine (ld_v (by rfl) (by kernel_rfl) m0).trans ?_; with_reducible rfl)
  try simp only [Act.put, List.setIfInBounds_toArray, List.set_cons_zero, List.set_cons_succ, List.getElem_toArray, List.getElem_cons_zero, List.getElem_cons_succ]
  refine wpAnyH_take (i := 10) (v := ?v10_23) rfl (by kernel_rfl) (by kernel_rfl) (by kernel_rfl) (fun _ _ _ h => h) (Or.inl ⟨by rfl, ?hy10_23⟩) (by assumption) ?rest10_23
  case hy10_23 => (intro w9 hSw; obtain ⟨m0, m1, m2⟩ := hSw; refine (ld_v (by rfl) (by kernel_rfl) m1).trans ?_; with_reducible rfl)
  try simp only [Act.put, List.setIfInBounds_toArray, List.set_cons_zero, List.set_cons_succ, List.getElem_toArray, List.getElem_cons_zero, List.getElem_cons_succ]
  refine wpAnyH_ready (rs := [9]) (by kernel_rfl) (by simp) ?_
  refine AllReadyH.cons rfl (fun K hK => ?_) AllReadyH.nil
  go_simp
  with_reducible refine (svLen (HSx.out.on bz)).mono ?_
  rintro e w3 ⟨rfl, hb⟩
  replace Dx := Dx.on hb
  replace Dy := Dy.on hb
  replace Du := Du.on hb
  replace bz := bz.trans (hb.mono bz.size)
  clear hb
  refine hK.out _ _ ⟨Dx, Dy, Du⟩ (fun hH => ?_)
  clear hK K hS
  have hS := hH
  clear hH
  try simp only [Act.put, List.setIfInBounds_toArray, List.set_cons_zero, List.set_cons_succ, List.getElem_toArray, List.getElem_cons_zero, List.getElem_cons_succ]
  refine wpAnyH_ready (rs := [11]) (by kernel_rfl) (by simp) ?_
  refine AllReadyH.cons rfl (fun K hK => ?_) AllReadyH.nil
  go_simp
  with_reducible refine (svLen (HSy.out.on bz)).mono ?_
  rintro e w4 ⟨rfl, hb⟩
  replace Dx := Dx.on hb
  replace Dy := Dy.on hb
  replace Du := Du.on hb
  replace bz := bz.trans (hb.mono bz.size)
  clear hb
  refine hK.out _ _ ⟨Dx, Dy, Du⟩ (fun hH => ?_)
  clear hK K hS
  have hS := hH
  clear hH
  try simp only [Act.put, List.setIfInBounds_toArray, List.set_cons_zero, List.set_cons_succ, List.getElem_toArray, List.getElem_cons_zero, List.getElem_cons_succ]
  refine wpAnyH_ready (rs := [12]) (by kernel_rfl) (by simp) ?_
  refine AllReadyH.cons rfl (fun K hK => ?_) AllReadyH.nil
  go_simp
  with_reducible refine (p4 _ bz).mono ?_
  rintro e w5 ⟨rfl, hb⟩
  replace Dx := Dx.on hb
  replace Dy := Dy.on hb
  replace Du := Du.on hb
  replace bz := bz.trans (hb.mono bz.size)
  clear hb
  refine hK.out _ _ ⟨Dx, Dy, Du⟩ (fun hH => ?_)
  clear hK K hS
  have hS := hH
  clear hH
  try simp only [Act.put, List.setIfInBounds_toArray, List.set_cons_zero, List.set_cons_succ, List.getElem_toArray, List.getElem_cons_zero, List.getElem_cons_succ]
  refine wpAnyH_take (i := 13) (v := ?v13_24) rfl (by kernel_rfl) (by kernel_rfl) (by kernel_rfl) (fun _ _ _ h => h) (Or.inl ⟨by rfl, ?hy13_24⟩) (by assumption) ?rest13_24
  case hy13_24 => (intro w9 hSw; clear hSw; go_simp; try with_reducible rfl)
  try simp only [Act.put, List.setIfInBounds_toArray, List.set_cons_zero, List.set_cons_succ, List.getElem_toArray, List.getElem_cons_zero, List.getElem_cons_succ]
  refine wpAnyH_take (i := 14) (v := ?v14_25) rfl (by kernel_rfl) (by kernel_rfl) (by kernel_rfl) (fun _ _ _ h => h) (Or.inl ⟨by rfl, ?hy14_25⟩) (by assumption) ?rest14_25
  case hy14_25 => (intro w9 hSw; clear hSw; go_simp; try with_reducible rfl)
  try simp only [Act.put, List.setIfInBounds_toArray, List.set_cons_zero, List.set_cons_succ, List.getElem_toArray, List.getElem_cons_zero, List.getElem_cons_succ]
  refine wpAnyH_done (by kernel_rfl) ?_ _
  obtain ⟨v0_0, v0_1, v0_2, v0_3, v0_4, v0_5, v0_6, v0_7, v0_8⟩ := Vbx.cells Dx
  obtain ⟨v1_0, v1_1, v1_2, v1_3, v1_4, v1_5, v1_6, v1_7, v1_8⟩ := Vbx.cells Dy
  obtain ⟨v2_0, v2_1, v2_2, v2_3, v2_4, v2_5, v2_6, v2_7, v2_8⟩ := Vbx.cells Du
  have hL : VLs (w5.alloc (.cells #[.pointer x.p, .int .i64 x.f0, .int .i64 x.f1, .int .i64 x.d0, .int .i64 x.d1, .int .i64 x.r0, .int .i64 x.r1, .int .i64 x.R, .int .i64 x.C, .pointer y.p, .int .i64 y.f0, .int .i64 y.f1, .int .i64 y.d0, .int .i64 y.d1, .int .i64 y.r0, .int .i64 y.r1, .int .i64 y.R, .int .i64 y.C, .pointer u.p, .int .i64 u.f0, .int .i64 u.f1, .int .i64 u.d0, .int .i64 u.d1, .int .i64 u.r0, .int .i64 u.r1, .int .i64 u.R, .int .i64 u.C] 30)) ⟨w5.heap.size, 0, none⟩ [x, y, u] := VLs.of (Blk.new w5 ([x, y, u].flatMap Vu.L) 30)
  replace Dx := Dx.on ((Below.refl _ _).alloc (Nat.le_refl _) ((.cells #[.pointer x.p, .int .i64 x.f0, .int .i64 x.f1, .int .i64 x.d0, .int .i64 x.d1, .int .i64 x.r0, .int .i64 x.r1, .int .i64 x.R, .int .i64 x.C, .pointer y.p, .int .i64 y.f0, .int .i64 y.f1, .int .i64 y.d0, .int .i64 y.d1, .int .i64 y.r0, .int .i64 y.r1, .int .i64 y.R, .int .i64 y.C, .pointer u.p, .int .i64 u.f0, .int .i64 u.f1, .int .i64 u.d0, .int .i64 u.d1, .int .i64 u.r0, .int .i64 u.r1, .int .i64 u.R, .int .i64 u.C] 30)))
  replace Dy := Dy.on ((Below.refl _ _).alloc (Nat.le_refl _) ((.cells #[.pointer x.p, .int .i64 x.f0, .int .i64 x.f1, .int .i64 x.d0, .int .i64 x.d1, .int .i64 x.r0, .int .i64 x.r1, .int .i64 x.R, .int .i64 x.C, .pointer y.p, .int .i64 y.f0, .int .i64 y.f1, .int .i64 y.d0, .int .i64 y.d1, .int .i64 y.r0, .int .i64 y.r1, .int .i64 y.R, .int .i64 y.C, .pointer u.p, .int .i64 u.f0, .int .i64 u.f1, .int .i64 u.d0, .int .i64 u.d1, .int .i64 u.r0, .int .i64 u.r1, .int .i64 u.R, .int .i64 u.C] 30)))
  replace Du := Du.on ((Below.refl _ _).alloc (Nat.le_refl _) ((.cells #[.pointer x.p, .int .i64 x.f0, .int .i64 x.f1, .int .i64 x.d0, .int .i64 x.d1, .int .i64 x.r0, .int .i64 x.r1, .int .i64 x.R, .int .i64 x.C, .pointer y.p, .int .i64 y.f0, .int .i64 y.f1, .int .i64 y.d0, .int .i64 y.d1, .int .i64 y.r0, .int .i64 y.r1, .int .i64 y.R, .int .i64 y.C, .pointer u.p, .int .i64 u.f0, .int .i64 u.f1, .int .i64 u.d0, .int .i64 u.d1, .int .i64 u.r0, .int .i64 u.r1, .int .i64 u.R, .int .i64 u.C] 30)))
  replace bz := bz.alloc bz.size ((.cells #[.pointer x.p, .int .i64 x.f0, .int .i64 x.f1, .int .i64 x.d0, .int .i64 x.d1, .int .i64 x.r0, .int .i64 x.r1, .int .i64 x.R, .int .i64 x.C, .pointer y.p, .int .i64 y.f0, .int .i64 y.f1, .int .i64 y.d0, .int .i64 y.d1, .int .i64 y.r0, .int .i64 y.r1, .int .i64 y.R, .int .i64 y.C, .pointer u.p, .int .i64 u.f0, .int .i64 u.f1, .int .i64 u.d0, .int .i64 u.d1, .int .i64 u.r0, .int .i64 u.r1, .int .i64 u.R, .int .i64 u.C] 30))
  go_wp2_with fail
  with_reducible refine (refused_is true (vs := [x, y, u]) (n := 3) rfl (by omega) hL (by intro z hz; simp only [List.mem_cons, List.mem_nil_iff, or_false] at hz; rcases hz with rfl | rfl | rfl; exact ⟨_, HSx.out.on bz⟩; exact ⟨_, HSy.out.on bz⟩; exact ⟨_, HSu.out.on bz⟩)).mono ?_
  rintro e w6 ⟨rfl, hb⟩
  clear v0_0 v0_1 v0_2 v0_3 v0_4 v0_5 v0_6 v0_7 v0_8 v1_0 v1_1 v1_2 v1_3 v1_4 v1_5 v1_6 v1_7 v1_8 v2_0 v2_1 v2_2 v2_3 v2_4 v2_5 v2_6 v2_7 v2_8
  replace Dx := Dx.on hb
  replace Dy := Dy.on hb
  replace Du := Du.on hb
  replace hL := hL.on hb
  replace bz := bz.trans (hb.mono bz.size)
  clear hb hL
  rw [HE.out]
  go_wp2_with fail
  replace Dx := Dx.drew
  replace Dy := Dy.drew
  replace Du := Du.drew
  replace bz := bz.drew
  refine wp_region_held_drew (S := fun w9 : World => Vbx w9 w.heap.size x ∧ Vbx w9 (w.heap.size + 1) y ∧ Vbx w9 (w.heap.size + 2) u) (by kernel_rfl) ⟨Dx, Dy, Du⟩ (fun hS => ?_)
  generalize w6.drew = wf at hS Dx Dy Du  bz ⊢
  refine wpAnyH_take (i := 0) (v := ?v0_26) rfl (by kernel_rfl) (by kernel_rfl) (by kernel_rfl) (fun _ _ _ h => h) (Or.inl ⟨by rfl, ?hy0_26⟩) (by assumption) ?rest0_26
  case hy0_26 => (intro w9 hSw; obtain ⟨m0, m1, m2⟩ := hSw; refine (ld_v (by rfl) (by kernel_rfl) m2).trans ?_; with_reducible rfl)
  try simp only [Act.put, List.setIfInBounds_toArray, List.set_cons_zero, List.set_cons_succ, List.getElem_toArray, List.getElem_cons_zero, List.getElem_cons_succ]
  refine wpAnyH_take (i := 1) (v := ?v1_27) rfl (by kernel_rfl) (by kernel_rfl) (by kernel_rfl) (fun _ _ _ h => h) (Or.inl ⟨by rfl, ?hy1_27⟩) (by assumption) ?rest1_27
  case hy1_27 => (intro w9 hSw; clear hSw; go_simp; try with_reducible rfl)
  try simp only [Act.put, List.setIfInBounds_toArray, List.set_cons_zero, List.set_cons_succ, List.getElem_toArray, List.getElem_cons_zero, List.getElem_cons_succ]
  refine wpAnyH_take (i := 2) (v := ?v2_28) rfl (by kernel_rfl) (by kernel_rfl) (by kernel_rfl) (fun _ _ _ h => h) (Or.inl ⟨by rfl, ?hy2_28⟩) (by assumption) ?rest2_28
  case hy2_28 => (intro w9 hSw; obtain ⟨m0, m1, m2⟩ := hSw; refine (ld_v (by rfl) (by kernel_rfl) m1).trans ?_; with_reducible rfl)
  try simp only [Act.put, List.setIfInBounds_toArray, List.set_cons_zero, List.set_cons_succ, List.getElem_toArray, List.getElem_cons_zero, List.getElem_cons_succ]
  refine wpAnyH_take (i := 4) (v := ?v4_29) rfl (by kernel_rfl) (by kernel_rfl) (by kernel_rfl) (fun _ _ _ h => h) (Or.inl ⟨by rfl, ?hy4_29⟩) (by assumption) ?rest4_29
  case hy4_29 => (intro w9 hSw; obtain ⟨m0, m1, m2⟩ := hSw; refine (ld_v (by rfl) (by kernel_rfl) m2).trans ?_; with_reducible rfl)
  try simp only [Act.put, List.setIfInBounds_toArray, List.set_cons_zero, List.set_cons_succ, List.getElem_toArray, List.getElem_cons_zero, List.getElem_cons_succ]
  refine wpAnyH_ready (rs := [3]) (by kernel_rfl) (by simp) ?_
  refine AllReadyH.cons rfl (fun K hK => ?_) AllReadyH.nil
  go_simp
  have hBhY := Nat.lt_of_lt_of_le HST.out.gt.2 bz.size
  with_reducible refine (floats_is (HSy.out.on bz)).mono ?_
  rintro e w7 ⟨Ay, cy, rfl, ho, hb⟩
  replace Dx := Dx.on hb
  replace Dy := Dy.on hb
  replace Du := Du.on hb
  replace bz := bz.trans (hb.mono bz.size)
  clear hb
  have hAhY : ∀ a, Ay = some a → a.block ≠ g := fun a e => by have := (ho.gt e).1; omega
  have hY := ho.fl HSy.out.wd
  clear ho
  refine hK.out _ _ ⟨Dx, Dy, Du⟩ (fun hH => ?_)
  clear hK K hS
  have hS := hH
  clear hH
  try simp only [Act.put, List.setIfInBounds_toArray, List.set_cons_zero, List.set_cons_succ, List.getElem_toArray, List.getElem_cons_zero, List.getElem_cons_succ]
  refine wpAnyH_ready (rs := [5]) (by kernel_rfl) (by simp) ?_
  refine AllReadyH.cons rfl (fun K hK => ?_) AllReadyH.nil
  go_simp
  have hBhU := Nat.lt_of_lt_of_le HST.out.gt.2 bz.size
  with_reducible refine (rows_is (HSu.out.on bz) HR9.out HC9.out).mono ?_
  rintro e w8 ⟨o, G, cG, rfl, hU, hb⟩
  replace Dx := Dx.on hb
  replace Dy := Dy.on hb
  replace Du := Du.on hb
  replace hY := hY.on hb
  replace bz := bz.trans (hb.mono bz.size)
  clear hb
  refine hK.out _ _ ⟨Dx, Dy, Du⟩ (fun hH => ?_)
  clear hK K hS
  have hS := hH
  clear hH
  try simp only [Act.put, List.setIfInBounds_toArray, List.set_cons_zero, List.set_cons_succ, List.getElem_toArray, List.getElem_cons_zero, List.getElem_cons_succ]
  refine wpAnyH_take (i := 6) (v := ?v6_30) rfl (by kernel_rfl) (by kernel_rfl) (by kernel_rfl) (fun _ _ _ h => h) (Or.inl ⟨by rfl, ?hy6_30⟩) (by assumption) ?rest6_30
  case hy6_30 => (intro w9 hSw; clear hSw; go_simp; try with_reducible rfl)
  try simp only [Act.put, List.setIfInBounds_toArray, List.set_cons_zero, List.set_cons_succ, List.getElem_toArray, List.getElem_cons_zero, List.getElem_cons_succ]
  refine wpAnyH_take (i := 7) (v := ?v7_31) rfl (by kernel_rfl) (by kernel_rfl) (by kernel_rfl) (fun _ _ _ h => h) (Or.inl ⟨by rfl, ?hy7_31⟩) (by assumption) ?rest7_31
  case hy7_31 => (intro w9 hSw; clear hSw; go_simp; try with_reducible rfl)
  try simp only [Act.put, List.setIfInBounds_toArray, List.set_cons_zero, List.set_cons_succ, List.getElem_toArray, List.getElem_cons_zero, List.getElem_cons_succ]
  refine wpAnyH_take (i := 8) (v := ?v8_32) rfl (by kernel_rfl) (by kernel_rfl) (by kernel_rfl) (fun _ _ _ h => h) (Or.inl ⟨by rfl, ?hy8_32⟩) (by assumption) ?rest8_32
  case hy8_32 => (intro w9 hSw; clear hSw; go_simp; try with_reducible rfl)
  try simp only [Act.put, List.setIfInBounds_toArray, List.set_cons_zero, List.set_cons_succ, List.getElem_toArray, List.getElem_cons_zero, List.getElem_cons_succ]
  refine wpAnyH_done (by kernel_rfl) ?_ _
  obtain ⟨v0_0, v0_1, v0_2, v0_3, v0_4, v0_5, v0_6, v0_7, v0_8⟩ := Vbx.cells Dx
  obtain ⟨v1_0, v1_1, v1_2, v1_3, v1_4, v1_5, v1_6, v1_7, v1_8⟩ := Vbx.cells Dy
  obtain ⟨v2_0, v2_1, v2_2, v2_3, v2_4, v2_5, v2_6, v2_7, v2_8⟩ := Vbx.cells Du
  have hBq := Nat.lt_of_lt_of_le HST.out.gt.2 bz.size
  go_wp2_with fail
  with_reducible refine (floats_is (HSx.out.on bz)).mono ?_
  rintro e w9 ⟨Ax, cx, rfl, ho, hb⟩
  clear v0_0 v0_1 v0_2 v0_3 v0_4 v0_5 v0_6 v0_7 v0_8 v1_0 v1_1 v1_2 v1_3 v1_4 v1_5 v1_6 v1_7 v1_8 v2_0 v2_1 v2_2 v2_3 v2_4 v2_5 v2_6 v2_7 v2_8
  replace Dx := Dx.on hb
  replace Dy := Dy.on hb
  replace Du := Du.on hb
  replace hY := hY.on hb
  replace hU := hU.on hb
  replace bz := bz.trans (hb.mono bz.size)
  clear hb
  have hAhX : ∀ a, Ax = some a → a.block ≠ g := fun a e => by have := (ho.gt e).1; omega
  have hX := ho.fl HSx.out.wd
  clear ho
  have hs1 := HST.out.on bz
  have hgr := grown_below bz (some g)
  have hW : Wr u c l l (fun a b => decide (a < 0 ∨ (a = 0 ∧ b < 0))) f := Wr.start u c l f (fun a b _ => by simp)
  obtain ⟨nx, hnx⟩ : ∃ z, X.length = z := ⟨_, rfl⟩
  obtain ⟨ny, hny⟩ : ∃ z, Y.length = z := ⟨_, rfl⟩
  simp only [hnx] at hX hxm ⊢
  simp only [hny] at hY hyq ⊢
  clear hnx hny bz Dx Dy Du
  go_wp2_with fail
  go_loopw [50] (fun i wr => ∃ (k : Nat) (lx : List Int), k ≤ m ∧ i = .int .i64 k ∧ Wr u c l lx (fun a b => decide (a < k ∨ (a = k ∧ b < 0))) f ∧ St wr B s g cap c lx ∧ w.grownBy wr (some g) ∧ FL wr Ax nx cx X ∧ FL wr Ay ny cy Y ∧ Rws wr w7.heap.size o G cG m q U) (fun i _ => m - (intOf i).toNat)
  case atStart => exact ⟨0, l, Nat.zero_le _, rfl, hW, hs1, hgr, hX, hY, hU⟩
  case round =>
    clear hW hs1 hgr hX hY hU
    obtain ⟨i, lx, hi, rfl, hW, hs1, hgr, hX, hY, hU⟩ := hrel
    by_cases hlt : i < m
    · have i0 : (0 : Int) ≤ i := by omega
      have i1 : (i : Int) < m := by omega
      obtain ⟨lxi, uxi⟩ := hX.2.2.at_ i
      have bxi : (D X i).toNat ≤ 18446744073709551615 := by omega
      have HVxi : Hid (af (D X i).toNat = fa (D X i)) := Lib.hid rfl
      obtain ⟨adxi, hAxi, hbkxi, hcxi⟩ := hX.at_ (k := i) (by omega)
      generalize (D X i).toNat = Vxi at *
      subst hAxi
      clear lxi uxi hbkxi
      have ix1 : (i : Int) < nx := by omega
      go_wp2_with fail
      clear hcxi
      go_loopw [57] (fun j wr => ∃ (jj : Nat) (lx : List Int), jj ≤ q ∧ j = .int .i64 jj ∧ Wr u c l lx (fun a b => decide (a < i ∨ (a = i ∧ b < jj))) f ∧ St wr B s g cap c lx ∧ w.grownBy wr (some g) ∧ FL wr (some adxi) nx cx X ∧ FL wr Ay ny cy Y ∧ Rws wr w7.heap.size o G cG m q U) (fun j _ => q - (intOf j).toNat)
      case atStart => exact ⟨0, lx, by omega, by go_num, hW, hs1, hgr, hX, hY, hU⟩
      case round =>
        clear hW hs1 hgr hX hY hU
        obtain ⟨j, lx, hj, rfl, hW, hs1, hgr, hX, hY, hU⟩ := hrel
        by_cases hjt : j < q
        · have j0 : (0 : Int) ≤ j := by omega
          have j1 : (j : Int) < q := by omega
          have hh : u.has i j = true := (has_iff _ _ _).2 (by rw [HR9.out, HC9.out]; omega)
          obtain ⟨lyj, uyj⟩ := hY.2.2.at_ j
          have byj : (D Y j).toNat ≤ 18446744073709551615 := by omega
          have HVyj : Hid (af (D Y j).toNat = fa (D Y j)) := Lib.hid rfl
          obtain ⟨adyj, hAyj, hbkyj, hcyj⟩ := hY.at_ (k := j) (by omega)
          generalize (D Y j).toNat = Vyj at *
          subst hAyj
          clear lyj uyj hbkyj
          obtain ⟨A5, c5, hc5, hR5⟩ := hU.row hlt
          obtain ⟨luv, uuv⟩ := hR5.2.2.at_ j
          have buv : (D ((U.drop (i * q)).take q) j).toNat ≤ 18446744073709551615 := by omega
          have HVuv : Hid (af (D ((U.drop (i * q)).take q) j).toNat = fa (D ((U.drop (i * q)).take q) j)) := Lib.hid rfl
          obtain ⟨aduv, hAuv, hbkuv, hcuv⟩ := hR5.at_ (k := j) hjt
          generalize (D ((U.drop (i * q)).take q) j).toNat = Vuv at *
          subst hAuv
          clear luv uuv hbkuv
          have jy1 : (j : Int) < ny := by omega
          obtain ⟨r1, w1, e1, d1, h1, b1⟩ := run_mul (P := Try.prog) 32 (x := a) (y := Vxi) ba bxi wr
          obtain ⟨r2, w2, e2, d2, h2, b2⟩ := run_mul (P := Try.prog) 32 (x := r1) (y := Vyj) b1 byj w1
          obtain ⟨r3, w3, e3, d3, h3, b3⟩ := run_add (P := Try.prog) 32 (x := Vuv) (y := r2) buv b2 w2
          have HR : Hid (af r3 = f i j) := Lib.hid (by rw [h3, h2, h1, HVxi.out, HVyj.out, HVuv.out, D_row hjt]; exact HF.out i j)
          have dd := ((d1.trans d2).trans d3).below
          have pp := set_wr (w := w3) hW HVK.out HIJ.out HLL.out (hs1.on dd) hh (r := r3) (Q := fun a b => decide (a < i ∨ (a = i ∧ b < (j + 1)))) HR.out b3 (fun a b hab => by simp only [← Bool.decide_or, decide_eq_decide]; omega)
          clear h1 h2 h3 d1 d2 d3 hR5
          go_wp2_with fail
          with_reducible refine pp.mono ?_
          rintro e w4 ⟨u5, lx2, rfl, hs2, hg2, hW2⟩
          have hgr2 := grown_trans (grown_on hgr dd) hg2
          replace hX := (hX.on dd).farB hg2 hAhX
          replace hY := (hY.on dd).farB hg2 hAhY
          replace hU := (hU.on dd).grown hg2 (fun k e => by injection e with e; omega)
          clear pp hW hs1 hgr
          go_wp2_with fail
          go_roundw
          case rel => exact ⟨j + 1, lx2, by omega, by go_num, hW2, hs2, hgr2, hX, hY, hU⟩
          case measure => simp [intOf]; omega
        · have hW9 := hW.congr (Q := fun a b => decide (a < (i + 1) ∨ (a = (i + 1) ∧ b < 0))) (fun a b hab => by have hb9 := (has_iff _ _ _).1 hab; rw [HR9.out, HC9.out] at hb9; simp only [decide_eq_decide]; omega)
          go_wp2_with fail
          go_roundw
          case rel => exact ⟨i + 1, lx, by omega, by go_num, hW9, hs1, hgr, hX, hY, hU⟩
          case measure => simp [intOf]; omega
    · obtain rfl : i = m := by omega
      go_wp2_with fail
      go_ret
      exact ⟨lx, rfl, hs1, hgr, hW.congr (fun a b hab => by have hb9 := (has_iff _ _ _).1 hab; rw [HR9.out, HC9.out] at hb9; simp; omega)⟩
end
end Go.Proofs.Ytfelmkkkaphkpaa
