/-
  Layer 8: Symv: refused, by the program, the law.
-/
import Derived.Test.YtfelmkkkaphkpaaKnY
import Derived.Test.YtfelmkkkaphkpaaKlA
import Derived.Test.YtfelmkkkaphkpaaKnU
namespace Go.Proofs.Ytfelmkkkaphkpaa
open Go.RowKit Go.Bw Go.Sort Go.Shelf
set_option linter.unusedVariables false
set_option linter.unusedSimpArgs false

section
variable {w : World} {u x y : Vu} {U X Y : List Int} {a b : Nat} {up unit : Bool}
set_option maxRecDepth 100000 in
set_option maxHeartbeats 8000000 in
theorem Symv_no0 (hu : Sv w u U) (hx : Sv w x X) (hy : Sv w y Y) {E : Int} (h0 : (alk x y) = false) (he : refE ((alk x y) && (szd u x.len x.len)) [u, x, y] = E) (hn : E ≠ 0) : Calls Try.prog 36 #[.float .f64 a, u.V, x.V, .float .f64 b, y.V] w (Ans w (.int .i64 E)) := by
  have hft : ((alk x y) && (szd u x.len x.len)) = false := by simp [h0]
  rw [hft] at he
  clear hft
  have HSu := Lib.hid hu
  have HSx := Lib.hid hx
  have HSy := Lib.hid hy
  have hne : (E != 0) = true := by simpa using hn
  have HE := Lib.hid he
  have p0 := fun (W : World) (bz : Below w.heap.size w W) => alike_is (HSx.out.on bz) (HSy.out.on bz)
  simp only [h0] at p0
  clear he hn hu hx hy h0
  have Du := Blk.new w u.L 30
  have Dx := Blk.new (w.alloc (.cells u.L.toArray 30)) x.L 30
  replace Du := Du.alloc (.cells x.L.toArray 30)
  simp only [World.size_alloc] at Dx
  have Dy := Blk.new ((w.alloc (.cells u.L.toArray 30)).alloc (.cells x.L.toArray 30)) y.L 30
  replace Du := Du.alloc (.cells y.L.toArray 30)
  replace Dx := Dx.alloc (.cells y.L.toArray 30)
  simp only [World.size_alloc] at Dy
  have bz := (((Below.refl _ w).alloc (Nat.le_refl _) (.cells u.L.toArray 30)).alloc (by simp <;> omega) (.cells x.L.toArray 30)).alloc (by simp <;> omega) (.cells y.L.toArray 30)
  have hsz0 : (((w.alloc (.cells u.L.toArray 30)).alloc (.cells x.L.toArray 30)).alloc (.cells y.L.toArray 30)).heap.size = w.heap.size + 3 := by simp
  go_enter Try.func36, Try.ntmps36
  go_wp2_with fail
  replace Du := Du.drew
  replace Dx := Dx.drew
  replace Dy := Dy.drew
  replace bz := bz.drew
  refine wp_region_held_drew (S := fun w9 : World => Vbx w9 w.heap.size u ∧ Vbx w9 (w.heap.size + 1) x ∧ Vbx w9 (w.heap.size + 2) y) (by kernel_rfl) ⟨Du, Dx, Dy⟩ (fun hS => ?_)
  generalize (((w.alloc (.cells u.L.toArray 30)).alloc (.cells x.L.toArray 30)).alloc (.cells y.L.toArray 30)).drew = wd at hS Du Dx Dy  bz ⊢
  refine wpAnyH_take (i := 0) (v := ?v0_24) rfl (by kernel_rfl) (by kernel_rfl) (by kernel_rfl) (fun _ _ _ h => h) (Or.inl ⟨by rfl, ?hy0_24⟩) (by assumption) ?rest0_24
  case hy0_24 => (intro w9 hSw; obtain ⟨m0, m1, m2⟩ := hSw; refine (ld_v (by rfl) (by kernel_rfl) m1).trans ?_; with_reducible rfl)
  try simp only [Act.put, List.setIfInBounds_toArray, List.set_cons_zero, List.set_cons_succ, List.getElem_toArray, List.getElem_cons_zero, List.getElem_cons_succ]
  refine wpAnyH_take (i := 1) (v := ?v1_25) rfl (by kernel_rfl) (by kernel_rfl) (by kernel_rfl) (fun _ _ _ h => h) (Or.inl ⟨by rfl, ?hy1_25⟩) (by assumption) ?rest1_25
  case hy1_25 => (intro w9 hSw; obtain ⟨m0, m1, m2⟩ := hSw; refine (ld_v (by rfl) (by kernel_rfl) m2).trans ?_; with_reducible rfl)
  try simp only [Act.put, List.setIfInBounds_toArray, List.set_cons_zero, List.set_cons_succ, List.getElem_toArray, List.getElem_cons_zero, List.getElem_cons_succ]
  refine wpAnyH_ready (rs := [2]) (by kernel_rfl) (by simp) ?_
  refine AllReadyH.cons rfl (fun K hK => ?_) AllReadyH.nil
  go_simp
  with_reducible refine (p0 _ bz).mono ?_
  rintro e w1 ⟨rfl, hb⟩
  replace Du := Du.on hb
  replace Dx := Dx.on hb
  replace Dy := Dy.on hb
  replace bz := bz.trans (hb.mono bz.size)
  clear hb
  refine hK.out _ _ ⟨Du, Dx, Dy⟩ (fun hH => ?_)
  clear hK K hS
  have hS := hH
  clear hH
  try simp only [Act.put, List.setIfInBounds_toArray, List.set_cons_zero, List.set_cons_succ, List.getElem_toArray, List.getElem_cons_zero, List.getElem_cons_succ]
  refine wpAnyH_take (i := 3) (v := ?v3_26) rfl (by kernel_rfl) (by kernel_rfl) (by kernel_rfl) (fun _ _ _ h => h) (Or.inl ⟨by rfl, ?hy3_26⟩) (by assumption) ?rest3_26
  case hy3_26 => (intro w9 hSw; clear hSw; go_simp; try with_reducible rfl)
  try simp only [Act.put, List.setIfInBounds_toArray, List.set_cons_zero, List.set_cons_succ, List.getElem_toArray, List.getElem_cons_zero, List.getElem_cons_succ]
  refine wpAnyH_take (i := 4) (v := undef) rfl (by kernel_rfl) (by kernel_rfl) (by kernel_rfl) (fun _ _ _ h => h) (Or.inr ⟨by rfl, rfl⟩) (by assumption) ?_
  try simp only [Act.put, List.setIfInBounds_toArray, List.set_cons_zero, List.set_cons_succ, List.getElem_toArray, List.getElem_cons_zero, List.getElem_cons_succ]
  refine wpAnyH_take (i := 5) (v := undef) rfl (by kernel_rfl) (by kernel_rfl) (by kernel_rfl) (fun _ _ _ h => h) (Or.inr ⟨by rfl, rfl⟩) (by assumption) ?_
  try simp only [Act.put, List.setIfInBounds_toArray, List.set_cons_zero, List.set_cons_succ, List.getElem_toArray, List.getElem_cons_zero, List.getElem_cons_succ]
  refine wpAnyH_take (i := 6) (v := undef) rfl (by kernel_rfl) (by kernel_rfl) (by kernel_rfl) (fun _ _ _ h => h) (Or.inr ⟨by rfl, rfl⟩) (by assumption) ?_
  try simp only [Act.put, List.setIfInBounds_toArray, List.set_cons_zero, List.set_cons_succ, List.getElem_toArray, List.getElem_cons_zero, List.getElem_cons_succ]
  refine wpAnyH_take (i := 7) (v := undef) rfl (by kernel_rfl) (by kernel_rfl) (by kernel_rfl) (fun _ _ _ h => h) (Or.inr ⟨by rfl, rfl⟩) (by assumption) ?_
  try simp only [Act.put, List.setIfInBounds_toArray, List.set_cons_zero, List.set_cons_succ, List.getElem_toArray, List.getElem_cons_zero, List.getElem_cons_succ]
  refine wpAnyH_take (i := 8) (v := undef) rfl (by kernel_rfl) (by kernel_rfl) (by kernel_rfl) (fun _ _ _ h => h) (Or.inr ⟨by rfl, rfl⟩) (by assumption) ?_
  try simp only [Act.put, List.setIfInBounds_toArray, List.set_cons_zero, List.set_cons_succ, List.getElem_toArray, List.getElem_cons_zero, List.getElem_cons_succ]
  refine wpAnyH_take (i := 9) (v := undef) rfl (by kernel_rfl) (by kernel_rfl) (by kernel_rfl) (fun _ _ _ h => h) (Or.inr ⟨by rfl, rfl⟩) (by assumption) ?_
  try simp only [Act.put, List.setIfInBounds_toArray, List.set_cons_zero, List.set_cons_succ, List.getElem_toArray, List.getElem_cons_zero, List.getElem_cons_succ]
  refine wpAnyH_take (i := 10) (v := ?v10_27) rfl (by kernel_rfl) (by kernel_rfl) (by kernel_rfl) (fun _ _ _ h => h) (Or.inl ⟨by rfl, ?hy10_27⟩) (by assumption) ?rest10_27
  case hy10_27 => (intro w9 hSw; clear hSw; go_simp; try with_reducible rfl)
  try simp only [Act.put, List.setIfInBounds_toArray, List.set_cons_zero, List.set_cons_succ, List.getElem_toArray, List.getElem_cons_zero, List.getElem_cons_succ]
  refine wpAnyH_take (i := 11) (v := ?v11_28) rfl (by kernel_rfl) (by kernel_rfl) (by kernel_rfl) (fun _ _ _ h => h) (Or.inl ⟨by rfl, ?hy11_28⟩) (by assumption) ?rest11_28
  case hy11_28 => (intro w9 hSw; clear hSw; go_simp; try with_reducible rfl)
  try simp only [Act.put, List.setIfInBounds_toArray, List.set_cons_zero, List.set_cons_succ, List.getElem_toArray, List.getElem_cons_zero, List.getElem_cons_succ]
  refine wpAnyH_done (by kernel_rfl) ?_ _
  obtain ⟨v0_0, v0_1, v0_2, v0_3, v0_4, v0_5, v0_6, v0_7, v0_8⟩ := Vbx.cells Du
  obtain ⟨v1_0, v1_1, v1_2, v1_3, v1_4, v1_5, v1_6, v1_7, v1_8⟩ := Vbx.cells Dx
  obtain ⟨v2_0, v2_1, v2_2, v2_3, v2_4, v2_5, v2_6, v2_7, v2_8⟩ := Vbx.cells Dy
  have hL : VLs (w1.alloc (.cells #[.pointer u.p, .int .i64 u.f0, .int .i64 u.f1, .int .i64 u.d0, .int .i64 u.d1, .int .i64 u.r0, .int .i64 u.r1, .int .i64 u.R, .int .i64 u.C, .pointer x.p, .int .i64 x.f0, .int .i64 x.f1, .int .i64 x.d0, .int .i64 x.d1, .int .i64 x.r0, .int .i64 x.r1, .int .i64 x.R, .int .i64 x.C, .pointer y.p, .int .i64 y.f0, .int .i64 y.f1, .int .i64 y.d0, .int .i64 y.d1, .int .i64 y.r0, .int .i64 y.r1, .int .i64 y.R, .int .i64 y.C] 30)) ⟨w1.heap.size, 0, none⟩ [u, x, y] := VLs.of (Blk.new w1 ([u, x, y].flatMap Vu.L) 30)
  replace Du := Du.on ((Below.refl _ _).alloc (Nat.le_refl _) ((.cells #[.pointer u.p, .int .i64 u.f0, .int .i64 u.f1, .int .i64 u.d0, .int .i64 u.d1, .int .i64 u.r0, .int .i64 u.r1, .int .i64 u.R, .int .i64 u.C, .pointer x.p, .int .i64 x.f0, .int .i64 x.f1, .int .i64 x.d0, .int .i64 x.d1, .int .i64 x.r0, .int .i64 x.r1, .int .i64 x.R, .int .i64 x.C, .pointer y.p, .int .i64 y.f0, .int .i64 y.f1, .int .i64 y.d0, .int .i64 y.d1, .int .i64 y.r0, .int .i64 y.r1, .int .i64 y.R, .int .i64 y.C] 30)))
  replace Dx := Dx.on ((Below.refl _ _).alloc (Nat.le_refl _) ((.cells #[.pointer u.p, .int .i64 u.f0, .int .i64 u.f1, .int .i64 u.d0, .int .i64 u.d1, .int .i64 u.r0, .int .i64 u.r1, .int .i64 u.R, .int .i64 u.C, .pointer x.p, .int .i64 x.f0, .int .i64 x.f1, .int .i64 x.d0, .int .i64 x.d1, .int .i64 x.r0, .int .i64 x.r1, .int .i64 x.R, .int .i64 x.C, .pointer y.p, .int .i64 y.f0, .int .i64 y.f1, .int .i64 y.d0, .int .i64 y.d1, .int .i64 y.r0, .int .i64 y.r1, .int .i64 y.R, .int .i64 y.C] 30)))
  replace Dy := Dy.on ((Below.refl _ _).alloc (Nat.le_refl _) ((.cells #[.pointer u.p, .int .i64 u.f0, .int .i64 u.f1, .int .i64 u.d0, .int .i64 u.d1, .int .i64 u.r0, .int .i64 u.r1, .int .i64 u.R, .int .i64 u.C, .pointer x.p, .int .i64 x.f0, .int .i64 x.f1, .int .i64 x.d0, .int .i64 x.d1, .int .i64 x.r0, .int .i64 x.r1, .int .i64 x.R, .int .i64 x.C, .pointer y.p, .int .i64 y.f0, .int .i64 y.f1, .int .i64 y.d0, .int .i64 y.d1, .int .i64 y.r0, .int .i64 y.r1, .int .i64 y.R, .int .i64 y.C] 30)))
  replace bz := bz.alloc bz.size ((.cells #[.pointer u.p, .int .i64 u.f0, .int .i64 u.f1, .int .i64 u.d0, .int .i64 u.d1, .int .i64 u.r0, .int .i64 u.r1, .int .i64 u.R, .int .i64 u.C, .pointer x.p, .int .i64 x.f0, .int .i64 x.f1, .int .i64 x.d0, .int .i64 x.d1, .int .i64 x.r0, .int .i64 x.r1, .int .i64 x.R, .int .i64 x.C, .pointer y.p, .int .i64 y.f0, .int .i64 y.f1, .int .i64 y.d0, .int .i64 y.d1, .int .i64 y.r0, .int .i64 y.r1, .int .i64 y.R, .int .i64 y.C] 30))
  go_wp2_with fail
  with_reducible refine (refused_is false (vs := [u, x, y]) (n := 3) rfl (by omega) hL (by intro z hz; simp only [List.mem_cons, List.mem_nil_iff, or_false] at hz; rcases hz with rfl | rfl | rfl; exact ⟨_, HSu.out.on bz⟩; exact ⟨_, HSx.out.on bz⟩; exact ⟨_, HSy.out.on bz⟩)).mono ?_
  rintro e w2 ⟨rfl, hb⟩
  clear v0_0 v0_1 v0_2 v0_3 v0_4 v0_5 v0_6 v0_7 v0_8 v1_0 v1_1 v1_2 v1_3 v1_4 v1_5 v1_6 v1_7 v1_8 v2_0 v2_1 v2_2 v2_3 v2_4 v2_5 v2_6 v2_7 v2_8
  replace Du := Du.on hb
  replace Dx := Dx.on hb
  replace Dy := Dy.on hb
  replace hL := hL.on hb
  replace bz := bz.trans (hb.mono bz.size)
  clear hb hL
  rw [HE.out]
  go_wp2_with fail
  go_ret
  exact ⟨rfl, bz⟩
set_option maxRecDepth 100000 in
set_option maxHeartbeats 8000000 in
theorem Symv_no1 (hu : Sv w u U) (hx : Sv w x X) (hy : Sv w y Y) {E : Int} (h0 : (alk x y) = true) (he : refE ((alk x y) && (szd u x.len x.len)) [u, x, y] = E) (hn : E ≠ 0) : Calls Try.prog 36 #[.float .f64 a, u.V, x.V, .float .f64 b, y.V] w (Ans w (.int .i64 E)) := by
  have hft : ((alk x y) && (szd u x.len x.len)) = (szd u x.len x.len) := by simp [h0]
  rw [hft] at he
  clear hft
  obtain ⟨FV, hFV⟩ : ∃ z, (szd u x.len x.len) = z := ⟨_, rfl⟩
  rw [hFV] at he
  have HSu := Lib.hid hu
  have HSx := Lib.hid hx
  have HSy := Lib.hid hy
  have hne : (E != 0) = true := by simpa using hn
  have HE := Lib.hid he
  have p0 := fun (W : World) (bz : Below w.heap.size w W) => alike_is (HSx.out.on bz) (HSy.out.on bz)
  simp only [h0] at p0
  have p3 := fun (W : World) (bz : Below w.heap.size w W) => sized_is u x.len x.len W
  simp only [hFV] at p3
  clear he hn hu hx hy h0 hFV
  have Du := Blk.new w u.L 30
  have Dx := Blk.new (w.alloc (.cells u.L.toArray 30)) x.L 30
  replace Du := Du.alloc (.cells x.L.toArray 30)
  simp only [World.size_alloc] at Dx
  have Dy := Blk.new ((w.alloc (.cells u.L.toArray 30)).alloc (.cells x.L.toArray 30)) y.L 30
  replace Du := Du.alloc (.cells y.L.toArray 30)
  replace Dx := Dx.alloc (.cells y.L.toArray 30)
  simp only [World.size_alloc] at Dy
  have bz := (((Below.refl _ w).alloc (Nat.le_refl _) (.cells u.L.toArray 30)).alloc (by simp <;> omega) (.cells x.L.toArray 30)).alloc (by simp <;> omega) (.cells y.L.toArray 30)
  have hsz0 : (((w.alloc (.cells u.L.toArray 30)).alloc (.cells x.L.toArray 30)).alloc (.cells y.L.toArray 30)).heap.size = w.heap.size + 3 := by simp
  go_enter Try.func36, Try.ntmps36
  go_wp2_with fail
  replace Du := Du.drew
  replace Dx := Dx.drew
  replace Dy := Dy.drew
  replace bz := bz.drew
  refine wp_region_held_drew (S := fun w9 : World => Vbx w9 w.heap.size u ∧ Vbx w9 (w.heap.size + 1) x ∧ Vbx w9 (w.heap.size + 2) y) (by kernel_rfl) ⟨Du, Dx, Dy⟩ (fun hS => ?_)
  generalize (((w.alloc (.cells u.L.toArray 30)).alloc (.cells x.L.toArray 30)).alloc (.cells y.L.toArray 30)).drew = wd at hS Du Dx Dy  bz ⊢
  refine wpAnyH_take (i := 0) (v := ?v0_29) rfl (by kernel_rfl) (by kernel_rfl) (by kernel_rfl) (fun _ _ _ h => h) (Or.inl ⟨by rfl, ?hy0_29⟩) (by assumption) ?rest0_29
  case hy0_29 => (intro w9 hSw; obtain ⟨m0, m1, m2⟩ := hSw; refine (ld_v (by rfl) (by kernel_rfl) m1).trans ?_; with_reducible rfl)
  try simp only [Act.put, List.setIfInBounds_toArray, List.set_cons_zero, List.set_cons_succ, List.getElem_toArray, List.getElem_cons_zero, List.getElem_cons_succ]
  refine wpAnyH_take (i := 1) (v := ?v1_30) rfl (by kernel_rfl) (by kernel_rfl) (by kernel_rfl) (fun _ _ _ h => h) (Or.inl ⟨by rfl, ?hy1_30⟩) (by assumption) ?rest1_30
  case hy1_30 => (intro w9 hSw; obtain ⟨m0, m1, m2⟩ := hSw; refine (ld_v (by rfl) (by kernel_rfl) m2).trans ?_; with_reducible rfl)
  try simp only [Act.put, List.setIfInBounds_toArray, List.set_cons_zero, List.set_cons_succ, List.getElem_toArray, List.getElem_cons_zero, List.getElem_cons_succ]
  refine wpAnyH_ready (rs := [2]) (by kernel_rfl) (by simp) ?_
  refine AllReadyH.cons rfl (fun K hK => ?_) AllReadyH.nil
  go_simp
  with_reducible refine (p0 _ bz).mono ?_
  rintro e w1 ⟨rfl, hb⟩
  replace Du := Du.on hb
  replace Dx := Dx.on hb
  replace Dy := Dy.on hb
  replace bz := bz.trans (hb.mono bz.size)
  clear hb
  refine hK.out _ _ ⟨Du, Dx, Dy⟩ (fun hH => ?_)
  clear hK K hS
  have hS := hH
  clear hH
  try simp only [Act.put, List.setIfInBounds_toArray, List.set_cons_zero, List.set_cons_succ, List.getElem_toArray, List.getElem_cons_zero, List.getElem_cons_succ]
  refine wpAnyH_take (i := 3) (v := ?v3_31) rfl (by kernel_rfl) (by kernel_rfl) (by kernel_rfl) (fun _ _ _ h => h) (Or.inl ⟨by rfl, ?hy3_31⟩) (by assumption) ?rest3_31
  case hy3_31 => (intro w9 hSw; clear hSw; go_simp; try with_reducible rfl)
  try simp only [Act.put, List.setIfInBounds_toArray, List.set_cons_zero, List.set_cons_succ, List.getElem_toArray, List.getElem_cons_zero, List.getElem_cons_succ]
  refine wpAnyH_take (i := 4) (v := ?v4_32) rfl (by kernel_rfl) (by kernel_rfl) (by kernel_rfl) (fun _ _ _ h => h) (Or.inl ⟨by rfl, ?hy4_32⟩) (by assumption) ?rest4_32
  case hy4_32 => (intro w9 hSw; obtain ⟨m0, m1, m2⟩ := hSw; refine (ld_v (by rfl) (by kernel_rfl) m0).trans ?_; with_reducible rfl)
  try simp only [Act.put, List.setIfInBounds_toArray, List.set_cons_zero, List.set_cons_succ, List.getElem_toArray, List.getElem_cons_zero, List.getElem_cons_succ]
  refine wpAnyH_take (i := 5) (v := ?v5_33) rfl (by kernel_rfl) (by kernel_rfl) (by kernel_rfl) (fun _ _ _ h => h) (Or.inl ⟨by rfl, ?hy5_33⟩) (by assumption) ?rest5_33
  case hy5_33 => (intro w9 hSw; obtain ⟨m0, m1, m2⟩ := hSw; refine (ld_v (by rfl) (by kernel_rfl) m1).trans ?_; with_reducible rfl)
  try simp only [Act.put, List.setIfInBounds_toArray, List.set_cons_zero, List.set_cons_succ, List.getElem_toArray, List.getElem_cons_zero, List.getElem_cons_succ]
  refine wpAnyH_take (i := 7) (v := ?v7_34) rfl (by kernel_rfl) (by kernel_rfl) (by kernel_rfl) (fun _ _ _ h => h) (Or.inl ⟨by rfl, ?hy7_34⟩) (by assumption) ?rest7_34
  case hy7_34 => (intro w9 hSw; obtain ⟨m0, m1, m2⟩ := hSw; refine (ld_v (by rfl) (by kernel_rfl) m1).trans ?_; with_reducible rfl)
  try simp only [Act.put, List.setIfInBounds_toArray, List.set_cons_zero, List.set_cons_succ, List.getElem_toArray, List.getElem_cons_zero, List.getElem_cons_succ]
  refine wpAnyH_ready (rs := [6]) (by kernel_rfl) (by simp) ?_
  refine AllReadyH.cons rfl (fun K hK => ?_) AllReadyH.nil
  go_simp
  with_reducible refine (svLen (HSx.out.on bz)).mono ?_
  rintro e w2 ⟨rfl, hb⟩
  replace Du := Du.on hb
  replace Dx := Dx.on hb
  replace Dy := Dy.on hb
  replace bz := bz.trans (hb.mono bz.size)
  clear hb
  refine hK.out _ _ ⟨Du, Dx, Dy⟩ (fun hH => ?_)
  clear hK K hS
  have hS := hH
  clear hH
  try simp only [Act.put, List.setIfInBounds_toArray, List.set_cons_zero, List.set_cons_succ, List.getElem_toArray, List.getElem_cons_zero, List.getElem_cons_succ]
  refine wpAnyH_ready (rs := [8]) (by kernel_rfl) (by simp) ?_
  refine AllReadyH.cons rfl (fun K hK => ?_) AllReadyH.nil
  go_simp
  with_reducible refine (svLen (HSx.out.on bz)).mono ?_
  rintro e w3 ⟨rfl, hb⟩
  replace Du := Du.on hb
  replace Dx := Dx.on hb
  replace Dy := Dy.on hb
  replace bz := bz.trans (hb.mono bz.size)
  clear hb
  refine hK.out _ _ ⟨Du, Dx, Dy⟩ (fun hH => ?_)
  clear hK K hS
  have hS := hH
  clear hH
  try simp only [Act.put, List.setIfInBounds_toArray, List.set_cons_zero, List.set_cons_succ, List.getElem_toArray, List.getElem_cons_zero, List.getElem_cons_succ]
  refine wpAnyH_ready (rs := [9]) (by kernel_rfl) (by simp) ?_
  refine AllReadyH.cons rfl (fun K hK => ?_) AllReadyH.nil
  go_simp
  with_reducible refine (p3 _ bz).mono ?_
  rintro e w4 ⟨rfl, hb⟩
  replace Du := Du.on hb
  replace Dx := Dx.on hb
  replace Dy := Dy.on hb
  replace bz := bz.trans (hb.mono bz.size)
  clear hb
  refine hK.out _ _ ⟨Du, Dx, Dy⟩ (fun hH => ?_)
  clear hK K hS
  have hS := hH
  clear hH
  try simp only [Act.put, List.setIfInBounds_toArray, List.set_cons_zero, List.set_cons_succ, List.getElem_toArray, List.getElem_cons_zero, List.getElem_cons_succ]
  refine wpAnyH_take (i := 10) (v := ?v10_35) rfl (by kernel_rfl) (by kernel_rfl) (by kernel_rfl) (fun _ _ _ h => h) (Or.inl ⟨by rfl, ?hy10_35⟩) (by assumption) ?rest10_35
  case hy10_35 => (intro w9 hSw; clear hSw; go_simp; try with_reducible rfl)
  try simp only [Act.put, List.setIfInBounds_toArray, List.set_cons_zero, List.set_cons_succ, List.getElem_toArray, List.getElem_cons_zero, List.getElem_cons_succ]
  refine wpAnyH_take (i := 11) (v := ?v11_36) rfl (by kernel_rfl) (by kernel_rfl) (by kernel_rfl) (fun _ _ _ h => h) (Or.inl ⟨by rfl, ?hy11_36⟩) (by assumption) ?rest11_36
  case hy11_36 => (intro w9 hSw; clear hSw; go_simp; try with_reducible rfl)
  try simp only [Act.put, List.setIfInBounds_toArray, List.set_cons_zero, List.set_cons_succ, List.getElem_toArray, List.getElem_cons_zero, List.getElem_cons_succ]
  refine wpAnyH_done (by kernel_rfl) ?_ _
  obtain ⟨v0_0, v0_1, v0_2, v0_3, v0_4, v0_5, v0_6, v0_7, v0_8⟩ := Vbx.cells Du
  obtain ⟨v1_0, v1_1, v1_2, v1_3, v1_4, v1_5, v1_6, v1_7, v1_8⟩ := Vbx.cells Dx
  obtain ⟨v2_0, v2_1, v2_2, v2_3, v2_4, v2_5, v2_6, v2_7, v2_8⟩ := Vbx.cells Dy
  have hL : VLs (w4.alloc (.cells #[.pointer u.p, .int .i64 u.f0, .int .i64 u.f1, .int .i64 u.d0, .int .i64 u.d1, .int .i64 u.r0, .int .i64 u.r1, .int .i64 u.R, .int .i64 u.C, .pointer x.p, .int .i64 x.f0, .int .i64 x.f1, .int .i64 x.d0, .int .i64 x.d1, .int .i64 x.r0, .int .i64 x.r1, .int .i64 x.R, .int .i64 x.C, .pointer y.p, .int .i64 y.f0, .int .i64 y.f1, .int .i64 y.d0, .int .i64 y.d1, .int .i64 y.r0, .int .i64 y.r1, .int .i64 y.R, .int .i64 y.C] 30)) ⟨w4.heap.size, 0, none⟩ [u, x, y] := VLs.of (Blk.new w4 ([u, x, y].flatMap Vu.L) 30)
  replace Du := Du.on ((Below.refl _ _).alloc (Nat.le_refl _) ((.cells #[.pointer u.p, .int .i64 u.f0, .int .i64 u.f1, .int .i64 u.d0, .int .i64 u.d1, .int .i64 u.r0, .int .i64 u.r1, .int .i64 u.R, .int .i64 u.C, .pointer x.p, .int .i64 x.f0, .int .i64 x.f1, .int .i64 x.d0, .int .i64 x.d1, .int .i64 x.r0, .int .i64 x.r1, .int .i64 x.R, .int .i64 x.C, .pointer y.p, .int .i64 y.f0, .int .i64 y.f1, .int .i64 y.d0, .int .i64 y.d1, .int .i64 y.r0, .int .i64 y.r1, .int .i64 y.R, .int .i64 y.C] 30)))
  replace Dx := Dx.on ((Below.refl _ _).alloc (Nat.le_refl _) ((.cells #[.pointer u.p, .int .i64 u.f0, .int .i64 u.f1, .int .i64 u.d0, .int .i64 u.d1, .int .i64 u.r0, .int .i64 u.r1, .int .i64 u.R, .int .i64 u.C, .pointer x.p, .int .i64 x.f0, .int .i64 x.f1, .int .i64 x.d0, .int .i64 x.d1, .int .i64 x.r0, .int .i64 x.r1, .int .i64 x.R, .int .i64 x.C, .pointer y.p, .int .i64 y.f0, .int .i64 y.f1, .int .i64 y.d0, .int .i64 y.d1, .int .i64 y.r0, .int .i64 y.r1, .int .i64 y.R, .int .i64 y.C] 30)))
  replace Dy := Dy.on ((Below.refl _ _).alloc (Nat.le_refl _) ((.cells #[.pointer u.p, .int .i64 u.f0, .int .i64 u.f1, .int .i64 u.d0, .int .i64 u.d1, .int .i64 u.r0, .int .i64 u.r1, .int .i64 u.R, .int .i64 u.C, .pointer x.p, .int .i64 x.f0, .int .i64 x.f1, .int .i64 x.d0, .int .i64 x.d1, .int .i64 x.r0, .int .i64 x.r1, .int .i64 x.R, .int .i64 x.C, .pointer y.p, .int .i64 y.f0, .int .i64 y.f1, .int .i64 y.d0, .int .i64 y.d1, .int .i64 y.r0, .int .i64 y.r1, .int .i64 y.R, .int .i64 y.C] 30)))
  replace bz := bz.alloc bz.size ((.cells #[.pointer u.p, .int .i64 u.f0, .int .i64 u.f1, .int .i64 u.d0, .int .i64 u.d1, .int .i64 u.r0, .int .i64 u.r1, .int .i64 u.R, .int .i64 u.C, .pointer x.p, .int .i64 x.f0, .int .i64 x.f1, .int .i64 x.d0, .int .i64 x.d1, .int .i64 x.r0, .int .i64 x.r1, .int .i64 x.R, .int .i64 x.C, .pointer y.p, .int .i64 y.f0, .int .i64 y.f1, .int .i64 y.d0, .int .i64 y.d1, .int .i64 y.r0, .int .i64 y.r1, .int .i64 y.R, .int .i64 y.C] 30))
  go_wp2_with fail
  with_reducible refine (refused_is FV (vs := [u, x, y]) (n := 3) rfl (by omega) hL (by intro z hz; simp only [List.mem_cons, List.mem_nil_iff, or_false] at hz; rcases hz with rfl | rfl | rfl; exact ⟨_, HSu.out.on bz⟩; exact ⟨_, HSx.out.on bz⟩; exact ⟨_, HSy.out.on bz⟩)).mono ?_
  rintro e w5 ⟨rfl, hb⟩
  clear v0_0 v0_1 v0_2 v0_3 v0_4 v0_5 v0_6 v0_7 v0_8 v1_0 v1_1 v1_2 v1_3 v1_4 v1_5 v1_6 v1_7 v1_8 v2_0 v2_1 v2_2 v2_3 v2_4 v2_5 v2_6 v2_7 v2_8
  replace Du := Du.on hb
  replace Dx := Dx.on hb
  replace Dy := Dy.on hb
  replace hL := hL.on hb
  replace bz := bz.trans (hb.mono bz.size)
  clear hb hL
  rw [HE.out]
  go_wp2_with fail
  go_ret
  exact ⟨rfl, bz⟩
theorem Symv_no (hu : Sv w u U) (hx : Sv w x X) (hy : Sv w y Y) {E : Int} (he : refE ((alk x y) && (szd u x.len x.len)) [u, x, y] = E) (hn : E ≠ 0) : Calls Try.prog 36 #[.float .f64 a, u.V, x.V, .float .f64 b, y.V] w (Ans w (.int .i64 E)) := by
  cases h0 : (alk x y)
  · exact Symv_no0 hu hx hy h0 he hn
  · exact Symv_no1 hu hx hy h0 he hn
end
end Go.Proofs.Ytfelmkkkaphkpaa
namespace Go.Proofs.Ytfelmkkkaphkpaa
open Go.RowKit Go.Bw Go.Sort Go.Shelf
set_option linter.unusedVariables false
set_option linter.unusedSimpArgs false
attribute [local go_sem] Oper.semAt_some run_store_float

theorem lt_cell {W : World} {p : Addr} {v : Value} (h : W.cell? p = some v) : p.block < W.heap.size := by
  unfold World.cell? at h
  rcases Nat.lt_or_ge p.block W.heap.size with h1 | h1
  · exact h1
  · rw [Array.getElem?_eq_none h1] at h
    simp at h
/-- k places of the lower half are mirrored -/
def Mir (X : List Int) (m k : Nat) (L : List Int) : Prop := ∀ a b, a < m → b < m → D L (a * m + b) = if a ≤ b ∧ lwT b + a < k then D X (b * m + a) else D X (a * m + b)
theorem Mir.zero (X : List Int) (m : Nat) : Mir X m 0 X := fun a b _ _ => by rw [if_neg (by omega)]
theorem Mir.step {X L : List Int} {m k i j : Nat} (h : Mir X m k L) (hl : L.length = m * m) (hk : k < lwT m) (hi : (tr k).1 = i) (hj : (tr k).2 = j) {r : Int} (hr : r = D L (i * m + j)) : Mir X m (k + 1) (L.set (j * m + i) r) := by
  have hn := tr_num k
  have him := tr_lt hk
  rw [hi, hj] at hn
  rw [hi] at him
  have hjm : j < m := by omega
  have hkl : j * m + i < L.length := by rw [hl]; exact ix_lt hjm him
  have hb0 := h i j him hjm
  intro a b ha hb
  rw [D_set _ _ hkl]
  by_cases e : a * m + b = j * m + i
  · obtain ⟨e1, e2⟩ := ix_eq hb him e
    rw [if_pos e, hr, hb0, e1, e2, if_pos (show j ≤ i ∧ lwT i + j < k + 1 by omega)]
    by_cases h2 : i ≤ j ∧ lwT j + i < k
    · have h3 : i = j := by omega
      rw [if_pos h2, h3]
    · rw [if_neg h2]
  · rw [if_neg e, h a b ha hb]
    have hne : ¬ (a ≤ b ∧ lwT b + a = k) := by
      rintro ⟨h1, h2⟩
      obtain ⟨h3, h4⟩ := tr_inj h1 h2
      rw [hi] at h3
      rw [hj] at h4
      exact e (by rw [h3, h4])
    by_cases h1 : a ≤ b ∧ lwT b + a < k
    · rw [if_pos h1, if_pos ⟨h1.1, by omega⟩]
    · rw [if_neg h1, if_neg (by omega)]
theorem Mir.all {X L : List Int} {m : Nat} (h : Mir X m (lwT m) L) : ∀ a b, a < m → b < m → D L (a * m + b) = if a ≤ b then D X (b * m + a) else D X (a * m + b) := fun a b ha hb => by
  rw [h a b ha hb]
  by_cases h1 : a ≤ b
  · rw [if_pos h1, if_pos ⟨h1, lwT_lt hb h1⟩]
  · rw [if_neg h1, if_neg (by omega)]
theorem Rws.ownV {w W' : World} {B BB o : Nat} {G : Option Addr} {cG m q : Nat} {l : List Int} {row : Option Nat} (h : Rws w B o G cG m q l) (hg : w.grownBy W' row) (hr : NoCells BB w row) : Rws W' B o G cG m q l := ⟨h.own.ownV hg hr, h.len, h.wd, h.blk.ownV hg hr, h.ne, h.hB⟩
section
variable {w : World} {B H3 o cG m Bn : Nat} {G : Option Addr} {X : List Int}
/-- between two rounds -/
def MirI (w : World) (B H3 o : Nat) (G : Option Addr) (cG m Bn : Nat) (X : List Int) (k : Nat) (L : List Int) (W : World) : Prop :=
  Mir X m k L ∧ Rws W B o G cG m m L ∧ Blk W H3 [.slice (some ⟨o, 0, none⟩) m m] ∧ Blk W Bn [.int .i64 (m : Int)] ∧ Below w.heap.size w W
theorem MirI.ownV {BB k : Nat} {L : List Int} (hB : w.heap.size ≤ BB) : OwnV BB (MirI w B H3 o G cG m Bn X k L) := by
  rintro W W' row ⟨e, h1, h2, h3, h4⟩ hg hr
  exact ⟨e, h1.ownV hg hr, h2.ownV hg hr, h3.ownV hg hr, below_ownV h4 hg hr hB⟩
/-- within one -/
def MirX (w : World) (B H3 o : Nat) (G : Option Addr) (cG m Bn : Nat) (X : List Int) (k : Nat) (L : List Int) (a' : Act) (W : World) : Prop :=
  MirI w B H3 o G cG m Bn X k L W ∧ ∃ (X0 X2 X6 X7 X8 X9 X10 X11 X12 X13 X14 X15 X16 X17 X18 X19 X20 X21 X22 X23 X24 X25 X26 : Value), a' = { tmps := #[X0, .pointer (some ⟨w.heap.size, 0, none⟩), X2, .pointer (some ⟨H3, 0, none⟩), .int .i64 ((tr k).1 : Nat), .int .i64 ((tr k).2 : Nat), X6, X7, X8, X9, X10, X11, X12, X13, X14, X15, X16, X17, X18, X19, X20, X21, X22, X23, X24, X25, X26], defers := [] }
theorem MirX.ownV {BB k : Nat} {L : List Int} {a' : Act} (hB : w.heap.size ≤ BB) : OwnV BB (MirX w B H3 o G cG m Bn X k L a') := by
  rintro W W' row ⟨hI, X0, X2, X6, X7, X8, X9, X10, X11, X12, X13, X14, X15, X16, X17, X18, X19, X20, X21, X22, X23, X24, X25, X26, e⟩ hg hr
  exact ⟨MirI.ownV hB W W' row hI hg hr, X0, X2, X6, X7, X8, X9, X10, X11, X12, X13, X14, X15, X16, X17, X18, X19, X20, X21, X22, X23, X24, X25, X26, e⟩
/-- what mirrored answers -/
def MirA (w : World) (m : Nat) (X : List Int) (e : Ending) (w' : World) : Prop := ∃ o G cG L, e = .returned (.slice (some ⟨o, 0, none⟩) m m) ∧ Rws w' (w.heap.size + 1) o G cG m m L ∧ (∀ a b, a < m → b < m → D L (a * m + b) = if a ≤ b then D X (b * m + a) else D X (a * m + b)) ∧ Below w.heap.size w w'
set_option maxRecDepth 100000 in
set_option maxHeartbeats 4000000 in
theorem mirrored_is {x : Vu} (hx : Sv w x X) (hR : x.R = m) (hC : x.C = m) (hm : m ≤ 512) : Calls Try.prog 83 #[x.V] w (MirA w m X) := by
  have DV := Blk.new w x.L 30
  have bw := (Below.refl _ w).alloc (Nat.le_refl _) (.cells x.L.toArray 30)
  have prow := rows_is (hx.on bw) hR hC
  have esz : (w.alloc (.cells x.L.toArray 30)).heap.size = w.heap.size + 1 := by simp
  clear hR hC hx
  refine (callsIn_wide (n := 5)).1 ?_
  refine callsIn_of_wp_marks Try.func83 rfl trivial ?_ rfl
  simp only [Try.ntmps83, List.size_toArray, List.length_cons, List.length_nil, Nat.reduceAdd, Nat.reduceSub, Array.replicate_succ, Array.replicate_zero, List.push_toArray, List.append_toArray, List.nil_append, List.cons_append]
  obtain ⟨p, f0, f1, d0, d1, r0, r1, R, C⟩ := x
  obtain ⟨v0, v1, v2, v3, v4, v5, v6, v7, v8⟩ := Vbx.cells DV
  gi_wp2_with (first
    | (refine ⟨trivial, ?_⟩; gi_at_call 80; refine (callsIn_wide.2 prow).mono ?_; rintro e w1 ⟨o, G, cG, rfl, hR0, hb⟩; have D3 := Blk.new w1 [.slice (some ⟨o, 0, none⟩) m m] 91; have c3 := Blk.cell D3 0 rfl)
    | (refine ⟨trivial, ?_⟩; gi_at_call 86; refine (callsIn_wide.2 (lower_any _ _)).mono ?_; rintro e w2 ⟨rfl, rfl⟩))
  clear v0 v1 v2 v3 v4 v5 v6 v7 v8 prow c3
  rw [esz] at hR0
  have hsz1 := hb.size
  rw [esz] at hsz1
  replace bw := bw.trans (hb.mono (by omega))
  obtain ⟨H3, hH3⟩ : ∃ H, w1.heap.size = H := ⟨_, rfl⟩
  have hR1 := (hR0.on ((Below.refl _ _).alloc (Nat.le_refl _) (.cells #[.slice (some ⟨o, 0, none⟩) m m] 91)))
  have bw1 := bw.alloc bw.size (.cells #[.slice (some ⟨o, 0, none⟩) m m] 91)
  have hsz2 : (w1.alloc (.cells #[.slice (some ⟨o, 0, none⟩) m m] 91)).heap.size = H3 + 1 := by rw [World.size_alloc, hH3]
  rw [hH3] at D3 hsz1
  have DN := Blk.new (w1.alloc (.cells #[.slice (some ⟨o, 0, none⟩) m m] 91)) [.int .i64 (m : Int)] 3
  rw [hsz2] at DN
  have bl := (Below.refl _ (w1.alloc (.cells #[.slice (some ⟨o, 0, none⟩) m m] 91))).alloc (Nat.le_refl _) (.cells #[.int .i64 (m : Int)] 3)
  replace hR1 := hR1.on bl
  replace D3 := D3.on bl
  replace bw1 := bw1.trans (bl.mono bw1.size)
  have hszw : w.heap.size ≤ ((w1.alloc (.cells #[.slice (some ⟨o, 0, none⟩) m m] 91)).alloc (.cells #[.int .i64 (m : Int)] 3)).heap.size := bw1.size
  clear bl
  have h0 : MirI w (w.heap.size + 1) H3 o G cG m (H3 + 1) X 0 X _ := ⟨Mir.zero X m, hR1, D3, DN, bw1⟩
  clear D3 DN bw1 hR1 bw DV hb
  simp only [hsz2, hH3]
  refine rangeFunc_V (by omega) (gf := 106) (lb := #[.pointer (some ⟨H3 + 1, 0, none⟩)]) rfl (enters_of Try.func106 (by kernel_rfl) rfl)
    (low_seq (Bn := H3 + 1) (by omega) hm) (fun _ _ => rfl)
    (MirI w (w.heap.size + 1) H3 o G cG m (H3 + 1) X) (fun _ => False) (fun k lx W h => h.2.2.2.1) (fun _ _ => MirI.ownV hszw) (fun _ _ _ h _ _ => h) h0
    (MirX w (w.heap.size + 1) H3 o G cG m (H3 + 1) X) (fun _ _ _ => MirX.ownV hszw) ?assign ?body ?done ?stop
  case assign =>
    intro lp k lx W K hI hK
    unfold encT
    gi_wp2
    exact hK _ _ (keepsFrom_below (Below.refl _ W)) ⟨hI, _, _, _, _, _, _, _, _, _, _, _, _, _, _, _, _, _, _, _, _, _, _, _, rfl⟩
  case body =>
    rintro lp k L a' W hlp ⟨⟨he, h1, h2, h3, h4⟩, X0, X2, X6, X7, X8, X9, X10, X11, X12, X13, X14, X15, X16, X17, X18, X19, X20, X21, X22, X23, X24, X25, X26, rfl⟩ hk
    obtain ⟨i, hi⟩ : ∃ i, (tr k).1 = i := ⟨_, rfl⟩
    obtain ⟨j, hj⟩ : ∃ j, (tr k).2 = j := ⟨_, rfl⟩
    have hn := tr_num k
    have him := tr_lt hk
    have hst := fun r hr => he.step (r := r) h1.len hk hi hj hr
    have HST := Lib.hid hst
    rw [hi, hj] at hn
    rw [hi] at him
    rw [hi, hj]
    have hjm : j < m := by omega
    obtain ⟨ad, c5, hBa, hao, hc5m, hpt⟩ := hR0.putrow hjm him
    obtain ⟨ad2, c6, hBa2, hao2, hc6m, hpt2⟩ := hR0.putrow him hjm
    have hH := lt_cell (hpt _ _ hR0).2.2.1
    have hadH : ad.block < H3 := by rw [← hH3]; rw [add_block] at hH; exact hH
    have hwd := h1.wd.at_ (i * m + j)
    obtain ⟨r, hr⟩ : ∃ r, (D L (i * m + j)).toNat = r := ⟨_, rfl⟩
    have hr2 : D L (i * m + j) = (r : Int) := by omega
    have hr3 : r ≤ 18446744073709551615 := by omega
    have HR2 := Lib.hid hr2
    have HPT := Lib.hid hpt
    have HPT2 := Lib.hid hpt2
    have i0 : (0 : Int) ≤ i := by omega
    have i1 : (i : Int) < m := by omega
    have j0 : (0 : Int) ≤ j := by omega
    have j1 : (j : Int) < m := by omega
    clear hst hn hi hj hk hwd hr hr2 hpt hpt2 hH he
    gi_wp2
    refine wpIn_region_S (S := fun w9 : World => Blk w9 H3 [.slice (some ⟨o, 0, none⟩) m m] ∧ ∃ L2, Rws w9 (w.heap.size + 1) o G cG m m L2 ∧ D L2 (i * m + j) = (r : Int)) (by kernel_rfl) (by kernel_rfl) ⟨h2.drew, L, ⟨h1.own, h1.len, h1.wd, h1.blk.drew, h1.ne, h1.hB⟩, HR2.out⟩ (fun hS => ?_)
    refine wpAnyS_take (i := 0) (v := ?v0_1) rfl (by kernel_rfl) (by kernel_rfl) (by kernel_rfl) (fun _ _ _ h => h) (Or.inl ⟨by rfl, ?hy0_1⟩) (by assumption) ?rest0_1
    case hy0_1 => (intro w9 hSw; obtain ⟨m0, L2, m1, m2⟩ := hSw; have c0 := Blk.cell m0 0 rfl; obtain ⟨c1, _, c2, c3, _⟩ := HPT.out _ _ m1; obtain ⟨c4, _, c5, c6, _⟩ := HPT2.out _ _ m1; rw [m2] at c5; go_simp; try with_reducible rfl)
    try simp only [Act.put, List.setIfInBounds_toArray, List.set_cons_zero, List.set_cons_succ, List.getElem_toArray, List.getElem_cons_zero, List.getElem_cons_succ]
    refine wpAnyS_take (i := 1) (v := ?v1_2) rfl (by kernel_rfl) (by kernel_rfl) (by kernel_rfl) (fun _ _ _ h => h) (Or.inl ⟨by rfl, ?hy1_2⟩) (by assumption) ?rest1_2
    case hy1_2 => (intro w9 hSw; clear hSw; go_simp; try with_reducible rfl)
    try simp only [Act.put, List.setIfInBounds_toArray, List.set_cons_zero, List.set_cons_succ, List.getElem_toArray, List.getElem_cons_zero, List.getElem_cons_succ]
    refine wpAnyS_take (i := 2) (v := ?v2_3) rfl (by kernel_rfl) (by kernel_rfl) (by kernel_rfl) (fun _ _ _ h => h) (Or.inl ⟨by rfl, ?hy2_3⟩) (by assumption) ?rest2_3
    case hy2_3 => (intro w9 hSw; clear hSw; go_simp; try with_reducible rfl)
    try simp only [Act.put, List.setIfInBounds_toArray, List.set_cons_zero, List.set_cons_succ, List.getElem_toArray, List.getElem_cons_zero, List.getElem_cons_succ]
    refine wpAnyS_take (i := 3) (v := ?v3_4) rfl (by kernel_rfl) (by kernel_rfl) (by kernel_rfl) (fun _ _ _ h => h) (Or.inl ⟨by rfl, ?hy3_4⟩) (by assumption) ?rest3_4
    case hy3_4 => (intro w9 hSw; obtain ⟨m0, L2, m1, m2⟩ := hSw; have c0 := Blk.cell m0 0 rfl; obtain ⟨c1, _, c2, c3, _⟩ := HPT.out _ _ m1; obtain ⟨c4, _, c5, c6, _⟩ := HPT2.out _ _ m1; rw [m2] at c5; go_simp; try with_reducible rfl)
    try simp only [Act.put, List.setIfInBounds_toArray, List.set_cons_zero, List.set_cons_succ, List.getElem_toArray, List.getElem_cons_zero, List.getElem_cons_succ]
    refine wpAnyS_take (i := 4) (v := ?v4_5) rfl (by kernel_rfl) (by kernel_rfl) (by kernel_rfl) (fun _ _ _ h => h) (Or.inl ⟨by rfl, ?hy4_5⟩) (by assumption) ?rest4_5
    case hy4_5 => (intro w9 hSw; clear hSw; go_simp; try with_reducible rfl)
    try simp only [Act.put, List.setIfInBounds_toArray, List.set_cons_zero, List.set_cons_succ, List.getElem_toArray, List.getElem_cons_zero, List.getElem_cons_succ]
    refine wpAnyS_take (i := 5) (v := ?v5_6) rfl (by kernel_rfl) (by kernel_rfl) (by kernel_rfl) (fun _ _ _ h => h) (Or.inl ⟨by rfl, ?hy5_6⟩) (by assumption) ?rest5_6
    case hy5_6 => (intro w9 hSw; obtain ⟨m0, L2, m1, m2⟩ := hSw; have c0 := Blk.cell m0 0 rfl; obtain ⟨c1, _, c2, c3, _⟩ := HPT.out _ _ m1; obtain ⟨c4, _, c5, c6, _⟩ := HPT2.out _ _ m1; rw [m2] at c5; go_simp; try with_reducible rfl)
    try simp only [Act.put, List.setIfInBounds_toArray, List.set_cons_zero, List.set_cons_succ, List.getElem_toArray, List.getElem_cons_zero, List.getElem_cons_succ]
    refine wpAnyS_take (i := 6) (v := ?v6_7) rfl (by kernel_rfl) (by kernel_rfl) (by kernel_rfl) (fun _ _ _ h => h) (Or.inl ⟨by rfl, ?hy6_7⟩) (by assumption) ?rest6_7
    case hy6_7 => (intro w9 hSw; clear hSw; go_simp; try with_reducible rfl)
    try simp only [Act.put, List.setIfInBounds_toArray, List.set_cons_zero, List.set_cons_succ, List.getElem_toArray, List.getElem_cons_zero, List.getElem_cons_succ]
    refine wpAnyS_take (i := 7) (v := ?v7_8) rfl (by kernel_rfl) (by kernel_rfl) (by kernel_rfl) (fun _ _ _ h => h) (Or.inl ⟨by rfl, ?hy7_8⟩) (by assumption) ?rest7_8
    case hy7_8 => (intro w9 hSw; clear hSw; go_simp; try with_reducible rfl)
    try simp only [Act.put, List.setIfInBounds_toArray, List.set_cons_zero, List.set_cons_succ, List.getElem_toArray, List.getElem_cons_zero, List.getElem_cons_succ]
    refine wpAnyS_take (i := 8) (v := ?v8_9) rfl (by kernel_rfl) (by kernel_rfl) (by kernel_rfl) (fun _ _ _ h => h) (Or.inl ⟨by rfl, ?hy8_9⟩) (by assumption) ?rest8_9
    case hy8_9 => (intro w9 hSw; obtain ⟨m0, L2, m1, m2⟩ := hSw; have c0 := Blk.cell m0 0 rfl; obtain ⟨c1, _, c2, c3, _⟩ := HPT.out _ _ m1; obtain ⟨c4, _, c5, c6, _⟩ := HPT2.out _ _ m1; rw [m2] at c5; go_simp; try with_reducible rfl)
    try simp only [Act.put, List.setIfInBounds_toArray, List.set_cons_zero, List.set_cons_succ, List.getElem_toArray, List.getElem_cons_zero, List.getElem_cons_succ]
    refine wpAnyS_take (i := 9) (v := ?v9_10) rfl (by kernel_rfl) (by kernel_rfl) (by kernel_rfl) (fun _ _ _ h => h) (Or.inl ⟨by rfl, ?hy9_10⟩) (by assumption) ?rest9_10
    case hy9_10 => (intro w9 hSw; clear hSw; go_simp; try with_reducible rfl)
    try simp only [Act.put, List.setIfInBounds_toArray, List.set_cons_zero, List.set_cons_succ, List.getElem_toArray, List.getElem_cons_zero, List.getElem_cons_succ]
    refine wpAnyS_take (i := 10) (v := ?v10_11) rfl (by kernel_rfl) (by kernel_rfl) (by kernel_rfl) (fun _ _ _ h => h) (Or.inl ⟨by rfl, ?hy10_11⟩) (by assumption) ?rest10_11
    case hy10_11 => (intro w9 hSw; clear hSw; go_simp; try with_reducible rfl)
    try simp only [Act.put, List.setIfInBounds_toArray, List.set_cons_zero, List.set_cons_succ, List.getElem_toArray, List.getElem_cons_zero, List.getElem_cons_succ]
    refine wpAnyS_take (i := 11) (v := ?v11_12) rfl (by kernel_rfl) (by kernel_rfl) (by kernel_rfl) (fun _ _ _ h => h) (Or.inl ⟨by rfl, ?hy11_12⟩) (by assumption) ?rest11_12
    case hy11_12 => (intro w9 hSw; obtain ⟨m0, L2, m1, m2⟩ := hSw; have c0 := Blk.cell m0 0 rfl; obtain ⟨c1, _, c2, c3, _⟩ := HPT.out _ _ m1; obtain ⟨c4, _, c5, c6, _⟩ := HPT2.out _ _ m1; rw [m2] at c5; go_simp; try with_reducible rfl)
    try simp only [Act.put, List.setIfInBounds_toArray, List.set_cons_zero, List.set_cons_succ, List.getElem_toArray, List.getElem_cons_zero, List.getElem_cons_succ]
    refine wpAnyS_take (i := 12) (v := ?v12_13) rfl (by kernel_rfl) (by kernel_rfl) (by kernel_rfl) (fun _ _ _ h => h) (Or.inl ⟨by rfl, ?hy12_13⟩) (by assumption) ?rest12_13
    case hy12_13 => (intro w9 hSw; clear hSw; go_simp; try with_reducible rfl)
    try simp only [Act.put, List.setIfInBounds_toArray, List.set_cons_zero, List.set_cons_succ, List.getElem_toArray, List.getElem_cons_zero, List.getElem_cons_succ]
    have h1d : Rws W.drew (w.heap.size + 1) o G cG m m L := ⟨h1.own, h1.len, h1.wd, h1.blk.drew, h1.ne, h1.hB⟩
    obtain ⟨_, _, hc, hf, hpp⟩ := HPT.out _ _ h1d
    obtain ⟨hM2, hgS⟩ := hpp r hr3
    clear hpp
    have hkl : j * m + i < L.length := by rw [h1.len]; exact ix_lt hjm him
    have hDS : D (L.set (j * m + i) (r : Int)) (i * m + j) = (r : Int) := by
      rw [D_set _ _ hkl]
      by_cases e : i * m + j = j * m + i
      · rw [if_pos e]
      · rw [if_neg e]; exact HR2.out
    refine wpAnyS_ready (rs := [13]) (by kernel_rfl) (by simp) ?_
    refine AllReadyS.cons rfl (fun K hK => ?_) AllReadyS.nil
    go_simp
    refine hK.out _ _ ⟨h2.drew.grown hgS (by simp <;> omega), _, hM2, hDS⟩ (fun hH => ?_)
    clear hK K hS
    have hS := hH
    clear hH
    try simp only [Act.put, List.setIfInBounds_toArray, List.set_cons_zero, List.set_cons_succ, List.getElem_toArray, List.getElem_cons_zero, List.getElem_cons_succ]
    refine wpAnyS_done (by kernel_rfl) ?_ _
    exact ⟨((keepsFrom_below (Below.refl _ W).drew)).trans ((KeepsOthers.setCell _ _ _).from _), _, HST.out _ HR2.out.symm, hM2, h2.drew.grown hgS (by simp <;> omega), h3.drew.grown hgS (by simp <;> omega), (h4.trans ((Below.refl _ W).drew.mono h4.size)).grown hgS (by have := h4.size; exact this) (fun k e => by cases e; omega)⟩
  case done =>
    rintro D lx W hD ⟨he, h1, h2, h3, h4⟩ hK
    have c3 := Blk.cell h2 0 rfl
    gi_wp2
    refine ⟨by simp, .inl ⟨_, _, rfl, run_takeDeferred hK, ?_⟩⟩
    exact ⟨_, results_tmp rfl _ _ _, o, G, cG, lx, rfl, h1.ownV (grownBy_putObj' _ D (.deferred none)) (noCells_put hK rfl), he.all, below_ownV h4 (grownBy_putObj' _ D (.deferred none)) (noCells_put hK rfl) (by omega)⟩
  case stop => exact fun D W _ h _ => h.elim
end
end Go.Proofs.Ytfelmkkkaphkpaa
namespace Go.Proofs.Ytfelmkkkaphkpaa
open Go.RowKit Go.Bw Go.Sort Go.Shelf
set_option linter.unusedVariables false
set_option linter.unusedSimpArgs false

theorem Wr.congrF {v : Vu} {c : Nat} {l lx : List Int} {P : Nat → Nat → Bool} {f f2 : Nat → Nat → Option Nat} (h : Wr v c l lx P f) (e : ∀ i j : Nat, v.has i j = true → P i j = true → f i j = f2 i j) : Wr v c l lx P f2 :=
  ⟨h.len, fun i j h1 h2 => (h.new i j h1 h2).trans (e i j h1 h2), h.old, h.out⟩
/-- a place of the symmetric matrix of which the lower places are given -/
def symA (U : List Int) (m k t : Nat) : Option Nat := if k < t then ma U m t k else ma U m k t
theorem sym_row {U L X : List Int} {m k : Nat} (h : ∀ a b, a < m → b < m → D L (a * m + b) = if a ≤ b then D U (b * m + a) else D U (a * m + b)) (hk : k < m) : dotA ((L.drop (k * m)).take m) X m = sumA (fun t => aop .mul (symA U m k t) (fa (D X t))) m := by
  rw [dot_row]
  refine sumA_congr fun t ht => ?_
  have e : ma L m k t = symA U m k t := by
    unfold ma symA ma
    rw [h k t hk ht]
    by_cases h1 : k < t
    · rw [if_pos h1, if_pos (by omega)]
    · rw [if_neg h1]
      by_cases h2 : k ≤ t
      · have h3 : k = t := by omega
        subst h3
        simp
      · rw [if_neg h2]
  rw [e]
theorem alk_parts {x y : Vu} (h : alk x y = true) : x.vec = true ∧ y.vec = true ∧ x.len = y.len := by
  unfold alk at h
  simp only [Bool.and_eq_true, beq_iff_eq] at h
  exact ⟨h.1.1, h.1.2, h.2⟩
section
variable {w : World} {u x y : Vu} {U X Y : List Int} {K : Int} {B s g cap c n a b m : Nat} {l : List Int}
set_option maxRecDepth 100000 in
set_option maxHeartbeats 8000000 in
theorem Symv_yes (ba : a ≤ 18446744073709551615) (bb : b ≤ 18446744073709551615) (hu : Sv w u U) (hx : Sv w x X) (hy : Sv w y Y) (he : refE ((alk x y) && (szd u x.len x.len)) [u, x, y] = 0) (hv : Vk y s c n K) (hs : St w B s g cap c l) (hl : l.length = n) (hj : Inj y c) (hum0 : u.R = m) :
    Calls Try.prog 36 #[.float .f64 a, u.V, x.V, .float .f64 b, y.V] w (WrA w B s g cap c y l (fun _ _ => true) (fun i j => bothA (af b) (fa (D Y (vix y i j))) (af a) (sumA (fun t => aop .mul (symA U m (vix y i j) t) (fa (D X t))) m))) := by
  have hfit := (refE_some he).1
  have HPN : Hid (y.p ≠ none) := Lib.hid ((refE_some he).2 y (by simp))
  rw [hfit] at he
  have HE := Lib.hid he
  simp only [Bool.and_eq_true] at hfit
  obtain ⟨h0, h1⟩ := hfit
  have e1 := szd_is h1
  have ek := alk_parts h0
  have hvec := Lib.hid ek.2.1
  have hlv := len_vec ek.2.1
  have hxl := hx.len
  have hlx := len_vec ek.1
  have hR5 := hu.R
  have hum : u.R = (m : Int) := hum0
  have huc : u.C = (m : Int) := by rw [e1.2, ← e1.1]; exact hum0
  have hm : (y.R * y.C).toNat = m := by omega
  have hqx : m ≤ X.length := by omega
  have hm1 : m ≤ 512 := by omega
  have hm5 : m ≤ 512 * 512 := by omega
  have HUM := Lib.hid hum0
  have HUC := Lib.hid huc
  have HM := Lib.hid hm
  clear e1 ek hlv hlx hxl hR5 hum hum0 huc hm
  have HSu := Lib.hid hu
  have HSx := Lib.hid hx
  have HSy := Lib.hid hy
  have HST := Lib.hid hs
  have HVK := Lib.hid hv
  have HIJ := Lib.hid hj
  have HLL := Lib.hid hl
  have p0 := fun (W : World) (bz : Below w.heap.size w W) => alike_is (HSx.out.on bz) (HSy.out.on bz)
  simp only [h0] at p0
  have p3 := fun (W : World) (bz : Below w.heap.size w W) => sized_is u x.len x.len W
  simp only [h1] at p3
  clear he hs hv hj hl hu hx hy h0 h1
  have Du := Blk.new w u.L 30
  have Dx := Blk.new (w.alloc (.cells u.L.toArray 30)) x.L 30
  replace Du := Du.alloc (.cells x.L.toArray 30)
  simp only [World.size_alloc] at Dx
  have Dy := Blk.new ((w.alloc (.cells u.L.toArray 30)).alloc (.cells x.L.toArray 30)) y.L 30
  replace Du := Du.alloc (.cells y.L.toArray 30)
  replace Dx := Dx.alloc (.cells y.L.toArray 30)
  simp only [World.size_alloc] at Dy
  have bz := (((Below.refl _ w).alloc (Nat.le_refl _) (.cells u.L.toArray 30)).alloc (by simp <;> omega) (.cells x.L.toArray 30)).alloc (by simp <;> omega) (.cells y.L.toArray 30)
  have hsz0 : (((w.alloc (.cells u.L.toArray 30)).alloc (.cells x.L.toArray 30)).alloc (.cells y.L.toArray 30)).heap.size = w.heap.size + 3 := by simp
  go_enter Try.func36, Try.ntmps36
  go_wp2_with fail
  replace Du := Du.drew
  replace Dx := Dx.drew
  replace Dy := Dy.drew
  replace bz := bz.drew
  refine wp_region_held_drew (S := fun w9 : World => Vbx w9 w.heap.size u ∧ Vbx w9 (w.heap.size + 1) x ∧ Vbx w9 (w.heap.size + 2) y) (by kernel_rfl) ⟨Du, Dx, Dy⟩ (fun hS => ?_)
  generalize (((w.alloc (.cells u.L.toArray 30)).alloc (.cells x.L.toArray 30)).alloc (.cells y.L.toArray 30)).drew = wd at hS Du Dx Dy  bz ⊢
  refine wpAnyH_take (i := 0) (v := ?v0_1) rfl (by kernel_rfl) (by kernel_rfl) (by kernel_rfl) (fun _ _ _ h => h) (Or.inl ⟨by rfl, ?hy0_1⟩) (by assumption) ?rest0_1
  case hy0_1 => (intro w9 hSw; obtain ⟨m0, m1, m2⟩ := hSw; refine (ld_v (by rfl) (by kernel_rfl) m1).trans ?_; with_reducible rfl)
  try simp only [Act.put, List.setIfInBounds_toArray, List.set_cons_zero, List.set_cons_succ, List.getElem_toArray, List.getElem_cons_zero, List.getElem_cons_succ]
  refine wpAnyH_take (i := 1) (v := ?v1_2) rfl (by kernel_rfl) (by kernel_rfl) (by kernel_rfl) (fun _ _ _ h => h) (Or.inl ⟨by rfl, ?hy1_2⟩) (by assumption) ?rest1_2
  case hy1_2 => (intro w9 hSw; obtain ⟨m0, m1, m2⟩ := hSw; refine (ld_v (by rfl) (by kernel_rfl) m2).trans ?_; with_reducible rfl)
  try simp only [Act.put, List.setIfInBounds_toArray, List.set_cons_zero, List.set_cons_succ, List.getElem_toArray, List.getElem_cons_zero, List.getElem_cons_succ]
  refine wpAnyH_ready (rs := [2]) (by kernel_rfl) (by simp) ?_
  refine AllReadyH.cons rfl (fun K hK => ?_) AllReadyH.nil
  go_simp
  with_reducible refine (p0 _ bz).mono ?_
  rintro e w1 ⟨rfl, hb⟩
  replace Du := Du.on hb
  replace Dx := Dx.on hb
  replace Dy := Dy.on hb
  replace bz := bz.trans (hb.mono bz.size)
  clear hb
  clear hS; refine hK.out _ _ ⟨Du, Dx, Dy⟩ (fun hS => ?_); clear hK K
  try simp only [Act.put, List.setIfInBounds_toArray, List.set_cons_zero, List.set_cons_succ, List.getElem_toArray, List.getElem_cons_zero, List.getElem_cons_succ]
  refine wpAnyH_take (i := 3) (v := ?v3_3) rfl (by kernel_rfl) (by kernel_rfl) (by kernel_rfl) (fun _ _ _ h => h) (Or.inl ⟨by rfl, ?hy3_3⟩) (by assumption) ?rest3_3
  case hy3_3 => (intro w9 hSw; clear hSw; go_simp; try with_reducible rfl)
  try simp only [Act.put, List.setIfInBounds_toArray, List.set_cons_zero, List.set_cons_succ, List.getElem_toArray, List.getElem_cons_zero, List.getElem_cons_succ]
  refine wpAnyH_take (i := 4) (v := ?v4_4) rfl (by kernel_rfl) (by kernel_rfl) (by kernel_rfl) (fun _ _ _ h => h) (Or.inl ⟨by rfl, ?hy4_4⟩) (by assumption) ?rest4_4
  case hy4_4 => (intro w9 hSw; obtain ⟨m0, m1, m2⟩ := hSw; refine (ld_v (by rfl) (by kernel_rfl) m0).trans ?_; with_reducible rfl)
  try simp only [Act.put, List.setIfInBounds_toArray, List.set_cons_zero, List.set_cons_succ, List.getElem_toArray, List.getElem_cons_zero, List.getElem_cons_succ]
  refine wpAnyH_take (i := 5) (v := ?v5_5) rfl (by kernel_rfl) (by kernel_rfl) (by kernel_rfl) (fun _ _ _ h => h) (Or.inl ⟨by rfl, ?hy5_5⟩) (by assumption) ?rest5_5
  case hy5_5 => (intro w9 hSw; obtain ⟨m0, m1, m2⟩ := hSw; refine (ld_v (by rfl) (by kernel_rfl) m1).trans ?_; with_reducible rfl)
  try simp only [Act.put, List.setIfInBounds_toArray, List.set_cons_zero, List.set_cons_succ, List.getElem_toArray, List.getElem_cons_zero, List.getElem_cons_succ]
  refine wpAnyH_take (i := 7) (v := ?v7_6) rfl (by kernel_rfl) (by kernel_rfl) (by kernel_rfl) (fun _ _ _ h => h) (Or.inl ⟨by rfl, ?hy7_6⟩) (by assumption) ?rest7_6
  case hy7_6 => (intro w9 hSw; obtain ⟨m0, m1, m2⟩ := hSw; refine (ld_v (by rfl) (by kernel_rfl) m1).trans ?_; with_reducible rfl)
  try simp only [Act.put, List.setIfInBounds_toArray, List.set_cons_zero, List.set_cons_succ, List.getElem_toArray, List.getElem_cons_zero, List.getElem_cons_succ]
  refine wpAnyH_ready (rs := [6]) (by kernel_rfl) (by simp) ?_
  refine AllReadyH.cons rfl (fun K hK => ?_) AllReadyH.nil
  go_simp
  with_reducible refine (svLen (HSx.out.on bz)).mono ?_
  rintro e w2 ⟨rfl, hb⟩
  replace Du := Du.on hb
  replace Dx := Dx.on hb
  replace Dy := Dy.on hb
  replace bz := bz.trans (hb.mono bz.size)
  clear hb
  clear hS; refine hK.out _ _ ⟨Du, Dx, Dy⟩ (fun hS => ?_); clear hK K
  try simp only [Act.put, List.setIfInBounds_toArray, List.set_cons_zero, List.set_cons_succ, List.getElem_toArray, List.getElem_cons_zero, List.getElem_cons_succ]
  refine wpAnyH_ready (rs := [8]) (by kernel_rfl) (by simp) ?_
  refine AllReadyH.cons rfl (fun K hK => ?_) AllReadyH.nil
  go_simp
  with_reducible refine (svLen (HSx.out.on bz)).mono ?_
  rintro e w3 ⟨rfl, hb⟩
  replace Du := Du.on hb
  replace Dx := Dx.on hb
  replace Dy := Dy.on hb
  replace bz := bz.trans (hb.mono bz.size)
  clear hb
  clear hS; refine hK.out _ _ ⟨Du, Dx, Dy⟩ (fun hS => ?_); clear hK K
  try simp only [Act.put, List.setIfInBounds_toArray, List.set_cons_zero, List.set_cons_succ, List.getElem_toArray, List.getElem_cons_zero, List.getElem_cons_succ]
  refine wpAnyH_ready (rs := [9]) (by kernel_rfl) (by simp) ?_
  refine AllReadyH.cons rfl (fun K hK => ?_) AllReadyH.nil
  go_simp
  with_reducible refine (p3 _ bz).mono ?_
  rintro e w4 ⟨rfl, hb⟩
  replace Du := Du.on hb
  replace Dx := Dx.on hb
  replace Dy := Dy.on hb
  replace bz := bz.trans (hb.mono bz.size)
  clear hb
  clear hS; refine hK.out _ _ ⟨Du, Dx, Dy⟩ (fun hS => ?_); clear hK K
  try simp only [Act.put, List.setIfInBounds_toArray, List.set_cons_zero, List.set_cons_succ, List.getElem_toArray, List.getElem_cons_zero, List.getElem_cons_succ]
  refine wpAnyH_take (i := 10) (v := ?v10_7) rfl (by kernel_rfl) (by kernel_rfl) (by kernel_rfl) (fun _ _ _ h => h) (Or.inl ⟨by rfl, ?hy10_7⟩) (by assumption) ?rest10_7
  case hy10_7 => (intro w9 hSw; clear hSw; go_simp; try with_reducible rfl)
  try simp only [Act.put, List.setIfInBounds_toArray, List.set_cons_zero, List.set_cons_succ, List.getElem_toArray, List.getElem_cons_zero, List.getElem_cons_succ]
  refine wpAnyH_take (i := 11) (v := ?v11_8) rfl (by kernel_rfl) (by kernel_rfl) (by kernel_rfl) (fun _ _ _ h => h) (Or.inl ⟨by rfl, ?hy11_8⟩) (by assumption) ?rest11_8
  case hy11_8 => (intro w9 hSw; clear hSw; go_simp; try with_reducible rfl)
  try simp only [Act.put, List.setIfInBounds_toArray, List.set_cons_zero, List.set_cons_succ, List.getElem_toArray, List.getElem_cons_zero, List.getElem_cons_succ]
  refine wpAnyH_done (by kernel_rfl) ?_ _
  obtain ⟨v0_0, v0_1, v0_2, v0_3, v0_4, v0_5, v0_6, v0_7, v0_8⟩ := Vbx.cells Du
  obtain ⟨v1_0, v1_1, v1_2, v1_3, v1_4, v1_5, v1_6, v1_7, v1_8⟩ := Vbx.cells Dx
  obtain ⟨v2_0, v2_1, v2_2, v2_3, v2_4, v2_5, v2_6, v2_7, v2_8⟩ := Vbx.cells Dy
  have hL : VLs (w4.alloc (.cells #[.pointer u.p, .int .i64 u.f0, .int .i64 u.f1, .int .i64 u.d0, .int .i64 u.d1, .int .i64 u.r0, .int .i64 u.r1, .int .i64 u.R, .int .i64 u.C, .pointer x.p, .int .i64 x.f0, .int .i64 x.f1, .int .i64 x.d0, .int .i64 x.d1, .int .i64 x.r0, .int .i64 x.r1, .int .i64 x.R, .int .i64 x.C, .pointer y.p, .int .i64 y.f0, .int .i64 y.f1, .int .i64 y.d0, .int .i64 y.d1, .int .i64 y.r0, .int .i64 y.r1, .int .i64 y.R, .int .i64 y.C] 30)) ⟨w4.heap.size, 0, none⟩ [u, x, y] := VLs.of (Blk.new w4 ([u, x, y].flatMap Vu.L) 30)
  have hbA := (Below.refl _ w4).alloc (Nat.le_refl _) ((.cells #[.pointer u.p, .int .i64 u.f0, .int .i64 u.f1, .int .i64 u.d0, .int .i64 u.d1, .int .i64 u.r0, .int .i64 u.r1, .int .i64 u.R, .int .i64 u.C, .pointer x.p, .int .i64 x.f0, .int .i64 x.f1, .int .i64 x.d0, .int .i64 x.d1, .int .i64 x.r0, .int .i64 x.r1, .int .i64 x.R, .int .i64 x.C, .pointer y.p, .int .i64 y.f0, .int .i64 y.f1, .int .i64 y.d0, .int .i64 y.d1, .int .i64 y.r0, .int .i64 y.r1, .int .i64 y.R, .int .i64 y.C] 30))
  replace Du := Du.on hbA
  replace Dx := Dx.on hbA
  replace Dy := Dy.on hbA
  clear hbA
  replace bz := bz.alloc bz.size ((.cells #[.pointer u.p, .int .i64 u.f0, .int .i64 u.f1, .int .i64 u.d0, .int .i64 u.d1, .int .i64 u.r0, .int .i64 u.r1, .int .i64 u.R, .int .i64 u.C, .pointer x.p, .int .i64 x.f0, .int .i64 x.f1, .int .i64 x.d0, .int .i64 x.d1, .int .i64 x.r0, .int .i64 x.r1, .int .i64 x.R, .int .i64 x.C, .pointer y.p, .int .i64 y.f0, .int .i64 y.f1, .int .i64 y.d0, .int .i64 y.d1, .int .i64 y.r0, .int .i64 y.r1, .int .i64 y.R, .int .i64 y.C] 30))
  go_wp2_with fail
  with_reducible refine (refused_is true (vs := [u, x, y]) (n := 3) rfl (by omega) hL (by intro z hz; simp only [List.mem_cons, List.mem_nil_iff, or_false] at hz; rcases hz with rfl | rfl | rfl; exact ⟨_, HSu.out.on bz⟩; exact ⟨_, HSx.out.on bz⟩; exact ⟨_, HSy.out.on bz⟩)).mono ?_
  rintro e w5 ⟨rfl, hb⟩
  clear v0_0 v0_1 v0_2 v0_3 v0_4 v0_5 v0_6 v0_7 v0_8 v1_0 v1_1 v1_2 v1_3 v1_4 v1_5 v1_6 v1_7 v1_8 v2_0 v2_1 v2_2 v2_3 v2_4 v2_5 v2_6 v2_7 v2_8
  replace Du := Du.on hb
  replace Dx := Dx.on hb
  replace Dy := Dy.on hb
  replace hL := hL.on hb
  replace bz := bz.trans (hb.mono bz.size)
  clear hb hL
  rw [HE.out]
  go_wp2_with fail
  replace Du := Du.drew
  replace Dx := Dx.drew
  replace Dy := Dy.drew
  replace bz := bz.drew
  refine wp_region_held_drew (S := fun w9 : World => Vbx w9 w.heap.size u ∧ Vbx w9 (w.heap.size + 1) x ∧ Vbx w9 (w.heap.size + 2) y) (by kernel_rfl) ⟨Du, Dx, Dy⟩ (fun hS => ?_)
  generalize w5.drew = wf at hS Du Dx Dy  bz ⊢
  refine wpAnyH_take (i := 0) (v := ?v0_9) rfl (by kernel_rfl) (by kernel_rfl) (by kernel_rfl) (fun _ _ _ h => h) (Or.inl ⟨by rfl, ?hy0_9⟩) (by assumption) ?rest0_9
  case hy0_9 => (intro w9 hSw; clear hSw; go_simp; try with_reducible rfl)
  try simp only [Act.put, List.setIfInBounds_toArray, List.set_cons_zero, List.set_cons_succ, List.getElem_toArray, List.getElem_cons_zero, List.getElem_cons_succ]
  refine wpAnyH_take (i := 1) (v := ?v1_10) rfl (by kernel_rfl) (by kernel_rfl) (by kernel_rfl) (fun _ _ _ h => h) (Or.inl ⟨by rfl, ?hy1_10⟩) (by assumption) ?rest1_10
  case hy1_10 => (intro w9 hSw; obtain ⟨m0, m1, m2⟩ := hSw; refine (ld_v (by rfl) (by kernel_rfl) m0).trans ?_; with_reducible rfl)
  try simp only [Act.put, List.setIfInBounds_toArray, List.set_cons_zero, List.set_cons_succ, List.getElem_toArray, List.getElem_cons_zero, List.getElem_cons_succ]
  refine wpAnyH_take (i := 3) (v := ?v3_11) rfl (by kernel_rfl) (by kernel_rfl) (by kernel_rfl) (fun _ _ _ h => h) (Or.inl ⟨by rfl, ?hy3_11⟩) (by assumption) ?rest3_11
  case hy3_11 => (intro w9 hSw; obtain ⟨m0, m1, m2⟩ := hSw; refine (ld_v (by rfl) (by kernel_rfl) m1).trans ?_; with_reducible rfl)
  try simp only [Act.put, List.setIfInBounds_toArray, List.set_cons_zero, List.set_cons_succ, List.getElem_toArray, List.getElem_cons_zero, List.getElem_cons_succ]
  refine wpAnyH_take (i := 5) (v := ?v5_12) rfl (by kernel_rfl) (by kernel_rfl) (by kernel_rfl) (fun _ _ _ h => h) (Or.inl ⟨by rfl, ?hy5_12⟩) (by assumption) ?rest5_12
  case hy5_12 => (intro w9 hSw; clear hSw; go_simp; try with_reducible rfl)
  try simp only [Act.put, List.setIfInBounds_toArray, List.set_cons_zero, List.set_cons_succ, List.getElem_toArray, List.getElem_cons_zero, List.getElem_cons_succ]
  refine wpAnyH_take (i := 6) (v := ?v6_13) rfl (by kernel_rfl) (by kernel_rfl) (by kernel_rfl) (fun _ _ _ h => h) (Or.inl ⟨by rfl, ?hy6_13⟩) (by assumption) ?rest6_13
  case hy6_13 => (intro w9 hSw; obtain ⟨m0, m1, m2⟩ := hSw; refine (ld_v (by rfl) (by kernel_rfl) m2).trans ?_; with_reducible rfl)
  try simp only [Act.put, List.setIfInBounds_toArray, List.set_cons_zero, List.set_cons_succ, List.getElem_toArray, List.getElem_cons_zero, List.getElem_cons_succ]
  refine wpAnyH_ready (rs := [2]) (by kernel_rfl) (by simp) ?_
  refine AllReadyH.cons rfl (fun K hK => ?_) AllReadyH.nil
  go_simp
  have hBhR := Nat.lt_of_lt_of_le HST.out.gt.2 bz.size
  with_reducible refine (mirrored_is (HSu.out.on bz) HUM.out HUC.out hm1).mono ?_
  rintro e w6 ⟨o, G, cG, L, rfl, hR, hMR, hb⟩
  replace Du := Du.on hb
  replace Dx := Dx.on hb
  replace Dy := Dy.on hb
  replace bz := bz.trans (hb.mono bz.size)
  clear hb
  have HMR := Lib.hid hMR
  clear hMR
  clear hS; refine hK.out _ _ ⟨Du, Dx, Dy⟩ (fun hS => ?_); clear hK K
  try simp only [Act.put, List.setIfInBounds_toArray, List.set_cons_zero, List.set_cons_succ, List.getElem_toArray, List.getElem_cons_zero, List.getElem_cons_succ]
  refine wpAnyH_ready (rs := [4]) (by kernel_rfl) (by simp) ?_
  refine AllReadyH.cons rfl (fun K hK => ?_) AllReadyH.nil
  go_simp
  have hBhX := Nat.lt_of_lt_of_le HST.out.gt.2 bz.size
  with_reducible refine (floats_is (HSx.out.on bz)).mono ?_
  rintro e w7 ⟨A, cA, rfl, ho, hb⟩
  replace Du := Du.on hb
  replace Dx := Dx.on hb
  replace Dy := Dy.on hb
  replace hR := hR.on hb
  replace bz := bz.trans (hb.mono bz.size)
  clear hb
  have hAhX : ∀ a, A = some a → a.block ≠ g := fun a e => by have := (ho.gt e).1; omega
  have hX := ho.fl HSx.out.wd
  clear ho
  clear hS; refine hK.out _ _ ⟨Du, Dx, Dy⟩ (fun hS => ?_); clear hK K
  try simp only [Act.put, List.setIfInBounds_toArray, List.set_cons_zero, List.set_cons_succ, List.getElem_toArray, List.getElem_cons_zero, List.getElem_cons_succ]
  refine wpAnyH_ready (rs := [7]) (by kernel_rfl) (by simp) ?_
  refine AllReadyH.cons rfl (fun K hK => ?_) AllReadyH.nil
  go_simp
  with_reducible refine (times_is (F := fun k => bothA (af b) (fa (D Y k)) (af a) (dotA ((L.drop (k * m)).take m) X m)) ba bb hR (by omega) hX hqx hAhX (HSy.out.on bz) HVK.out (HST.out.on bz) HLL.out HIJ.out HPN.out hvec.out HM.out hm5 (fun k => rfl)).mono ?_
  rintro e w9 ⟨lx, rfl, hs2, hg2, hW2⟩
  replace Du := Du.grown hg2 (by simp; have := HST.out.gt.2; omega)
  replace Dx := Dx.grown hg2 (by simp; have := HST.out.gt.2; omega)
  replace Dy := Dy.grown hg2 (by simp; have := HST.out.gt.2; omega)
  have hgr := grown_trans (grown_below bz (some g)) hg2
  clear hR hX bz
  clear hS; refine hK.out _ _ ⟨Du, Dx, Dy⟩ (fun hS => ?_); clear hK K
  try simp only [Act.put, List.setIfInBounds_toArray, List.set_cons_zero, List.set_cons_succ, List.getElem_toArray, List.getElem_cons_zero, List.getElem_cons_succ]
  refine wpAnyH_done (by kernel_rfl) ?_ _
  have hW3 := hW2.congrF (f2 := fun i j => bothA (af b) (fa (D Y (vix y i j))) (af a) (sumA (fun t => aop .mul (symA U m (vix y i j) t) (fa (D X t))) m)) (fun i j hh _ => by rw [sym_row HMR.out (by have := (vix_lt HVK.out.bd hvec.out hh).1; rw [HM.out] at this; exact this)])
  go_wp2_with fail
  go_ret
  exact ⟨lx, rfl, hs2, hgr, hW3⟩
end
end Go.Proofs.Ytfelmkkkaphkpaa
namespace Go.Proofs.Ytfelmkkkaphkpaa
open Go.RowKit Go.Bw Go.Sort Go.Shelf
set_option linter.unusedVariables false
set_option linter.unusedSimpArgs false

theorem tg_at {P : Nat → Nat → Bool} {f : Nat → Nat → Option Nat} {F : List Int} {q i j : Nat} (hj : j < q) : tg P f F q (i * q + j) = if P i j = true then f i j else fa (D F (i * q + j)) := by
  unfold tg
  have e1 : (i * q + j) / q = i := by rw [Nat.mul_comm, Nat.mul_add_div (by omega), Nat.div_eq_of_lt hj, Nat.add_zero]
  have e2 : (i * q + j) % q = j := by rw [Nat.mul_comm, Nat.mul_add_mod, Nat.mod_eq_of_lt hj]
  rw [e1, e2]
section
variable {w : World} {B B2 B3 : Nat} {U X Y : Vu} {s g cap c s2 g2 cap2 c2 s3 g3 cap3 c3 a b : Nat} {l l2 l3 : List Int} {RU CU RX CX RY CY : Int} {LU LX LY : List Int}
theorem symv_fit (hU : Ov w B U s g cap c l RU CU LU) (hX : Ov w B2 X s2 g2 cap2 c2 l2 RX CX LX) (hY : Ov w B3 Y s3 g3 cap3 c3 l3 RY CY LY) {nx ny : Nat} (ex : LX.length = nx) (ey : LY.length = ny) : (alk X Y && szd U X.len X.len) = ((RU == CU) && vecM RX CX && vecM RY CY && !(CU != (nx : Int)) && !(RU != (ny : Int))) := by
  unfold alk
  rw [hX.isvec, hY.isvec]
  cases h1 : vecM RX CX
  · simp
  · cases h2 : vecM RY CY
    · simp
    · rw [hY.lenv h2, hX.lenv h1, ex, ey]
      unfold szd
      rw [hU.R, hU.C, Bool.eq_iff_iff]
      simp only [bne, Bool.not_not, Bool.and_eq_true, beq_iff_eq, Bool.true_and, true_and, and_true]
      omega
theorem symv_no (hU : Ov w B U s g cap c l RU CU LU) (hX : Ov w B2 X s2 g2 cap2 c2 l2 RX CX LX) (hY : Ov w B3 Y s3 g3 cap3 c3 l3 RY CY LY) {nx ny : Nat} (ex : LX.length = nx) (ey : LY.length = ny) (hf : ((RU == CU) && vecM RX CX && vecM RY CY && !(CU != (nx : Int)) && !(RU != (ny : Int))) = false) :
    Calls Try.prog 36 #[.float .f64 a, U.V, X.V, .float .f64 b, Y.V] w (Ans w (.int .i64 8)) :=
  Symv_no hU.sv hX.sv hY.sv (refE_8 (by rw [symv_fit hU hX hY ex ey]; exact hf) (mem3 hU.ne hX.ne hY.ne)) (by omega)
theorem symv_yes (ba : a ≤ 18446744073709551615) (bb : b ≤ 18446744073709551615) (hU : Ov w B U s g cap c l RU CU LU) (hX : Ov w B2 X s2 g2 cap2 c2 l2 RX CX LX) (hY : Ov w B3 Y s3 g3 cap3 c3 l3 RY CY LY) {m p : Nat} (hm : RU = m) (hp : CY = p) {nx ny : Nat} (ex : LX.length = nx) (ey : LY.length = ny) (hf : ((RU == CU) && vecM RX CX && vecM RY CY && !(CU != (nx : Int)) && !(RU != (ny : Int))) = true) (hvy : vecM RY CY = true) :
    Calls Try.prog 36 #[.float .f64 a, U.V, X.V, .float .f64 b, Y.V] w (OvK w B3 Y s3 g3 cap3 c3 RY CY ny (fun k => bothA (af b) (fa (D LY k)) (af a) (sumA (fun t => aop .mul (symA LU m k t) (fa (D LX t))) m))) := by
  refine (Symv_yes (m := m) ba bb hU.sv hX.sv hY.sv (refE_ok (by rw [symv_fit hU hX hY ex ey]; exact hf) (mem3 hU.ne hX.ne hY.ne)) hY.vk hY.st rfl hY.inj (hU.R.trans hm)).mono ?_
  intro e w1 h
  refine ovk hY h hp ey (fun k hk => ?_)
  unfold tg
  rw [if_pos rfl]
  dsimp only
  rw [vix_dm hY hvy hp (by rw [ey]; exact hk)]
theorem symv_same {L8 L7 : List Int} {m nU nY : Nat} (h8 : Is L8 m (fun k => bothA (af b) (fa (D LY k)) (af a) (sumA (fun t => aop .mul (ma L7 m k t) (fa (D LX t))) m))) (h7 : Is L7 nU (tg (fun a b => decide (a < b)) (fun i j => ma LU m j i) LU m)) (e : m = nY) (hn : nU = m * m) : Is L8 nY (fun k => bothA (af b) (fa (D LY k)) (af a) (sumA (fun t => aop .mul (symA LU m k t) (fa (D LX t))) m)) := by
  subst e
  refine h8.congr fun k hk => ?_
  have e : sumA (fun t => aop .mul (ma L7 m k t) (fa (D LX t))) m = sumA (fun t => aop .mul (symA LU m k t) (fa (D LX t))) m := sumA_congr fun t ht => by
    have e1 : ma L7 m k t = symA LU m k t := by
      have h9 := h7.at_ (k * m + t) (by rw [hn]; exact ix_lt hk ht)
      unfold ma symA
      rw [h9, tg_at ht]
      simp only [decide_eq_true_eq]
      rfl
    rw [e1]
  rw [e]
end
set_option maxRecDepth 100000 in
set_option maxHeartbeats 8000000 in
theorem KernelsSymv_big1 {w : World} {RU CU : Int} {AU : Option Addr} {nU cU : Nat} {LU : List Int} {RX CX : Int} {AX : Option Addr} {nX cX : Nat} {LX : List Int} {RY CY : Int} {AY : Option Addr} {nY cY : Nat} {LY : List Int} {a b : Nat} {turned : Bool} (ba : a ≤ 18446744073709551615) (bb : b ≤ 18446744073709551615) (hU : FL w AU nU cU LU) (hX : FL w AX nX cX LX) (hY : FL w AY nY cY LY) (bU : bigM RU CU nU = true) : Calls Try.prog 6 #[.float .f64 a, mV RU CU AU nU cU, mV RX CX AX nX cX, .float .f64 b, mV RY CY AY nY cY, .bool turned] w (Ans w (.bool true)) := by
  have pbU := fun W => big_any RU CU AU nU cU hU.max W
  rw [bU] at pbU
  clear bU
  have DU := Blk.new w [.int .i64 RU, .int .i64 CU, .slice AU nU cU] 24
  have DX := Blk.new (w.alloc (.cells #[.int .i64 RU, .int .i64 CU, .slice AU nU cU] 24)) [.int .i64 RX, .int .i64 CX, .slice AX nX cX] 24
  replace DU := DU.alloc (.cells #[.int .i64 RX, .int .i64 CX, .slice AX nX cX] 24)
  simp only [World.size_alloc] at DX
  have DY := Blk.new ((w.alloc (.cells #[.int .i64 RU, .int .i64 CU, .slice AU nU cU] 24)).alloc (.cells #[.int .i64 RX, .int .i64 CX, .slice AX nX cX] 24)) [.int .i64 RY, .int .i64 CY, .slice AY nY cY] 24
  replace DU := DU.alloc (.cells #[.int .i64 RY, .int .i64 CY, .slice AY nY cY] 24)
  replace DX := DX.alloc (.cells #[.int .i64 RY, .int .i64 CY, .slice AY nY cY] 24)
  simp only [World.size_alloc] at DY
  have bz := (((Below.refl _ w).alloc (Nat.le_refl _) (.cells #[.int .i64 RU, .int .i64 CU, .slice AU nU cU] 24)).alloc (by simp <;> omega) (.cells #[.int .i64 RX, .int .i64 CX, .slice AX nX cX] 24)).alloc (by simp <;> omega) (.cells #[.int .i64 RY, .int .i64 CY, .slice AY nY cY] 24)
  have hsz0 : (((w.alloc (.cells #[.int .i64 RU, .int .i64 CU, .slice AU nU cU] 24)).alloc (.cells #[.int .i64 RX, .int .i64 CX, .slice AX nX cX] 24)).alloc (.cells #[.int .i64 RY, .int .i64 CY, .slice AY nY cY] 24)).heap.size = w.heap.size + 3 := by simp
  have hFU := hU.lo.on bz
  clear hU
  have hFX := hX.lo.on bz
  clear hX
  have hFY := hY.lo.on bz
  clear hY
  go_enter Try.func6, Try.ntmps6
  obtain ⟨kU_0, kU_1, kU_2, kU_3, kU_4, kU_5⟩ := Mbx.cells DU
  obtain ⟨kX_0, kX_1, kX_2, kX_3, kX_4, kX_5⟩ := Mbx.cells DX
  obtain ⟨kY_0, kY_1, kY_2, kY_3, kY_4, kY_5⟩ := Mbx.cells DY
  go_wp2_with fail
  with_reducible refine (pbU _).mono ?_
  rintro e w1 ⟨rfl, hb⟩
  clear kU_0 kU_1 kU_2 kU_3 kU_4 kU_5 kX_0 kX_1 kX_2 kX_3 kX_4 kX_5 kY_0 kY_1 kY_2 kY_3 kY_4 kY_5
  replace DU := DU.on hb
  replace DX := DX.on hb
  replace DY := DY.on hb
  replace hFU := hFU.on hb
  replace hFX := hFX.on hb
  replace hFY := hFY.on hb
  replace bz := bz.trans (hb.mono bz.size)
  clear hb
  go_wp2_with fail
  with_reducible refine (known_any _).mono ?_
  rintro e w2 ⟨rfl, hb⟩
  replace DU := DU.on hb
  replace DX := DX.on hb
  replace DY := DY.on hb
  replace hFU := hFU.on hb
  replace hFX := hFX.on hb
  replace hFY := hFY.on hb
  replace bz := bz.trans (hb.mono bz.size)
  clear hb
  go_wp2_with fail
  go_ret
  exact ⟨rfl, bz⟩
set_option maxRecDepth 100000 in
set_option maxHeartbeats 8000000 in
theorem KernelsSymv_big2 {w : World} {RU CU : Int} {AU : Option Addr} {nU cU : Nat} {LU : List Int} {RX CX : Int} {AX : Option Addr} {nX cX : Nat} {LX : List Int} {RY CY : Int} {AY : Option Addr} {nY cY : Nat} {LY : List Int} {a b : Nat} {turned : Bool} (ba : a ≤ 18446744073709551615) (bb : b ≤ 18446744073709551615) (hU : FL w AU nU cU LU) (hX : FL w AX nX cX LX) (hY : FL w AY nY cY LY) (bU : bigM RU CU nU = false) (bX : bigM RX CX nX = true) : Calls Try.prog 6 #[.float .f64 a, mV RU CU AU nU cU, mV RX CX AX nX cX, .float .f64 b, mV RY CY AY nY cY, .bool turned] w (Ans w (.bool true)) := by
  have pbU := fun W => big_any RU CU AU nU cU hU.max W
  rw [bU] at pbU
  clear bU
  have pbX := fun W => big_any RX CX AX nX cX hX.max W
  rw [bX] at pbX
  clear bX
  have DU := Blk.new w [.int .i64 RU, .int .i64 CU, .slice AU nU cU] 24
  have DX := Blk.new (w.alloc (.cells #[.int .i64 RU, .int .i64 CU, .slice AU nU cU] 24)) [.int .i64 RX, .int .i64 CX, .slice AX nX cX] 24
  replace DU := DU.alloc (.cells #[.int .i64 RX, .int .i64 CX, .slice AX nX cX] 24)
  simp only [World.size_alloc] at DX
  have DY := Blk.new ((w.alloc (.cells #[.int .i64 RU, .int .i64 CU, .slice AU nU cU] 24)).alloc (.cells #[.int .i64 RX, .int .i64 CX, .slice AX nX cX] 24)) [.int .i64 RY, .int .i64 CY, .slice AY nY cY] 24
  replace DU := DU.alloc (.cells #[.int .i64 RY, .int .i64 CY, .slice AY nY cY] 24)
  replace DX := DX.alloc (.cells #[.int .i64 RY, .int .i64 CY, .slice AY nY cY] 24)
  simp only [World.size_alloc] at DY
  have bz := (((Below.refl _ w).alloc (Nat.le_refl _) (.cells #[.int .i64 RU, .int .i64 CU, .slice AU nU cU] 24)).alloc (by simp <;> omega) (.cells #[.int .i64 RX, .int .i64 CX, .slice AX nX cX] 24)).alloc (by simp <;> omega) (.cells #[.int .i64 RY, .int .i64 CY, .slice AY nY cY] 24)
  have hsz0 : (((w.alloc (.cells #[.int .i64 RU, .int .i64 CU, .slice AU nU cU] 24)).alloc (.cells #[.int .i64 RX, .int .i64 CX, .slice AX nX cX] 24)).alloc (.cells #[.int .i64 RY, .int .i64 CY, .slice AY nY cY] 24)).heap.size = w.heap.size + 3 := by simp
  have hFU := hU.lo.on bz
  clear hU
  have hFX := hX.lo.on bz
  clear hX
  have hFY := hY.lo.on bz
  clear hY
  go_enter Try.func6, Try.ntmps6
  obtain ⟨kU_0, kU_1, kU_2, kU_3, kU_4, kU_5⟩ := Mbx.cells DU
  obtain ⟨kX_0, kX_1, kX_2, kX_3, kX_4, kX_5⟩ := Mbx.cells DX
  obtain ⟨kY_0, kY_1, kY_2, kY_3, kY_4, kY_5⟩ := Mbx.cells DY
  go_wp2_with fail
  with_reducible refine (pbU _).mono ?_
  rintro e w1 ⟨rfl, hb⟩
  clear kU_0 kU_1 kU_2 kU_3 kU_4 kU_5 kX_0 kX_1 kX_2 kX_3 kX_4 kX_5 kY_0 kY_1 kY_2 kY_3 kY_4 kY_5
  replace DU := DU.on hb
  replace DX := DX.on hb
  replace DY := DY.on hb
  replace hFU := hFU.on hb
  replace hFX := hFX.on hb
  replace hFY := hFY.on hb
  replace bz := bz.trans (hb.mono bz.size)
  clear hb
  obtain ⟨kU_0, kU_1, kU_2, kU_3, kU_4, kU_5⟩ := Mbx.cells DU
  obtain ⟨kX_0, kX_1, kX_2, kX_3, kX_4, kX_5⟩ := Mbx.cells DX
  obtain ⟨kY_0, kY_1, kY_2, kY_3, kY_4, kY_5⟩ := Mbx.cells DY
  go_wp2_with fail
  with_reducible refine (pbX _).mono ?_
  rintro e w2 ⟨rfl, hb⟩
  clear kU_0 kU_1 kU_2 kU_3 kU_4 kU_5 kX_0 kX_1 kX_2 kX_3 kX_4 kX_5 kY_0 kY_1 kY_2 kY_3 kY_4 kY_5
  replace DU := DU.on hb
  replace DX := DX.on hb
  replace DY := DY.on hb
  replace hFU := hFU.on hb
  replace hFX := hFX.on hb
  replace hFY := hFY.on hb
  replace bz := bz.trans (hb.mono bz.size)
  clear hb
  go_wp2_with fail
  with_reducible refine (known_any _).mono ?_
  rintro e w3 ⟨rfl, hb⟩
  replace DU := DU.on hb
  replace DX := DX.on hb
  replace DY := DY.on hb
  replace hFU := hFU.on hb
  replace hFX := hFX.on hb
  replace hFY := hFY.on hb
  replace bz := bz.trans (hb.mono bz.size)
  clear hb
  go_wp2_with fail
  go_ret
  exact ⟨rfl, bz⟩
set_option maxRecDepth 100000 in
set_option maxHeartbeats 8000000 in
theorem KernelsSymv_big3 {w : World} {RU CU : Int} {AU : Option Addr} {nU cU : Nat} {LU : List Int} {RX CX : Int} {AX : Option Addr} {nX cX : Nat} {LX : List Int} {RY CY : Int} {AY : Option Addr} {nY cY : Nat} {LY : List Int} {a b : Nat} {turned : Bool} (ba : a ≤ 18446744073709551615) (bb : b ≤ 18446744073709551615) (hU : FL w AU nU cU LU) (hX : FL w AX nX cX LX) (hY : FL w AY nY cY LY) (bU : bigM RU CU nU = false) (bX : bigM RX CX nX = false) (bY : bigM RY CY nY = true) : Calls Try.prog 6 #[.float .f64 a, mV RU CU AU nU cU, mV RX CX AX nX cX, .float .f64 b, mV RY CY AY nY cY, .bool turned] w (Ans w (.bool true)) := by
  have pbU := fun W => big_any RU CU AU nU cU hU.max W
  rw [bU] at pbU
  clear bU
  have pbX := fun W => big_any RX CX AX nX cX hX.max W
  rw [bX] at pbX
  clear bX
  have pbY := fun W => big_any RY CY AY nY cY hY.max W
  rw [bY] at pbY
  clear bY
  have DU := Blk.new w [.int .i64 RU, .int .i64 CU, .slice AU nU cU] 24
  have DX := Blk.new (w.alloc (.cells #[.int .i64 RU, .int .i64 CU, .slice AU nU cU] 24)) [.int .i64 RX, .int .i64 CX, .slice AX nX cX] 24
  replace DU := DU.alloc (.cells #[.int .i64 RX, .int .i64 CX, .slice AX nX cX] 24)
  simp only [World.size_alloc] at DX
  have DY := Blk.new ((w.alloc (.cells #[.int .i64 RU, .int .i64 CU, .slice AU nU cU] 24)).alloc (.cells #[.int .i64 RX, .int .i64 CX, .slice AX nX cX] 24)) [.int .i64 RY, .int .i64 CY, .slice AY nY cY] 24
  replace DU := DU.alloc (.cells #[.int .i64 RY, .int .i64 CY, .slice AY nY cY] 24)
  replace DX := DX.alloc (.cells #[.int .i64 RY, .int .i64 CY, .slice AY nY cY] 24)
  simp only [World.size_alloc] at DY
  have bz := (((Below.refl _ w).alloc (Nat.le_refl _) (.cells #[.int .i64 RU, .int .i64 CU, .slice AU nU cU] 24)).alloc (by simp <;> omega) (.cells #[.int .i64 RX, .int .i64 CX, .slice AX nX cX] 24)).alloc (by simp <;> omega) (.cells #[.int .i64 RY, .int .i64 CY, .slice AY nY cY] 24)
  have hsz0 : (((w.alloc (.cells #[.int .i64 RU, .int .i64 CU, .slice AU nU cU] 24)).alloc (.cells #[.int .i64 RX, .int .i64 CX, .slice AX nX cX] 24)).alloc (.cells #[.int .i64 RY, .int .i64 CY, .slice AY nY cY] 24)).heap.size = w.heap.size + 3 := by simp
  have hFU := hU.lo.on bz
  clear hU
  have hFX := hX.lo.on bz
  clear hX
  have hFY := hY.lo.on bz
  clear hY
  go_enter Try.func6, Try.ntmps6
  obtain ⟨kU_0, kU_1, kU_2, kU_3, kU_4, kU_5⟩ := Mbx.cells DU
  obtain ⟨kX_0, kX_1, kX_2, kX_3, kX_4, kX_5⟩ := Mbx.cells DX
  obtain ⟨kY_0, kY_1, kY_2, kY_3, kY_4, kY_5⟩ := Mbx.cells DY
  go_wp2_with fail
  with_reducible refine (pbU _).mono ?_
  rintro e w1 ⟨rfl, hb⟩
  clear kU_0 kU_1 kU_2 kU_3 kU_4 kU_5 kX_0 kX_1 kX_2 kX_3 kX_4 kX_5 kY_0 kY_1 kY_2 kY_3 kY_4 kY_5
  replace DU := DU.on hb
  replace DX := DX.on hb
  replace DY := DY.on hb
  replace hFU := hFU.on hb
  replace hFX := hFX.on hb
  replace hFY := hFY.on hb
  replace bz := bz.trans (hb.mono bz.size)
  clear hb
  obtain ⟨kU_0, kU_1, kU_2, kU_3, kU_4, kU_5⟩ := Mbx.cells DU
  obtain ⟨kX_0, kX_1, kX_2, kX_3, kX_4, kX_5⟩ := Mbx.cells DX
  obtain ⟨kY_0, kY_1, kY_2, kY_3, kY_4, kY_5⟩ := Mbx.cells DY
  go_wp2_with fail
  with_reducible refine (pbX _).mono ?_
  rintro e w2 ⟨rfl, hb⟩
  clear kU_0 kU_1 kU_2 kU_3 kU_4 kU_5 kX_0 kX_1 kX_2 kX_3 kX_4 kX_5 kY_0 kY_1 kY_2 kY_3 kY_4 kY_5
  replace DU := DU.on hb
  replace DX := DX.on hb
  replace DY := DY.on hb
  replace hFU := hFU.on hb
  replace hFX := hFX.on hb
  replace hFY := hFY.on hb
  replace bz := bz.trans (hb.mono bz.size)
  clear hb
  obtain ⟨kU_0, kU_1, kU_2, kU_3, kU_4, kU_5⟩ := Mbx.cells DU
  obtain ⟨kX_0, kX_1, kX_2, kX_3, kX_4, kX_5⟩ := Mbx.cells DX
  obtain ⟨kY_0, kY_1, kY_2, kY_3, kY_4, kY_5⟩ := Mbx.cells DY
  go_wp2_with fail
  with_reducible refine (pbY _).mono ?_
  rintro e w3 ⟨rfl, hb⟩
  clear kU_0 kU_1 kU_2 kU_3 kU_4 kU_5 kX_0 kX_1 kX_2 kX_3 kX_4 kX_5 kY_0 kY_1 kY_2 kY_3 kY_4 kY_5
  replace DU := DU.on hb
  replace DX := DX.on hb
  replace DY := DY.on hb
  replace hFU := hFU.on hb
  replace hFX := hFX.on hb
  replace hFY := hFY.on hb
  replace bz := bz.trans (hb.mono bz.size)
  clear hb
  go_wp2_with fail
  with_reducible refine (known_any _).mono ?_
  rintro e w4 ⟨rfl, hb⟩
  replace DU := DU.on hb
  replace DX := DX.on hb
  replace DY := DY.on hb
  replace hFU := hFU.on hb
  replace hFX := hFX.on hb
  replace hFY := hFY.on hb
  replace bz := bz.trans (hb.mono bz.size)
  clear hb
  go_wp2_with fail
  go_ret
  exact ⟨rfl, bz⟩
set_option maxRecDepth 100000 in
set_option maxHeartbeats 8000000 in
theorem KernelsSymv_no {w : World} {RU CU : Int} {AU : Option Addr} {nU cU : Nat} {LU : List Int} {RX CX : Int} {AX : Option Addr} {nX cX : Nat} {LX : List Int} {RY CY : Int} {AY : Option Addr} {nY cY : Nat} {LY : List Int} {a b : Nat} {turned : Bool} (ba : a ≤ 18446744073709551615) (bb : b ≤ 18446744073709551615) (hU : FL w AU nU cU LU) (hX : FL w AX nX cX LX) (hY : FL w AY nY cY LY) (bU : bigM RU CU nU = false) (bX : bigM RX CX nX = false) (bY : bigM RY CY nY = false) (hf : ((RU == CU) && vecM RX CX && vecM RY CY && !(CU != (nX : Int)) && !(RU != (nY : Int))) = false) : Calls Try.prog 6 #[.float .f64 a, mV RU CU AU nU cU, mV RX CX AX nX cX, .float .f64 b, mV RY CY AY nY cY, .bool turned] w (Ans w (.bool true)) := by
  have pbU := fun W => big_any RU CU AU nU cU hU.max W
  rw [bU] at pbU
  obtain ⟨zU, eU, uU⟩ := big_is bU
  have HSU := Lib.hid (And.intro zU eU)
  clear bU zU eU
  have pbX := fun W => big_any RX CX AX nX cX hX.max W
  rw [bX] at pbX
  obtain ⟨zX, eX, uX⟩ := big_is bX
  have HSX := Lib.hid (And.intro zX eX)
  clear bX zX eX
  have pbY := fun W => big_any RY CY AY nY cY hY.max W
  rw [bY] at pbY
  obtain ⟨zY, eY, uY⟩ := big_is bY
  have HSY := Lib.hid (And.intro zY eY)
  clear bY zY eY
  have EU := Lib.hid hU.1
  have mxU := hU.max
  have EX := Lib.hid hX.1
  have mxX := hX.max
  have EY := Lib.hid hY.1
  have mxY := hY.max
  have HFT := Lib.hid hf
  clear hf
  have DU := Blk.new w [.int .i64 RU, .int .i64 CU, .slice AU nU cU] 24
  have DX := Blk.new (w.alloc (.cells #[.int .i64 RU, .int .i64 CU, .slice AU nU cU] 24)) [.int .i64 RX, .int .i64 CX, .slice AX nX cX] 24
  replace DU := DU.alloc (.cells #[.int .i64 RX, .int .i64 CX, .slice AX nX cX] 24)
  simp only [World.size_alloc] at DX
  have DY := Blk.new ((w.alloc (.cells #[.int .i64 RU, .int .i64 CU, .slice AU nU cU] 24)).alloc (.cells #[.int .i64 RX, .int .i64 CX, .slice AX nX cX] 24)) [.int .i64 RY, .int .i64 CY, .slice AY nY cY] 24
  replace DU := DU.alloc (.cells #[.int .i64 RY, .int .i64 CY, .slice AY nY cY] 24)
  replace DX := DX.alloc (.cells #[.int .i64 RY, .int .i64 CY, .slice AY nY cY] 24)
  simp only [World.size_alloc] at DY
  have bz := (((Below.refl _ w).alloc (Nat.le_refl _) (.cells #[.int .i64 RU, .int .i64 CU, .slice AU nU cU] 24)).alloc (by simp <;> omega) (.cells #[.int .i64 RX, .int .i64 CX, .slice AX nX cX] 24)).alloc (by simp <;> omega) (.cells #[.int .i64 RY, .int .i64 CY, .slice AY nY cY] 24)
  have hsz0 : (((w.alloc (.cells #[.int .i64 RU, .int .i64 CU, .slice AU nU cU] 24)).alloc (.cells #[.int .i64 RX, .int .i64 CX, .slice AX nX cX] 24)).alloc (.cells #[.int .i64 RY, .int .i64 CY, .slice AY nY cY] 24)).heap.size = w.heap.size + 3 := by simp
  have hFU := hU.lo.on bz
  clear hU
  have hFX := hX.lo.on bz
  clear hX
  have hFY := hY.lo.on bz
  clear hY
  go_enter Try.func6, Try.ntmps6
  obtain ⟨kU_0, kU_1, kU_2, kU_3, kU_4, kU_5⟩ := Mbx.cells DU
  obtain ⟨kX_0, kX_1, kX_2, kX_3, kX_4, kX_5⟩ := Mbx.cells DX
  obtain ⟨kY_0, kY_1, kY_2, kY_3, kY_4, kY_5⟩ := Mbx.cells DY
  go_wp2_with fail
  with_reducible refine (pbU _).mono ?_
  rintro e w1 ⟨rfl, hb⟩
  clear kU_0 kU_1 kU_2 kU_3 kU_4 kU_5 kX_0 kX_1 kX_2 kX_3 kX_4 kX_5 kY_0 kY_1 kY_2 kY_3 kY_4 kY_5
  replace DU := DU.on hb
  replace DX := DX.on hb
  replace DY := DY.on hb
  replace hFU := hFU.on hb
  replace hFX := hFX.on hb
  replace hFY := hFY.on hb
  replace bz := bz.trans (hb.mono bz.size)
  clear hb
  obtain ⟨kU_0, kU_1, kU_2, kU_3, kU_4, kU_5⟩ := Mbx.cells DU
  obtain ⟨kX_0, kX_1, kX_2, kX_3, kX_4, kX_5⟩ := Mbx.cells DX
  obtain ⟨kY_0, kY_1, kY_2, kY_3, kY_4, kY_5⟩ := Mbx.cells DY
  go_wp2_with fail
  with_reducible refine (pbX _).mono ?_
  rintro e w2 ⟨rfl, hb⟩
  clear kU_0 kU_1 kU_2 kU_3 kU_4 kU_5 kX_0 kX_1 kX_2 kX_3 kX_4 kX_5 kY_0 kY_1 kY_2 kY_3 kY_4 kY_5
  replace DU := DU.on hb
  replace DX := DX.on hb
  replace DY := DY.on hb
  replace hFU := hFU.on hb
  replace hFX := hFX.on hb
  replace hFY := hFY.on hb
  replace bz := bz.trans (hb.mono bz.size)
  clear hb
  obtain ⟨kU_0, kU_1, kU_2, kU_3, kU_4, kU_5⟩ := Mbx.cells DU
  obtain ⟨kX_0, kX_1, kX_2, kX_3, kX_4, kX_5⟩ := Mbx.cells DX
  obtain ⟨kY_0, kY_1, kY_2, kY_3, kY_4, kY_5⟩ := Mbx.cells DY
  go_wp2_with fail
  with_reducible refine (pbY _).mono ?_
  rintro e w3 ⟨rfl, hb⟩
  clear kU_0 kU_1 kU_2 kU_3 kU_4 kU_5 kX_0 kX_1 kX_2 kX_3 kX_4 kX_5 kY_0 kY_1 kY_2 kY_3 kY_4 kY_5
  replace DU := DU.on hb
  replace DX := DX.on hb
  replace DY := DY.on hb
  replace hFU := hFU.on hb
  replace hFX := hFX.on hb
  replace hFY := hFY.on hb
  replace bz := bz.trans (hb.mono bz.size)
  clear hb
  obtain ⟨kU_0, kU_1, kU_2, kU_3, kU_4, kU_5⟩ := Mbx.cells DU
  obtain ⟨kX_0, kX_1, kX_2, kX_3, kX_4, kX_5⟩ := Mbx.cells DX
  obtain ⟨kY_0, kY_1, kY_2, kY_3, kY_4, kY_5⟩ := Mbx.cells DY
  have hszw : w.heap.size + 3 ≤ w3.heap.size := by have := DY.lt; omega
  go_wp2_with fail
  with_reducible refine (of_any false hFY.fl HSY.out.1 HSY.out.2).mono ?_
  rintro e w4 ⟨VY, sVY, gVY, capVY, cVY, lVY, rfl, hVY, hb⟩
  clear kU_0 kU_1 kU_2 kU_3 kU_4 kU_5 kX_0 kX_1 kX_2 kX_3 kX_4 kX_5 kY_0 kY_1 kY_2 kY_3 kY_4 kY_5
  replace DU := DU.on hb
  replace DX := DX.on hb
  replace DY := DY.on hb
  replace hFU := hFU.on hb
  replace hFX := hFX.on hb
  replace hFY := hFY.on hb
  replace bz := bz.trans (hb.mono bz.size)
  clear hb
  have hgy : w.heap.size + 3 ≤ gVY ∧ w.heap.size + 3 ≤ sVY := by have h1 := hVY.st.lo; have h2 := hVY.st.gt.1; omega
  have hlt := And.intro hVY.st.lt hVY.st.gt.2
  have DVY := Blk.new w4 (VY).L 30
  obtain ⟨HDVY, eHDVY⟩ : ∃ H, w4.heap.size = H := ⟨_, rfl⟩
  rw [eHDVY] at DVY
  have hbA := (Below.refl _ w4).alloc (Nat.le_refl _) (.cells (VY).L.toArray 30)
  replace DU := DU.on hbA
  replace DX := DX.on hbA
  replace DY := DY.on hbA
  replace hFU := hFU.on hbA
  replace hFX := hFX.on hbA
  replace hFY := hFY.on hbA
  replace hVY := hVY.on hbA
  clear hbA
  replace bz := bz.alloc bz.size (.cells (VY).L.toArray 30)
  have HHDVY := Lib.hid eHDVY
  rw [eHDVY] at hlt
  clear hszw
  go_wp2_with fail
  replace DU := DU.drew
  replace DX := DX.drew
  replace DY := DY.drew
  replace hFU := hFU.drew
  replace hFX := hFX.drew
  replace hFY := hFY.drew
  replace hVY := hVY.drew
  replace DVY := DVY.drew
  replace bz := bz.drew
  refine wp_region_held_drew (S := fun w9 : World => Mbx w9 w.heap.size RU CU AU nU cU ∧ Mbx w9 (w.heap.size + 1) RX CX AX nX cX ∧ Mbx w9 (w.heap.size + 2) RY CY AY nY cY ∧ Vbx w9 HDVY VY) (by kernel_rfl) ⟨DU, DX, DY, DVY⟩ (fun hS => ?_)
  generalize (w4.alloc (.cells (VY).L.toArray 30)).drew = wd4 at hS DU DX DY hFU hFX hFY hVY DVY  bz ⊢
  refine wpAnyH_take (i := 0) (v := ?v0_1) rfl (by kernel_rfl) (by kernel_rfl) (by kernel_rfl) (fun _ _ _ h => h) (Or.inl ⟨by rfl, ?hy0_1⟩) (by assumption) ?rest0_1
  case hy0_1 => (intro w9 hSw; clear hSw; go_simp; try with_reducible rfl)
  try simp only [Act.put, List.setIfInBounds_toArray, List.set_cons_zero, List.set_cons_succ, List.getElem_toArray, List.getElem_cons_zero, List.getElem_cons_succ]
  refine wpAnyH_take (i := 1) (v := ?v1_2) rfl (by kernel_rfl) (by kernel_rfl) (by kernel_rfl) (fun _ _ _ h => h) (Or.inl ⟨by rfl, ?hy1_2⟩) (by assumption) ?rest1_2
  case hy1_2 => (intro w9 hSw; obtain ⟨m0, m1, m2, m3⟩ := hSw; obtain ⟨q0_0, q0_1, q0_2, q0_3, q0_4, q0_5⟩ := Mbx.cells m0; obtain ⟨q1_0, q1_1, q1_2, q1_3, q1_4, q1_5⟩ := Mbx.cells m1; obtain ⟨q2_0, q2_1, q2_2, q2_3, q2_4, q2_5⟩ := Mbx.cells m2; go_simp; try with_reducible rfl)
  try simp only [Act.put, List.setIfInBounds_toArray, List.set_cons_zero, List.set_cons_succ, List.getElem_toArray, List.getElem_cons_zero, List.getElem_cons_succ]
  refine wpAnyH_take (i := 2) (v := ?v2_3) rfl (by kernel_rfl) (by kernel_rfl) (by kernel_rfl) (fun _ _ _ h => h) (Or.inl ⟨by rfl, ?hy2_3⟩) (by assumption) ?rest2_3
  case hy2_3 => (intro w9 hSw; clear hSw; go_simp; try with_reducible rfl)
  try simp only [Act.put, List.setIfInBounds_toArray, List.set_cons_zero, List.set_cons_succ, List.getElem_toArray, List.getElem_cons_zero, List.getElem_cons_succ]
  refine wpAnyH_take (i := 4) (v := ?v4_4) rfl (by kernel_rfl) (by kernel_rfl) (by kernel_rfl) (fun _ _ _ h => h) (Or.inl ⟨by rfl, ?hy4_4⟩) (by assumption) ?rest4_4
  case hy4_4 => (intro w9 hSw; obtain ⟨m0, m1, m2, m3⟩ := hSw; obtain ⟨q0_0, q0_1, q0_2, q0_3, q0_4, q0_5⟩ := Mbx.cells m0; obtain ⟨q1_0, q1_1, q1_2, q1_3, q1_4, q1_5⟩ := Mbx.cells m1; obtain ⟨q2_0, q2_1, q2_2, q2_3, q2_4, q2_5⟩ := Mbx.cells m2; go_simp; try with_reducible rfl)
  try simp only [Act.put, List.setIfInBounds_toArray, List.set_cons_zero, List.set_cons_succ, List.getElem_toArray, List.getElem_cons_zero, List.getElem_cons_succ]
  refine wpAnyH_take (i := 5) (v := ?v5_5) rfl (by kernel_rfl) (by kernel_rfl) (by kernel_rfl) (fun _ _ _ h => h) (Or.inl ⟨by rfl, ?hy5_5⟩) (by assumption) ?rest5_5
  case hy5_5 => (intro w9 hSw; clear hSw; go_simp; try with_reducible rfl)
  try simp only [Act.put, List.setIfInBounds_toArray, List.set_cons_zero, List.set_cons_succ, List.getElem_toArray, List.getElem_cons_zero, List.getElem_cons_succ]
  refine wpAnyH_take (i := 7) (v := ?v7_6) rfl (by kernel_rfl) (by kernel_rfl) (by kernel_rfl) (fun _ _ _ h => h) (Or.inl ⟨by rfl, ?hy7_6⟩) (by assumption) ?rest7_6
  case hy7_6 => (intro w9 hSw; clear hSw; go_simp; try with_reducible rfl)
  try simp only [Act.put, List.setIfInBounds_toArray, List.set_cons_zero, List.set_cons_succ, List.getElem_toArray, List.getElem_cons_zero, List.getElem_cons_succ]
  refine wpAnyH_take (i := 8) (v := ?v8_7) rfl (by kernel_rfl) (by kernel_rfl) (by kernel_rfl) (fun _ _ _ h => h) (Or.inl ⟨by rfl, ?hy8_7⟩) (by assumption) ?rest8_7
  case hy8_7 => (intro w9 hSw; obtain ⟨m0, m1, m2, m3⟩ := hSw; refine (ld_v (by rfl) (by kernel_rfl) m3).trans ?_; with_reducible rfl)
  try simp only [Act.put, List.setIfInBounds_toArray, List.set_cons_zero, List.set_cons_succ, List.getElem_toArray, List.getElem_cons_zero, List.getElem_cons_succ]
  refine wpAnyH_ready (rs := [3]) (by kernel_rfl) (by simp) ?_
  refine AllReadyH.cons rfl (fun K hK => ?_) AllReadyH.nil
  go_simp
  with_reducible refine (of_any turned hFU.fl HSU.out.1 HSU.out.2).mono ?_
  rintro e w5 ⟨VU, sVU, gVU, capVU, cVU, lVU, rfl, hVU, hb⟩
  replace DU := DU.on hb
  replace DX := DX.on hb
  replace DY := DY.on hb
  replace hFU := hFU.on hb
  replace hFX := hFX.on hb
  replace hFY := hFY.on hb
  replace hVY := hVY.on hb
  replace DVY := DVY.on hb
  replace bz := bz.trans (hb.mono bz.size)
  clear hb
  clear hS; refine hK.out _ _ ⟨DU, DX, DY, DVY⟩ (fun hS => ?_); clear hK K
  try simp only [Act.put, List.setIfInBounds_toArray, List.set_cons_zero, List.set_cons_succ, List.getElem_toArray, List.getElem_cons_zero, List.getElem_cons_succ]
  refine wpAnyH_ready (rs := [6]) (by kernel_rfl) (by simp) ?_
  refine AllReadyH.cons rfl (fun K hK => ?_) AllReadyH.nil
  go_simp
  with_reducible refine (of_any turned hFX.fl HSX.out.1 HSX.out.2).mono ?_
  rintro e w6 ⟨VX, sVX, gVX, capVX, cVX, lVX, rfl, hVX, hb⟩
  replace DU := DU.on hb
  replace DX := DX.on hb
  replace DY := DY.on hb
  replace hFU := hFU.on hb
  replace hFX := hFX.on hb
  replace hFY := hFY.on hb
  replace hVY := hVY.on hb
  replace DVY := DVY.on hb
  replace hVU := hVU.on hb
  replace bz := bz.trans (hb.mono bz.size)
  clear hb
  clear hS; refine hK.out _ _ ⟨DU, DX, DY, DVY⟩ (fun hS => ?_); clear hK K
  try simp only [Act.put, List.setIfInBounds_toArray, List.set_cons_zero, List.set_cons_succ, List.getElem_toArray, List.getElem_cons_zero, List.getElem_cons_succ]
  refine wpAnyH_ready (rs := [9]) (by kernel_rfl) (by simp) ?_
  refine AllReadyH.cons rfl (fun K hK => ?_) AllReadyH.nil
  go_simp
  with_reducible refine (symv_no hVU hVX hVY EX.out EY.out HFT.out).mono ?_
  rintro e w7 ⟨rfl, hb⟩
  replace DU := DU.on hb
  replace DX := DX.on hb
  replace DY := DY.on hb
  replace hFU := hFU.on hb
  replace hFX := hFX.on hb
  replace hFY := hFY.on hb
  replace hVY := hVY.on hb
  replace DVY := DVY.on hb
  replace hVU := hVU.on hb
  replace hVX := hVX.on hb
  replace bz := bz.trans (hb.mono bz.size)
  clear hb
  clear hVU hVX
  clear hS; refine hK.out _ _ ⟨DU, DX, DY, DVY⟩ (fun hS => ?_); clear hK K
  try simp only [Act.put, List.setIfInBounds_toArray, List.set_cons_zero, List.set_cons_succ, List.getElem_toArray, List.getElem_cons_zero, List.getElem_cons_succ]
  refine wpAnyH_take (i := 10) (v := ?v10_8) rfl (by kernel_rfl) (by kernel_rfl) (by kernel_rfl) (fun _ _ _ h => h) (Or.inl ⟨by rfl, ?hy10_8⟩) (by assumption) ?rest10_8
  case hy10_8 => (intro w9 hSw; clear hSw; go_simp; try with_reducible rfl)
  try simp only [Act.put, List.setIfInBounds_toArray, List.set_cons_zero, List.set_cons_succ, List.getElem_toArray, List.getElem_cons_zero, List.getElem_cons_succ]
  refine wpAnyH_done (by kernel_rfl) ?_ _
  have HFv := HFT.out
  cases f0 : (RU == CU)
  · skip
    have p9 := rSquare_any RU CU AU nU cU
    rw [f0] at p9
    obtain ⟨kU_0, kU_1, kU_2, kU_3, kU_4, kU_5⟩ := Mbx.cells DU
    obtain ⟨kX_0, kX_1, kX_2, kX_3, kX_4, kX_5⟩ := Mbx.cells DX
    obtain ⟨kY_0, kY_1, kY_2, kY_3, kY_4, kY_5⟩ := Mbx.cells DY
    go_wp2_with fail
    with_reducible refine (p9 _).mono ?_
    rintro e w8 ⟨rfl, hb⟩
    clear kU_0 kU_1 kU_2 kU_3 kU_4 kU_5 kX_0 kX_1 kX_2 kX_3 kX_4 kX_5 kY_0 kY_1 kY_2 kY_3 kY_4 kY_5
    replace DU := DU.on hb
    replace DX := DX.on hb
    replace DY := DY.on hb
    replace hFU := hFU.on hb
    replace hFX := hFX.on hb
    replace hFY := hFY.on hb
    replace hVY := hVY.on hb
    replace DVY := DVY.on hb
    replace bz := bz.trans (hb.mono bz.size)
    clear hb p9
    obtain ⟨kU_0, kU_1, kU_2, kU_3, kU_4, kU_5⟩ := Mbx.cells DU
    obtain ⟨kX_0, kX_1, kX_2, kX_3, kX_4, kX_5⟩ := Mbx.cells DX
    obtain ⟨kY_0, kY_1, kY_2, kY_3, kY_4, kY_5⟩ := Mbx.cells DY
    go_wp2_with fail
    with_reducible refine (num_any _ _).mono ?_
    rintro e v9 ⟨rfl, rfl⟩
    clear kU_0 kU_1 kU_2 kU_3 kU_4 kU_5 kX_0 kX_1 kX_2 kX_3 kX_4 kX_5 kY_0 kY_1 kY_2 kY_3 kY_4 kY_5
    obtain ⟨kU_0, kU_1, kU_2, kU_3, kU_4, kU_5⟩ := Mbx.cells DU
    obtain ⟨kX_0, kX_1, kX_2, kX_3, kX_4, kX_5⟩ := Mbx.cells DX
    obtain ⟨kY_0, kY_1, kY_2, kY_3, kY_4, kY_5⟩ := Mbx.cells DY
    obtain ⟨cDVY_0, cDVY_1, cDVY_2, cDVY_3, cDVY_4, cDVY_5, cDVY_6, cDVY_7, cDVY_8⟩ := Vbx.cells DVY
    go_wp2_with fail
    with_reducible refine (shows_true hVY.sv hFY.fl hVY.R hVY.C (sameL_refl LY)).mono ?_
    rintro e w10 ⟨rfl, hb⟩
    clear kU_0 kU_1 kU_2 kU_3 kU_4 kU_5 kX_0 kX_1 kX_2 kX_3 kX_4 kX_5 kY_0 kY_1 kY_2 kY_3 kY_4 kY_5 cDVY_0 cDVY_1 cDVY_2 cDVY_3 cDVY_4 cDVY_5 cDVY_6 cDVY_7 cDVY_8
    replace DU := DU.on hb
    replace DX := DX.on hb
    replace DY := DY.on hb
    replace hFU := hFU.on hb
    replace hFX := hFX.on hb
    replace hFY := hFY.on hb
    replace hVY := hVY.on hb
    replace DVY := DVY.on hb
    replace bz := bz.trans (hb.mono bz.size)
    clear hb
    go_wp2_with fail
    with_reducible refine (known_any _).mono ?_
    rintro e w11 ⟨rfl, hb⟩
    replace DU := DU.on hb
    replace DX := DX.on hb
    replace DY := DY.on hb
    replace hFU := hFU.on hb
    replace hFX := hFX.on hb
    replace hFY := hFY.on hb
    replace hVY := hVY.on hb
    replace DVY := DVY.on hb
    replace bz := bz.trans (hb.mono bz.size)
    clear hb
    go_wp2_with fail
    go_ret
    exact ⟨rfl, bz⟩
  · cases f1 : vecM RX CX
    · skip
      have p9 := rSquare_any RU CU AU nU cU
      rw [f0] at p9
      obtain ⟨kU_0, kU_1, kU_2, kU_3, kU_4, kU_5⟩ := Mbx.cells DU
      obtain ⟨kX_0, kX_1, kX_2, kX_3, kX_4, kX_5⟩ := Mbx.cells DX
      obtain ⟨kY_0, kY_1, kY_2, kY_3, kY_4, kY_5⟩ := Mbx.cells DY
      go_wp2_with fail
      with_reducible refine (p9 _).mono ?_
      rintro e w8 ⟨rfl, hb⟩
      clear kU_0 kU_1 kU_2 kU_3 kU_4 kU_5 kX_0 kX_1 kX_2 kX_3 kX_4 kX_5 kY_0 kY_1 kY_2 kY_3 kY_4 kY_5
      replace DU := DU.on hb
      replace DX := DX.on hb
      replace DY := DY.on hb
      replace hFU := hFU.on hb
      replace hFX := hFX.on hb
      replace hFY := hFY.on hb
      replace hVY := hVY.on hb
      replace DVY := DVY.on hb
      replace bz := bz.trans (hb.mono bz.size)
      clear hb p9
      have p9 := rVector_any RX CX AX nX cX
      rw [f1] at p9
      obtain ⟨kU_0, kU_1, kU_2, kU_3, kU_4, kU_5⟩ := Mbx.cells DU
      obtain ⟨kX_0, kX_1, kX_2, kX_3, kX_4, kX_5⟩ := Mbx.cells DX
      obtain ⟨kY_0, kY_1, kY_2, kY_3, kY_4, kY_5⟩ := Mbx.cells DY
      go_wp2_with fail
      with_reducible refine (p9 _).mono ?_
      rintro e w9 ⟨rfl, hb⟩
      clear kU_0 kU_1 kU_2 kU_3 kU_4 kU_5 kX_0 kX_1 kX_2 kX_3 kX_4 kX_5 kY_0 kY_1 kY_2 kY_3 kY_4 kY_5
      replace DU := DU.on hb
      replace DX := DX.on hb
      replace DY := DY.on hb
      replace hFU := hFU.on hb
      replace hFX := hFX.on hb
      replace hFY := hFY.on hb
      replace hVY := hVY.on hb
      replace DVY := DVY.on hb
      replace bz := bz.trans (hb.mono bz.size)
      clear hb p9
      obtain ⟨kU_0, kU_1, kU_2, kU_3, kU_4, kU_5⟩ := Mbx.cells DU
      obtain ⟨kX_0, kX_1, kX_2, kX_3, kX_4, kX_5⟩ := Mbx.cells DX
      obtain ⟨kY_0, kY_1, kY_2, kY_3, kY_4, kY_5⟩ := Mbx.cells DY
      go_wp2_with fail
      with_reducible refine (num_any _ _).mono ?_
      rintro e v10 ⟨rfl, rfl⟩
      clear kU_0 kU_1 kU_2 kU_3 kU_4 kU_5 kX_0 kX_1 kX_2 kX_3 kX_4 kX_5 kY_0 kY_1 kY_2 kY_3 kY_4 kY_5
      obtain ⟨kU_0, kU_1, kU_2, kU_3, kU_4, kU_5⟩ := Mbx.cells DU
      obtain ⟨kX_0, kX_1, kX_2, kX_3, kX_4, kX_5⟩ := Mbx.cells DX
      obtain ⟨kY_0, kY_1, kY_2, kY_3, kY_4, kY_5⟩ := Mbx.cells DY
      obtain ⟨cDVY_0, cDVY_1, cDVY_2, cDVY_3, cDVY_4, cDVY_5, cDVY_6, cDVY_7, cDVY_8⟩ := Vbx.cells DVY
      go_wp2_with fail
      with_reducible refine (shows_true hVY.sv hFY.fl hVY.R hVY.C (sameL_refl LY)).mono ?_
      rintro e w11 ⟨rfl, hb⟩
      clear kU_0 kU_1 kU_2 kU_3 kU_4 kU_5 kX_0 kX_1 kX_2 kX_3 kX_4 kX_5 kY_0 kY_1 kY_2 kY_3 kY_4 kY_5 cDVY_0 cDVY_1 cDVY_2 cDVY_3 cDVY_4 cDVY_5 cDVY_6 cDVY_7 cDVY_8
      replace DU := DU.on hb
      replace DX := DX.on hb
      replace DY := DY.on hb
      replace hFU := hFU.on hb
      replace hFX := hFX.on hb
      replace hFY := hFY.on hb
      replace hVY := hVY.on hb
      replace DVY := DVY.on hb
      replace bz := bz.trans (hb.mono bz.size)
      clear hb
      go_wp2_with fail
      with_reducible refine (known_any _).mono ?_
      rintro e w12 ⟨rfl, hb⟩
      replace DU := DU.on hb
      replace DX := DX.on hb
      replace DY := DY.on hb
      replace hFU := hFU.on hb
      replace hFX := hFX.on hb
      replace hFY := hFY.on hb
      replace hVY := hVY.on hb
      replace DVY := DVY.on hb
      replace bz := bz.trans (hb.mono bz.size)
      clear hb
      go_wp2_with fail
      go_ret
      exact ⟨rfl, bz⟩
    · cases f2 : vecM RY CY
      · skip
        have p9 := rSquare_any RU CU AU nU cU
        rw [f0] at p9
        obtain ⟨kU_0, kU_1, kU_2, kU_3, kU_4, kU_5⟩ := Mbx.cells DU
        obtain ⟨kX_0, kX_1, kX_2, kX_3, kX_4, kX_5⟩ := Mbx.cells DX
        obtain ⟨kY_0, kY_1, kY_2, kY_3, kY_4, kY_5⟩ := Mbx.cells DY
        go_wp2_with fail
        with_reducible refine (p9 _).mono ?_
        rintro e w8 ⟨rfl, hb⟩
        clear kU_0 kU_1 kU_2 kU_3 kU_4 kU_5 kX_0 kX_1 kX_2 kX_3 kX_4 kX_5 kY_0 kY_1 kY_2 kY_3 kY_4 kY_5
        replace DU := DU.on hb
        replace DX := DX.on hb
        replace DY := DY.on hb
        replace hFU := hFU.on hb
        replace hFX := hFX.on hb
        replace hFY := hFY.on hb
        replace hVY := hVY.on hb
        replace DVY := DVY.on hb
        replace bz := bz.trans (hb.mono bz.size)
        clear hb p9
        have p9 := rVector_any RX CX AX nX cX
        rw [f1] at p9
        obtain ⟨kU_0, kU_1, kU_2, kU_3, kU_4, kU_5⟩ := Mbx.cells DU
        obtain ⟨kX_0, kX_1, kX_2, kX_3, kX_4, kX_5⟩ := Mbx.cells DX
        obtain ⟨kY_0, kY_1, kY_2, kY_3, kY_4, kY_5⟩ := Mbx.cells DY
        go_wp2_with fail
        with_reducible refine (p9 _).mono ?_
        rintro e w9 ⟨rfl, hb⟩
        clear kU_0 kU_1 kU_2 kU_3 kU_4 kU_5 kX_0 kX_1 kX_2 kX_3 kX_4 kX_5 kY_0 kY_1 kY_2 kY_3 kY_4 kY_5
        replace DU := DU.on hb
        replace DX := DX.on hb
        replace DY := DY.on hb
        replace hFU := hFU.on hb
        replace hFX := hFX.on hb
        replace hFY := hFY.on hb
        replace hVY := hVY.on hb
        replace DVY := DVY.on hb
        replace bz := bz.trans (hb.mono bz.size)
        clear hb p9
        have p9 := rVector_any RY CY AY nY cY
        rw [f2] at p9
        obtain ⟨kU_0, kU_1, kU_2, kU_3, kU_4, kU_5⟩ := Mbx.cells DU
        obtain ⟨kX_0, kX_1, kX_2, kX_3, kX_4, kX_5⟩ := Mbx.cells DX
        obtain ⟨kY_0, kY_1, kY_2, kY_3, kY_4, kY_5⟩ := Mbx.cells DY
        go_wp2_with fail
        with_reducible refine (p9 _).mono ?_
        rintro e w10 ⟨rfl, hb⟩
        clear kU_0 kU_1 kU_2 kU_3 kU_4 kU_5 kX_0 kX_1 kX_2 kX_3 kX_4 kX_5 kY_0 kY_1 kY_2 kY_3 kY_4 kY_5
        replace DU := DU.on hb
        replace DX := DX.on hb
        replace DY := DY.on hb
        replace hFU := hFU.on hb
        replace hFX := hFX.on hb
        replace hFY := hFY.on hb
        replace hVY := hVY.on hb
        replace DVY := DVY.on hb
        replace bz := bz.trans (hb.mono bz.size)
        clear hb p9
        obtain ⟨kU_0, kU_1, kU_2, kU_3, kU_4, kU_5⟩ := Mbx.cells DU
        obtain ⟨kX_0, kX_1, kX_2, kX_3, kX_4, kX_5⟩ := Mbx.cells DX
        obtain ⟨kY_0, kY_1, kY_2, kY_3, kY_4, kY_5⟩ := Mbx.cells DY
        go_wp2_with fail
        with_reducible refine (num_any _ _).mono ?_
        rintro e v11 ⟨rfl, rfl⟩
        clear kU_0 kU_1 kU_2 kU_3 kU_4 kU_5 kX_0 kX_1 kX_2 kX_3 kX_4 kX_5 kY_0 kY_1 kY_2 kY_3 kY_4 kY_5
        obtain ⟨kU_0, kU_1, kU_2, kU_3, kU_4, kU_5⟩ := Mbx.cells DU
        obtain ⟨kX_0, kX_1, kX_2, kX_3, kX_4, kX_5⟩ := Mbx.cells DX
        obtain ⟨kY_0, kY_1, kY_2, kY_3, kY_4, kY_5⟩ := Mbx.cells DY
        obtain ⟨cDVY_0, cDVY_1, cDVY_2, cDVY_3, cDVY_4, cDVY_5, cDVY_6, cDVY_7, cDVY_8⟩ := Vbx.cells DVY
        go_wp2_with fail
        with_reducible refine (shows_true hVY.sv hFY.fl hVY.R hVY.C (sameL_refl LY)).mono ?_
        rintro e w12 ⟨rfl, hb⟩
        clear kU_0 kU_1 kU_2 kU_3 kU_4 kU_5 kX_0 kX_1 kX_2 kX_3 kX_4 kX_5 kY_0 kY_1 kY_2 kY_3 kY_4 kY_5 cDVY_0 cDVY_1 cDVY_2 cDVY_3 cDVY_4 cDVY_5 cDVY_6 cDVY_7 cDVY_8
        replace DU := DU.on hb
        replace DX := DX.on hb
        replace DY := DY.on hb
        replace hFU := hFU.on hb
        replace hFX := hFX.on hb
        replace hFY := hFY.on hb
        replace hVY := hVY.on hb
        replace DVY := DVY.on hb
        replace bz := bz.trans (hb.mono bz.size)
        clear hb
        go_wp2_with fail
        with_reducible refine (known_any _).mono ?_
        rintro e w13 ⟨rfl, hb⟩
        replace DU := DU.on hb
        replace DX := DX.on hb
        replace DY := DY.on hb
        replace hFU := hFU.on hb
        replace hFX := hFX.on hb
        replace hFY := hFY.on hb
        replace hVY := hVY.on hb
        replace DVY := DVY.on hb
        replace bz := bz.trans (hb.mono bz.size)
        clear hb
        go_wp2_with fail
        go_ret
        exact ⟨rfl, bz⟩
      · cases f3 : (CU != (nX : Int))
        · cases f4 : (RU != (nY : Int))
          · exfalso; rw [f0, f1, f2, f3, f4] at HFv; cases HFv
          · skip
            have p9 := rSquare_any RU CU AU nU cU
            rw [f0] at p9
            obtain ⟨kU_0, kU_1, kU_2, kU_3, kU_4, kU_5⟩ := Mbx.cells DU
            obtain ⟨kX_0, kX_1, kX_2, kX_3, kX_4, kX_5⟩ := Mbx.cells DX
            obtain ⟨kY_0, kY_1, kY_2, kY_3, kY_4, kY_5⟩ := Mbx.cells DY
            go_wp2_with fail
            with_reducible refine (p9 _).mono ?_
            rintro e w8 ⟨rfl, hb⟩
            clear kU_0 kU_1 kU_2 kU_3 kU_4 kU_5 kX_0 kX_1 kX_2 kX_3 kX_4 kX_5 kY_0 kY_1 kY_2 kY_3 kY_4 kY_5
            replace DU := DU.on hb
            replace DX := DX.on hb
            replace DY := DY.on hb
            replace hFU := hFU.on hb
            replace hFX := hFX.on hb
            replace hFY := hFY.on hb
            replace hVY := hVY.on hb
            replace DVY := DVY.on hb
            replace bz := bz.trans (hb.mono bz.size)
            clear hb p9
            have p9 := rVector_any RX CX AX nX cX
            rw [f1] at p9
            obtain ⟨kU_0, kU_1, kU_2, kU_3, kU_4, kU_5⟩ := Mbx.cells DU
            obtain ⟨kX_0, kX_1, kX_2, kX_3, kX_4, kX_5⟩ := Mbx.cells DX
            obtain ⟨kY_0, kY_1, kY_2, kY_3, kY_4, kY_5⟩ := Mbx.cells DY
            go_wp2_with fail
            with_reducible refine (p9 _).mono ?_
            rintro e w9 ⟨rfl, hb⟩
            clear kU_0 kU_1 kU_2 kU_3 kU_4 kU_5 kX_0 kX_1 kX_2 kX_3 kX_4 kX_5 kY_0 kY_1 kY_2 kY_3 kY_4 kY_5
            replace DU := DU.on hb
            replace DX := DX.on hb
            replace DY := DY.on hb
            replace hFU := hFU.on hb
            replace hFX := hFX.on hb
            replace hFY := hFY.on hb
            replace hVY := hVY.on hb
            replace DVY := DVY.on hb
            replace bz := bz.trans (hb.mono bz.size)
            clear hb p9
            have p9 := rVector_any RY CY AY nY cY
            rw [f2] at p9
            obtain ⟨kU_0, kU_1, kU_2, kU_3, kU_4, kU_5⟩ := Mbx.cells DU
            obtain ⟨kX_0, kX_1, kX_2, kX_3, kX_4, kX_5⟩ := Mbx.cells DX
            obtain ⟨kY_0, kY_1, kY_2, kY_3, kY_4, kY_5⟩ := Mbx.cells DY
            go_wp2_with fail
            with_reducible refine (p9 _).mono ?_
            rintro e w10 ⟨rfl, hb⟩
            clear kU_0 kU_1 kU_2 kU_3 kU_4 kU_5 kX_0 kX_1 kX_2 kX_3 kX_4 kX_5 kY_0 kY_1 kY_2 kY_3 kY_4 kY_5
            replace DU := DU.on hb
            replace DX := DX.on hb
            replace DY := DY.on hb
            replace hFU := hFU.on hb
            replace hFX := hFX.on hb
            replace hFY := hFY.on hb
            replace hVY := hVY.on hb
            replace DVY := DVY.on hb
            replace bz := bz.trans (hb.mono bz.size)
            clear hb p9
            obtain ⟨kU_0, kU_1, kU_2, kU_3, kU_4, kU_5⟩ := Mbx.cells DU
            obtain ⟨kX_0, kX_1, kX_2, kX_3, kX_4, kX_5⟩ := Mbx.cells DX
            obtain ⟨kY_0, kY_1, kY_2, kY_3, kY_4, kY_5⟩ := Mbx.cells DY
            go_wp2_with fail
            with_reducible refine (num_any _ _).mono ?_
            rintro e v11 ⟨rfl, rfl⟩
            clear kU_0 kU_1 kU_2 kU_3 kU_4 kU_5 kX_0 kX_1 kX_2 kX_3 kX_4 kX_5 kY_0 kY_1 kY_2 kY_3 kY_4 kY_5
            obtain ⟨kU_0, kU_1, kU_2, kU_3, kU_4, kU_5⟩ := Mbx.cells DU
            obtain ⟨kX_0, kX_1, kX_2, kX_3, kX_4, kX_5⟩ := Mbx.cells DX
            obtain ⟨kY_0, kY_1, kY_2, kY_3, kY_4, kY_5⟩ := Mbx.cells DY
            obtain ⟨cDVY_0, cDVY_1, cDVY_2, cDVY_3, cDVY_4, cDVY_5, cDVY_6, cDVY_7, cDVY_8⟩ := Vbx.cells DVY
            go_wp2_with fail
            with_reducible refine (shows_true hVY.sv hFY.fl hVY.R hVY.C (sameL_refl LY)).mono ?_
            rintro e w12 ⟨rfl, hb⟩
            clear kU_0 kU_1 kU_2 kU_3 kU_4 kU_5 kX_0 kX_1 kX_2 kX_3 kX_4 kX_5 kY_0 kY_1 kY_2 kY_3 kY_4 kY_5 cDVY_0 cDVY_1 cDVY_2 cDVY_3 cDVY_4 cDVY_5 cDVY_6 cDVY_7 cDVY_8
            replace DU := DU.on hb
            replace DX := DX.on hb
            replace DY := DY.on hb
            replace hFU := hFU.on hb
            replace hFX := hFX.on hb
            replace hFY := hFY.on hb
            replace hVY := hVY.on hb
            replace DVY := DVY.on hb
            replace bz := bz.trans (hb.mono bz.size)
            clear hb
            go_wp2_with fail
            with_reducible refine (known_any _).mono ?_
            rintro e w13 ⟨rfl, hb⟩
            replace DU := DU.on hb
            replace DX := DX.on hb
            replace DY := DY.on hb
            replace hFU := hFU.on hb
            replace hFX := hFX.on hb
            replace hFY := hFY.on hb
            replace hVY := hVY.on hb
            replace DVY := DVY.on hb
            replace bz := bz.trans (hb.mono bz.size)
            clear hb
            go_wp2_with fail
            go_ret
            exact ⟨rfl, bz⟩
        · skip
          have p9 := rSquare_any RU CU AU nU cU
          rw [f0] at p9
          obtain ⟨kU_0, kU_1, kU_2, kU_3, kU_4, kU_5⟩ := Mbx.cells DU
          obtain ⟨kX_0, kX_1, kX_2, kX_3, kX_4, kX_5⟩ := Mbx.cells DX
          obtain ⟨kY_0, kY_1, kY_2, kY_3, kY_4, kY_5⟩ := Mbx.cells DY
          go_wp2_with fail
          with_reducible refine (p9 _).mono ?_
          rintro e w8 ⟨rfl, hb⟩
          clear kU_0 kU_1 kU_2 kU_3 kU_4 kU_5 kX_0 kX_1 kX_2 kX_3 kX_4 kX_5 kY_0 kY_1 kY_2 kY_3 kY_4 kY_5
          replace DU := DU.on hb
          replace DX := DX.on hb
          replace DY := DY.on hb
          replace hFU := hFU.on hb
          replace hFX := hFX.on hb
          replace hFY := hFY.on hb
          replace hVY := hVY.on hb
          replace DVY := DVY.on hb
          replace bz := bz.trans (hb.mono bz.size)
          clear hb p9
          have p9 := rVector_any RX CX AX nX cX
          rw [f1] at p9
          obtain ⟨kU_0, kU_1, kU_2, kU_3, kU_4, kU_5⟩ := Mbx.cells DU
          obtain ⟨kX_0, kX_1, kX_2, kX_3, kX_4, kX_5⟩ := Mbx.cells DX
          obtain ⟨kY_0, kY_1, kY_2, kY_3, kY_4, kY_5⟩ := Mbx.cells DY
          go_wp2_with fail
          with_reducible refine (p9 _).mono ?_
          rintro e w9 ⟨rfl, hb⟩
          clear kU_0 kU_1 kU_2 kU_3 kU_4 kU_5 kX_0 kX_1 kX_2 kX_3 kX_4 kX_5 kY_0 kY_1 kY_2 kY_3 kY_4 kY_5
          replace DU := DU.on hb
          replace DX := DX.on hb
          replace DY := DY.on hb
          replace hFU := hFU.on hb
          replace hFX := hFX.on hb
          replace hFY := hFY.on hb
          replace hVY := hVY.on hb
          replace DVY := DVY.on hb
          replace bz := bz.trans (hb.mono bz.size)
          clear hb p9
          have p9 := rVector_any RY CY AY nY cY
          rw [f2] at p9
          obtain ⟨kU_0, kU_1, kU_2, kU_3, kU_4, kU_5⟩ := Mbx.cells DU
          obtain ⟨kX_0, kX_1, kX_2, kX_3, kX_4, kX_5⟩ := Mbx.cells DX
          obtain ⟨kY_0, kY_1, kY_2, kY_3, kY_4, kY_5⟩ := Mbx.cells DY
          go_wp2_with fail
          with_reducible refine (p9 _).mono ?_
          rintro e w10 ⟨rfl, hb⟩
          clear kU_0 kU_1 kU_2 kU_3 kU_4 kU_5 kX_0 kX_1 kX_2 kX_3 kX_4 kX_5 kY_0 kY_1 kY_2 kY_3 kY_4 kY_5
          replace DU := DU.on hb
          replace DX := DX.on hb
          replace DY := DY.on hb
          replace hFU := hFU.on hb
          replace hFX := hFX.on hb
          replace hFY := hFY.on hb
          replace hVY := hVY.on hb
          replace DVY := DVY.on hb
          replace bz := bz.trans (hb.mono bz.size)
          clear hb p9
          obtain ⟨kU_0, kU_1, kU_2, kU_3, kU_4, kU_5⟩ := Mbx.cells DU
          obtain ⟨kX_0, kX_1, kX_2, kX_3, kX_4, kX_5⟩ := Mbx.cells DX
          obtain ⟨kY_0, kY_1, kY_2, kY_3, kY_4, kY_5⟩ := Mbx.cells DY
          go_wp2_with fail
          with_reducible refine (num_any _ _).mono ?_
          rintro e v11 ⟨rfl, rfl⟩
          clear kU_0 kU_1 kU_2 kU_3 kU_4 kU_5 kX_0 kX_1 kX_2 kX_3 kX_4 kX_5 kY_0 kY_1 kY_2 kY_3 kY_4 kY_5
          obtain ⟨kU_0, kU_1, kU_2, kU_3, kU_4, kU_5⟩ := Mbx.cells DU
          obtain ⟨kX_0, kX_1, kX_2, kX_3, kX_4, kX_5⟩ := Mbx.cells DX
          obtain ⟨kY_0, kY_1, kY_2, kY_3, kY_4, kY_5⟩ := Mbx.cells DY
          obtain ⟨cDVY_0, cDVY_1, cDVY_2, cDVY_3, cDVY_4, cDVY_5, cDVY_6, cDVY_7, cDVY_8⟩ := Vbx.cells DVY
          go_wp2_with fail
          with_reducible refine (shows_true hVY.sv hFY.fl hVY.R hVY.C (sameL_refl LY)).mono ?_
          rintro e w12 ⟨rfl, hb⟩
          clear kU_0 kU_1 kU_2 kU_3 kU_4 kU_5 kX_0 kX_1 kX_2 kX_3 kX_4 kX_5 kY_0 kY_1 kY_2 kY_3 kY_4 kY_5 cDVY_0 cDVY_1 cDVY_2 cDVY_3 cDVY_4 cDVY_5 cDVY_6 cDVY_7 cDVY_8
          replace DU := DU.on hb
          replace DX := DX.on hb
          replace DY := DY.on hb
          replace hFU := hFU.on hb
          replace hFX := hFX.on hb
          replace hFY := hFY.on hb
          replace hVY := hVY.on hb
          replace DVY := DVY.on hb
          replace bz := bz.trans (hb.mono bz.size)
          clear hb
          go_wp2_with fail
          with_reducible refine (known_any _).mono ?_
          rintro e w13 ⟨rfl, hb⟩
          replace DU := DU.on hb
          replace DX := DX.on hb
          replace DY := DY.on hb
          replace hFU := hFU.on hb
          replace hFX := hFX.on hb
          replace hFY := hFY.on hb
          replace hVY := hVY.on hb
          replace DVY := DVY.on hb
          replace bz := bz.trans (hb.mono bz.size)
          clear hb
          go_wp2_with fail
          go_ret
          exact ⟨rfl, bz⟩
set_option maxRecDepth 100000 in
set_option maxHeartbeats 8000000 in
theorem KernelsSymv_yes {w : World} {RU CU : Int} {AU : Option Addr} {nU cU : Nat} {LU : List Int} {RX CX : Int} {AX : Option Addr} {nX cX : Nat} {LX : List Int} {RY CY : Int} {AY : Option Addr} {nY cY : Nat} {LY : List Int} {a b : Nat} {turned : Bool} (ba : a ≤ 18446744073709551615) (bb : b ≤ 18446744073709551615) (hU : FL w AU nU cU LU) (hX : FL w AX nX cX LX) (hY : FL w AY nY cY LY) (bU : bigM RU CU nU = false) (bX : bigM RX CX nX = false) (bY : bigM RY CY nY = false) (hf : ((RU == CU) && vecM RX CX && vecM RY CY && !(CU != (nX : Int)) && !(RU != (nY : Int))) = true) : Calls Try.prog 6 #[.float .f64 a, mV RU CU AU nU cU, mV RX CX AX nX cX, .float .f64 b, mV RY CY AY nY cY, .bool turned] w (Ans w (.bool true)) := by
  have pbU := fun W => big_any RU CU AU nU cU hU.max W
  rw [bU] at pbU
  obtain ⟨zU, eU, uU⟩ := big_is bU
  have HSU := Lib.hid (And.intro zU eU)
  clear bU zU eU
  have pbX := fun W => big_any RX CX AX nX cX hX.max W
  rw [bX] at pbX
  obtain ⟨zX, eX, uX⟩ := big_is bX
  have HSX := Lib.hid (And.intro zX eX)
  clear bX zX eX
  have pbY := fun W => big_any RY CY AY nY cY hY.max W
  rw [bY] at pbY
  obtain ⟨zY, eY, uY⟩ := big_is bY
  have HSY := Lib.hid (And.intro zY eY)
  clear bY zY eY
  have EU := Lib.hid hU.1
  have mxU := hU.max
  have EX := Lib.hid hX.1
  have mxX := hX.max
  have EY := Lib.hid hY.1
  have mxY := hY.max
  have hfs := hf
  simp only [Bool.and_eq_true] at hfs
  obtain ⟨⟨⟨⟨f0, f1⟩, f2⟩, f3⟩, f4⟩ := hfs
  replace f3 : (CU != (nX : Int)) = false := by simpa using f3
  replace f4 : (RU != (nY : Int)) = false := by simpa using f4
  have zU := (szB_bd HSU.out.1).1
  obtain ⟨m, hm⟩ := Int.eq_ofNat_of_zero_le zU.1
  have zY := (szB_bd HSY.out.1).1
  obtain ⟨p, hp⟩ := Int.eq_ofNat_of_zero_le zY.2.2.1
  have g0 : RU = CU := by simpa using f0
  have hcu : CU = (m : Int) := by rw [← g0]; exact hm
  have hn : nU = m * m := by have := HSU.out.2; rw [hm, hcu] at this; exact_mod_cast this
  have hmx : m = nX := by have h := f3; rw [hcu] at h; have h2 : (m : Int) = nX := by { simpa using h }; omega
  have hmy : m = nY := by have h := f4; rw [hm] at h; have h2 : (m : Int) = nY := by { simpa using h }; omega
  have hm5 : m ≤ 512 := by omega
  have HM := Lib.hid hm
  have HC := Lib.hid hcu
  have HP := Lib.hid hp
  have HN := Lib.hid hn
  have HMX := Lib.hid hmx
  have HMY := Lib.hid hmy
  have HVY := Lib.hid f2
  clear zU zY hm hcu hp hn hmx hmy g0
  have F0 := Lib.hid f0
  clear f0
  have F1 := Lib.hid f1
  clear f1
  have F2 := Lib.hid f2
  clear f2
  have F3 := Lib.hid f3
  clear f3
  have F4 := Lib.hid f4
  clear f4
  have HFT := Lib.hid hf
  clear hf
  have DU := Blk.new w [.int .i64 RU, .int .i64 CU, .slice AU nU cU] 24
  have DX := Blk.new (w.alloc (.cells #[.int .i64 RU, .int .i64 CU, .slice AU nU cU] 24)) [.int .i64 RX, .int .i64 CX, .slice AX nX cX] 24
  replace DU := DU.alloc (.cells #[.int .i64 RX, .int .i64 CX, .slice AX nX cX] 24)
  simp only [World.size_alloc] at DX
  have DY := Blk.new ((w.alloc (.cells #[.int .i64 RU, .int .i64 CU, .slice AU nU cU] 24)).alloc (.cells #[.int .i64 RX, .int .i64 CX, .slice AX nX cX] 24)) [.int .i64 RY, .int .i64 CY, .slice AY nY cY] 24
  replace DU := DU.alloc (.cells #[.int .i64 RY, .int .i64 CY, .slice AY nY cY] 24)
  replace DX := DX.alloc (.cells #[.int .i64 RY, .int .i64 CY, .slice AY nY cY] 24)
  simp only [World.size_alloc] at DY
  have bz := (((Below.refl _ w).alloc (Nat.le_refl _) (.cells #[.int .i64 RU, .int .i64 CU, .slice AU nU cU] 24)).alloc (by simp <;> omega) (.cells #[.int .i64 RX, .int .i64 CX, .slice AX nX cX] 24)).alloc (by simp <;> omega) (.cells #[.int .i64 RY, .int .i64 CY, .slice AY nY cY] 24)
  have hsz0 : (((w.alloc (.cells #[.int .i64 RU, .int .i64 CU, .slice AU nU cU] 24)).alloc (.cells #[.int .i64 RX, .int .i64 CX, .slice AX nX cX] 24)).alloc (.cells #[.int .i64 RY, .int .i64 CY, .slice AY nY cY] 24)).heap.size = w.heap.size + 3 := by simp
  have hFU := hU.lo.on bz
  clear hU
  have hFX := hX.lo.on bz
  clear hX
  have hFY := hY.lo.on bz
  clear hY
  go_enter Try.func6, Try.ntmps6
  obtain ⟨kU_0, kU_1, kU_2, kU_3, kU_4, kU_5⟩ := Mbx.cells DU
  obtain ⟨kX_0, kX_1, kX_2, kX_3, kX_4, kX_5⟩ := Mbx.cells DX
  obtain ⟨kY_0, kY_1, kY_2, kY_3, kY_4, kY_5⟩ := Mbx.cells DY
  go_wp2_with fail
  with_reducible refine (pbU _).mono ?_
  rintro e w1 ⟨rfl, hb⟩
  clear kU_0 kU_1 kU_2 kU_3 kU_4 kU_5 kX_0 kX_1 kX_2 kX_3 kX_4 kX_5 kY_0 kY_1 kY_2 kY_3 kY_4 kY_5
  replace DU := DU.on hb
  replace DX := DX.on hb
  replace DY := DY.on hb
  replace hFU := hFU.on hb
  replace hFX := hFX.on hb
  replace hFY := hFY.on hb
  replace bz := bz.trans (hb.mono bz.size)
  clear hb
  obtain ⟨kU_0, kU_1, kU_2, kU_3, kU_4, kU_5⟩ := Mbx.cells DU
  obtain ⟨kX_0, kX_1, kX_2, kX_3, kX_4, kX_5⟩ := Mbx.cells DX
  obtain ⟨kY_0, kY_1, kY_2, kY_3, kY_4, kY_5⟩ := Mbx.cells DY
  go_wp2_with fail
  with_reducible refine (pbX _).mono ?_
  rintro e w2 ⟨rfl, hb⟩
  clear kU_0 kU_1 kU_2 kU_3 kU_4 kU_5 kX_0 kX_1 kX_2 kX_3 kX_4 kX_5 kY_0 kY_1 kY_2 kY_3 kY_4 kY_5
  replace DU := DU.on hb
  replace DX := DX.on hb
  replace DY := DY.on hb
  replace hFU := hFU.on hb
  replace hFX := hFX.on hb
  replace hFY := hFY.on hb
  replace bz := bz.trans (hb.mono bz.size)
  clear hb
  obtain ⟨kU_0, kU_1, kU_2, kU_3, kU_4, kU_5⟩ := Mbx.cells DU
  obtain ⟨kX_0, kX_1, kX_2, kX_3, kX_4, kX_5⟩ := Mbx.cells DX
  obtain ⟨kY_0, kY_1, kY_2, kY_3, kY_4, kY_5⟩ := Mbx.cells DY
  go_wp2_with fail
  with_reducible refine (pbY _).mono ?_
  rintro e w3 ⟨rfl, hb⟩
  clear kU_0 kU_1 kU_2 kU_3 kU_4 kU_5 kX_0 kX_1 kX_2 kX_3 kX_4 kX_5 kY_0 kY_1 kY_2 kY_3 kY_4 kY_5
  replace DU := DU.on hb
  replace DX := DX.on hb
  replace DY := DY.on hb
  replace hFU := hFU.on hb
  replace hFX := hFX.on hb
  replace hFY := hFY.on hb
  replace bz := bz.trans (hb.mono bz.size)
  clear hb
  obtain ⟨kU_0, kU_1, kU_2, kU_3, kU_4, kU_5⟩ := Mbx.cells DU
  obtain ⟨kX_0, kX_1, kX_2, kX_3, kX_4, kX_5⟩ := Mbx.cells DX
  obtain ⟨kY_0, kY_1, kY_2, kY_3, kY_4, kY_5⟩ := Mbx.cells DY
  have hszw : w.heap.size + 3 ≤ w3.heap.size := by have := DY.lt; omega
  go_wp2_with fail
  with_reducible refine (of_any false hFY.fl HSY.out.1 HSY.out.2).mono ?_
  rintro e w4 ⟨VY, sVY, gVY, capVY, cVY, lVY, rfl, hVY, hb⟩
  clear kU_0 kU_1 kU_2 kU_3 kU_4 kU_5 kX_0 kX_1 kX_2 kX_3 kX_4 kX_5 kY_0 kY_1 kY_2 kY_3 kY_4 kY_5
  replace DU := DU.on hb
  replace DX := DX.on hb
  replace DY := DY.on hb
  replace hFU := hFU.on hb
  replace hFX := hFX.on hb
  replace hFY := hFY.on hb
  replace bz := bz.trans (hb.mono bz.size)
  clear hb
  have hgy : w.heap.size + 3 ≤ gVY ∧ w.heap.size + 3 ≤ sVY := by have h1 := hVY.st.lo; have h2 := hVY.st.gt.1; omega
  have hlt := And.intro hVY.st.lt hVY.st.gt.2
  have DVY := Blk.new w4 (VY).L 30
  obtain ⟨HDVY, eHDVY⟩ : ∃ H, w4.heap.size = H := ⟨_, rfl⟩
  rw [eHDVY] at DVY
  have hbA := (Below.refl _ w4).alloc (Nat.le_refl _) (.cells (VY).L.toArray 30)
  replace DU := DU.on hbA
  replace DX := DX.on hbA
  replace DY := DY.on hbA
  replace hFU := hFU.on hbA
  replace hFX := hFX.on hbA
  replace hFY := hFY.on hbA
  replace hVY := hVY.on hbA
  clear hbA
  replace bz := bz.alloc bz.size (.cells (VY).L.toArray 30)
  have HHDVY := Lib.hid eHDVY
  rw [eHDVY] at hlt
  clear hszw
  go_wp2_with fail
  replace DU := DU.drew
  replace DX := DX.drew
  replace DY := DY.drew
  replace hFU := hFU.drew
  replace hFX := hFX.drew
  replace hFY := hFY.drew
  replace hVY := hVY.drew
  replace DVY := DVY.drew
  replace bz := bz.drew
  refine wp_region_held_drew (S := fun w9 : World => Mbx w9 w.heap.size RU CU AU nU cU ∧ Mbx w9 (w.heap.size + 1) RX CX AX nX cX ∧ Mbx w9 (w.heap.size + 2) RY CY AY nY cY ∧ Vbx w9 HDVY VY) (by kernel_rfl) ⟨DU, DX, DY, DVY⟩ (fun hS => ?_)
  generalize (w4.alloc (.cells (VY).L.toArray 30)).drew = wd4 at hS DU DX DY hFU hFX hFY hVY DVY  bz ⊢
  refine wpAnyH_take (i := 0) (v := ?v0_9) rfl (by kernel_rfl) (by kernel_rfl) (by kernel_rfl) (fun _ _ _ h => h) (Or.inl ⟨by rfl, ?hy0_9⟩) (by assumption) ?rest0_9
  case hy0_9 => (intro w9 hSw; clear hSw; go_simp; try with_reducible rfl)
  try simp only [Act.put, List.setIfInBounds_toArray, List.set_cons_zero, List.set_cons_succ, List.getElem_toArray, List.getElem_cons_zero, List.getElem_cons_succ]
  refine wpAnyH_take (i := 1) (v := ?v1_10) rfl (by kernel_rfl) (by kernel_rfl) (by kernel_rfl) (fun _ _ _ h => h) (Or.inl ⟨by rfl, ?hy1_10⟩) (by assumption) ?rest1_10
  case hy1_10 => (intro w9 hSw; obtain ⟨m0, m1, m2, m3⟩ := hSw; obtain ⟨q0_0, q0_1, q0_2, q0_3, q0_4, q0_5⟩ := Mbx.cells m0; obtain ⟨q1_0, q1_1, q1_2, q1_3, q1_4, q1_5⟩ := Mbx.cells m1; obtain ⟨q2_0, q2_1, q2_2, q2_3, q2_4, q2_5⟩ := Mbx.cells m2; go_simp; try with_reducible rfl)
  try simp only [Act.put, List.setIfInBounds_toArray, List.set_cons_zero, List.set_cons_succ, List.getElem_toArray, List.getElem_cons_zero, List.getElem_cons_succ]
  refine wpAnyH_take (i := 2) (v := ?v2_11) rfl (by kernel_rfl) (by kernel_rfl) (by kernel_rfl) (fun _ _ _ h => h) (Or.inl ⟨by rfl, ?hy2_11⟩) (by assumption) ?rest2_11
  case hy2_11 => (intro w9 hSw; clear hSw; go_simp; try with_reducible rfl)
  try simp only [Act.put, List.setIfInBounds_toArray, List.set_cons_zero, List.set_cons_succ, List.getElem_toArray, List.getElem_cons_zero, List.getElem_cons_succ]
  refine wpAnyH_take (i := 4) (v := ?v4_12) rfl (by kernel_rfl) (by kernel_rfl) (by kernel_rfl) (fun _ _ _ h => h) (Or.inl ⟨by rfl, ?hy4_12⟩) (by assumption) ?rest4_12
  case hy4_12 => (intro w9 hSw; obtain ⟨m0, m1, m2, m3⟩ := hSw; obtain ⟨q0_0, q0_1, q0_2, q0_3, q0_4, q0_5⟩ := Mbx.cells m0; obtain ⟨q1_0, q1_1, q1_2, q1_3, q1_4, q1_5⟩ := Mbx.cells m1; obtain ⟨q2_0, q2_1, q2_2, q2_3, q2_4, q2_5⟩ := Mbx.cells m2; go_simp; try with_reducible rfl)
  try simp only [Act.put, List.setIfInBounds_toArray, List.set_cons_zero, List.set_cons_succ, List.getElem_toArray, List.getElem_cons_zero, List.getElem_cons_succ]
  refine wpAnyH_take (i := 5) (v := ?v5_13) rfl (by kernel_rfl) (by kernel_rfl) (by kernel_rfl) (fun _ _ _ h => h) (Or.inl ⟨by rfl, ?hy5_13⟩) (by assumption) ?rest5_13
  case hy5_13 => (intro w9 hSw; clear hSw; go_simp; try with_reducible rfl)
  try simp only [Act.put, List.setIfInBounds_toArray, List.set_cons_zero, List.set_cons_succ, List.getElem_toArray, List.getElem_cons_zero, List.getElem_cons_succ]
  refine wpAnyH_take (i := 7) (v := ?v7_14) rfl (by kernel_rfl) (by kernel_rfl) (by kernel_rfl) (fun _ _ _ h => h) (Or.inl ⟨by rfl, ?hy7_14⟩) (by assumption) ?rest7_14
  case hy7_14 => (intro w9 hSw; clear hSw; go_simp; try with_reducible rfl)
  try simp only [Act.put, List.setIfInBounds_toArray, List.set_cons_zero, List.set_cons_succ, List.getElem_toArray, List.getElem_cons_zero, List.getElem_cons_succ]
  refine wpAnyH_take (i := 8) (v := ?v8_15) rfl (by kernel_rfl) (by kernel_rfl) (by kernel_rfl) (fun _ _ _ h => h) (Or.inl ⟨by rfl, ?hy8_15⟩) (by assumption) ?rest8_15
  case hy8_15 => (intro w9 hSw; obtain ⟨m0, m1, m2, m3⟩ := hSw; refine (ld_v (by rfl) (by kernel_rfl) m3).trans ?_; with_reducible rfl)
  try simp only [Act.put, List.setIfInBounds_toArray, List.set_cons_zero, List.set_cons_succ, List.getElem_toArray, List.getElem_cons_zero, List.getElem_cons_succ]
  refine wpAnyH_ready (rs := [3]) (by kernel_rfl) (by simp) ?_
  refine AllReadyH.cons rfl (fun K hK => ?_) AllReadyH.nil
  go_simp
  with_reducible refine (of_any turned hFU.fl HSU.out.1 HSU.out.2).mono ?_
  rintro e w5 ⟨VU, sVU, gVU, capVU, cVU, lVU, rfl, hVU, hb⟩
  replace DU := DU.on hb
  replace DX := DX.on hb
  replace DY := DY.on hb
  replace hFU := hFU.on hb
  replace hFX := hFX.on hb
  replace hFY := hFY.on hb
  replace hVY := hVY.on hb
  replace DVY := DVY.on hb
  replace bz := bz.trans (hb.mono bz.size)
  clear hb
  clear hS; refine hK.out _ _ ⟨DU, DX, DY, DVY⟩ (fun hS => ?_); clear hK K
  try simp only [Act.put, List.setIfInBounds_toArray, List.set_cons_zero, List.set_cons_succ, List.getElem_toArray, List.getElem_cons_zero, List.getElem_cons_succ]
  refine wpAnyH_ready (rs := [6]) (by kernel_rfl) (by simp) ?_
  refine AllReadyH.cons rfl (fun K hK => ?_) AllReadyH.nil
  go_simp
  with_reducible refine (of_any turned hFX.fl HSX.out.1 HSX.out.2).mono ?_
  rintro e w6 ⟨VX, sVX, gVX, capVX, cVX, lVX, rfl, hVX, hb⟩
  replace DU := DU.on hb
  replace DX := DX.on hb
  replace DY := DY.on hb
  replace hFU := hFU.on hb
  replace hFX := hFX.on hb
  replace hFY := hFY.on hb
  replace hVY := hVY.on hb
  replace DVY := DVY.on hb
  replace hVU := hVU.on hb
  replace bz := bz.trans (hb.mono bz.size)
  clear hb
  clear hS; refine hK.out _ _ ⟨DU, DX, DY, DVY⟩ (fun hS => ?_); clear hK K
  try simp only [Act.put, List.setIfInBounds_toArray, List.set_cons_zero, List.set_cons_succ, List.getElem_toArray, List.getElem_cons_zero, List.getElem_cons_succ]
  refine wpAnyH_ready (rs := [9]) (by kernel_rfl) (by simp) ?_
  refine AllReadyH.cons rfl (fun K hK => ?_) AllReadyH.nil
  go_simp
  with_reducible refine (symv_yes ba bb hVU hVX hVY HM.out HP.out EX.out EY.out HFT.out HVY.out).mono ?_
  rintro e w66 ⟨ly, G, rfl, hVY2, hI, hg⟩
  replace DU := DU.grown hg (by simp; omega)
  replace hFU := hFU.grown hg (by omega)
  replace DX := DX.grown hg (by simp; omega)
  replace hFX := hFX.grown hg (by omega)
  replace DY := DY.grown hg (by simp; omega)
  replace hFY := hFY.grown hg (by omega)
  replace DVY := DVY.grown hg (by simp; omega)
  replace hVY := hVY2
  replace bz := bz.grown hg bz.size (fun k e => by cases e; omega)
  have HI := Lib.hid hI
  clear hVY2 hg hI
  clear hVU hVX
  clear hS; refine hK.out _ _ ⟨DU, DX, DY, DVY⟩ (fun hS => ?_); clear hK K
  try simp only [Act.put, List.setIfInBounds_toArray, List.set_cons_zero, List.set_cons_succ, List.getElem_toArray, List.getElem_cons_zero, List.getElem_cons_succ]
  refine wpAnyH_take (i := 10) (v := ?v10_16) rfl (by kernel_rfl) (by kernel_rfl) (by kernel_rfl) (fun _ _ _ h => h) (Or.inl ⟨by rfl, ?hy10_16⟩) (by assumption) ?rest10_16
  case hy10_16 => (intro w9 hSw; clear hSw; go_simp; try with_reducible rfl)
  try simp only [Act.put, List.setIfInBounds_toArray, List.set_cons_zero, List.set_cons_succ, List.getElem_toArray, List.getElem_cons_zero, List.getElem_cons_succ]
  refine wpAnyH_done (by kernel_rfl) ?_ _
  have f0 := F0.out
  have f1 := F1.out
  have f2 := F2.out
  have f3 := F3.out
  have f4 := F4.out
  have p9 := rSquare_any RU CU AU nU cU
  rw [f0] at p9
  obtain ⟨kU_0, kU_1, kU_2, kU_3, kU_4, kU_5⟩ := Mbx.cells DU
  obtain ⟨kX_0, kX_1, kX_2, kX_3, kX_4, kX_5⟩ := Mbx.cells DX
  obtain ⟨kY_0, kY_1, kY_2, kY_3, kY_4, kY_5⟩ := Mbx.cells DY
  go_wp2_with fail
  with_reducible refine (p9 _).mono ?_
  rintro e w7 ⟨rfl, hb⟩
  clear kU_0 kU_1 kU_2 kU_3 kU_4 kU_5 kX_0 kX_1 kX_2 kX_3 kX_4 kX_5 kY_0 kY_1 kY_2 kY_3 kY_4 kY_5
  replace DU := DU.on hb
  replace DX := DX.on hb
  replace DY := DY.on hb
  replace hFU := hFU.on hb
  replace hFX := hFX.on hb
  replace hFY := hFY.on hb
  replace hVY := hVY.on hb
  replace DVY := DVY.on hb
  replace bz := bz.trans (hb.mono bz.size)
  clear hb p9
  have p9 := rVector_any RX CX AX nX cX
  rw [f1] at p9
  obtain ⟨kU_0, kU_1, kU_2, kU_3, kU_4, kU_5⟩ := Mbx.cells DU
  obtain ⟨kX_0, kX_1, kX_2, kX_3, kX_4, kX_5⟩ := Mbx.cells DX
  obtain ⟨kY_0, kY_1, kY_2, kY_3, kY_4, kY_5⟩ := Mbx.cells DY
  go_wp2_with fail
  with_reducible refine (p9 _).mono ?_
  rintro e w8 ⟨rfl, hb⟩
  clear kU_0 kU_1 kU_2 kU_3 kU_4 kU_5 kX_0 kX_1 kX_2 kX_3 kX_4 kX_5 kY_0 kY_1 kY_2 kY_3 kY_4 kY_5
  replace DU := DU.on hb
  replace DX := DX.on hb
  replace DY := DY.on hb
  replace hFU := hFU.on hb
  replace hFX := hFX.on hb
  replace hFY := hFY.on hb
  replace hVY := hVY.on hb
  replace DVY := DVY.on hb
  replace bz := bz.trans (hb.mono bz.size)
  clear hb p9
  have p9 := rVector_any RY CY AY nY cY
  rw [f2] at p9
  obtain ⟨kU_0, kU_1, kU_2, kU_3, kU_4, kU_5⟩ := Mbx.cells DU
  obtain ⟨kX_0, kX_1, kX_2, kX_3, kX_4, kX_5⟩ := Mbx.cells DX
  obtain ⟨kY_0, kY_1, kY_2, kY_3, kY_4, kY_5⟩ := Mbx.cells DY
  go_wp2_with fail
  with_reducible refine (p9 _).mono ?_
  rintro e w9 ⟨rfl, hb⟩
  clear kU_0 kU_1 kU_2 kU_3 kU_4 kU_5 kX_0 kX_1 kX_2 kX_3 kX_4 kX_5 kY_0 kY_1 kY_2 kY_3 kY_4 kY_5
  replace DU := DU.on hb
  replace DX := DX.on hb
  replace DY := DY.on hb
  replace hFU := hFU.on hb
  replace hFX := hFX.on hb
  replace hFY := hFY.on hb
  replace hVY := hVY.on hb
  replace DVY := DVY.on hb
  replace bz := bz.trans (hb.mono bz.size)
  clear hb p9
  obtain ⟨kU_0, kU_1, kU_2, kU_3, kU_4, kU_5⟩ := Mbx.cells DU
  obtain ⟨kX_0, kX_1, kX_2, kX_3, kX_4, kX_5⟩ := Mbx.cells DX
  obtain ⟨kY_0, kY_1, kY_2, kY_3, kY_4, kY_5⟩ := Mbx.cells DY
  go_wp2_with fail
  clear kU_0 kU_1 kU_2 kU_3 kU_4 kU_5 kX_0 kX_1 kX_2 kX_3 kX_4 kX_5 kY_0 kY_1 kY_2 kY_3 kY_4 kY_5
  clear f0 f1 f2 f3 f4
  replace DU := DU.drew
  replace DX := DX.drew
  replace DY := DY.drew
  replace hFU := hFU.drew
  replace hFX := hFX.drew
  replace hFY := hFY.drew
  replace hVY := hVY.drew
  replace DVY := DVY.drew
  replace bz := bz.drew
  refine wp_region_held_drew (S := fun w9 : World => Mbx w9 w.heap.size RU CU AU nU cU ∧ Mbx w9 (w.heap.size + 1) RX CX AX nX cX ∧ Mbx w9 (w.heap.size + 2) RY CY AY nY cY ∧ Vbx w9 HDVY VY) (by kernel_rfl) ⟨DU, DX, DY, DVY⟩ (fun hS => ?_)
  generalize w9.drew = wd7 at hS DU DX DY hFU hFX hFY hVY DVY  bz ⊢
  refine wpAnyH_take (i := 0) (v := ?v0_17) rfl (by kernel_rfl) (by kernel_rfl) (by kernel_rfl) (fun _ _ _ h => h) (Or.inl ⟨by rfl, ?hy0_17⟩) (by assumption) ?rest0_17
  case hy0_17 => (intro w9 hSw; clear hSw; go_simp; try with_reducible rfl)
  try simp only [Act.put, List.setIfInBounds_toArray, List.set_cons_zero, List.set_cons_succ, List.getElem_toArray, List.getElem_cons_zero, List.getElem_cons_succ]
  refine wpAnyH_ready (rs := [1]) (by kernel_rfl) (by simp) ?_
  refine AllReadyH.cons rfl (fun K hK => ?_) AllReadyH.nil
  go_simp
  with_reducible refine (num_any _ _).mono ?_
  rintro e v10 ⟨rfl, rfl⟩
  clear hS; refine hK.out _ _ ⟨DU, DX, DY, DVY⟩ (fun hS => ?_); clear hK K
  try simp only [Act.put, List.setIfInBounds_toArray, List.set_cons_zero, List.set_cons_succ, List.getElem_toArray, List.getElem_cons_zero, List.getElem_cons_succ]
  refine wpAnyH_take (i := 2) (v := ?v2_18) rfl (by kernel_rfl) (by kernel_rfl) (by kernel_rfl) (fun _ _ _ h => h) (Or.inl ⟨by rfl, ?hy2_18⟩) (by assumption) ?rest2_18
  case hy2_18 => (intro w9 hSw; clear hSw; go_simp; try with_reducible rfl)
  try simp only [Act.put, List.setIfInBounds_toArray, List.set_cons_zero, List.set_cons_succ, List.getElem_toArray, List.getElem_cons_zero, List.getElem_cons_succ]
  refine wpAnyH_take (i := 3) (v := ?v3_19) rfl (by kernel_rfl) (by kernel_rfl) (by kernel_rfl) (fun _ _ _ h => h) (Or.inl ⟨by rfl, ?hy3_19⟩) (by assumption) ?rest3_19
  case hy3_19 => (intro w9 hSw; clear hSw; go_simp; try with_reducible rfl)
  try simp only [Act.put, List.setIfInBounds_toArray, List.set_cons_zero, List.set_cons_succ, List.getElem_toArray, List.getElem_cons_zero, List.getElem_cons_succ]
  refine wpAnyH_take (i := 4) (v := ?v4_20) rfl (by kernel_rfl) (by kernel_rfl) (by kernel_rfl) (fun _ _ _ h => h) (Or.inl ⟨by rfl, ?hy4_20⟩) (by assumption) ?rest4_20
  case hy4_20 => (intro w9 hSw; obtain ⟨m0, m1, m2, m3⟩ := hSw; refine (ld_v (by rfl) (by kernel_rfl) m3).trans ?_; with_reducible rfl)
  try simp only [Act.put, List.setIfInBounds_toArray, List.set_cons_zero, List.set_cons_succ, List.getElem_toArray, List.getElem_cons_zero, List.getElem_cons_succ]
  refine wpAnyH_take (i := 5) (v := ?v5_21) rfl (by kernel_rfl) (by kernel_rfl) (by kernel_rfl) (fun _ _ _ h => h) (Or.inl ⟨by rfl, ?hy5_21⟩) (by assumption) ?rest5_21
  case hy5_21 => (intro w9 hSw; obtain ⟨m0, m1, m2, m3⟩ := hSw; obtain ⟨q0_0, q0_1, q0_2, q0_3, q0_4, q0_5⟩ := Mbx.cells m0; obtain ⟨q1_0, q1_1, q1_2, q1_3, q1_4, q1_5⟩ := Mbx.cells m1; obtain ⟨q2_0, q2_1, q2_2, q2_3, q2_4, q2_5⟩ := Mbx.cells m2; go_simp; try with_reducible rfl)
  try simp only [Act.put, List.setIfInBounds_toArray, List.set_cons_zero, List.set_cons_succ, List.getElem_toArray, List.getElem_cons_zero, List.getElem_cons_succ]
  refine wpAnyH_take (i := 6) (v := ?v6_22) rfl (by kernel_rfl) (by kernel_rfl) (by kernel_rfl) (fun _ _ _ h => h) (Or.inl ⟨by rfl, ?hy6_22⟩) (by assumption) ?rest6_22
  case hy6_22 => (intro w9 hSw; clear hSw; go_simp; try with_reducible rfl)
  try simp only [Act.put, List.setIfInBounds_toArray, List.set_cons_zero, List.set_cons_succ, List.getElem_toArray, List.getElem_cons_zero, List.getElem_cons_succ]
  refine wpAnyH_take (i := 7) (v := ?v7_23) rfl (by kernel_rfl) (by kernel_rfl) (by kernel_rfl) (fun _ _ _ h => h) (Or.inl ⟨by rfl, ?hy7_23⟩) (by assumption) ?rest7_23
  case hy7_23 => (intro w9 hSw; obtain ⟨m0, m1, m2, m3⟩ := hSw; obtain ⟨q0_0, q0_1, q0_2, q0_3, q0_4, q0_5⟩ := Mbx.cells m0; obtain ⟨q1_0, q1_1, q1_2, q1_3, q1_4, q1_5⟩ := Mbx.cells m1; obtain ⟨q2_0, q2_1, q2_2, q2_3, q2_4, q2_5⟩ := Mbx.cells m2; go_simp; try with_reducible rfl)
  try simp only [Act.put, List.setIfInBounds_toArray, List.set_cons_zero, List.set_cons_succ, List.getElem_toArray, List.getElem_cons_zero, List.getElem_cons_succ]
  refine wpAnyH_take (i := 9) (v := ?v9_24) rfl (by kernel_rfl) (by kernel_rfl) (by kernel_rfl) (fun _ _ _ h => h) (Or.inl ⟨by rfl, ?hy9_24⟩) (by assumption) ?rest9_24
  case hy9_24 => (intro w9 hSw; clear hSw; go_simp; try with_reducible rfl)
  try simp only [Act.put, List.setIfInBounds_toArray, List.set_cons_zero, List.set_cons_succ, List.getElem_toArray, List.getElem_cons_zero, List.getElem_cons_succ]
  refine wpAnyH_take (i := 10) (v := ?v10_25) rfl (by kernel_rfl) (by kernel_rfl) (by kernel_rfl) (fun _ _ _ h => h) (Or.inl ⟨by rfl, ?hy10_25⟩) (by assumption) ?rest10_25
  case hy10_25 => (intro w9 hSw; obtain ⟨m0, m1, m2, m3⟩ := hSw; obtain ⟨q0_0, q0_1, q0_2, q0_3, q0_4, q0_5⟩ := Mbx.cells m0; obtain ⟨q1_0, q1_1, q1_2, q1_3, q1_4, q1_5⟩ := Mbx.cells m1; obtain ⟨q2_0, q2_1, q2_2, q2_3, q2_4, q2_5⟩ := Mbx.cells m2; go_simp; try with_reducible rfl)
  try simp only [Act.put, List.setIfInBounds_toArray, List.set_cons_zero, List.set_cons_succ, List.getElem_toArray, List.getElem_cons_zero, List.getElem_cons_succ]
  refine wpAnyH_take (i := 11) (v := ?v11_26) rfl (by kernel_rfl) (by kernel_rfl) (by kernel_rfl) (fun _ _ _ h => h) (Or.inl ⟨by rfl, ?hy11_26⟩) (by assumption) ?rest11_26
  case hy11_26 => (intro w9 hSw; clear hSw; go_simp; try with_reducible rfl)
  try simp only [Act.put, List.setIfInBounds_toArray, List.set_cons_zero, List.set_cons_succ, List.getElem_toArray, List.getElem_cons_zero, List.getElem_cons_succ]
  refine wpAnyH_take (i := 12) (v := ?v12_27) rfl (by kernel_rfl) (by kernel_rfl) (by kernel_rfl) (fun _ _ _ h => h) (Or.inl ⟨by rfl, ?hy12_27⟩) (by assumption) ?rest12_27
  case hy12_27 => (intro w9 hSw; clear hSw; go_simp; try with_reducible rfl)
  try simp only [Act.put, List.setIfInBounds_toArray, List.set_cons_zero, List.set_cons_succ, List.getElem_toArray, List.getElem_cons_zero, List.getElem_cons_succ]
  refine wpAnyH_take (i := 13) (v := ?v13_28) rfl (by kernel_rfl) (by kernel_rfl) (by kernel_rfl) (fun _ _ _ h => h) (Or.inl ⟨by rfl, ?hy13_28⟩) (by assumption) ?rest13_28
  case hy13_28 => (intro w9 hSw; obtain ⟨m0, m1, m2, m3⟩ := hSw; obtain ⟨q0_0, q0_1, q0_2, q0_3, q0_4, q0_5⟩ := Mbx.cells m0; obtain ⟨q1_0, q1_1, q1_2, q1_3, q1_4, q1_5⟩ := Mbx.cells m1; obtain ⟨q2_0, q2_1, q2_2, q2_3, q2_4, q2_5⟩ := Mbx.cells m2; go_simp; try with_reducible rfl)
  try simp only [Act.put, List.setIfInBounds_toArray, List.set_cons_zero, List.set_cons_succ, List.getElem_toArray, List.getElem_cons_zero, List.getElem_cons_succ]
  refine wpAnyH_ready (rs := [8]) (by kernel_rfl) (by simp) ?_
  refine AllReadyH.cons rfl (fun K hK => ?_) AllReadyH.nil
  go_simp
  have pr := rLower_any (m := m) (q := m) (l := LU) hFU.fl HN.out hm5 hm5 (Nat.le_refl _) (Nat.le_refl _)
  rw [show mV (m : Int) (m : Int) AU nU cU = mV RU CU AU nU cU by rw [HM.out, HC.out]] at pr
  with_reducible refine (pr).mono ?_
  rintro e w11 ⟨A7, c7, L7, rfl, hI7, ho7, hb⟩
  replace DU := DU.on hb
  replace DX := DX.on hb
  replace DY := DY.on hb
  replace hFU := hFU.on hb
  replace hFX := hFX.on hb
  replace hFY := hFY.on hb
  replace hVY := hVY.on hb
  replace DVY := DVY.on hb
  replace bz := bz.trans (hb.mono bz.size)
  clear hb
  clear pr
  have hF7 := hI7.fl ho7
  have HI7 := Lib.hid hI7
  clear ho7 hI7
  clear hS; refine hK.out _ _ ⟨DU, DX, DY, DVY⟩ (fun hS => ?_); clear hK K
  try simp only [Act.put, List.setIfInBounds_toArray, List.set_cons_zero, List.set_cons_succ, List.getElem_toArray, List.getElem_cons_zero, List.getElem_cons_succ]
  refine wpAnyH_ready (rs := [14]) (by kernel_rfl) (by simp) ?_
  refine AllReadyH.cons rfl (fun K hK => ?_) AllReadyH.nil
  go_simp
  have pr := rGemv_any (a := a) (b := b) (m := m) (q := m) ba bb hF7 HN.out hm5 hm5 hFX.fl hFY.fl (by have := HMX.out; omega) (by have := HMY.out; omega)
  with_reducible refine (pr).mono ?_
  rintro e w12 ⟨A8, c8, L8, rfl, hI8, ho8, hb⟩
  replace DU := DU.on hb
  replace DX := DX.on hb
  replace DY := DY.on hb
  replace hFU := hFU.on hb
  replace hFX := hFX.on hb
  replace hFY := hFY.on hb
  replace hVY := hVY.on hb
  replace DVY := DVY.on hb
  replace hF7 := hF7.on hb
  replace bz := bz.trans (hb.mono bz.size)
  clear hb
  clear pr
  have hF8 := hI8.fl ho8
  have HI8 := Lib.hid hI8
  clear ho8 hI8
  clear hS; refine hK.out _ _ ⟨DU, DX, DY, DVY⟩ (fun hS => ?_); clear hK K
  try simp only [Act.put, List.setIfInBounds_toArray, List.set_cons_zero, List.set_cons_succ, List.getElem_toArray, List.getElem_cons_zero, List.getElem_cons_succ]
  refine wpAnyH_ready (rs := [15]) (by kernel_rfl) (by simp) ?_
  refine AllReadyH.cons rfl (fun K hK => ?_) AllReadyH.nil
  go_simp
  with_reducible refine (like_any _ _ _ _ _ _).mono ?_
  rintro e w13 ⟨rfl, hb⟩
  replace DU := DU.on hb
  replace DX := DX.on hb
  replace DY := DY.on hb
  replace hFU := hFU.on hb
  replace hFX := hFX.on hb
  replace hFY := hFY.on hb
  replace hVY := hVY.on hb
  replace DVY := DVY.on hb
  replace hF7 := hF7.on hb
  replace hF8 := hF8.on hb
  replace bz := bz.trans (hb.mono bz.size)
  clear hb
  clear hS; refine hK.out _ _ ⟨DU, DX, DY, DVY⟩ (fun hS => ?_); clear hK K
  try simp only [Act.put, List.setIfInBounds_toArray, List.set_cons_zero, List.set_cons_succ, List.getElem_toArray, List.getElem_cons_zero, List.getElem_cons_succ]
  refine wpAnyH_ready (rs := [16]) (by kernel_rfl) (by simp) ?_
  refine AllReadyH.cons rfl (fun K hK => ?_) AllReadyH.nil
  go_simp
  with_reducible refine (shows_true hVY.sv hF8 hVY.R hVY.C (Is.same HI.out (symv_same HI8.out HI7.out HMY.out HN.out))).mono ?_
  rintro e w14 ⟨rfl, hb⟩
  replace DU := DU.on hb
  replace DX := DX.on hb
  replace DY := DY.on hb
  replace hFU := hFU.on hb
  replace hFX := hFX.on hb
  replace hFY := hFY.on hb
  replace hVY := hVY.on hb
  replace DVY := DVY.on hb
  replace hF7 := hF7.on hb
  replace hF8 := hF8.on hb
  replace bz := bz.trans (hb.mono bz.size)
  clear hb
  clear hS; refine hK.out _ _ ⟨DU, DX, DY, DVY⟩ (fun hS => ?_); clear hK K
  try simp only [Act.put, List.setIfInBounds_toArray, List.set_cons_zero, List.set_cons_succ, List.getElem_toArray, List.getElem_cons_zero, List.getElem_cons_succ]
  refine wpAnyH_take (i := 17) (v := ?v17_29) rfl (by kernel_rfl) (by kernel_rfl) (by kernel_rfl) (fun _ _ _ h => h) (Or.inl ⟨by rfl, ?hy17_29⟩) (by assumption) ?rest17_29
  case hy17_29 => (intro w9 hSw; clear hSw; go_simp; try with_reducible rfl)
  try simp only [Act.put, List.setIfInBounds_toArray, List.set_cons_zero, List.set_cons_succ, List.getElem_toArray, List.getElem_cons_zero, List.getElem_cons_succ]
  refine wpAnyH_take (i := 18) (v := ?v18_30) rfl (by kernel_rfl) (by kernel_rfl) (by kernel_rfl) (fun _ _ _ h => h) (Or.inl ⟨by rfl, ?hy18_30⟩) (by assumption) ?rest18_30
  case hy18_30 => (intro w9 hSw; clear hSw; go_simp; try with_reducible rfl)
  try simp only [Act.put, List.setIfInBounds_toArray, List.set_cons_zero, List.set_cons_succ, List.getElem_toArray, List.getElem_cons_zero, List.getElem_cons_succ]
  refine wpAnyH_ready (rs := [19]) (by kernel_rfl) (by simp) ?_
  refine AllReadyH.cons rfl (fun K hK => ?_) AllReadyH.nil
  go_simp
  with_reducible refine (known_any _).mono ?_
  rintro e w15 ⟨rfl, hb⟩
  replace DU := DU.on hb
  replace DX := DX.on hb
  replace DY := DY.on hb
  replace hFU := hFU.on hb
  replace hFX := hFX.on hb
  replace hFY := hFY.on hb
  replace hVY := hVY.on hb
  replace DVY := DVY.on hb
  replace hF7 := hF7.on hb
  replace hF8 := hF8.on hb
  replace bz := bz.trans (hb.mono bz.size)
  clear hb
  clear hS; refine hK.out _ _ ⟨DU, DX, DY, DVY⟩ (fun hS => ?_); clear hK K
  try simp only [Act.put, List.setIfInBounds_toArray, List.set_cons_zero, List.set_cons_succ, List.getElem_toArray, List.getElem_cons_zero, List.getElem_cons_succ]
  refine wpAnyH_take (i := 20) (v := ?v20_31) rfl (by kernel_rfl) (by kernel_rfl) (by kernel_rfl) (fun _ _ _ h => h) (Or.inl ⟨by rfl, ?hy20_31⟩) (by assumption) ?rest20_31
  case hy20_31 => (intro w9 hSw; clear hSw; go_simp; try with_reducible rfl)
  try simp only [Act.put, List.setIfInBounds_toArray, List.set_cons_zero, List.set_cons_succ, List.getElem_toArray, List.getElem_cons_zero, List.getElem_cons_succ]
  refine wpAnyH_take (i := 21) (v := ?v21_32) rfl (by kernel_rfl) (by kernel_rfl) (by kernel_rfl) (fun _ _ _ h => h) (Or.inl ⟨by rfl, ?hy21_32⟩) (by assumption) ?rest21_32
  case hy21_32 => (intro w9 hSw; clear hSw; go_simp; try with_reducible rfl)
  try simp only [Act.put, List.setIfInBounds_toArray, List.set_cons_zero, List.set_cons_succ, List.getElem_toArray, List.getElem_cons_zero, List.getElem_cons_succ]
  refine wpAnyH_done (by kernel_rfl) ?_ _
  go_wp2_with fail
  go_ret
  exact ⟨rfl, bz⟩
theorem KernelsSymv_law {w : World} {RU CU : Int} {AU : Option Addr} {nU cU : Nat} {LU : List Int} {RX CX : Int} {AX : Option Addr} {nX cX : Nat} {LX : List Int} {RY CY : Int} {AY : Option Addr} {nY cY : Nat} {LY : List Int} {a b : Nat} {turned : Bool} (ba : a ≤ 18446744073709551615) (bb : b ≤ 18446744073709551615) (hU : FL w AU nU cU LU) (hX : FL w AX nX cX LX) (hY : FL w AY nY cY LY) : Calls Try.prog 6 #[.float .f64 a, mV RU CU AU nU cU, mV RX CX AX nX cX, .float .f64 b, mV RY CY AY nY cY, .bool turned] w (Ans w (.bool true)) := by
  cases bU : bigM RU CU nU
  · cases bX : bigM RX CX nX
    · cases bY : bigM RY CY nY
      · cases hf : ((RU == CU) && vecM RX CX && vecM RY CY && !(CU != (nX : Int)) && !(RU != (nY : Int)))
        · exact KernelsSymv_no ba bb hU hX hY bU bX bY hf
        · exact KernelsSymv_yes ba bb hU hX hY bU bX bY hf
      · exact KernelsSymv_big3 ba bb hU hX hY bU bX bY
    · exact KernelsSymv_big2 ba bb hU hX hY bU bX
  · exact KernelsSymv_big1 ba bb hU hX hY bU
end Go.Proofs.Ytfelmkkkaphkpaa
