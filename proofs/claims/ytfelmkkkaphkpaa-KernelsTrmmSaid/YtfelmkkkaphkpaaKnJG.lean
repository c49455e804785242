/-
  Layer 8, walks: kernels where they refuse: Trmm. (Written by wip/tools/gen_knj.py.)
-/
import Derived.Test.YtfelmkkkaphkpaaKnF
namespace Go.Proofs.Ytfelmkkkaphkpaa
open Go.RowKit Go.Bw Go.Sort Go.Shelf
set_option linter.unusedVariables false
set_option linter.unusedSimpArgs false

section
variable {w : World} {u x y : Vu} {U X Y : List Int} {a b : Nat} {up unit : Bool}
set_option maxRecDepth 100000 in
set_option maxHeartbeats 8000000 in
theorem Trmm_no0 (hx : Sv w x X) (hy : Sv w y Y) {E : Int}  (he : refE (szd x y.R y.R) [x, y] = E) (hn : E ≠ 0) : Calls Try.prog 47 #[.bool up, .bool unit, x.V, y.V] w (Ans w (.int .i64 E)) := by
  have hft : True := trivial
  clear hft
  obtain ⟨FV, hFV⟩ : ∃ z, (szd x y.R y.R) = z := ⟨_, rfl⟩
  rw [hFV] at he
  have HSx := Lib.hid hx
  have HSy := Lib.hid hy
  have hne : (E != 0) = true := by simpa using hn
  have HE := Lib.hid he
  have p2 := fun (W : World) (bz : Below w.heap.size w W) => sized_is x y.R y.R W
  simp only [hFV] at p2
  clear he hn hx hy hFV
  have Dx := Blk.new w x.L 30
  have Dy := Blk.new (w.alloc (.cells x.L.toArray 30)) y.L 30
  replace Dx := Dx.alloc (.cells y.L.toArray 30)
  simp only [World.size_alloc] at Dy
  have bz := ((Below.refl _ w).alloc (Nat.le_refl _) (.cells x.L.toArray 30)).alloc (by simp <;> omega) (.cells y.L.toArray 30)
  have hsz0 : ((w.alloc (.cells x.L.toArray 30)).alloc (.cells y.L.toArray 30)).heap.size = w.heap.size + 2 := by simp
  go_enter Try.func47, Try.ntmps47
  go_wp2_with fail
  replace Dx := Dx.drew
  replace Dy := Dy.drew
  replace bz := bz.drew
  refine wp_region_held_drew (S := fun w9 : World => Vbx w9 w.heap.size x ∧ Vbx w9 (w.heap.size + 1) y) (by kernel_rfl) ⟨Dx, Dy⟩ (fun hS => ?_)
  generalize ((w.alloc (.cells x.L.toArray 30)).alloc (.cells y.L.toArray 30)).drew = wd at hS Dx Dy  bz ⊢
  refine wpAnyH_take (i := 0) (v := ?v0_103) rfl (by kernel_rfl) (by kernel_rfl) (by kernel_rfl) (fun _ _ _ h => h) (Or.inl ⟨by rfl, ?hy0_103⟩) (by assumption) ?rest0_103
  case hy0_103 => (intro w9 hSw; obtain ⟨m0, m1⟩ := hSw; refine (ld_v (by rfl) (by kernel_rfl) m0).trans ?_; with_reducible rfl)
  try simp only [Act.put, List.setIfInBounds_toArray, List.set_cons_zero, List.set_cons_succ, List.getElem_toArray, List.getElem_cons_zero, List.getElem_cons_succ]
  refine wpAnyH_take (i := 1) (v := ?v1_104) rfl (by kernel_rfl) (by kernel_rfl) (by kernel_rfl) (fun _ _ _ h => h) (Or.inl ⟨by rfl, ?hy1_104⟩) (by assumption) ?rest1_104
  case hy1_104 => (intro w9 hSw; obtain ⟨m0, m1⟩ := hSw; refine (ld_v (by rfl) (by kernel_rfl) m1).trans ?_; with_reducible rfl)
  try simp only [Act.put, List.setIfInBounds_toArray, List.set_cons_zero, List.set_cons_succ, List.getElem_toArray, List.getElem_cons_zero, List.getElem_cons_succ]
  refine wpAnyH_take (i := 3) (v := ?v3_105) rfl (by kernel_rfl) (by kernel_rfl) (by kernel_rfl) (fun _ _ _ h => h) (Or.inl ⟨by rfl, ?hy3_105⟩) (by assumption) ?rest3_105
  case hy3_105 => (intro w9 hSw; obtain ⟨m0, m1⟩ := hSw; refine (ld_v (by rfl) (by kernel_rfl) m1).trans ?_; with_reducible rfl)
  try simp only [Act.put, List.setIfInBounds_toArray, List.set_cons_zero, List.set_cons_succ, List.getElem_toArray, List.getElem_cons_zero, List.getElem_cons_succ]
  refine wpAnyH_ready (rs := [2]) (by kernel_rfl) (by simp) ?_
  refine AllReadyH.cons rfl (fun K hK => ?_) AllReadyH.nil
  go_simp
  with_reducible refine (Rows_any y _).mono ?_
  rintro e w1 ⟨rfl, hb⟩
  replace Dx := Dx.on hb
  replace Dy := Dy.on hb
  replace bz := bz.trans (hb.mono bz.size)
  clear hb
  refine hK.out _ _ ⟨Dx, Dy⟩ (fun hH => ?_)
  clear hK K hS
  have hS := hH
  clear hH
  try simp only [Act.put, List.setIfInBounds_toArray, List.set_cons_zero, List.set_cons_succ, List.getElem_toArray, List.getElem_cons_zero, List.getElem_cons_succ]
  refine wpAnyH_ready (rs := [4]) (by kernel_rfl) (by simp) ?_
  refine AllReadyH.cons rfl (fun K hK => ?_) AllReadyH.nil
  go_simp
  with_reducible refine (Rows_any y _).mono ?_
  rintro e w2 ⟨rfl, hb⟩
  replace Dx := Dx.on hb
  replace Dy := Dy.on hb
  replace bz := bz.trans (hb.mono bz.size)
  clear hb
  refine hK.out _ _ ⟨Dx, Dy⟩ (fun hH => ?_)
  clear hK K hS
  have hS := hH
  clear hH
  try simp only [Act.put, List.setIfInBounds_toArray, List.set_cons_zero, List.set_cons_succ, List.getElem_toArray, List.getElem_cons_zero, List.getElem_cons_succ]
  refine wpAnyH_ready (rs := [5]) (by kernel_rfl) (by simp) ?_
  refine AllReadyH.cons rfl (fun K hK => ?_) AllReadyH.nil
  go_simp
  with_reducible refine (p2 _ bz).mono ?_
  rintro e w3 ⟨rfl, hb⟩
  replace Dx := Dx.on hb
  replace Dy := Dy.on hb
  replace bz := bz.trans (hb.mono bz.size)
  clear hb
  refine hK.out _ _ ⟨Dx, Dy⟩ (fun hH => ?_)
  clear hK K hS
  have hS := hH
  clear hH
  try simp only [Act.put, List.setIfInBounds_toArray, List.set_cons_zero, List.set_cons_succ, List.getElem_toArray, List.getElem_cons_zero, List.getElem_cons_succ]
  refine wpAnyH_take (i := 6) (v := ?v6_106) rfl (by kernel_rfl) (by kernel_rfl) (by kernel_rfl) (fun _ _ _ h => h) (Or.inl ⟨by rfl, ?hy6_106⟩) (by assumption) ?rest6_106
  case hy6_106 => (intro w9 hSw; clear hSw; go_simp; try with_reducible rfl)
  try simp only [Act.put, List.setIfInBounds_toArray, List.set_cons_zero, List.set_cons_succ, List.getElem_toArray, List.getElem_cons_zero, List.getElem_cons_succ]
  refine wpAnyH_done (by kernel_rfl) ?_ _
  obtain ⟨v0_0, v0_1, v0_2, v0_3, v0_4, v0_5, v0_6, v0_7, v0_8⟩ := Vbx.cells Dx
  obtain ⟨v1_0, v1_1, v1_2, v1_3, v1_4, v1_5, v1_6, v1_7, v1_8⟩ := Vbx.cells Dy
  have hL : VLs (w3.alloc (.cells #[.pointer x.p, .int .i64 x.f0, .int .i64 x.f1, .int .i64 x.d0, .int .i64 x.d1, .int .i64 x.r0, .int .i64 x.r1, .int .i64 x.R, .int .i64 x.C, .pointer y.p, .int .i64 y.f0, .int .i64 y.f1, .int .i64 y.d0, .int .i64 y.d1, .int .i64 y.r0, .int .i64 y.r1, .int .i64 y.R, .int .i64 y.C] 30)) ⟨w3.heap.size, 0, none⟩ [x, y] := VLs.of (Blk.new w3 ([x, y].flatMap Vu.L) 30)
  replace Dx := Dx.on ((Below.refl _ _).alloc (Nat.le_refl _) ((.cells #[.pointer x.p, .int .i64 x.f0, .int .i64 x.f1, .int .i64 x.d0, .int .i64 x.d1, .int .i64 x.r0, .int .i64 x.r1, .int .i64 x.R, .int .i64 x.C, .pointer y.p, .int .i64 y.f0, .int .i64 y.f1, .int .i64 y.d0, .int .i64 y.d1, .int .i64 y.r0, .int .i64 y.r1, .int .i64 y.R, .int .i64 y.C] 30)))
  replace Dy := Dy.on ((Below.refl _ _).alloc (Nat.le_refl _) ((.cells #[.pointer x.p, .int .i64 x.f0, .int .i64 x.f1, .int .i64 x.d0, .int .i64 x.d1, .int .i64 x.r0, .int .i64 x.r1, .int .i64 x.R, .int .i64 x.C, .pointer y.p, .int .i64 y.f0, .int .i64 y.f1, .int .i64 y.d0, .int .i64 y.d1, .int .i64 y.r0, .int .i64 y.r1, .int .i64 y.R, .int .i64 y.C] 30)))
  replace bz := bz.alloc bz.size ((.cells #[.pointer x.p, .int .i64 x.f0, .int .i64 x.f1, .int .i64 x.d0, .int .i64 x.d1, .int .i64 x.r0, .int .i64 x.r1, .int .i64 x.R, .int .i64 x.C, .pointer y.p, .int .i64 y.f0, .int .i64 y.f1, .int .i64 y.d0, .int .i64 y.d1, .int .i64 y.r0, .int .i64 y.r1, .int .i64 y.R, .int .i64 y.C] 30))
  go_wp2_with fail
  with_reducible refine (refused_is FV (vs := [x, y]) (n := 2) rfl (by omega) hL (by intro z hz; simp only [List.mem_cons, List.mem_nil_iff, or_false] at hz; rcases hz with rfl | rfl; exact ⟨_, HSx.out.on bz⟩; exact ⟨_, HSy.out.on bz⟩)).mono ?_
  rintro e w4 ⟨rfl, hb⟩
  clear v0_0 v0_1 v0_2 v0_3 v0_4 v0_5 v0_6 v0_7 v0_8 v1_0 v1_1 v1_2 v1_3 v1_4 v1_5 v1_6 v1_7 v1_8
  replace Dx := Dx.on hb
  replace Dy := Dy.on hb
  replace hL := hL.on hb
  replace bz := bz.trans (hb.mono bz.size)
  clear hb hL
  rw [HE.out]
  go_wp2_with fail
  go_ret
  exact ⟨rfl, bz⟩
theorem Trmm_no (hx : Sv w x X) (hy : Sv w y Y) {E : Int} (he : refE (szd x y.R y.R) [x, y] = E) (hn : E ≠ 0) : Calls Try.prog 47 #[.bool up, .bool unit, x.V, y.V] w (Ans w (.int .i64 E)) := by
  exact Trmm_no0 hx hy  he hn
end
end Go.Proofs.Ytfelmkkkaphkpaa
