/-
  Layer 7, walks: the reference's Matrix. (Written by wip/tools/gen_vxd.py.)
-/
import Derived.Test.YtceoefgjjekgaaaVxC
namespace Go.Proofs.Ytceoefgjjekgaaa
open Go.RowKit Go.Bw Go.Sort Go.Shelf
set_option linter.unusedVariables false
set_option linter.unusedSimpArgs false

theorem OwnF.farC {w : World} {B : Nat} {A : Option Addr} {c : Nat} {l : List Int} (h : OwnF w B A c l) {p : Addr} (hp : p.block < B) (u : Value) : OwnF (w.setCell p u) B A c l := by
  rcases h with ⟨h1, h2⟩
  refine ⟨h1, h2.imp id fun ⟨g, cap, cur, hv, hg, hh, r⟩ => ⟨g, cap, cur, hv, hg, (Below.heap_setCell w p u g (by omega)).trans hh, r⟩⟩
section
variable {w : World} {A : Option Addr} {n cd c s : Nat} {r : Ru} {v : Vu} {K : Int} {B : Nat} {l : List Int}
/-- a new matrix, its list of the call's own -/
def NewM (w : World) (R C : Int) (F : List Int) (e : Ending) (w' : World) : Prop := ∃ A3 c3, e = .returned (mV R C A3 F.length c3) ∧ OwnF w' w.heap.size A3 c3 F ∧ Below w.heap.size w w'
set_option maxRecDepth 100000 in
set_option maxHeartbeats 4000000 in
theorem rMatrix_any (h : Rk w A n cd r v c) (hs : Sr w B A n cd l) (hv : Vk v s c n K) :
    Calls Try.prog 36 #[r.V] w (NewM w v.R v.C (v.fl c l)) := by
  rw [← h.R, ← h.C]
  have DR := (Blk.new w r.L 51).alloc (.cells #[.int .i64 0, .int .i64 0, .slice none 0 0] 24)
  have DM := Blk.new (w.alloc (.cells r.L.toArray 51)) [.int .i64 0, .int .i64 0, .slice none 0 0] 24
  rw [World.size_alloc] at DM
  have bw := ((Below.refl _ w).alloc (Nat.le_refl _) (.cells r.L.toArray 51)).alloc (by simp) (.cells #[.int .i64 0, .int .i64 0, .slice none 0 0] 24)
  have HH := Lib.hid h
  have HS := Lib.hid hs
  have HV := Lib.hid hv
  clear h hs hv
  obtain ⟨A', n', c', R, C, A2, n2, c2, b⟩ := r
  obtain ⟨F, hF⟩ : ∃ F, v.fl c l = F := ⟨_, rfl⟩
  rw [hF]
  have pl : ∀ W, Below w.heap.size w W → Calls Try.prog 34 #[Ru.V ⟨A', n', c', R, C, A2, n2, c2, b⟩] W (NewL W F) := fun W hW => by rw [← hF]; exact rList_any (HH.out.on hW) (HS.out.on hW) HV.out
  clear hF
  go_enter Try.func36, Try.ntmps36
  go_upto_region 1 with fail
  generalize hW0 : (w.alloc _).alloc _ = W0 at DR DM bw ⊢
  have hsz : W0.heap.size = w.heap.size + 2 := by rw [← hW0]; simp
  clear hW0
  refine wp_only ?_
  refine wp_region_held_drew (S := fun w9 : World => Rbx w9 w.heap.size ⟨A', n', c', R, C, A2, n2, c2, b⟩) (by kernel_rfl) DR.drew (fun hS => ?_)
  refine wpAnyH_take (i := 0) (v := ?v0_7) rfl (by kernel_rfl) (by kernel_rfl) (by kernel_rfl) (fun _ _ _ h => h) (Or.inl ⟨by rfl, ?hy0_7⟩) (by assumption) ?rest0_7
  case hy0_7 => (intro w9 hSw; clear hSw; go_simp; try with_reducible rfl)
  try simp only [Act.put, List.setIfInBounds_toArray, List.set_cons_zero, List.set_cons_succ, List.getElem_toArray, List.getElem_cons_zero, List.getElem_cons_succ]
  refine wpAnyH_take (i := 1) (v := ?v1_8) rfl (by kernel_rfl) (by kernel_rfl) (by kernel_rfl) (fun _ _ _ h => h) (Or.inl ⟨by rfl, ?hy1_8⟩) (by assumption) ?rest1_8
  case hy1_8 => (intro w9 hSw; obtain ⟨k0, k1, k2, k3, k4⟩ := Rbx.cells hSw; go_simp; try with_reducible rfl)
  try simp only [Act.put, List.setIfInBounds_toArray, List.set_cons_zero, List.set_cons_succ, List.getElem_toArray, List.getElem_cons_zero, List.getElem_cons_succ]
  refine wpAnyH_take (i := 2) (v := ?v2_9) rfl (by kernel_rfl) (by kernel_rfl) (by kernel_rfl) (fun _ _ _ h => h) (Or.inl ⟨by rfl, ?hy2_9⟩) (by assumption) ?rest2_9
  case hy2_9 => (intro w9 hSw; clear hSw; go_simp; try with_reducible rfl)
  try simp only [Act.put, List.setIfInBounds_toArray, List.set_cons_zero, List.set_cons_succ, List.getElem_toArray, List.getElem_cons_zero, List.getElem_cons_succ]
  refine wpAnyH_take (i := 3) (v := ?v3_10) rfl (by kernel_rfl) (by kernel_rfl) (by kernel_rfl) (fun _ _ _ h => h) (Or.inl ⟨by rfl, ?hy3_10⟩) (by assumption) ?rest3_10
  case hy3_10 => (intro w9 hSw; obtain ⟨k0, k1, k2, k3, k4⟩ := Rbx.cells hSw; go_simp; try with_reducible rfl)
  try simp only [Act.put, List.setIfInBounds_toArray, List.set_cons_zero, List.set_cons_succ, List.getElem_toArray, List.getElem_cons_zero, List.getElem_cons_succ]
  refine wpAnyH_take (i := 4) (v := ?v4_11) rfl (by kernel_rfl) (by kernel_rfl) (by kernel_rfl) (fun _ _ _ h => h) (Or.inl ⟨by rfl, ?hy4_11⟩) (by assumption) ?rest4_11
  case hy4_11 => (intro w9 hSw; obtain ⟨k0, k1, k2, k3, k4⟩ := Rbx.cells hSw; go_simp; try with_reducible rfl)
  try simp only [Act.put, List.setIfInBounds_toArray, List.set_cons_zero, List.set_cons_succ, List.getElem_toArray, List.getElem_cons_zero, List.getElem_cons_succ]
  refine wpAnyH_ready (rs := [5]) (by kernel_rfl) (by simp) ?_
  refine AllReadyH.cons rfl (fun K hK => ?_) AllReadyH.nil
  go_simp
  with_reducible refine (pl _ bw.drew).mono ?_
  rintro e w2 ⟨A3, c3, rfl, hown, hb⟩
  replace DR := (DR.drew).on hb
  replace DM := (DM.drew).on hb
  replace bw := bw.drew.trans (hb.mono (by simp; omega))
  refine hK.out _ _ DR (fun hH => ?_)
  clear hK K hS
  have hS := hH
  clear hH
  try simp only [Act.put, List.setIfInBounds_toArray, List.set_cons_zero, List.set_cons_succ, List.getElem_toArray, List.getElem_cons_zero, List.getElem_cons_succ]
  refine wpAnyH_take (i := 6) (v := ?v6_12) rfl (by kernel_rfl) (by kernel_rfl) (by kernel_rfl) (fun _ _ _ h => h) (Or.inl ⟨by rfl, ?hy6_12⟩) (by assumption) ?rest6_12
  case hy6_12 => (intro w9 hSw; clear hSw; go_simp; try with_reducible rfl)
  try simp only [Act.put, List.setIfInBounds_toArray, List.set_cons_zero, List.set_cons_succ, List.getElem_toArray, List.getElem_cons_zero, List.getElem_cons_succ]
  obtain ⟨DM_0, DM_1, DM_2, DM_f0, DM_f1, DM_f2⟩ := Mbx.cells DM
  refine wpAnyH_ready (rs := [7]) (by kernel_rfl) (by simp) ?_
  refine AllReadyH.cons rfl (fun K hK => ?_) AllReadyH.nil
  go_simp
  clear DM_0 DM_1 DM_2 DM_f0 DM_f1 DM_f2
  refine hK.out _ _ (Blk.far (Blk.far (Blk.far DR (by simp) _) (by simp) _) (by simp) _) (fun hH => ?_)
  clear hK K hS
  have hS := hH
  clear hH
  try simp only [Act.put, List.setIfInBounds_toArray, List.set_cons_zero, List.set_cons_succ, List.getElem_toArray, List.getElem_cons_zero, List.getElem_cons_succ]
  refine wpAnyH_done (by kernel_rfl) ?_ _
  simp only [onlyN]
  obtain ⟨DM_0, DM_1, DM_2, DM_f0, DM_f1, DM_f2⟩ := Mbx.cells (Mbx.put DM R C A3 F.length c3)
  go_wp2_with fail
  refine bodyPost_ret (v := mV R C A3 F.length c3) (by simp [results, Try.results36, go_sem, DM_0, DM_1, DM_2, DM_f0, DM_f1, DM_f2]) rfl ?_
  refine ⟨A3, c3, rfl, ?_, by go_grown⟩
  exact (((hown.farC (by simp; omega) _).farC (by simp; omega) _).farC (by simp; omega) _).less (by simp; omega)
end
end Go.Proofs.Ytceoefgjjekgaaa
