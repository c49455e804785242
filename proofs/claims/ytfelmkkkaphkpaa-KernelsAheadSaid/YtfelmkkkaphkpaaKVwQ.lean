/-
  Layer 7, walks: a view's matrix, whole; a copy. (Written by wip/tools/gen_vwq.py.)
-/
import Derived.Test.YtfelmkkkaphkpaaKVwP
namespace Go.Proofs.Ytfelmkkkaphkpaa
open Go.RowKit Go.Bw Go.Sort Go.Shelf
set_option linter.unusedVariables false
set_option linter.unusedSimpArgs false

section
variable {w : World} {v : Vu} {K : Int} {B s g cap c n : Nat} {l : List Int}
theorem run_field_m (R C : Int) (A : Option Addr) (n cap : Nat) (w : World) : (Instr.field 24 (.agg #[.int .i64 R, .int .i64 C, .slice A n cap]) 2).run Try.prog w = .ok (.slice A n cap) w := by kernel_rfl
theorem fl_zero (c : Nat) (l : List Int) : Vu.zero.fl c l = [] := by unfold Vu.fl; simp
theorem Matrix_any (hv : Vk v s c n K) (hs : v.p ≠ none → St w B s g cap c l ∧ l.length = n) : Calls Try.prog 51 #[v.V] w (MatA w v.R v.C (v.fl c l)) := by
  by_cases hp : v.p = none
  · have e := hv.none_ hp
    subst e
    rw [fl_zero]
    exact Matrix_none hp w
  · refine (Matrix_yes hv (hs hp).1 (hs hp).2 hp).mono ?_
    rintro e w' ⟨g, cap, rfl, h1, h2⟩
    exact ⟨_, cap, rfl, h1, (fun h => by cases h), h2⟩
theorem wd_fl (h : v.p ≠ none → Wd l) (hz : v.p = none → v = Vu.zero) : Wd (v.fl c l) := fun x hx => by
  unfold Vu.fl at hx
  obtain ⟨k, _, rfl⟩ := List.mem_map.1 hx
  exact at_bd h hz _ _

set_option maxHeartbeats 2000000 in
theorem Copy_none (hp : v.p = none) (hz : v = Vu.zero) (w : World) : Calls Try.prog 76 #[v.V] w (Ans w Vu.zero.V) := by
  have pv := none_any v
  rw [show (v.p == none) = true by rw [hp]; rfl] at pv
  subst hz
  clear hp
  have DV := (Blk.new w Vu.zero.L 30).alloc (.cells Vu.zero.L.toArray 30)
  have DZ := Blk.new (w.alloc (.cells Vu.zero.L.toArray 30)) Vu.zero.L 30
  rw [World.size_alloc] at DZ
  have bz := ((Below.refl _ w).alloc (Nat.le_refl _) (.cells Vu.zero.L.toArray 30)).alloc (by simp) (.cells Vu.zero.L.toArray 30)
  go_enter Try.func76, Try.ntmps76
  go_wp2_with fail
  with_reducible refine (pv _).mono ?_
  rintro e w1 ⟨rfl, hb⟩
  replace DZ := DZ.on hb
  replace DV := DV.on hb
  replace bz := bz.trans (hb.mono (by simp; omega))
  obtain ⟨c0, c1, c2, c3, c4, c5, c6, c7, c8⟩ := Vbx.cells DV
  obtain ⟨k0, k1, k2, k3, k4, k5, k6, k7, k8⟩ := Vbx.cells DZ
  obtain ⟨z0, z1, z2, z3, z4, z5, z6, z7, z8⟩ := Vbx.free DZ
  go_wp2_with fail
  refine bodyPost_ret (v := (.agg #[.pointer none, .int .i64 0, .int .i64 0, .int .i64 0, .int .i64 0, .int .i64 0, .int .i64 0, .int .i64 0, .int .i64 0])) (by simp [results, Try.results76, go_sem, k0, k1, k2, k3, k4, k5, k6, k7, k8]) rfl ?_
  exact ⟨rfl, by go_grown⟩

/-- a view of a new store -/
def NewU (w : World) (R C : Int) (l : List Int) (e : Ending) (w' : World) : Prop := ∃ s g cap, e = .returned (Vu.all s R C).V ∧ St w' w.heap.size s g cap C.toNat l ∧ Below w.heap.size w w'
set_option maxRecDepth 100000 in
set_option maxHeartbeats 4000000 in
theorem Copy_yes (hv : Vk v s c n K) (hs : St w B s g cap c l) (hl : l.length = n) (hp : v.p ≠ none) : Calls Try.prog 76 #[v.V] w (NewU w v.R v.C (v.fl c l)) := by
  have pv := none_any v
  have hzn : (v.p == none) = false := by cases h : v.p; exact absurd h hp; rfl
  rw [hzn] at pv
  obtain ⟨_, ⟨R0, R1⟩, C0, C1⟩ : True ∧ (0 ≤ v.R ∧ v.R ≤ 512) ∧ 0 ≤ v.C ∧ v.C ≤ 512 := ⟨trivial, hv.bd.R, hv.bd.C⟩
  have hlen : (v.fl c l).length ≤ 262144 := by
    rw [fl_length]
    have := (prod_bd R0 R1 C0 C1).2
    omega
  have hwd : Wd (v.fl c l) := wd_fl (fun _ => hs.wd) hv.none_
  have pm := fun W (h : Below w.heap.size w W) => Matrix_yes (w := W) hv (hs.on h) hl hp
  have pw := fun (A : Option Addr) (n cap : Nat) (W : World) => whole_any v.R v.C A n cap W
  obtain ⟨F, hF⟩ : ∃ F, v.fl c l = F := ⟨_, rfl⟩
  rw [hF] at hlen hwd ⊢
  simp only [hF] at pm
  clear hF hp hzn
  have DV := (Blk.new w v.L 30).alloc (.cells Vu.zero.L.toArray 30)
  have DZ := Blk.new (w.alloc (.cells v.L.toArray 30)) Vu.zero.L 30
  rw [World.size_alloc] at DZ
  have bz := ((Below.refl _ w).alloc (Nat.le_refl _) (.cells v.L.toArray 30)).alloc (by simp) (.cells Vu.zero.L.toArray 30)
  clear hv hs
  obtain ⟨p, f0, f1, d0, d1, r0, r1, R, C⟩ := v
  simp only at R0 R1 C0 C1
  go_enter Try.func76, Try.ntmps76
  go_wp2_with fail
  with_reducible refine (pv _).mono ?_
  rintro e w1 ⟨rfl, hb⟩
  replace DZ := DZ.on hb
  replace DV := DV.on hb
  replace bz := bz.trans (hb.mono (by simp; omega))
  have hsz1 := DZ.lt
  clear hb
  go_wp2_with fail
  refine wp_region_held_drew (S := fun w9 : World => Vbx w9 w.heap.size ⟨p, f0, f1, d0, d1, r0, r1, R, C⟩) (by kernel_rfl) DV.drew (fun hS => ?_)
  refine wpAnyH_take (i := 0) (v := ?v0_1) rfl (by kernel_rfl) (by kernel_rfl) (by kernel_rfl) (fun _ _ _ h => h) (Or.inl ⟨by rfl, ?hy0_1⟩) (by assumption) ?rest0_1
  case hy0_1 => (intro w9 hSw; clear hSw; go_simp; try with_reducible rfl)
  try simp only [Act.put, List.setIfInBounds_toArray, List.set_cons_zero, List.set_cons_succ, List.getElem_toArray, List.getElem_cons_zero, List.getElem_cons_succ]
  refine wpAnyH_take (i := 1) (v := ?v1_2) rfl (by kernel_rfl) (by kernel_rfl) (by kernel_rfl) (fun _ _ _ h => h) (Or.inl ⟨by rfl, ?hy1_2⟩) (by assumption) ?rest1_2
  case hy1_2 => (intro w9 hSw; obtain ⟨c0, c1, c2, c3, c4, c5, c6, c7, c8⟩ := Vbx.cells (show Vbx w9 w.heap.size ⟨p, f0, f1, d0, d1, r0, r1, R, C⟩ from hSw); clear hSw; go_simp; try with_reducible rfl)
  try simp only [Act.put, List.setIfInBounds_toArray, List.set_cons_zero, List.set_cons_succ, List.getElem_toArray, List.getElem_cons_zero, List.getElem_cons_succ]
  refine wpAnyH_take (i := 2) (v := ?v2_3) rfl (by kernel_rfl) (by kernel_rfl) (by kernel_rfl) (fun _ _ _ h => h) (Or.inl ⟨by rfl, ?hy2_3⟩) (by assumption) ?rest2_3
  case hy2_3 => (intro w9 hSw; clear hSw; go_simp; try with_reducible rfl)
  try simp only [Act.put, List.setIfInBounds_toArray, List.set_cons_zero, List.set_cons_succ, List.getElem_toArray, List.getElem_cons_zero, List.getElem_cons_succ]
  refine wpAnyH_take (i := 3) (v := ?v3_4) rfl (by kernel_rfl) (by kernel_rfl) (by kernel_rfl) (fun _ _ _ h => h) (Or.inl ⟨by rfl, ?hy3_4⟩) (by assumption) ?rest3_4
  case hy3_4 => (intro w9 hSw; obtain ⟨c0, c1, c2, c3, c4, c5, c6, c7, c8⟩ := Vbx.cells (show Vbx w9 w.heap.size ⟨p, f0, f1, d0, d1, r0, r1, R, C⟩ from hSw); clear hSw; go_simp; try with_reducible rfl)
  try simp only [Act.put, List.setIfInBounds_toArray, List.set_cons_zero, List.set_cons_succ, List.getElem_toArray, List.getElem_cons_zero, List.getElem_cons_succ]
  refine wpAnyH_take (i := 4) (v := ?v4_5) rfl (by kernel_rfl) (by kernel_rfl) (by kernel_rfl) (fun _ _ _ h => h) (Or.inl ⟨by rfl, ?hy4_5⟩) (by assumption) ?rest4_5
  case hy4_5 => (intro w9 hSw; obtain ⟨c0, c1, c2, c3, c4, c5, c6, c7, c8⟩ := Vbx.cells (show Vbx w9 w.heap.size ⟨p, f0, f1, d0, d1, r0, r1, R, C⟩ from hSw); clear hSw; go_simp; try with_reducible rfl)
  try simp only [Act.put, List.setIfInBounds_toArray, List.set_cons_zero, List.set_cons_succ, List.getElem_toArray, List.getElem_cons_zero, List.getElem_cons_succ]
  refine wpAnyH_ready (rs := [5]) (by kernel_rfl) (by simp) ?_
  refine AllReadyH.cons rfl (fun K hK => ?_) AllReadyH.nil
  go_simp
  with_reducible refine (pm _ bz.drew).mono ?_
  rintro e w2 ⟨g2, cp, he9, hO, hb⟩
  obtain rfl : e = .returned (.agg #[.int .i64 R, .int .i64 C, .slice (some ⟨g2, 0, none⟩) F.length cp]) := he9
  replace DV := DV.drew.on hb
  replace DZ := DZ.drew.on hb
  replace bz : Below w.heap.size w w2 := bz.drew.trans (hb.mono (by have := bz.size; simp; omega))
  have hsz2 := hb.size
  have hg2 : w1.heap.size ≤ g2 ∧ g2 < w2.heap.size := hO.gt rfl
  refine hK.out _ _ DV (fun hH => ?_)
  clear hK K hS
  have hS := hH
  clear hH
  try simp only [Act.put, List.setIfInBounds_toArray, List.set_cons_zero, List.set_cons_succ, List.getElem_toArray, List.getElem_cons_zero, List.getElem_cons_succ]
  refine wpAnyH_take (i := 6) (v := ?v6_6) rfl (by kernel_rfl) (by kernel_rfl) (by kernel_rfl) (fun _ _ _ h => h) (Or.inl ⟨by rfl, ?hy6_6⟩) (by assumption) ?rest6_6
  case hy6_6 => (intro w9 hSw; clear hSw; have hfm := run_field_m R C (some ⟨g2, 0, none⟩) F.length cp; go_simp; try with_reducible rfl)
  try simp only [Act.put, List.setIfInBounds_toArray, List.set_cons_zero, List.set_cons_succ, List.getElem_toArray, List.getElem_cons_zero, List.getElem_cons_succ]
  refine wpAnyH_ready (rs := [7]) (by kernel_rfl) (by simp) ?_
  refine AllReadyH.cons rfl (fun K hK => ?_) AllReadyH.nil
  go_simp
  with_reducible refine (pw _ _ _ _).mono ?_
  rintro e w5 ⟨s2, rfl, hsl, hst, hb⟩
  replace DV := DV.on hb
  replace DZ := DZ.on hb
  replace hO := hO.on_ hb
  replace bz := bz.trans (hb.mono bz.size)
  obtain ⟨k0, k1, k2, k3, k4, k5, k6, k7, k8⟩ := Vbx.cells DZ
  obtain ⟨z0, z1, z2, z3, z4, z5, z6, z7, z8⟩ := Vbx.free DZ
  refine hK.out _ _ DV (fun hH => ?_)
  clear hK K hS
  have hS := hH
  clear hH
  try simp only [Act.put, List.setIfInBounds_toArray, List.set_cons_zero, List.set_cons_succ, List.getElem_toArray, List.getElem_cons_zero, List.getElem_cons_succ]
  refine wpAnyH_ready (rs := [8]) (by kernel_rfl) (by simp) ?_
  refine AllReadyH.cons rfl (fun K hK => ?_) AllReadyH.nil
  go_simp
  refine hK.out _ _ (Vbx.far DV (by omega) _ _ _ _ _ _ _ _ _) (fun hH => ?_)
  clear hK K hS
  have hS := hH
  clear hH
  try simp only [Act.put, List.setIfInBounds_toArray, List.set_cons_zero, List.set_cons_succ, List.getElem_toArray, List.getElem_cons_zero, List.getElem_cons_succ]
  refine wpAnyH_done (by kernel_rfl) ?_ _
  go_wp2_with fail
  refine bodyPost_ret (v := (.agg #[.pointer (some ⟨s2, 0, none⟩), .int .i64 0, .int .i64 0, .int .i64 1, .int .i64 0, .int .i64 0, .int .i64 1, .int .i64 R, .int .i64 C])) (by simp [results, Try.results76, go_sem, k0, k1, k2, k3, k4, k5, k6, k7, k8]) rfl ?_
  have hSt : St w5 w.heap.size s2 g2 cp C.toNat F := ⟨by rw [Int.toNat_of_nonneg C0]; exact hst, hO.less (by simp; omega), by omega, hwd, by have := bz.size; omega, hlen, by omega⟩
  exact ⟨s2, _, _, rfl, hSt.far9 (by have := bz.size; omega) (by omega) _ _ _ _ _ _ _ _ _, by go_grown⟩
end
end Go.Proofs.Ytfelmkkkaphkpaa
