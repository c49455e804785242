/-
  Layer 7, walks: a store made of a matrix. (Written by wip/tools/gen_vwj.py.)
-/
import Derived.Test.YtfelmkkkaphkpaaKVwH
namespace Go.Proofs.Ytfelmkkkaphkpaa
open Go.RowKit Go.Bw Go.Sort
set_option linter.unusedVariables false
set_option linter.unusedSimpArgs false

section
variable {w : World} {R C : Int} {A : Option Addr} {len c : Nat} {l : List Int}
theorem OwnF.some_ {w : World} {B cap : Nat} {A : Option Addr} {l : List Int} (h : OwnF w B A cap l) (hA : A ≠ none) : ∃ g, A = some ⟨g, 0, none⟩ := by
  rcases h.2 with ⟨e, _⟩ | ⟨g, cap', cur, hv, _⟩
  · injection e with e1; exact absurd e1 hA
  · injection hv with e1; exact ⟨g, e1⟩

set_option maxHeartbeats 2000000 in
theorem Of_no (h : FL w A len c l) (hs : szB R C = false ∨ (szB R C = true ∧ (len : Int) ≠ R * C)) :
    Calls Try.prog 60 #[mV R C A len c] w (NoV w 2) := by
  have ps := sized_any R C
  have hmx := h.max
  have DB := (Blk.new w [.int .i64 R, .int .i64 C, .slice A len c] 24).alloc (.cells Vu.zero.L.toArray 30)
  have DZ := Blk.new (w.alloc (.cells #[.int .i64 R, .int .i64 C, .slice A len c] 24)) Vu.zero.L 30
  rw [World.size_alloc] at DZ
  obtain ⟨k0, k1, k2, k3, k4, k5, k6, k7, k8⟩ := Vbx.cells DZ
  obtain ⟨z0, z1, z2, z3, z4, z5, z6, z7, z8⟩ := Vbx.free DZ
  obtain ⟨DB_0, DB_1, DB_2, DB_f0, DB_f1, DB_f2⟩ := Mbx.cells DB
  rcases hs with hs | ⟨hs, hb⟩
  · rw [hs] at ps
    go_enter Try.func60, Try.ntmps60
    go_wp2_with fail
    with_reducible refine (ps _).mono ?_
    rintro e w1 ⟨rfl, rfl⟩
    go_wp2_with fail
    refine bodyPost_ret (v := .tuple #[(.agg #[.pointer none, .int .i64 0, .int .i64 0, .int .i64 0, .int .i64 0, .int .i64 0, .int .i64 0, .int .i64 0, .int .i64 0]), .int .i64 2]) (by simp [results, Try.results60, go_sem, k0, k1, k2, k3, k4, k5, k6, k7, k8]) rfl ?_
    exact ⟨rfl, by go_grown⟩
  · obtain ⟨_, p0, p1⟩ := szB_bd hs
    rw [hs] at ps
    obtain ⟨P, hP⟩ : ∃ P, R * C = P := ⟨_, rfl⟩
    rw [hP] at hb p0 p1
    have hne : ((len : Int) != P) = true := by simp; omega
    clear hb
    go_enter Try.func60, Try.ntmps60
    go_wp2_with fail
    with_reducible refine (ps _).mono ?_
    rintro e w1 ⟨rfl, rfl⟩
    go_wp2_with fail
    refine bodyPost_ret (v := .tuple #[(.agg #[.pointer none, .int .i64 0, .int .i64 0, .int .i64 0, .int .i64 0, .int .i64 0, .int .i64 0, .int .i64 0, .int .i64 0]), .int .i64 2]) (by simp [results, Try.results60, go_sem, k0, k1, k2, k3, k4, k5, k6, k7, k8]) rfl ?_
    exact ⟨rfl, by go_grown⟩

set_option maxRecDepth 100000 in
set_option maxHeartbeats 4000000 in
theorem Of_yes (h : FL w A len c l) (hs : szB R C = true) (hl : (len : Int) = R * C) :
    Calls Try.prog 60 #[mV R C A len c] w (NewV w R C l) := by
  have ps := sized_any R C
  have hmx := h.max
  rw [hs] at ps
  obtain ⟨⟨R0, R1, C0, C1⟩, p0, p1⟩ := szB_bd hs
  have pw := whole_any R C
  obtain ⟨P, hP⟩ : ∃ P, R * C = P := ⟨_, rfl⟩
  rw [hP] at hl p0 p1
  have hne : ((len : Int) != P) = false := by simp; omega
  have hlen : len ≤ 262144 := by omega
  clear hl
  have DB := Blk.new w [.int .i64 R, .int .i64 C, .slice A len c] 24
  have DZ := Blk.new (w.alloc (.cells #[.int .i64 R, .int .i64 C, .slice A len c] 24)) Vu.zero.L 30
  replace DB := DB.alloc (.cells Vu.zero.L.toArray 30)
  have bz := ((Below.refl _ w).alloc (Nat.le_refl _) (.cells #[.int .i64 R, .int .i64 C, .slice A len c] 24)).alloc (by simp) (.cells Vu.zero.L.toArray 30)
  rw [World.size_alloc] at DZ
  have hsz : ((w.alloc (.cells #[.int .i64 R, .int .i64 C, .slice A len c] 24)).alloc (.cells Vu.zero.L.toArray 30)).heap.size = w.heap.size + 2 := by simp
  obtain ⟨DB_0, DB_1, DB_2, DB_f0, DB_f1, DB_f2⟩ := Mbx.cells DB
  have h2 := h.on bz
  clear h
  go_enter Try.func60, Try.ntmps60
  go_wp2_with fail
  with_reducible refine (ps _).mono ?_
  rintro e w1 ⟨rfl, rfl⟩
  go_wp2_with fail
  clear DB_0 DB_1 DB_2 DB_f0 DB_f1 DB_f2
  generalize ((w.alloc (.cells #[.int .i64 R, .int .i64 C, .slice A len c] 24)).alloc (.cells Vu.zero.L.toArray 30)) = W at DB DZ bz hsz h2 ⊢
  refine wp_region_held_drew (S := fun w9 : World => Mbx w9 w.heap.size R C A len c) (by kernel_rfl) DB.drew (fun hS => ?_)
  refine wpAnyH_take (i := 0) (v := ?v0_1) rfl (by kernel_rfl) (by kernel_rfl) (by kernel_rfl) (fun _ _ _ h => h) (Or.inl ⟨by rfl, ?hy0_1⟩) (by assumption) ?rest0_1
  case hy0_1 => (intro w9 hSw; clear hSw; go_simp; try with_reducible rfl)
  try simp only [Act.put, List.setIfInBounds_toArray, List.set_cons_zero, List.set_cons_succ, List.getElem_toArray, List.getElem_cons_zero, List.getElem_cons_succ]
  refine wpAnyH_take (i := 1) (v := ?v1_2) rfl (by kernel_rfl) (by kernel_rfl) (by kernel_rfl) (fun _ _ _ h => h) (Or.inl ⟨by rfl, ?hy1_2⟩) (by assumption) ?rest1_2
  case hy1_2 => (intro w9 hSw; replace hSw : Mbx w9 w.heap.size R C A len c := hSw; obtain ⟨c0, c1, c2, f0, f1, f2⟩ := Mbx.cells hSw; go_simp; try with_reducible rfl)
  try simp only [Act.put, List.setIfInBounds_toArray, List.set_cons_zero, List.set_cons_succ, List.getElem_toArray, List.getElem_cons_zero, List.getElem_cons_succ]
  refine wpAnyH_take (i := 2) (v := ?v2_3) rfl (by kernel_rfl) (by kernel_rfl) (by kernel_rfl) (fun _ _ _ h => h) (Or.inl ⟨by rfl, ?hy2_3⟩) (by assumption) ?rest2_3
  case hy2_3 => (intro w9 hSw; clear hSw; go_simp; try with_reducible rfl)
  try simp only [Act.put, List.setIfInBounds_toArray, List.set_cons_zero, List.set_cons_succ, List.getElem_toArray, List.getElem_cons_zero, List.getElem_cons_succ]
  refine wpAnyH_take (i := 3) (v := ?v3_4) rfl (by kernel_rfl) (by kernel_rfl) (by kernel_rfl) (fun _ _ _ h => h) (Or.inl ⟨by rfl, ?hy3_4⟩) (by assumption) ?rest3_4
  case hy3_4 => (intro w9 hSw; replace hSw : Mbx w9 w.heap.size R C A len c := hSw; obtain ⟨c0, c1, c2, f0, f1, f2⟩ := Mbx.cells hSw; go_simp; try with_reducible rfl)
  try simp only [Act.put, List.setIfInBounds_toArray, List.set_cons_zero, List.set_cons_succ, List.getElem_toArray, List.getElem_cons_zero, List.getElem_cons_succ]
  refine wpAnyH_take (i := 5) (v := ?v5_5) rfl (by kernel_rfl) (by kernel_rfl) (by kernel_rfl) (fun _ _ _ h => h) (Or.inl ⟨by rfl, ?hy5_5⟩) (by assumption) ?rest5_5
  case hy5_5 => (intro w9 hSw; clear hSw; go_simp; try with_reducible rfl)
  try simp only [Act.put, List.setIfInBounds_toArray, List.set_cons_zero, List.set_cons_succ, List.getElem_toArray, List.getElem_cons_zero, List.getElem_cons_succ]
  refine wpAnyH_take (i := 6) (v := ?v6_6) rfl (by kernel_rfl) (by kernel_rfl) (by kernel_rfl) (fun _ _ _ h => h) (Or.inl ⟨by rfl, ?hy6_6⟩) (by assumption) ?rest6_6
  case hy6_6 => (intro w9 hSw; replace hSw : Mbx w9 w.heap.size R C A len c := hSw; obtain ⟨c0, c1, c2, f0, f1, f2⟩ := Mbx.cells hSw; go_simp; try with_reducible rfl)
  try simp only [Act.put, List.setIfInBounds_toArray, List.set_cons_zero, List.set_cons_succ, List.getElem_toArray, List.getElem_cons_zero, List.getElem_cons_succ]
  refine wpAnyH_ready (rs := [4]) (by kernel_rfl) (by simp) ?_
  refine AllReadyH.cons rfl (fun K hK => ?_) AllReadyH.nil
  go_simp
  have hown : OwnF (W.alloc (.cells #[] 32)).drew (w.heap.size + 2) (some ⟨w.heap.size + 2, 0, none⟩) 0 [] := by have h9 := own_new W [] (by simp) (B := w.heap.size + 2) (by omega); rw [hsz] at h9; exact h9
  have h3 : FL (W.alloc (.cells #[] 32)).drew A len c l := h2.on ((Below.refl _ W).alloc (Nat.le_refl _) (.cells #[] 32)).drew
  replace DB : Mbx (W.alloc (.cells #[] 32)).drew w.heap.size R C A len c := (DB.alloc (.cells #[] 32)).drew
  replace DZ : Vbx (W.alloc (.cells #[] 32)).drew (w.heap.size + 1) Vu.zero := (DZ.alloc (.cells #[] 32)).drew
  replace bz : Below w.heap.size w (W.alloc (.cells #[] 32)).drew := (bz.alloc (by omega) (.cells #[] 32)).drew
  refine hK.out _ _ DB (fun hH => ?_)
  clear hK K hS
  have hS := hH
  clear hH
  try simp only [Act.put, List.setIfInBounds_toArray, List.set_cons_zero, List.set_cons_succ, List.getElem_toArray, List.getElem_cons_zero, List.getElem_cons_succ]
  refine wpAnyH_ready (rs := [7]) (by kernel_rfl) (by simp) ?_
  refine AllReadyH.cons rfl (fun K hK => ?_) AllReadyH.nil
  refine wp_appF _ _ _ (by rfl) (w.heap.size + 2) (some ⟨w.heap.size + 2, 0, none⟩) 0 [] (by rfl) hown _ A c l (by rw [h3.1]; rfl) h3.2.1 (by simp; rw [h3.1]; omega) (by simp; omega) ?_
  intro A2 c2 w4 hown4 hg hat
  obtain ⟨g2, rfl⟩ := hown4.some_ (by rintro rfl; simp [Value.ownBlock] at hat)
  have hg2 := (hown4.gt rfl)
  replace DB := DB.grown hg (by simp [Value.ownBlock])
  replace DZ := DZ.grown hg (by simp [Value.ownBlock])
  replace bz : Below w.heap.size w w4 := bz.grown hg (by simp; omega) (fun k e => by simp [Value.ownBlock] at e; omega)
  have hsz4 := bz.size
  have hDZ := DZ.lt
  have hwd := h3.2.2
  refine hK.out _ _ DB (fun hH => ?_)
  clear hK K hS
  have hS := hH
  clear hH
  try simp only [Act.put, List.setIfInBounds_toArray, List.set_cons_zero, List.set_cons_succ, List.getElem_toArray, List.getElem_cons_zero, List.getElem_cons_succ]
  refine wpAnyH_ready (rs := [8]) (by kernel_rfl) (by simp) ?_
  refine AllReadyH.cons rfl (fun K hK => ?_) AllReadyH.nil
  go_simp
  with_reducible refine (pw _ _ _ _).mono ?_
  rintro e w5 ⟨s, rfl, hsl, hst, hb⟩
  replace DB := DB.on hb
  replace DZ := DZ.on hb
  replace bz := bz.trans (hb.mono (by omega))
  replace hown4 := hown4.on_ hb
  obtain ⟨z0, z1, z2, z3, z4, z5, z6, z7, z8⟩ := Vbx.free DZ
  obtain ⟨k0, k1, k2, k3, k4, k5, k6, k7, k8⟩ := Vbx.cells DZ
  refine hK.out _ _ DB (fun hH => ?_)
  clear hK K hS
  have hS := hH
  clear hH
  try simp only [Act.put, List.setIfInBounds_toArray, List.set_cons_zero, List.set_cons_succ, List.getElem_toArray, List.getElem_cons_zero, List.getElem_cons_succ]
  refine wpAnyH_ready (rs := [9]) (by kernel_rfl) (by simp) ?_
  refine AllReadyH.cons rfl (fun K hK => ?_) AllReadyH.nil
  go_simp
  refine hK.out _ _ (Blk.far9 DB (by omega) _ _ _ _ _ _ _ _ _) (fun hH => ?_)
  clear hK K hS
  have hS := hH
  clear hH
  try simp only [Act.put, List.setIfInBounds_toArray, List.set_cons_zero, List.set_cons_succ, List.getElem_toArray, List.getElem_cons_zero, List.getElem_cons_succ]
  refine wpAnyH_ready (rs := [10]) (by kernel_rfl) (by simp) ?_
  refine AllReadyH.cons rfl (fun K hK => ?_) AllReadyH.nil
  go_simp
  refine hK.out _ _ hS (fun hH => ?_)
  clear hK K hS
  have hS := hH
  clear hH
  try simp only [Act.put, List.setIfInBounds_toArray, List.set_cons_zero, List.set_cons_succ, List.getElem_toArray, List.getElem_cons_zero, List.getElem_cons_succ]
  refine wpAnyH_done (by kernel_rfl) ?_ _
  go_wp2_with fail
  refine bodyPost_ret (v := .tuple #[(.agg #[.pointer (some ⟨s, 0, none⟩), .int .i64 0, .int .i64 0, .int .i64 1, .int .i64 0, .int .i64 0, .int .i64 1, .int .i64 R, .int .i64 C]), .int .i64 0]) (by simp [results, Try.results60, go_sem, k0, k1, k2, k3, k4, k5, k6, k7, k8]) rfl ?_
  have hSt : St w5 w.heap.size s g2 c2 C.toNat l := ⟨by rw [Int.toNat_of_nonneg C0]; exact hst, hown4.less (by omega), by omega, hwd, by omega, by rw [h2.1]; omega, by omega⟩
  exact ⟨s, _, _, rfl, hSt.far9 (by omega) (by omega) _ _ _ _ _ _ _ _ _, by go_grown⟩
end
end Go.Proofs.Ytfelmkkkaphkpaa
