/-
  Layer 7, walks: turned views, parts, diagonals, rows, columns. (Written by wip/tools/gen_vwg.py.)
-/
import Derived.Test.YtfelmkkkaphkpaaKVwF
import Derived.Deep.RegionHeld
namespace Go.Proofs.Ytfelmkkkaphkpaa
open Go.RowKit Go.Bw Go.Sort
set_option linter.unusedVariables false
set_option linter.unusedSimpArgs false
attribute [local go_sem] run_store_float

section
variable {w : World} {v : Vu} {K : Int}
theorem Vbx.far {b g : Nat} (h : Vbx w g v) (hne : g ≠ b) (x0 x1 x2 x3 x4 x5 x6 x7 x8 : Value) : Vbx (((((((((w.setCell ⟨b, 0, none⟩ x0).setCell ⟨b, 1, none⟩ x1).setCell ⟨b, 2, none⟩ x2).setCell ⟨b, 3, none⟩ x3).setCell ⟨b, 4, none⟩ x4).setCell ⟨b, 5, none⟩ x5).setCell ⟨b, 6, none⟩ x6).setCell ⟨b, 7, none⟩ x7).setCell ⟨b, 8, none⟩ x8) g v :=
  ((((((((Blk.far h (p := ⟨b, 0, none⟩) hne x0).far (p := ⟨b, 1, none⟩) hne x1).far (p := ⟨b, 2, none⟩) hne x2).far (p := ⟨b, 3, none⟩) hne x3).far (p := ⟨b, 4, none⟩) hne x4).far (p := ⟨b, 5, none⟩) hne x5).far (p := ⟨b, 6, none⟩) hne x6).far (p := ⟨b, 7, none⟩) hne x7).far (p := ⟨b, 8, none⟩) hne x8
theorem Blk.far9 {b g : Nat} {vs : List Value} (h : Blk w g vs) (hne : g ≠ b) (x0 x1 x2 x3 x4 x5 x6 x7 x8 : Value) : Blk (((((((((w.setCell ⟨b, 0, none⟩ x0).setCell ⟨b, 1, none⟩ x1).setCell ⟨b, 2, none⟩ x2).setCell ⟨b, 3, none⟩ x3).setCell ⟨b, 4, none⟩ x4).setCell ⟨b, 5, none⟩ x5).setCell ⟨b, 6, none⟩ x6).setCell ⟨b, 7, none⟩ x7).setCell ⟨b, 8, none⟩ x8) g vs :=
  ((((((((Blk.far h (p := ⟨b, 0, none⟩) hne x0).far (p := ⟨b, 1, none⟩) hne x1).far (p := ⟨b, 2, none⟩) hne x2).far (p := ⟨b, 3, none⟩) hne x3).far (p := ⟨b, 4, none⟩) hne x4).far (p := ⟨b, 5, none⟩) hne x5).far (p := ⟨b, 6, none⟩) hne x6).far (p := ⟨b, 7, none⟩) hne x7).far (p := ⟨b, 8, none⟩) hne x8
theorem Vbx.put {g : Nat} (h : Vbx w g v) (u : Vu) : Vbx (((((((((w.setCell ⟨g, 0, none⟩ (.pointer u.p)).setCell ⟨g, 1, none⟩ (.int .i64 u.f0)).setCell ⟨g, 2, none⟩ (.int .i64 u.f1)).setCell ⟨g, 3, none⟩ (.int .i64 u.d0)).setCell ⟨g, 4, none⟩ (.int .i64 u.d1)).setCell ⟨g, 5, none⟩ (.int .i64 u.r0)).setCell ⟨g, 6, none⟩ (.int .i64 u.r1)).setCell ⟨g, 7, none⟩ (.int .i64 u.R)).setCell ⟨g, 8, none⟩ (.int .i64 u.C)) g u :=
  ((((((((Blk.set_ h 0 (.pointer u.p)).set_ 1 (.int .i64 u.f0)).set_ 2 (.int .i64 u.f1)).set_ 3 (.int .i64 u.d0)).set_ 4 (.int .i64 u.d1)).set_ 5 (.int .i64 u.r0)).set_ 6 (.int .i64 u.r1)).set_ 7 (.int .i64 u.R)).set_ 8 (.int .i64 u.C)

/-- what Part, Diag answer: none of what is none -/
def Vu.partO (v : Vu) (i j r n : Int) : Vu := if v.p == none then Vu.zero else if withinB i r v.R && withinB j n v.C then v.part i j r n else Vu.zero
def Vu.diagO (v : Vu) : Vu := if v.p == none then Vu.zero else v.diag
def Vu.turnO (v : Vu) : Vu := if v.p == none then Vu.zero else v.T
theorem within_bd {i n m : Int} (h : withinB i n m = true) (h1 : m ≤ 512) : 0 ≤ i ∧ i ≤ 512 ∧ 0 ≤ n ∧ n ≤ 512 := by
  have := of_decide_eq_true h
  omega

set_option maxHeartbeats 1000000 in
theorem T_any (v : Vu) (w : World) : Calls Try.prog 49 #[v.V] w (Ans w (v.turnO).V) := by
  have DB := (Blk.new w v.L 30).alloc (.cells Vu.zero.L.toArray 30)
  have DZ := Blk.new (w.alloc (.cells v.L.toArray 30)) Vu.zero.L 30
  rw [World.size_alloc] at DZ
  have bz := ((Below.refl _ w).alloc (Nat.le_refl _) (.cells v.L.toArray 30)).alloc (by simp) (.cells Vu.zero.L.toArray 30)
  have pc : ∀ W, Vbx W w.heap.size v → Calls Try.prog 89 #[v.V, .bool true, .func (.func 90) #[] #[.pointer (some ⟨w.heap.size, 0, none⟩)]] W (Ans W (v.turnO).V) := fun W hW => by
    cases hz : (v.p == none)
    · have e : v.turnO = v.T := by unfold Vu.turnO; rw [hz]; rfl
      rw [e]
      exact cutT hz hW
    · have e : v.turnO = Vu.zero := by unfold Vu.turnO; rw [hz]; rfl
      rw [e]
      exact cut_no (.inl hz)
  replace pc := pc _ DB
  obtain ⟨V2, hV2⟩ : ∃ V2, v.turnO = V2 := ⟨_, rfl⟩
  rw [hV2]
  rw [hV2] at pc
  clear hV2
  obtain ⟨p2, t0, t1, t2, t3, t4, t5, t6, t7⟩ := V2
  obtain ⟨p, f0, f1, d0, d1, r0, r1, R, C⟩ := v
  go_enter Try.func49, Try.ntmps49
  go_wp2_with fail
  with_reducible refine pc.mono ?_
  rintro e w1 ⟨rfl, hb⟩
  replace DZ := DZ.on hb
  replace bz := bz.trans (hb.mono (by simp; omega))
  obtain ⟨k0, k1, k2, k3, k4, k5, k6, k7, k8⟩ := Vbx.cells DZ
  obtain ⟨z0, z1, z2, z3, z4, z5, z6, z7, z8⟩ := Vbx.free DZ
  go_wp2_with fail
  refine bodyPost_ret (v := (.agg #[.pointer p2, .int .i64 t0, .int .i64 t1, .int .i64 t2, .int .i64 t3, .int .i64 t4, .int .i64 t5, .int .i64 t6, .int .i64 t7])) (by simp [results, Try.results49, go_sem, k0, k1, k2, k3, k4, k5, k6, k7, k8]) rfl ?_
  exact ⟨rfl, by go_grown⟩

set_option maxRecDepth 100000 in
set_option maxHeartbeats 4000000 in
theorem part_two {i j r n : Int} {V2 : Vu} {b : Bool} (pw : ∀ W, Calls Try.prog 107 #[.int .i64 i, .int .i64 r, .int .i64 v.R] W fun e w' => e = .returned (.bool true) ∧ w' = W) (pw2 : ∀ W, Calls Try.prog 107 #[.int .i64 j, .int .i64 n, .int .i64 v.C] W fun e w' => e = .returned (.bool b) ∧ w' = W)
    (pc : ∀ W, (Vbx W w.heap.size v ∧ Blk W (w.heap.size + 1) [.int .i64 i] ∧ Blk W (w.heap.size + 2) [.int .i64 j] ∧ Blk W (w.heap.size + 3) [.int .i64 r] ∧ Blk W (w.heap.size + 4) [.int .i64 n]) → Calls Try.prog 89 #[v.V, .bool b, .func (.func 108) #[] #[.pointer (some ⟨w.heap.size, 0, none⟩), .pointer (some ⟨w.heap.size + 1, 0, none⟩), .pointer (some ⟨w.heap.size + 2, 0, none⟩), .pointer (some ⟨w.heap.size + 3, 0, none⟩), .pointer (some ⟨w.heap.size + 4, 0, none⟩)]] W (Ans W V2.V)) :
    Calls Try.prog 91 #[v.V, .int .i64 i, .int .i64 j, .int .i64 r, .int .i64 n] w (Ans w V2.V) := by
  have m0 := Blk.new w v.L 30
  obtain ⟨p2, t0, t1, t2, t3, t4, t5, t6, t7⟩ := V2
  obtain ⟨p, f0, f1, d0, d1, r0, r1, R, C⟩ := v
  have bz := (Below.refl _ w).alloc (Nat.le_refl _) (.cells (Vu.L ⟨p, f0, f1, d0, d1, r0, r1, R, C⟩).toArray 30)
  have hsz : (w.alloc (.cells (Vu.L ⟨p, f0, f1, d0, d1, r0, r1, R, C⟩).toArray 30)).heap.size = w.heap.size + 1 := World.size_alloc _ _
  go_enter Try.func91, Try.ntmps91
  go_upto_region 1 with fail
  generalize (w.alloc (.cells (Vu.L ⟨p, f0, f1, d0, d1, r0, r1, R, C⟩).toArray 30)) = W1 at m0 bz hsz ⊢
  have m1 := Blk.new W1 [.int .i64 i] 3
  replace m0 := m0.alloc (.cells #[.int .i64 i] 3)
  replace bz := bz.alloc (by omega) (.cells #[.int .i64 i] 3)
  have hsz2 : (W1.alloc (.cells #[.int .i64 i] 3)).heap.size = w.heap.size + 2 := by rw [World.size_alloc, hsz]
  rw [hsz] at m1
  generalize (W1.alloc (.cells #[.int .i64 i] 3)) = W2 at m0 m1 bz hsz2 ⊢
  have m2 := Blk.new W2 [.int .i64 j] 3
  replace m0 := m0.alloc (.cells #[.int .i64 j] 3)
  replace m1 := m1.alloc (.cells #[.int .i64 j] 3)
  replace bz := bz.alloc (by omega) (.cells #[.int .i64 j] 3)
  have hsz3 : (W2.alloc (.cells #[.int .i64 j] 3)).heap.size = w.heap.size + 3 := by rw [World.size_alloc, hsz2]
  rw [hsz2] at m2
  generalize (W2.alloc (.cells #[.int .i64 j] 3)) = W3 at m0 m1 m2 bz hsz3 ⊢
  have m3 := Blk.new W3 [.int .i64 r] 3
  replace m0 := m0.alloc (.cells #[.int .i64 r] 3)
  replace m1 := m1.alloc (.cells #[.int .i64 r] 3)
  replace m2 := m2.alloc (.cells #[.int .i64 r] 3)
  replace bz := bz.alloc (by omega) (.cells #[.int .i64 r] 3)
  have hsz4 : (W3.alloc (.cells #[.int .i64 r] 3)).heap.size = w.heap.size + 4 := by rw [World.size_alloc, hsz3]
  rw [hsz3] at m3
  generalize (W3.alloc (.cells #[.int .i64 r] 3)) = W4 at m0 m1 m2 m3 bz hsz4 ⊢
  have m4 := Blk.new W4 [.int .i64 n] 3
  replace m0 := m0.alloc (.cells #[.int .i64 n] 3)
  replace m1 := m1.alloc (.cells #[.int .i64 n] 3)
  replace m2 := m2.alloc (.cells #[.int .i64 n] 3)
  replace m3 := m3.alloc (.cells #[.int .i64 n] 3)
  replace bz := bz.alloc (by omega) (.cells #[.int .i64 n] 3)
  have hsz5 : (W4.alloc (.cells #[.int .i64 n] 3)).heap.size = w.heap.size + 5 := by rw [World.size_alloc, hsz4]
  rw [hsz4] at m4
  generalize (W4.alloc (.cells #[.int .i64 n] 3)) = W5 at m0 m1 m2 m3 m4 bz hsz5 ⊢
  have DZ := Blk.new W5 Vu.zero.L 30
  replace m0 := m0.alloc (.cells Vu.zero.L.toArray 30)
  replace m1 := m1.alloc (.cells Vu.zero.L.toArray 30)
  replace m2 := m2.alloc (.cells Vu.zero.L.toArray 30)
  replace m3 := m3.alloc (.cells Vu.zero.L.toArray 30)
  replace m4 := m4.alloc (.cells Vu.zero.L.toArray 30)
  replace bz := bz.alloc (by omega) (.cells Vu.zero.L.toArray 30)
  have hsz6 : (W5.alloc (.cells Vu.zero.L.toArray 30)).heap.size = w.heap.size + 6 := by rw [World.size_alloc, hsz5]
  rw [hsz5] at DZ
  generalize hW6 : (W5.alloc (.cells Vu.zero.L.toArray 30)) = W6 at m0 m1 m2 m3 m4 DZ bz hsz6 ⊢
  clear hsz hsz2 hsz3 hsz4 hsz5
  refine wp_region_held_drew (S := fun w9 : World => Vbx w9 w.heap.size ⟨p, f0, f1, d0, d1, r0, r1, R, C⟩ ∧ Blk w9 (w.heap.size + 1) [.int .i64 i] ∧ Blk w9 (w.heap.size + 2) [.int .i64 j] ∧ Blk w9 (w.heap.size + 3) [.int .i64 r] ∧ Blk w9 (w.heap.size + 4) [.int .i64 n]) (by kernel_rfl) ⟨m0.drew, m1.drew, m2.drew, m3.drew, m4.drew⟩ (fun hS => ?_)
  refine wpAnyH_take (i := 0) (v := ?v0_1) rfl (by kernel_rfl) (by kernel_rfl) (by kernel_rfl) (fun _ _ _ h => h) (Or.inl ⟨by rfl, ?hy0_1⟩) (by assumption) ?rest0_1
  case hy0_1 => (intro w9 hSw; obtain ⟨m0, m1, m2, m3, m4⟩ := hSw; obtain ⟨c0, c1, c2, c3, c4, c5, c6, c7, c8⟩ := Vbx.cells m0; go_simp; try with_reducible rfl)
  try simp only [Act.put, List.setIfInBounds_toArray, List.set_cons_zero, List.set_cons_succ, List.getElem_toArray, List.getElem_cons_zero, List.getElem_cons_succ]
  refine wpAnyH_take (i := 1) (v := ?v1_2) rfl (by kernel_rfl) (by kernel_rfl) (by kernel_rfl) (fun _ _ _ h => h) (Or.inl ⟨by rfl, ?hy1_2⟩) (by assumption) ?rest1_2
  case hy1_2 => (intro w9 hSw; obtain ⟨m0, m1, m2, m3, m4⟩ := hSw; have c0 := Blk.cell m1 0 rfl; go_simp; try with_reducible rfl)
  try simp only [Act.put, List.setIfInBounds_toArray, List.set_cons_zero, List.set_cons_succ, List.getElem_toArray, List.getElem_cons_zero, List.getElem_cons_succ]
  refine wpAnyH_take (i := 2) (v := ?v2_3) rfl (by kernel_rfl) (by kernel_rfl) (by kernel_rfl) (fun _ _ _ h => h) (Or.inl ⟨by rfl, ?hy2_3⟩) (by assumption) ?rest2_3
  case hy2_3 => (intro w9 hSw; obtain ⟨m0, m1, m2, m3, m4⟩ := hSw; have c0 := Blk.cell m3 0 rfl; go_simp; try with_reducible rfl)
  try simp only [Act.put, List.setIfInBounds_toArray, List.set_cons_zero, List.set_cons_succ, List.getElem_toArray, List.getElem_cons_zero, List.getElem_cons_succ]
  refine wpAnyH_take (i := 3) (v := ?v3_4) rfl (by kernel_rfl) (by kernel_rfl) (by kernel_rfl) (fun _ _ _ h => h) (Or.inl ⟨by rfl, ?hy3_4⟩) (by assumption) ?rest3_4
  case hy3_4 => (intro w9 hSw; clear hSw; go_simp; try with_reducible rfl)
  try simp only [Act.put, List.setIfInBounds_toArray, List.set_cons_zero, List.set_cons_succ, List.getElem_toArray, List.getElem_cons_zero, List.getElem_cons_succ]
  refine wpAnyH_take (i := 4) (v := ?v4_5) rfl (by kernel_rfl) (by kernel_rfl) (by kernel_rfl) (fun _ _ _ h => h) (Or.inl ⟨by rfl, ?hy4_5⟩) (by assumption) ?rest4_5
  case hy4_5 => (intro w9 hSw; obtain ⟨m0, m1, m2, m3, m4⟩ := hSw; obtain ⟨c0, c1, c2, c3, c4, c5, c6, c7, c8⟩ := Vbx.cells m0; go_simp; try with_reducible rfl)
  try simp only [Act.put, List.setIfInBounds_toArray, List.set_cons_zero, List.set_cons_succ, List.getElem_toArray, List.getElem_cons_zero, List.getElem_cons_succ]
  refine wpAnyH_take (i := 13) (v := ?v13_6) rfl (by kernel_rfl) (by kernel_rfl) (by kernel_rfl) (fun _ _ _ h => h) (Or.inl ⟨by rfl, ?hy13_6⟩) (by assumption) ?rest13_6
  case hy13_6 => (intro w9 hSw; clear hSw; go_simp; try with_reducible rfl)
  try simp only [Act.put, List.setIfInBounds_toArray, List.set_cons_zero, List.set_cons_succ, List.getElem_toArray, List.getElem_cons_zero, List.getElem_cons_succ]
  refine wpAnyH_ready (rs := [5]) (by kernel_rfl) (by simp) ?_
  refine AllReadyH.cons rfl (fun K hK => ?_) AllReadyH.nil
  go_simp
  with_reducible refine (pw _).mono ?_
  rintro e u1 ⟨rfl, rfl⟩
  refine hK.out _ _ hS (fun hH => ?_)
  clear hK K hS
  have hS := hH
  clear hH
  try simp only [Act.put, List.setIfInBounds_toArray, List.set_cons_zero, List.set_cons_succ, List.getElem_toArray, List.getElem_cons_zero, List.getElem_cons_succ]
  refine wpAnyH_take (i := 6) (v := ?v6_7) rfl (by kernel_rfl) (by kernel_rfl) (by kernel_rfl) (fun _ _ _ h => h) (Or.inl ⟨by rfl, ?hy6_7⟩) (by assumption) ?rest6_7
  case hy6_7 => (intro w9 hSw; clear hSw; go_simp; try with_reducible rfl)
  try simp only [Act.put, List.setIfInBounds_toArray, List.set_cons_zero, List.set_cons_succ, List.getElem_toArray, List.getElem_cons_zero, List.getElem_cons_succ]
  refine wpAnyH_take (i := 7) (v := ?v7_8) rfl (by kernel_rfl) (by kernel_rfl) (by kernel_rfl) (fun _ _ _ h => h) (Or.inl ⟨by rfl, ?hy7_8⟩) (by assumption) ?rest7_8
  case hy7_8 => (intro w9 hSw; obtain ⟨m0, m1, m2, m3, m4⟩ := hSw; have c0 := Blk.cell m2 0 rfl; go_simp; try with_reducible rfl)
  try simp only [Act.put, List.setIfInBounds_toArray, List.set_cons_zero, List.set_cons_succ, List.getElem_toArray, List.getElem_cons_zero, List.getElem_cons_succ]
  refine wpAnyH_take (i := 8) (v := ?v8_9) rfl (by kernel_rfl) (by kernel_rfl) (by kernel_rfl) (fun _ _ _ h => h) (Or.inl ⟨by rfl, ?hy8_9⟩) (by assumption) ?rest8_9
  case hy8_9 => (intro w9 hSw; obtain ⟨m0, m1, m2, m3, m4⟩ := hSw; have c0 := Blk.cell m4 0 rfl; go_simp; try with_reducible rfl)
  try simp only [Act.put, List.setIfInBounds_toArray, List.set_cons_zero, List.set_cons_succ, List.getElem_toArray, List.getElem_cons_zero, List.getElem_cons_succ]
  refine wpAnyH_take (i := 9) (v := ?v9_10) rfl (by kernel_rfl) (by kernel_rfl) (by kernel_rfl) (fun _ _ _ h => h) (Or.inl ⟨by rfl, ?hy9_10⟩) (by assumption) ?rest9_10
  case hy9_10 => (intro w9 hSw; clear hSw; go_simp; try with_reducible rfl)
  try simp only [Act.put, List.setIfInBounds_toArray, List.set_cons_zero, List.set_cons_succ, List.getElem_toArray, List.getElem_cons_zero, List.getElem_cons_succ]
  refine wpAnyH_take (i := 10) (v := ?v10_11) rfl (by kernel_rfl) (by kernel_rfl) (by kernel_rfl) (fun _ _ _ h => h) (Or.inl ⟨by rfl, ?hy10_11⟩) (by assumption) ?rest10_11
  case hy10_11 => (intro w9 hSw; obtain ⟨m0, m1, m2, m3, m4⟩ := hSw; obtain ⟨c0, c1, c2, c3, c4, c5, c6, c7, c8⟩ := Vbx.cells m0; go_simp; try with_reducible rfl)
  try simp only [Act.put, List.setIfInBounds_toArray, List.set_cons_zero, List.set_cons_succ, List.getElem_toArray, List.getElem_cons_zero, List.getElem_cons_succ]
  refine wpAnyH_ready (rs := [11]) (by kernel_rfl) (by simp) ?_
  refine AllReadyH.cons rfl (fun K hK => ?_) AllReadyH.nil
  go_simp
  with_reducible refine (pw2 _).mono ?_
  rintro e u2 ⟨rfl, rfl⟩
  refine hK.out _ _ hS (fun hH => ?_)
  clear hK K hS
  have hS := hH
  clear hH
  try simp only [Act.put, List.setIfInBounds_toArray, List.set_cons_zero, List.set_cons_succ, List.getElem_toArray, List.getElem_cons_zero, List.getElem_cons_succ]
  refine wpAnyH_take (i := 12) (v := ?v12_12) rfl (by kernel_rfl) (by kernel_rfl) (by kernel_rfl) (fun _ _ _ h => h) (Or.inl ⟨by rfl, ?hy12_12⟩) (by assumption) ?rest12_12
  case hy12_12 => (intro w9 hSw; clear hSw; go_simp; try with_reducible rfl)
  try simp only [Act.put, List.setIfInBounds_toArray, List.set_cons_zero, List.set_cons_succ, List.getElem_toArray, List.getElem_cons_zero, List.getElem_cons_succ]
  refine wpAnyH_ready (rs := [14]) (by kernel_rfl) (by simp) ?_
  refine AllReadyH.cons rfl (fun K hK => ?_) AllReadyH.nil
  go_simp
  with_reducible refine (pc _ hS).mono ?_
  rintro e w1 ⟨rfl, hb⟩
  replace DZ := DZ.drew.on hb
  replace bz : Below w.heap.size w w1 := bz.drew.trans (hb.mono (by simp; omega))
  obtain ⟨m0, m1, m2, m3, m4⟩ := hS
  replace m0 := Blk.on m0 hb
  replace m1 := Blk.on m1 hb
  replace m2 := Blk.on m2 hb
  replace m3 := Blk.on m3 hb
  replace m4 := Blk.on m4 hb
  have hS := And.intro m0 (And.intro m1 (And.intro m2 (And.intro m3 m4)))
  refine hK.out _ _ ⟨m0, m1, m2, m3, m4⟩ (fun hH => ?_)
  clear hK K hS
  have hS := hH
  clear hH
  try simp only [Act.put, List.setIfInBounds_toArray, List.set_cons_zero, List.set_cons_succ, List.getElem_toArray, List.getElem_cons_zero, List.getElem_cons_succ]
  obtain ⟨k0, k1, k2, k3, k4, k5, k6, k7, k8⟩ := Vbx.cells DZ
  obtain ⟨z0, z1, z2, z3, z4, z5, z6, z7, z8⟩ := Vbx.free DZ
  refine wpAnyH_ready (rs := [15]) (by kernel_rfl) (by simp) ?_
  refine AllReadyH.cons rfl (fun K hK => ?_) AllReadyH.nil
  go_simp
  replace bz : Below w.heap.size w (((((((((w1.setCell ⟨w.heap.size + 5, 0, none⟩ (.pointer p2)).setCell ⟨w.heap.size + 5, 1, none⟩ (.int .i64 t0)).setCell ⟨w.heap.size + 5, 2, none⟩ (.int .i64 t1)).setCell ⟨w.heap.size + 5, 3, none⟩ (.int .i64 t2)).setCell ⟨w.heap.size + 5, 4, none⟩ (.int .i64 t3)).setCell ⟨w.heap.size + 5, 5, none⟩ (.int .i64 t4)).setCell ⟨w.heap.size + 5, 6, none⟩ (.int .i64 t5)).setCell ⟨w.heap.size + 5, 7, none⟩ (.int .i64 t6)).setCell ⟨w.heap.size + 5, 8, none⟩ (.int .i64 t7)) := by go_grown
  obtain ⟨m0, m1, m2, m3, m4⟩ := hS
  have hS := True.intro
  refine hK.out _ _ ⟨Vbx.far m0 (by omega) _ _ _ _ _ _ _ _ _, Blk.far9 m1 (by omega) _ _ _ _ _ _ _ _ _, Blk.far9 m2 (by omega) _ _ _ _ _ _ _ _ _, Blk.far9 m3 (by omega) _ _ _ _ _ _ _ _ _, Blk.far9 m4 (by omega) _ _ _ _ _ _ _ _ _⟩ (fun hH => ?_)
  clear hK K hS
  have hS := hH
  clear hH
  try simp only [Act.put, List.setIfInBounds_toArray, List.set_cons_zero, List.set_cons_succ, List.getElem_toArray, List.getElem_cons_zero, List.getElem_cons_succ]
  refine wpAnyH_done (by kernel_rfl) ?_ _
  go_wp2_with fail
  refine bodyPost_ret (v := (.agg #[.pointer p2, .int .i64 t0, .int .i64 t1, .int .i64 t2, .int .i64 t3, .int .i64 t4, .int .i64 t5, .int .i64 t6, .int .i64 t7])) (by simp [results, Try.results91, go_sem, k0, k1, k2, k3, k4, k5, k6, k7, k8]) rfl ?_
  exact ⟨rfl, bz⟩

set_option maxRecDepth 100000 in
set_option maxHeartbeats 4000000 in
theorem part_one {i j r n : Int} {V2 : Vu} (pw : ∀ W, Calls Try.prog 107 #[.int .i64 i, .int .i64 r, .int .i64 v.R] W fun e w' => e = .returned (.bool false) ∧ w' = W)
    (pc : ∀ W, (Vbx W w.heap.size v ∧ Blk W (w.heap.size + 1) [.int .i64 i] ∧ Blk W (w.heap.size + 2) [.int .i64 j] ∧ Blk W (w.heap.size + 3) [.int .i64 r] ∧ Blk W (w.heap.size + 4) [.int .i64 n]) → Calls Try.prog 89 #[v.V, .bool false, .func (.func 108) #[] #[.pointer (some ⟨w.heap.size, 0, none⟩), .pointer (some ⟨w.heap.size + 1, 0, none⟩), .pointer (some ⟨w.heap.size + 2, 0, none⟩), .pointer (some ⟨w.heap.size + 3, 0, none⟩), .pointer (some ⟨w.heap.size + 4, 0, none⟩)]] W (Ans W V2.V)) :
    Calls Try.prog 91 #[v.V, .int .i64 i, .int .i64 j, .int .i64 r, .int .i64 n] w (Ans w V2.V) := by
  have m0 := Blk.new w v.L 30
  obtain ⟨p2, t0, t1, t2, t3, t4, t5, t6, t7⟩ := V2
  obtain ⟨p, f0, f1, d0, d1, r0, r1, R, C⟩ := v
  have bz := (Below.refl _ w).alloc (Nat.le_refl _) (.cells (Vu.L ⟨p, f0, f1, d0, d1, r0, r1, R, C⟩).toArray 30)
  have hsz : (w.alloc (.cells (Vu.L ⟨p, f0, f1, d0, d1, r0, r1, R, C⟩).toArray 30)).heap.size = w.heap.size + 1 := World.size_alloc _ _
  go_enter Try.func91, Try.ntmps91
  go_upto_region 1 with fail
  generalize (w.alloc (.cells (Vu.L ⟨p, f0, f1, d0, d1, r0, r1, R, C⟩).toArray 30)) = W1 at m0 bz hsz ⊢
  have m1 := Blk.new W1 [.int .i64 i] 3
  replace m0 := m0.alloc (.cells #[.int .i64 i] 3)
  replace bz := bz.alloc (by omega) (.cells #[.int .i64 i] 3)
  have hsz2 : (W1.alloc (.cells #[.int .i64 i] 3)).heap.size = w.heap.size + 2 := by rw [World.size_alloc, hsz]
  rw [hsz] at m1
  generalize (W1.alloc (.cells #[.int .i64 i] 3)) = W2 at m0 m1 bz hsz2 ⊢
  have m2 := Blk.new W2 [.int .i64 j] 3
  replace m0 := m0.alloc (.cells #[.int .i64 j] 3)
  replace m1 := m1.alloc (.cells #[.int .i64 j] 3)
  replace bz := bz.alloc (by omega) (.cells #[.int .i64 j] 3)
  have hsz3 : (W2.alloc (.cells #[.int .i64 j] 3)).heap.size = w.heap.size + 3 := by rw [World.size_alloc, hsz2]
  rw [hsz2] at m2
  generalize (W2.alloc (.cells #[.int .i64 j] 3)) = W3 at m0 m1 m2 bz hsz3 ⊢
  have m3 := Blk.new W3 [.int .i64 r] 3
  replace m0 := m0.alloc (.cells #[.int .i64 r] 3)
  replace m1 := m1.alloc (.cells #[.int .i64 r] 3)
  replace m2 := m2.alloc (.cells #[.int .i64 r] 3)
  replace bz := bz.alloc (by omega) (.cells #[.int .i64 r] 3)
  have hsz4 : (W3.alloc (.cells #[.int .i64 r] 3)).heap.size = w.heap.size + 4 := by rw [World.size_alloc, hsz3]
  rw [hsz3] at m3
  generalize (W3.alloc (.cells #[.int .i64 r] 3)) = W4 at m0 m1 m2 m3 bz hsz4 ⊢
  have m4 := Blk.new W4 [.int .i64 n] 3
  replace m0 := m0.alloc (.cells #[.int .i64 n] 3)
  replace m1 := m1.alloc (.cells #[.int .i64 n] 3)
  replace m2 := m2.alloc (.cells #[.int .i64 n] 3)
  replace m3 := m3.alloc (.cells #[.int .i64 n] 3)
  replace bz := bz.alloc (by omega) (.cells #[.int .i64 n] 3)
  have hsz5 : (W4.alloc (.cells #[.int .i64 n] 3)).heap.size = w.heap.size + 5 := by rw [World.size_alloc, hsz4]
  rw [hsz4] at m4
  generalize (W4.alloc (.cells #[.int .i64 n] 3)) = W5 at m0 m1 m2 m3 m4 bz hsz5 ⊢
  have DZ := Blk.new W5 Vu.zero.L 30
  replace m0 := m0.alloc (.cells Vu.zero.L.toArray 30)
  replace m1 := m1.alloc (.cells Vu.zero.L.toArray 30)
  replace m2 := m2.alloc (.cells Vu.zero.L.toArray 30)
  replace m3 := m3.alloc (.cells Vu.zero.L.toArray 30)
  replace m4 := m4.alloc (.cells Vu.zero.L.toArray 30)
  replace bz := bz.alloc (by omega) (.cells Vu.zero.L.toArray 30)
  have hsz6 : (W5.alloc (.cells Vu.zero.L.toArray 30)).heap.size = w.heap.size + 6 := by rw [World.size_alloc, hsz5]
  rw [hsz5] at DZ
  generalize hW6 : (W5.alloc (.cells Vu.zero.L.toArray 30)) = W6 at m0 m1 m2 m3 m4 DZ bz hsz6 ⊢
  clear hsz hsz2 hsz3 hsz4 hsz5
  refine wp_region_held_drew (S := fun w9 : World => Vbx w9 w.heap.size ⟨p, f0, f1, d0, d1, r0, r1, R, C⟩ ∧ Blk w9 (w.heap.size + 1) [.int .i64 i] ∧ Blk w9 (w.heap.size + 2) [.int .i64 j] ∧ Blk w9 (w.heap.size + 3) [.int .i64 r] ∧ Blk w9 (w.heap.size + 4) [.int .i64 n]) (by kernel_rfl) ⟨m0.drew, m1.drew, m2.drew, m3.drew, m4.drew⟩ (fun hS => ?_)
  refine wpAnyH_take (i := 0) (v := ?v0_13) rfl (by kernel_rfl) (by kernel_rfl) (by kernel_rfl) (fun _ _ _ h => h) (Or.inl ⟨by rfl, ?hy0_13⟩) (by assumption) ?rest0_13
  case hy0_13 => (intro w9 hSw; obtain ⟨m0, m1, m2, m3, m4⟩ := hSw; obtain ⟨c0, c1, c2, c3, c4, c5, c6, c7, c8⟩ := Vbx.cells m0; go_simp; try with_reducible rfl)
  try simp only [Act.put, List.setIfInBounds_toArray, List.set_cons_zero, List.set_cons_succ, List.getElem_toArray, List.getElem_cons_zero, List.getElem_cons_succ]
  refine wpAnyH_take (i := 1) (v := ?v1_14) rfl (by kernel_rfl) (by kernel_rfl) (by kernel_rfl) (fun _ _ _ h => h) (Or.inl ⟨by rfl, ?hy1_14⟩) (by assumption) ?rest1_14
  case hy1_14 => (intro w9 hSw; obtain ⟨m0, m1, m2, m3, m4⟩ := hSw; have c0 := Blk.cell m1 0 rfl; go_simp; try with_reducible rfl)
  try simp only [Act.put, List.setIfInBounds_toArray, List.set_cons_zero, List.set_cons_succ, List.getElem_toArray, List.getElem_cons_zero, List.getElem_cons_succ]
  refine wpAnyH_take (i := 2) (v := ?v2_15) rfl (by kernel_rfl) (by kernel_rfl) (by kernel_rfl) (fun _ _ _ h => h) (Or.inl ⟨by rfl, ?hy2_15⟩) (by assumption) ?rest2_15
  case hy2_15 => (intro w9 hSw; obtain ⟨m0, m1, m2, m3, m4⟩ := hSw; have c0 := Blk.cell m3 0 rfl; go_simp; try with_reducible rfl)
  try simp only [Act.put, List.setIfInBounds_toArray, List.set_cons_zero, List.set_cons_succ, List.getElem_toArray, List.getElem_cons_zero, List.getElem_cons_succ]
  refine wpAnyH_take (i := 3) (v := ?v3_16) rfl (by kernel_rfl) (by kernel_rfl) (by kernel_rfl) (fun _ _ _ h => h) (Or.inl ⟨by rfl, ?hy3_16⟩) (by assumption) ?rest3_16
  case hy3_16 => (intro w9 hSw; clear hSw; go_simp; try with_reducible rfl)
  try simp only [Act.put, List.setIfInBounds_toArray, List.set_cons_zero, List.set_cons_succ, List.getElem_toArray, List.getElem_cons_zero, List.getElem_cons_succ]
  refine wpAnyH_take (i := 4) (v := ?v4_17) rfl (by kernel_rfl) (by kernel_rfl) (by kernel_rfl) (fun _ _ _ h => h) (Or.inl ⟨by rfl, ?hy4_17⟩) (by assumption) ?rest4_17
  case hy4_17 => (intro w9 hSw; obtain ⟨m0, m1, m2, m3, m4⟩ := hSw; obtain ⟨c0, c1, c2, c3, c4, c5, c6, c7, c8⟩ := Vbx.cells m0; go_simp; try with_reducible rfl)
  try simp only [Act.put, List.setIfInBounds_toArray, List.set_cons_zero, List.set_cons_succ, List.getElem_toArray, List.getElem_cons_zero, List.getElem_cons_succ]
  refine wpAnyH_take (i := 13) (v := ?v13_18) rfl (by kernel_rfl) (by kernel_rfl) (by kernel_rfl) (fun _ _ _ h => h) (Or.inl ⟨by rfl, ?hy13_18⟩) (by assumption) ?rest13_18
  case hy13_18 => (intro w9 hSw; clear hSw; go_simp; try with_reducible rfl)
  try simp only [Act.put, List.setIfInBounds_toArray, List.set_cons_zero, List.set_cons_succ, List.getElem_toArray, List.getElem_cons_zero, List.getElem_cons_succ]
  refine wpAnyH_ready (rs := [5]) (by kernel_rfl) (by simp) ?_
  refine AllReadyH.cons rfl (fun K hK => ?_) AllReadyH.nil
  go_simp
  with_reducible refine (pw _).mono ?_
  rintro e u1 ⟨rfl, rfl⟩
  refine hK.out _ _ hS (fun hH => ?_)
  clear hK K hS
  have hS := hH
  clear hH
  try simp only [Act.put, List.setIfInBounds_toArray, List.set_cons_zero, List.set_cons_succ, List.getElem_toArray, List.getElem_cons_zero, List.getElem_cons_succ]
  refine wpAnyH_take (i := 6) (v := ?v6_19) rfl (by kernel_rfl) (by kernel_rfl) (by kernel_rfl) (fun _ _ _ h => h) (Or.inl ⟨by rfl, ?hy6_19⟩) (by assumption) ?rest6_19
  case hy6_19 => (intro w9 hSw; clear hSw; go_simp; try with_reducible rfl)
  try simp only [Act.put, List.setIfInBounds_toArray, List.set_cons_zero, List.set_cons_succ, List.getElem_toArray, List.getElem_cons_zero, List.getElem_cons_succ]
  refine wpAnyH_take (i := 7) (v := undef) rfl (by kernel_rfl) (by kernel_rfl) (by kernel_rfl) (fun _ _ _ h => h) (Or.inr ⟨by rfl, rfl⟩) (by assumption) ?_
  try simp only [Act.put, List.setIfInBounds_toArray, List.set_cons_zero, List.set_cons_succ, List.getElem_toArray, List.getElem_cons_zero, List.getElem_cons_succ]
  refine wpAnyH_take (i := 8) (v := undef) rfl (by kernel_rfl) (by kernel_rfl) (by kernel_rfl) (fun _ _ _ h => h) (Or.inr ⟨by rfl, rfl⟩) (by assumption) ?_
  try simp only [Act.put, List.setIfInBounds_toArray, List.set_cons_zero, List.set_cons_succ, List.getElem_toArray, List.getElem_cons_zero, List.getElem_cons_succ]
  refine wpAnyH_take (i := 9) (v := undef) rfl (by kernel_rfl) (by kernel_rfl) (by kernel_rfl) (fun _ _ _ h => h) (Or.inr ⟨by rfl, rfl⟩) (by assumption) ?_
  try simp only [Act.put, List.setIfInBounds_toArray, List.set_cons_zero, List.set_cons_succ, List.getElem_toArray, List.getElem_cons_zero, List.getElem_cons_succ]
  refine wpAnyH_take (i := 10) (v := undef) rfl (by kernel_rfl) (by kernel_rfl) (by kernel_rfl) (fun _ _ _ h => h) (Or.inr ⟨by rfl, rfl⟩) (by assumption) ?_
  try simp only [Act.put, List.setIfInBounds_toArray, List.set_cons_zero, List.set_cons_succ, List.getElem_toArray, List.getElem_cons_zero, List.getElem_cons_succ]
  refine wpAnyH_take (i := 11) (v := undef) rfl (by kernel_rfl) (by kernel_rfl) (by kernel_rfl) (fun _ _ _ h => h) (Or.inr ⟨by rfl, rfl⟩) (by assumption) ?_
  try simp only [Act.put, List.setIfInBounds_toArray, List.set_cons_zero, List.set_cons_succ, List.getElem_toArray, List.getElem_cons_zero, List.getElem_cons_succ]
  refine wpAnyH_take (i := 12) (v := ?v12_20) rfl (by kernel_rfl) (by kernel_rfl) (by kernel_rfl) (fun _ _ _ h => h) (Or.inl ⟨by rfl, ?hy12_20⟩) (by assumption) ?rest12_20
  case hy12_20 => (intro w9 hSw; clear hSw; go_simp; try with_reducible rfl)
  try simp only [Act.put, List.setIfInBounds_toArray, List.set_cons_zero, List.set_cons_succ, List.getElem_toArray, List.getElem_cons_zero, List.getElem_cons_succ]
  refine wpAnyH_ready (rs := [14]) (by kernel_rfl) (by simp) ?_
  refine AllReadyH.cons rfl (fun K hK => ?_) AllReadyH.nil
  go_simp
  with_reducible refine (pc _ hS).mono ?_
  rintro e w1 ⟨rfl, hb⟩
  replace DZ := DZ.drew.on hb
  replace bz : Below w.heap.size w w1 := bz.drew.trans (hb.mono (by simp; omega))
  obtain ⟨m0, m1, m2, m3, m4⟩ := hS
  replace m0 := Blk.on m0 hb
  replace m1 := Blk.on m1 hb
  replace m2 := Blk.on m2 hb
  replace m3 := Blk.on m3 hb
  replace m4 := Blk.on m4 hb
  have hS := And.intro m0 (And.intro m1 (And.intro m2 (And.intro m3 m4)))
  refine hK.out _ _ ⟨m0, m1, m2, m3, m4⟩ (fun hH => ?_)
  clear hK K hS
  have hS := hH
  clear hH
  try simp only [Act.put, List.setIfInBounds_toArray, List.set_cons_zero, List.set_cons_succ, List.getElem_toArray, List.getElem_cons_zero, List.getElem_cons_succ]
  obtain ⟨k0, k1, k2, k3, k4, k5, k6, k7, k8⟩ := Vbx.cells DZ
  obtain ⟨z0, z1, z2, z3, z4, z5, z6, z7, z8⟩ := Vbx.free DZ
  refine wpAnyH_ready (rs := [15]) (by kernel_rfl) (by simp) ?_
  refine AllReadyH.cons rfl (fun K hK => ?_) AllReadyH.nil
  go_simp
  replace bz : Below w.heap.size w (((((((((w1.setCell ⟨w.heap.size + 5, 0, none⟩ (.pointer p2)).setCell ⟨w.heap.size + 5, 1, none⟩ (.int .i64 t0)).setCell ⟨w.heap.size + 5, 2, none⟩ (.int .i64 t1)).setCell ⟨w.heap.size + 5, 3, none⟩ (.int .i64 t2)).setCell ⟨w.heap.size + 5, 4, none⟩ (.int .i64 t3)).setCell ⟨w.heap.size + 5, 5, none⟩ (.int .i64 t4)).setCell ⟨w.heap.size + 5, 6, none⟩ (.int .i64 t5)).setCell ⟨w.heap.size + 5, 7, none⟩ (.int .i64 t6)).setCell ⟨w.heap.size + 5, 8, none⟩ (.int .i64 t7)) := by go_grown
  obtain ⟨m0, m1, m2, m3, m4⟩ := hS
  have hS := True.intro
  refine hK.out _ _ ⟨Vbx.far m0 (by omega) _ _ _ _ _ _ _ _ _, Blk.far9 m1 (by omega) _ _ _ _ _ _ _ _ _, Blk.far9 m2 (by omega) _ _ _ _ _ _ _ _ _, Blk.far9 m3 (by omega) _ _ _ _ _ _ _ _ _, Blk.far9 m4 (by omega) _ _ _ _ _ _ _ _ _⟩ (fun hH => ?_)
  clear hK K hS
  have hS := hH
  clear hH
  try simp only [Act.put, List.setIfInBounds_toArray, List.set_cons_zero, List.set_cons_succ, List.getElem_toArray, List.getElem_cons_zero, List.getElem_cons_succ]
  refine wpAnyH_done (by kernel_rfl) ?_ _
  go_wp2_with fail
  refine bodyPost_ret (v := (.agg #[.pointer p2, .int .i64 t0, .int .i64 t1, .int .i64 t2, .int .i64 t3, .int .i64 t4, .int .i64 t5, .int .i64 t6, .int .i64 t7])) (by simp [results, Try.results91, go_sem, k0, k1, k2, k3, k4, k5, k6, k7, k8]) rfl ?_
  exact ⟨rfl, bz⟩
end
end Go.Proofs.Ytfelmkkkaphkpaa
