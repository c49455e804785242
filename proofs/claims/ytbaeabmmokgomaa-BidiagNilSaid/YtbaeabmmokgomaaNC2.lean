/-
  Joined (by wip/tools/joinM.py) of CVwG, CVwH, CVwJ, CVwK, CVwL, CVwM, CVwN.
-/
import Derived.Test.YtbaeabmmokgomaaMJTdG
import Derived.Test.YtbaeabmmokgomaaMJRfJ
import Derived.Test.YtbaeabmmokgomaaMJBdB
import Derived.Test.YtbaeabmmokgomaaMJRfD
import Derived.Test.YtbaeabmmokgomaaNC1
import Derived.Deep.RegionHeld
import Derived.RangeFuncNested
import Derived.RangeFuncBound
import Derived.RangeFuncCalls
import Derived.RangeFuncLeaves
import Derived.RangeFuncBox
import Derived.Shelf.Abstract
import Derived.Shelf.RegionOpen
import Derived.WalkKit
import Derived.OwnWalkIn
import Derived.TacticsInMore
import Derived.LoopNIn
import Derived.LoopIn
import Derived.Maps.AppendAt
import Derived.OrdersHeld
import Derived.OrdersIn
namespace Go.Proofs.Ytbaeabmmokgomaa
open Go.RowKit Go.Bw Go.Sort
set_option linter.unusedVariables false
set_option linter.unusedSimpArgs false
attribute [local go_sem] run_store_float

section
variable {w : World} {v : Vu} {K : Int}
theorem Vbx.far {b g : Nat} (h : Vbx w g v) (hne : g ≠ b) (x0 x1 x2 x3 x4 x5 x6 x7 x8 : Value) : Vbx (((((((((w.setCell ⟨b, 0, none⟩ x0).setCell ⟨b, 1, none⟩ x1).setCell ⟨b, 2, none⟩ x2).setCell ⟨b, 3, none⟩ x3).setCell ⟨b, 4, none⟩ x4).setCell ⟨b, 5, none⟩ x5).setCell ⟨b, 6, none⟩ x6).setCell ⟨b, 7, none⟩ x7).setCell ⟨b, 8, none⟩ x8) g v :=
  ((((((((Blk.far h (p := ⟨b, 0, none⟩) hne x0).far (p := ⟨b, 1, none⟩) hne x1).far (p := ⟨b, 2, none⟩) hne x2).far (p := ⟨b, 3, none⟩) hne x3).far (p := ⟨b, 4, none⟩) hne x4).far (p := ⟨b, 5, none⟩) hne x5).far (p := ⟨b, 6, none⟩) hne x6).far (p := ⟨b, 7, none⟩) hne x7).far (p := ⟨b, 8, none⟩) hne x8
theorem Blk.far9 {b g : Nat} {vs : List Value} (h : Blk w g vs) (hne : g ≠ b) (x0 x1 x2 x3 x4 x5 x6 x7 x8 : Value) : Blk (((((((((w.setCell ⟨b, 0, none⟩ x0).setCell ⟨b, 1, none⟩ x1).setCell ⟨b, 2, none⟩ x2).setCell ⟨b, 3, none⟩ x3).setCell ⟨b, 4, none⟩ x4).setCell ⟨b, 5, none⟩ x5).setCell ⟨b, 6, none⟩ x6).setCell ⟨b, 7, none⟩ x7).setCell ⟨b, 8, none⟩ x8) g vs :=
  ((((((((Blk.far h (p := ⟨b, 0, none⟩) hne x0).far (p := ⟨b, 1, none⟩) hne x1).far (p := ⟨b, 2, none⟩) hne x2).far (p := ⟨b, 3, none⟩) hne x3).far (p := ⟨b, 4, none⟩) hne x4).far (p := ⟨b, 5, none⟩) hne x5).far (p := ⟨b, 6, none⟩) hne x6).far (p := ⟨b, 7, none⟩) hne x7).far (p := ⟨b, 8, none⟩) hne x8
theorem Vbx.put {g : Nat} (h : Vbx w g v) (u : Vu) : Vbx (((((((((w.setCell ⟨g, 0, none⟩ (.pointer u.p)).setCell ⟨g, 1, none⟩ (.int .i64 u.f0)).setCell ⟨g, 2, none⟩ (.int .i64 u.f1)).setCell ⟨g, 3, none⟩ (.int .i64 u.d0)).setCell ⟨g, 4, none⟩ (.int .i64 u.d1)).setCell ⟨g, 5, none⟩ (.int .i64 u.r0)).setCell ⟨g, 6, none⟩ (.int .i64 u.r1)).setCell ⟨g, 7, none⟩ (.int .i64 u.R)).setCell ⟨g, 8, none⟩ (.int .i64 u.C)) g u :=
  ((((((((Blk.set_ h 0 (.pointer u.p)).set_ 1 (.int .i64 u.f0)).set_ 2 (.int .i64 u.f1)).set_ 3 (.int .i64 u.d0)).set_ 4 (.int .i64 u.d1)).set_ 5 (.int .i64 u.r0)).set_ 6 (.int .i64 u.r1)).set_ 7 (.int .i64 u.R)).set_ 8 (.int .i64 u.C)
/-- what Part, Diag answer: none of what is none -/
def Vu.partO (v : Vu) (i j r n : Int) : Vu := if v.p == none then Vu.zero else if withinB i r v.R && withinB j n v.C then v.part i j r n else Vu.zero
def Vu.diagO (v : Vu) : Vu := if v.p == none then Vu.zero else v.diag
def Vu.turnO (v : Vu) : Vu := if v.p == none then Vu.zero else v.T
theorem within_bd {i n m : Int} (h : withinB i n m = true) (h1 : m ≤ 512) : 0 ≤ i ∧ i ≤ 512 ∧ 0 ≤ n ∧ n ≤ 512 := by
  have := of_decide_eq_true h
  omega
set_option maxHeartbeats 1000000 in
theorem Diag_any (hv : Bd v K) (w : World) : Calls Try.prog 72 #[v.V] w (Ans w (v.diagO).V) := by
  have DB := (Blk.new w v.L 57).alloc (.cells Vu.zero.L.toArray 57)
  have DZ := Blk.new (w.alloc (.cells v.L.toArray 57)) Vu.zero.L 57
  rw [World.size_alloc] at DZ
  have bz := ((Below.refl _ w).alloc (Nat.le_refl _) (.cells v.L.toArray 57)).alloc (by simp) (.cells Vu.zero.L.toArray 57)
  have pc : ∀ W, Vbx W w.heap.size v → Calls Try.prog 86 #[v.V, .bool true, .func (.func 96) #[] #[.pointer (some ⟨w.heap.size, 0, none⟩)]] W (Ans W (v.diagO).V) := fun W hW => by
    cases hz : (v.p == none)
    · have e : v.diagO = v.diag := by unfold Vu.diagO; rw [hz]; rfl
      rw [e]
      exact cutD hz hv hW
    · have e : v.diagO = Vu.zero := by unfold Vu.diagO; rw [hz]; rfl
      rw [e]
      exact cut_no (.inl hz)
  replace pc := pc _ DB
  obtain ⟨V2, hV2⟩ : ∃ V2, v.diagO = V2 := ⟨_, rfl⟩
  rw [hV2]
  rw [hV2] at pc
  clear hV2
  obtain ⟨p2, t0, t1, t2, t3, t4, t5, t6, t7⟩ := V2
  obtain ⟨p, f0, f1, d0, d1, r0, r1, R, C⟩ := v
  go_enter Try.func72, Try.ntmps72
  go_wp2_with fail
  with_reducible refine pc.mono ?_
  rintro e w1 ⟨rfl, hb⟩
  replace DZ := DZ.on hb
  replace bz := bz.trans (hb.mono (by simp; omega))
  obtain ⟨k0, k1, k2, k3, k4, k5, k6, k7, k8⟩ := Vbx.cells DZ
  obtain ⟨z0, z1, z2, z3, z4, z5, z6, z7, z8⟩ := Vbx.free DZ
  go_wp2_with fail
  refine bodyPost_ret (v := (.agg #[.pointer p2, .int .i64 t0, .int .i64 t1, .int .i64 t2, .int .i64 t3, .int .i64 t4, .int .i64 t5, .int .i64 t6, .int .i64 t7])) (by simp [results, Try.results72, go_sem, k0, k1, k2, k3, k4, k5, k6, k7, k8]) rfl ?_
  exact ⟨rfl, by go_grown⟩
set_option maxRecDepth 100000 in
set_option maxHeartbeats 4000000 in
theorem part_two {i j r n : Int} {V2 : Vu} {b : Bool} (pw : ∀ W, Calls Try.prog 87 #[.int .i64 i, .int .i64 r, .int .i64 v.R] W fun e w' => e = .returned (.bool true) ∧ w' = W) (pw2 : ∀ W, Calls Try.prog 87 #[.int .i64 j, .int .i64 n, .int .i64 v.C] W fun e w' => e = .returned (.bool b) ∧ w' = W)
    (pc : ∀ W, (Vbx W w.heap.size v ∧ Blk W (w.heap.size + 1) [.int .i64 i] ∧ Blk W (w.heap.size + 2) [.int .i64 j] ∧ Blk W (w.heap.size + 3) [.int .i64 r] ∧ Blk W (w.heap.size + 4) [.int .i64 n]) → Calls Try.prog 86 #[v.V, .bool b, .func (.func 88) #[] #[.pointer (some ⟨w.heap.size, 0, none⟩), .pointer (some ⟨w.heap.size + 1, 0, none⟩), .pointer (some ⟨w.heap.size + 2, 0, none⟩), .pointer (some ⟨w.heap.size + 3, 0, none⟩), .pointer (some ⟨w.heap.size + 4, 0, none⟩)]] W (Ans W V2.V)) :
    Calls Try.prog 62 #[v.V, .int .i64 i, .int .i64 j, .int .i64 r, .int .i64 n] w (Ans w V2.V) := by
  have m0 := Blk.new w v.L 57
  obtain ⟨p2, t0, t1, t2, t3, t4, t5, t6, t7⟩ := V2
  obtain ⟨p, f0, f1, d0, d1, r0, r1, R, C⟩ := v
  have bz := (Below.refl _ w).alloc (Nat.le_refl _) (.cells (Vu.L ⟨p, f0, f1, d0, d1, r0, r1, R, C⟩).toArray 57)
  have hsz : (w.alloc (.cells (Vu.L ⟨p, f0, f1, d0, d1, r0, r1, R, C⟩).toArray 57)).heap.size = w.heap.size + 1 := World.size_alloc _ _
  go_enter Try.func62, Try.ntmps62
  go_upto_region 1 with fail
  generalize (w.alloc (.cells (Vu.L ⟨p, f0, f1, d0, d1, r0, r1, R, C⟩).toArray 57)) = W1 at m0 bz hsz ⊢
  have m1 := Blk.new W1 [.int .i64 i] 3
  replace m0 := m0.alloc (.cells #[.int .i64 i] 3)
  replace bz := bz.alloc (by omega) (.cells #[.int .i64 i] 3)
  have hsz2 : (W1.alloc (.cells #[.int .i64 i] 3)).heap.size = w.heap.size + 2 := by rw [World.size_alloc, hsz]
  rw [hsz] at m1
  generalize (W1.alloc (.cells #[.int .i64 i] 3)) = W2 at m0 m1 bz hsz2 ⊢
  have m2 := Blk.new W2 [.int .i64 j] 3
  replace m0 := m0.alloc (.cells #[.int .i64 j] 3)
  replace m1 := m1.alloc (.cells #[.int .i64 j] 3)
  replace bz := bz.alloc (by omega) (.cells #[.int .i64 j] 3)
  have hsz3 : (W2.alloc (.cells #[.int .i64 j] 3)).heap.size = w.heap.size + 3 := by rw [World.size_alloc, hsz2]
  rw [hsz2] at m2
  generalize (W2.alloc (.cells #[.int .i64 j] 3)) = W3 at m0 m1 m2 bz hsz3 ⊢
  have m3 := Blk.new W3 [.int .i64 r] 3
  replace m0 := m0.alloc (.cells #[.int .i64 r] 3)
  replace m1 := m1.alloc (.cells #[.int .i64 r] 3)
  replace m2 := m2.alloc (.cells #[.int .i64 r] 3)
  replace bz := bz.alloc (by omega) (.cells #[.int .i64 r] 3)
  have hsz4 : (W3.alloc (.cells #[.int .i64 r] 3)).heap.size = w.heap.size + 4 := by rw [World.size_alloc, hsz3]
  rw [hsz3] at m3
  generalize (W3.alloc (.cells #[.int .i64 r] 3)) = W4 at m0 m1 m2 m3 bz hsz4 ⊢
  have m4 := Blk.new W4 [.int .i64 n] 3
  replace m0 := m0.alloc (.cells #[.int .i64 n] 3)
  replace m1 := m1.alloc (.cells #[.int .i64 n] 3)
  replace m2 := m2.alloc (.cells #[.int .i64 n] 3)
  replace m3 := m3.alloc (.cells #[.int .i64 n] 3)
  replace bz := bz.alloc (by omega) (.cells #[.int .i64 n] 3)
  have hsz5 : (W4.alloc (.cells #[.int .i64 n] 3)).heap.size = w.heap.size + 5 := by rw [World.size_alloc, hsz4]
  rw [hsz4] at m4
  generalize (W4.alloc (.cells #[.int .i64 n] 3)) = W5 at m0 m1 m2 m3 m4 bz hsz5 ⊢
  have DZ := Blk.new W5 Vu.zero.L 57
  replace m0 := m0.alloc (.cells Vu.zero.L.toArray 57)
  replace m1 := m1.alloc (.cells Vu.zero.L.toArray 57)
  replace m2 := m2.alloc (.cells Vu.zero.L.toArray 57)
  replace m3 := m3.alloc (.cells Vu.zero.L.toArray 57)
  replace m4 := m4.alloc (.cells Vu.zero.L.toArray 57)
  replace bz := bz.alloc (by omega) (.cells Vu.zero.L.toArray 57)
  have hsz6 : (W5.alloc (.cells Vu.zero.L.toArray 57)).heap.size = w.heap.size + 6 := by rw [World.size_alloc, hsz5]
  rw [hsz5] at DZ
  generalize hW6 : (W5.alloc (.cells Vu.zero.L.toArray 57)) = W6 at m0 m1 m2 m3 m4 DZ bz hsz6 ⊢
  clear hsz hsz2 hsz3 hsz4 hsz5
  refine wp_region_held_drew (S := fun w9 : World => Vbx w9 w.heap.size ⟨p, f0, f1, d0, d1, r0, r1, R, C⟩ ∧ Blk w9 (w.heap.size + 1) [.int .i64 i] ∧ Blk w9 (w.heap.size + 2) [.int .i64 j] ∧ Blk w9 (w.heap.size + 3) [.int .i64 r] ∧ Blk w9 (w.heap.size + 4) [.int .i64 n]) (by kernel_rfl) ⟨m0.drew, m1.drew, m2.drew, m3.drew, m4.drew⟩ (fun hS => ?_)
  refine wpAnyH_take (i := 0) (v := ?v0_1) rfl (by kernel_rfl) (by kernel_rfl) (by kernel_rfl) (fun _ _ _ h => h) (Or.inl ⟨by rfl, ?hy0_1⟩) (by assumption) ?rest0_1
  case hy0_1 => (intro w9 hSw; obtain ⟨m0, m1, m2, m3, m4⟩ := hSw; obtain ⟨c0, c1, c2, c3, c4, c5, c6, c7, c8⟩ := Vbx.cells m0; go_simp; try with_reducible rfl)
  try simp only [Act.put, List.setIfInBounds_toArray, List.set_cons_zero, List.set_cons_succ, List.getElem_toArray, List.getElem_cons_zero, List.getElem_cons_succ]
  refine wpAnyH_take (i := 1) (v := ?v1_2) rfl (by kernel_rfl) (by kernel_rfl) (by kernel_rfl) (fun _ _ _ h => h) (Or.inl ⟨by rfl, ?hy1_2⟩) (by assumption) ?rest1_2
  case hy1_2 => (intro w9 hSw; obtain ⟨m0, m1, m2, m3, m4⟩ := hSw; have c0 := Blk.cell m1 0 rfl; go_simp; try with_reducible rfl)
  try simp only [Act.put, List.setIfInBounds_toArray, List.set_cons_zero, List.set_cons_succ, List.getElem_toArray, List.getElem_cons_zero, List.getElem_cons_succ]
  refine wpAnyH_take (i := 2) (v := ?v2_3) rfl (by kernel_rfl) (by kernel_rfl) (by kernel_rfl) (fun _ _ _ h => h) (Or.inl ⟨by rfl, ?hy2_3⟩) (by assumption) ?rest2_3
  case hy2_3 => (intro w9 hSw; obtain ⟨m0, m1, m2, m3, m4⟩ := hSw; have c0 := Blk.cell m3 0 rfl; go_simp; try with_reducible rfl)
  try simp only [Act.put, List.setIfInBounds_toArray, List.set_cons_zero, List.set_cons_succ, List.getElem_toArray, List.getElem_cons_zero, List.getElem_cons_succ]
  refine wpAnyH_take (i := 3) (v := ?v3_4) rfl (by kernel_rfl) (by kernel_rfl) (by kernel_rfl) (fun _ _ _ h => h) (Or.inl ⟨by rfl, ?hy3_4⟩) (by assumption) ?rest3_4
  case hy3_4 => (intro w9 hSw; clear hSw; go_simp; try with_reducible rfl)
  try simp only [Act.put, List.setIfInBounds_toArray, List.set_cons_zero, List.set_cons_succ, List.getElem_toArray, List.getElem_cons_zero, List.getElem_cons_succ]
  refine wpAnyH_take (i := 4) (v := ?v4_5) rfl (by kernel_rfl) (by kernel_rfl) (by kernel_rfl) (fun _ _ _ h => h) (Or.inl ⟨by rfl, ?hy4_5⟩) (by assumption) ?rest4_5
  case hy4_5 => (intro w9 hSw; obtain ⟨m0, m1, m2, m3, m4⟩ := hSw; obtain ⟨c0, c1, c2, c3, c4, c5, c6, c7, c8⟩ := Vbx.cells m0; go_simp; try with_reducible rfl)
  try simp only [Act.put, List.setIfInBounds_toArray, List.set_cons_zero, List.set_cons_succ, List.getElem_toArray, List.getElem_cons_zero, List.getElem_cons_succ]
  refine wpAnyH_take (i := 13) (v := ?v13_6) rfl (by kernel_rfl) (by kernel_rfl) (by kernel_rfl) (fun _ _ _ h => h) (Or.inl ⟨by rfl, ?hy13_6⟩) (by assumption) ?rest13_6
  case hy13_6 => (intro w9 hSw; clear hSw; go_simp; try with_reducible rfl)
  try simp only [Act.put, List.setIfInBounds_toArray, List.set_cons_zero, List.set_cons_succ, List.getElem_toArray, List.getElem_cons_zero, List.getElem_cons_succ]
  refine wpAnyH_ready (rs := [5]) (by kernel_rfl) (by simp) ?_
  refine AllReadyH.cons rfl (fun K hK => ?_) AllReadyH.nil
  go_simp
  with_reducible refine (pw _).mono ?_
  rintro e u1 ⟨rfl, rfl⟩
  refine hK.out _ _ hS (fun hH => ?_)
  clear hK K hS
  have hS := hH
  clear hH
  try simp only [Act.put, List.setIfInBounds_toArray, List.set_cons_zero, List.set_cons_succ, List.getElem_toArray, List.getElem_cons_zero, List.getElem_cons_succ]
  refine wpAnyH_take (i := 6) (v := ?v6_7) rfl (by kernel_rfl) (by kernel_rfl) (by kernel_rfl) (fun _ _ _ h => h) (Or.inl ⟨by rfl, ?hy6_7⟩) (by assumption) ?rest6_7
  case hy6_7 => (intro w9 hSw; clear hSw; go_simp; try with_reducible rfl)
  try simp only [Act.put, List.setIfInBounds_toArray, List.set_cons_zero, List.set_cons_succ, List.getElem_toArray, List.getElem_cons_zero, List.getElem_cons_succ]
  refine wpAnyH_take (i := 7) (v := ?v7_8) rfl (by kernel_rfl) (by kernel_rfl) (by kernel_rfl) (fun _ _ _ h => h) (Or.inl ⟨by rfl, ?hy7_8⟩) (by assumption) ?rest7_8
  case hy7_8 => (intro w9 hSw; obtain ⟨m0, m1, m2, m3, m4⟩ := hSw; have c0 := Blk.cell m2 0 rfl; go_simp; try with_reducible rfl)
  try simp only [Act.put, List.setIfInBounds_toArray, List.set_cons_zero, List.set_cons_succ, List.getElem_toArray, List.getElem_cons_zero, List.getElem_cons_succ]
  refine wpAnyH_take (i := 8) (v := ?v8_9) rfl (by kernel_rfl) (by kernel_rfl) (by kernel_rfl) (fun _ _ _ h => h) (Or.inl ⟨by rfl, ?hy8_9⟩) (by assumption) ?rest8_9
  case hy8_9 => (intro w9 hSw; obtain ⟨m0, m1, m2, m3, m4⟩ := hSw; have c0 := Blk.cell m4 0 rfl; go_simp; try with_reducible rfl)
  try simp only [Act.put, List.setIfInBounds_toArray, List.set_cons_zero, List.set_cons_succ, List.getElem_toArray, List.getElem_cons_zero, List.getElem_cons_succ]
  refine wpAnyH_take (i := 9) (v := ?v9_10) rfl (by kernel_rfl) (by kernel_rfl) (by kernel_rfl) (fun _ _ _ h => h) (Or.inl ⟨by rfl, ?hy9_10⟩) (by assumption) ?rest9_10
  case hy9_10 => (intro w9 hSw; clear hSw; go_simp; try with_reducible rfl)
  try simp only [Act.put, List.setIfInBounds_toArray, List.set_cons_zero, List.set_cons_succ, List.getElem_toArray, List.getElem_cons_zero, List.getElem_cons_succ]
  refine wpAnyH_take (i := 10) (v := ?v10_11) rfl (by kernel_rfl) (by kernel_rfl) (by kernel_rfl) (fun _ _ _ h => h) (Or.inl ⟨by rfl, ?hy10_11⟩) (by assumption) ?rest10_11
  case hy10_11 => (intro w9 hSw; obtain ⟨m0, m1, m2, m3, m4⟩ := hSw; obtain ⟨c0, c1, c2, c3, c4, c5, c6, c7, c8⟩ := Vbx.cells m0; go_simp; try with_reducible rfl)
  try simp only [Act.put, List.setIfInBounds_toArray, List.set_cons_zero, List.set_cons_succ, List.getElem_toArray, List.getElem_cons_zero, List.getElem_cons_succ]
  refine wpAnyH_ready (rs := [11]) (by kernel_rfl) (by simp) ?_
  refine AllReadyH.cons rfl (fun K hK => ?_) AllReadyH.nil
  go_simp
  with_reducible refine (pw2 _).mono ?_
  rintro e u2 ⟨rfl, rfl⟩
  refine hK.out _ _ hS (fun hH => ?_)
  clear hK K hS
  have hS := hH
  clear hH
  try simp only [Act.put, List.setIfInBounds_toArray, List.set_cons_zero, List.set_cons_succ, List.getElem_toArray, List.getElem_cons_zero, List.getElem_cons_succ]
  refine wpAnyH_take (i := 12) (v := ?v12_12) rfl (by kernel_rfl) (by kernel_rfl) (by kernel_rfl) (fun _ _ _ h => h) (Or.inl ⟨by rfl, ?hy12_12⟩) (by assumption) ?rest12_12
  case hy12_12 => (intro w9 hSw; clear hSw; go_simp; try with_reducible rfl)
  try simp only [Act.put, List.setIfInBounds_toArray, List.set_cons_zero, List.set_cons_succ, List.getElem_toArray, List.getElem_cons_zero, List.getElem_cons_succ]
  refine wpAnyH_ready (rs := [14]) (by kernel_rfl) (by simp) ?_
  refine AllReadyH.cons rfl (fun K hK => ?_) AllReadyH.nil
  go_simp
  with_reducible refine (pc _ hS).mono ?_
  rintro e w1 ⟨rfl, hb⟩
  replace DZ := DZ.drew.on hb
  replace bz : Below w.heap.size w w1 := bz.drew.trans (hb.mono (by simp; omega))
  obtain ⟨m0, m1, m2, m3, m4⟩ := hS
  replace m0 := Blk.on m0 hb
  replace m1 := Blk.on m1 hb
  replace m2 := Blk.on m2 hb
  replace m3 := Blk.on m3 hb
  replace m4 := Blk.on m4 hb
  have hS := And.intro m0 (And.intro m1 (And.intro m2 (And.intro m3 m4)))
  refine hK.out _ _ ⟨m0, m1, m2, m3, m4⟩ (fun hH => ?_)
  clear hK K hS
  have hS := hH
  clear hH
  try simp only [Act.put, List.setIfInBounds_toArray, List.set_cons_zero, List.set_cons_succ, List.getElem_toArray, List.getElem_cons_zero, List.getElem_cons_succ]
  obtain ⟨k0, k1, k2, k3, k4, k5, k6, k7, k8⟩ := Vbx.cells DZ
  obtain ⟨z0, z1, z2, z3, z4, z5, z6, z7, z8⟩ := Vbx.free DZ
  refine wpAnyH_ready (rs := [15]) (by kernel_rfl) (by simp) ?_
  refine AllReadyH.cons rfl (fun K hK => ?_) AllReadyH.nil
  go_simp
  replace bz : Below w.heap.size w (((((((((w1.setCell ⟨w.heap.size + 5, 0, none⟩ (.pointer p2)).setCell ⟨w.heap.size + 5, 1, none⟩ (.int .i64 t0)).setCell ⟨w.heap.size + 5, 2, none⟩ (.int .i64 t1)).setCell ⟨w.heap.size + 5, 3, none⟩ (.int .i64 t2)).setCell ⟨w.heap.size + 5, 4, none⟩ (.int .i64 t3)).setCell ⟨w.heap.size + 5, 5, none⟩ (.int .i64 t4)).setCell ⟨w.heap.size + 5, 6, none⟩ (.int .i64 t5)).setCell ⟨w.heap.size + 5, 7, none⟩ (.int .i64 t6)).setCell ⟨w.heap.size + 5, 8, none⟩ (.int .i64 t7)) := by go_grown
  obtain ⟨m0, m1, m2, m3, m4⟩ := hS
  have hS := True.intro
  refine hK.out _ _ ⟨Vbx.far m0 (by omega) _ _ _ _ _ _ _ _ _, Blk.far9 m1 (by omega) _ _ _ _ _ _ _ _ _, Blk.far9 m2 (by omega) _ _ _ _ _ _ _ _ _, Blk.far9 m3 (by omega) _ _ _ _ _ _ _ _ _, Blk.far9 m4 (by omega) _ _ _ _ _ _ _ _ _⟩ (fun hH => ?_)
  clear hK K hS
  have hS := hH
  clear hH
  try simp only [Act.put, List.setIfInBounds_toArray, List.set_cons_zero, List.set_cons_succ, List.getElem_toArray, List.getElem_cons_zero, List.getElem_cons_succ]
  refine wpAnyH_done (by kernel_rfl) ?_ _
  go_wp2_with fail
  refine bodyPost_ret (v := (.agg #[.pointer p2, .int .i64 t0, .int .i64 t1, .int .i64 t2, .int .i64 t3, .int .i64 t4, .int .i64 t5, .int .i64 t6, .int .i64 t7])) (by simp [results, Try.results62, go_sem, k0, k1, k2, k3, k4, k5, k6, k7, k8]) rfl ?_
  exact ⟨rfl, bz⟩
set_option maxRecDepth 100000 in
set_option maxHeartbeats 4000000 in
theorem part_one {i j r n : Int} {V2 : Vu} (pw : ∀ W, Calls Try.prog 87 #[.int .i64 i, .int .i64 r, .int .i64 v.R] W fun e w' => e = .returned (.bool false) ∧ w' = W)
    (pc : ∀ W, (Vbx W w.heap.size v ∧ Blk W (w.heap.size + 1) [.int .i64 i] ∧ Blk W (w.heap.size + 2) [.int .i64 j] ∧ Blk W (w.heap.size + 3) [.int .i64 r] ∧ Blk W (w.heap.size + 4) [.int .i64 n]) → Calls Try.prog 86 #[v.V, .bool false, .func (.func 88) #[] #[.pointer (some ⟨w.heap.size, 0, none⟩), .pointer (some ⟨w.heap.size + 1, 0, none⟩), .pointer (some ⟨w.heap.size + 2, 0, none⟩), .pointer (some ⟨w.heap.size + 3, 0, none⟩), .pointer (some ⟨w.heap.size + 4, 0, none⟩)]] W (Ans W V2.V)) :
    Calls Try.prog 62 #[v.V, .int .i64 i, .int .i64 j, .int .i64 r, .int .i64 n] w (Ans w V2.V) := by
  have m0 := Blk.new w v.L 57
  obtain ⟨p2, t0, t1, t2, t3, t4, t5, t6, t7⟩ := V2
  obtain ⟨p, f0, f1, d0, d1, r0, r1, R, C⟩ := v
  have bz := (Below.refl _ w).alloc (Nat.le_refl _) (.cells (Vu.L ⟨p, f0, f1, d0, d1, r0, r1, R, C⟩).toArray 57)
  have hsz : (w.alloc (.cells (Vu.L ⟨p, f0, f1, d0, d1, r0, r1, R, C⟩).toArray 57)).heap.size = w.heap.size + 1 := World.size_alloc _ _
  go_enter Try.func62, Try.ntmps62
  go_upto_region 1 with fail
  generalize (w.alloc (.cells (Vu.L ⟨p, f0, f1, d0, d1, r0, r1, R, C⟩).toArray 57)) = W1 at m0 bz hsz ⊢
  have m1 := Blk.new W1 [.int .i64 i] 3
  replace m0 := m0.alloc (.cells #[.int .i64 i] 3)
  replace bz := bz.alloc (by omega) (.cells #[.int .i64 i] 3)
  have hsz2 : (W1.alloc (.cells #[.int .i64 i] 3)).heap.size = w.heap.size + 2 := by rw [World.size_alloc, hsz]
  rw [hsz] at m1
  generalize (W1.alloc (.cells #[.int .i64 i] 3)) = W2 at m0 m1 bz hsz2 ⊢
  have m2 := Blk.new W2 [.int .i64 j] 3
  replace m0 := m0.alloc (.cells #[.int .i64 j] 3)
  replace m1 := m1.alloc (.cells #[.int .i64 j] 3)
  replace bz := bz.alloc (by omega) (.cells #[.int .i64 j] 3)
  have hsz3 : (W2.alloc (.cells #[.int .i64 j] 3)).heap.size = w.heap.size + 3 := by rw [World.size_alloc, hsz2]
  rw [hsz2] at m2
  generalize (W2.alloc (.cells #[.int .i64 j] 3)) = W3 at m0 m1 m2 bz hsz3 ⊢
  have m3 := Blk.new W3 [.int .i64 r] 3
  replace m0 := m0.alloc (.cells #[.int .i64 r] 3)
  replace m1 := m1.alloc (.cells #[.int .i64 r] 3)
  replace m2 := m2.alloc (.cells #[.int .i64 r] 3)
  replace bz := bz.alloc (by omega) (.cells #[.int .i64 r] 3)
  have hsz4 : (W3.alloc (.cells #[.int .i64 r] 3)).heap.size = w.heap.size + 4 := by rw [World.size_alloc, hsz3]
  rw [hsz3] at m3
  generalize (W3.alloc (.cells #[.int .i64 r] 3)) = W4 at m0 m1 m2 m3 bz hsz4 ⊢
  have m4 := Blk.new W4 [.int .i64 n] 3
  replace m0 := m0.alloc (.cells #[.int .i64 n] 3)
  replace m1 := m1.alloc (.cells #[.int .i64 n] 3)
  replace m2 := m2.alloc (.cells #[.int .i64 n] 3)
  replace m3 := m3.alloc (.cells #[.int .i64 n] 3)
  replace bz := bz.alloc (by omega) (.cells #[.int .i64 n] 3)
  have hsz5 : (W4.alloc (.cells #[.int .i64 n] 3)).heap.size = w.heap.size + 5 := by rw [World.size_alloc, hsz4]
  rw [hsz4] at m4
  generalize (W4.alloc (.cells #[.int .i64 n] 3)) = W5 at m0 m1 m2 m3 m4 bz hsz5 ⊢
  have DZ := Blk.new W5 Vu.zero.L 57
  replace m0 := m0.alloc (.cells Vu.zero.L.toArray 57)
  replace m1 := m1.alloc (.cells Vu.zero.L.toArray 57)
  replace m2 := m2.alloc (.cells Vu.zero.L.toArray 57)
  replace m3 := m3.alloc (.cells Vu.zero.L.toArray 57)
  replace m4 := m4.alloc (.cells Vu.zero.L.toArray 57)
  replace bz := bz.alloc (by omega) (.cells Vu.zero.L.toArray 57)
  have hsz6 : (W5.alloc (.cells Vu.zero.L.toArray 57)).heap.size = w.heap.size + 6 := by rw [World.size_alloc, hsz5]
  rw [hsz5] at DZ
  generalize hW6 : (W5.alloc (.cells Vu.zero.L.toArray 57)) = W6 at m0 m1 m2 m3 m4 DZ bz hsz6 ⊢
  clear hsz hsz2 hsz3 hsz4 hsz5
  refine wp_region_held_drew (S := fun w9 : World => Vbx w9 w.heap.size ⟨p, f0, f1, d0, d1, r0, r1, R, C⟩ ∧ Blk w9 (w.heap.size + 1) [.int .i64 i] ∧ Blk w9 (w.heap.size + 2) [.int .i64 j] ∧ Blk w9 (w.heap.size + 3) [.int .i64 r] ∧ Blk w9 (w.heap.size + 4) [.int .i64 n]) (by kernel_rfl) ⟨m0.drew, m1.drew, m2.drew, m3.drew, m4.drew⟩ (fun hS => ?_)
  refine wpAnyH_take (i := 0) (v := ?v0_13) rfl (by kernel_rfl) (by kernel_rfl) (by kernel_rfl) (fun _ _ _ h => h) (Or.inl ⟨by rfl, ?hy0_13⟩) (by assumption) ?rest0_13
  case hy0_13 => (intro w9 hSw; obtain ⟨m0, m1, m2, m3, m4⟩ := hSw; obtain ⟨c0, c1, c2, c3, c4, c5, c6, c7, c8⟩ := Vbx.cells m0; go_simp; try with_reducible rfl)
  try simp only [Act.put, List.setIfInBounds_toArray, List.set_cons_zero, List.set_cons_succ, List.getElem_toArray, List.getElem_cons_zero, List.getElem_cons_succ]
  refine wpAnyH_take (i := 1) (v := ?v1_14) rfl (by kernel_rfl) (by kernel_rfl) (by kernel_rfl) (fun _ _ _ h => h) (Or.inl ⟨by rfl, ?hy1_14⟩) (by assumption) ?rest1_14
  case hy1_14 => (intro w9 hSw; obtain ⟨m0, m1, m2, m3, m4⟩ := hSw; have c0 := Blk.cell m1 0 rfl; go_simp; try with_reducible rfl)
  try simp only [Act.put, List.setIfInBounds_toArray, List.set_cons_zero, List.set_cons_succ, List.getElem_toArray, List.getElem_cons_zero, List.getElem_cons_succ]
  refine wpAnyH_take (i := 2) (v := ?v2_15) rfl (by kernel_rfl) (by kernel_rfl) (by kernel_rfl) (fun _ _ _ h => h) (Or.inl ⟨by rfl, ?hy2_15⟩) (by assumption) ?rest2_15
  case hy2_15 => (intro w9 hSw; obtain ⟨m0, m1, m2, m3, m4⟩ := hSw; have c0 := Blk.cell m3 0 rfl; go_simp; try with_reducible rfl)
  try simp only [Act.put, List.setIfInBounds_toArray, List.set_cons_zero, List.set_cons_succ, List.getElem_toArray, List.getElem_cons_zero, List.getElem_cons_succ]
  refine wpAnyH_take (i := 3) (v := ?v3_16) rfl (by kernel_rfl) (by kernel_rfl) (by kernel_rfl) (fun _ _ _ h => h) (Or.inl ⟨by rfl, ?hy3_16⟩) (by assumption) ?rest3_16
  case hy3_16 => (intro w9 hSw; clear hSw; go_simp; try with_reducible rfl)
  try simp only [Act.put, List.setIfInBounds_toArray, List.set_cons_zero, List.set_cons_succ, List.getElem_toArray, List.getElem_cons_zero, List.getElem_cons_succ]
  refine wpAnyH_take (i := 4) (v := ?v4_17) rfl (by kernel_rfl) (by kernel_rfl) (by kernel_rfl) (fun _ _ _ h => h) (Or.inl ⟨by rfl, ?hy4_17⟩) (by assumption) ?rest4_17
  case hy4_17 => (intro w9 hSw; obtain ⟨m0, m1, m2, m3, m4⟩ := hSw; obtain ⟨c0, c1, c2, c3, c4, c5, c6, c7, c8⟩ := Vbx.cells m0; go_simp; try with_reducible rfl)
  try simp only [Act.put, List.setIfInBounds_toArray, List.set_cons_zero, List.set_cons_succ, List.getElem_toArray, List.getElem_cons_zero, List.getElem_cons_succ]
  refine wpAnyH_take (i := 13) (v := ?v13_18) rfl (by kernel_rfl) (by kernel_rfl) (by kernel_rfl) (fun _ _ _ h => h) (Or.inl ⟨by rfl, ?hy13_18⟩) (by assumption) ?rest13_18
  case hy13_18 => (intro w9 hSw; clear hSw; go_simp; try with_reducible rfl)
  try simp only [Act.put, List.setIfInBounds_toArray, List.set_cons_zero, List.set_cons_succ, List.getElem_toArray, List.getElem_cons_zero, List.getElem_cons_succ]
  refine wpAnyH_ready (rs := [5]) (by kernel_rfl) (by simp) ?_
  refine AllReadyH.cons rfl (fun K hK => ?_) AllReadyH.nil
  go_simp
  with_reducible refine (pw _).mono ?_
  rintro e u1 ⟨rfl, rfl⟩
  refine hK.out _ _ hS (fun hH => ?_)
  clear hK K hS
  have hS := hH
  clear hH
  try simp only [Act.put, List.setIfInBounds_toArray, List.set_cons_zero, List.set_cons_succ, List.getElem_toArray, List.getElem_cons_zero, List.getElem_cons_succ]
  refine wpAnyH_take (i := 6) (v := ?v6_19) rfl (by kernel_rfl) (by kernel_rfl) (by kernel_rfl) (fun _ _ _ h => h) (Or.inl ⟨by rfl, ?hy6_19⟩) (by assumption) ?rest6_19
  case hy6_19 => (intro w9 hSw; clear hSw; go_simp; try with_reducible rfl)
  try simp only [Act.put, List.setIfInBounds_toArray, List.set_cons_zero, List.set_cons_succ, List.getElem_toArray, List.getElem_cons_zero, List.getElem_cons_succ]
  refine wpAnyH_take (i := 7) (v := undef) rfl (by kernel_rfl) (by kernel_rfl) (by kernel_rfl) (fun _ _ _ h => h) (Or.inr ⟨by rfl, rfl⟩) (by assumption) ?_
  try simp only [Act.put, List.setIfInBounds_toArray, List.set_cons_zero, List.set_cons_succ, List.getElem_toArray, List.getElem_cons_zero, List.getElem_cons_succ]
  refine wpAnyH_take (i := 8) (v := undef) rfl (by kernel_rfl) (by kernel_rfl) (by kernel_rfl) (fun _ _ _ h => h) (Or.inr ⟨by rfl, rfl⟩) (by assumption) ?_
  try simp only [Act.put, List.setIfInBounds_toArray, List.set_cons_zero, List.set_cons_succ, List.getElem_toArray, List.getElem_cons_zero, List.getElem_cons_succ]
  refine wpAnyH_take (i := 9) (v := undef) rfl (by kernel_rfl) (by kernel_rfl) (by kernel_rfl) (fun _ _ _ h => h) (Or.inr ⟨by rfl, rfl⟩) (by assumption) ?_
  try simp only [Act.put, List.setIfInBounds_toArray, List.set_cons_zero, List.set_cons_succ, List.getElem_toArray, List.getElem_cons_zero, List.getElem_cons_succ]
  refine wpAnyH_take (i := 10) (v := undef) rfl (by kernel_rfl) (by kernel_rfl) (by kernel_rfl) (fun _ _ _ h => h) (Or.inr ⟨by rfl, rfl⟩) (by assumption) ?_
  try simp only [Act.put, List.setIfInBounds_toArray, List.set_cons_zero, List.set_cons_succ, List.getElem_toArray, List.getElem_cons_zero, List.getElem_cons_succ]
  refine wpAnyH_take (i := 11) (v := undef) rfl (by kernel_rfl) (by kernel_rfl) (by kernel_rfl) (fun _ _ _ h => h) (Or.inr ⟨by rfl, rfl⟩) (by assumption) ?_
  try simp only [Act.put, List.setIfInBounds_toArray, List.set_cons_zero, List.set_cons_succ, List.getElem_toArray, List.getElem_cons_zero, List.getElem_cons_succ]
  refine wpAnyH_take (i := 12) (v := ?v12_20) rfl (by kernel_rfl) (by kernel_rfl) (by kernel_rfl) (fun _ _ _ h => h) (Or.inl ⟨by rfl, ?hy12_20⟩) (by assumption) ?rest12_20
  case hy12_20 => (intro w9 hSw; clear hSw; go_simp; try with_reducible rfl)
  try simp only [Act.put, List.setIfInBounds_toArray, List.set_cons_zero, List.set_cons_succ, List.getElem_toArray, List.getElem_cons_zero, List.getElem_cons_succ]
  refine wpAnyH_ready (rs := [14]) (by kernel_rfl) (by simp) ?_
  refine AllReadyH.cons rfl (fun K hK => ?_) AllReadyH.nil
  go_simp
  with_reducible refine (pc _ hS).mono ?_
  rintro e w1 ⟨rfl, hb⟩
  replace DZ := DZ.drew.on hb
  replace bz : Below w.heap.size w w1 := bz.drew.trans (hb.mono (by simp; omega))
  obtain ⟨m0, m1, m2, m3, m4⟩ := hS
  replace m0 := Blk.on m0 hb
  replace m1 := Blk.on m1 hb
  replace m2 := Blk.on m2 hb
  replace m3 := Blk.on m3 hb
  replace m4 := Blk.on m4 hb
  have hS := And.intro m0 (And.intro m1 (And.intro m2 (And.intro m3 m4)))
  refine hK.out _ _ ⟨m0, m1, m2, m3, m4⟩ (fun hH => ?_)
  clear hK K hS
  have hS := hH
  clear hH
  try simp only [Act.put, List.setIfInBounds_toArray, List.set_cons_zero, List.set_cons_succ, List.getElem_toArray, List.getElem_cons_zero, List.getElem_cons_succ]
  obtain ⟨k0, k1, k2, k3, k4, k5, k6, k7, k8⟩ := Vbx.cells DZ
  obtain ⟨z0, z1, z2, z3, z4, z5, z6, z7, z8⟩ := Vbx.free DZ
  refine wpAnyH_ready (rs := [15]) (by kernel_rfl) (by simp) ?_
  refine AllReadyH.cons rfl (fun K hK => ?_) AllReadyH.nil
  go_simp
  replace bz : Below w.heap.size w (((((((((w1.setCell ⟨w.heap.size + 5, 0, none⟩ (.pointer p2)).setCell ⟨w.heap.size + 5, 1, none⟩ (.int .i64 t0)).setCell ⟨w.heap.size + 5, 2, none⟩ (.int .i64 t1)).setCell ⟨w.heap.size + 5, 3, none⟩ (.int .i64 t2)).setCell ⟨w.heap.size + 5, 4, none⟩ (.int .i64 t3)).setCell ⟨w.heap.size + 5, 5, none⟩ (.int .i64 t4)).setCell ⟨w.heap.size + 5, 6, none⟩ (.int .i64 t5)).setCell ⟨w.heap.size + 5, 7, none⟩ (.int .i64 t6)).setCell ⟨w.heap.size + 5, 8, none⟩ (.int .i64 t7)) := by go_grown
  obtain ⟨m0, m1, m2, m3, m4⟩ := hS
  have hS := True.intro
  refine hK.out _ _ ⟨Vbx.far m0 (by omega) _ _ _ _ _ _ _ _ _, Blk.far9 m1 (by omega) _ _ _ _ _ _ _ _ _, Blk.far9 m2 (by omega) _ _ _ _ _ _ _ _ _, Blk.far9 m3 (by omega) _ _ _ _ _ _ _ _ _, Blk.far9 m4 (by omega) _ _ _ _ _ _ _ _ _⟩ (fun hH => ?_)
  clear hK K hS
  have hS := hH
  clear hH
  try simp only [Act.put, List.setIfInBounds_toArray, List.set_cons_zero, List.set_cons_succ, List.getElem_toArray, List.getElem_cons_zero, List.getElem_cons_succ]
  refine wpAnyH_done (by kernel_rfl) ?_ _
  go_wp2_with fail
  refine bodyPost_ret (v := (.agg #[.pointer p2, .int .i64 t0, .int .i64 t1, .int .i64 t2, .int .i64 t3, .int .i64 t4, .int .i64 t5, .int .i64 t6, .int .i64 t7])) (by simp [results, Try.results62, go_sem, k0, k1, k2, k3, k4, k5, k6, k7, k8]) rfl ?_
  exact ⟨rfl, bz⟩
end
end Go.Proofs.Ytbaeabmmokgomaa
namespace Go.Proofs.Ytbaeabmmokgomaa
open Go.RowKit Go.Bw Go.Sort
set_option linter.unusedVariables false
set_option linter.unusedSimpArgs false
section
variable {w : World} {v : Vu} {K : Int}
theorem Part_any (hv : Bd v K) {i j r n : Int} (hi : i ≤ 9223372036854775807) (hj : j ≤ 9223372036854775807) (w : World) :
    Calls Try.prog 62 #[v.V, .int .i64 i, .int .i64 j, .int .i64 r, .int .i64 n] w (Ans w (v.partO i j r n).V) := by
  cases h1 : withinB i r v.R
  · have e : v.partO i j r n = Vu.zero := by unfold Vu.partO; rw [h1]; cases (v.p == none) <;> rfl
    rw [e]
    refine part_one (fun W => ?_) (fun W hW => cut_no (.inr rfl))
    have := within_any i r v.R hi hv.R.1 hv.R.2 W
    rwa [h1] at this
  · have w1 : ∀ W, Calls Try.prog 87 #[.int .i64 i, .int .i64 r, .int .i64 v.R] W fun e w' => e = .returned (.bool true) ∧ w' = W := fun W => by
      have := within_any i r v.R hi hv.R.1 hv.R.2 W
      rwa [h1] at this
    have w2 := within_any j n v.C hj hv.C.1 hv.C.2
    cases h2 : withinB j n v.C
    · have e : v.partO i j r n = Vu.zero := by unfold Vu.partO; rw [h1, h2]; cases (v.p == none) <;> rfl
      rw [e]
      rw [h2] at w2
      exact part_two w1 w2 (fun W hW => cut_no (.inr rfl))
    · rw [h2] at w2
      cases hz : (v.p == none)
      · have e : v.partO i j r n = v.part i j r n := by unfold Vu.partO; rw [h1, h2, hz]; rfl
        rw [e]
        obtain ⟨i0, i1, r0, r1⟩ := within_bd h1 hv.R.2
        obtain ⟨j0, j1, n0, n1⟩ := within_bd h2 hv.C.2
        exact part_two w1 w2 (fun W ⟨m0, m1, m2, m3, m4⟩ => cutP hz hv i0 i1 j0 j1 m0 m1 m2 m3 m4)
      · have e : v.partO i j r n = Vu.zero := by unfold Vu.partO; rw [hz]; rfl
        rw [e]
        exact part_two w1 w2 (fun W hW => cut_no (.inl hz))
set_option maxHeartbeats 1000000 in
theorem Row_any (hv : Bd v K) {i : Int} (hi : i ≤ 9223372036854775807) (w : World) : Calls Try.prog 34 #[v.V, .int .i64 i] w (Ans w (v.partO i 0 1 v.C).V) := by
  have DB := (Blk.new w v.L 57).alloc (.cells Vu.zero.L.toArray 57)
  have DZ := Blk.new (w.alloc (.cells v.L.toArray 57)) Vu.zero.L 57
  rw [World.size_alloc] at DZ
  have bz := ((Below.refl _ w).alloc (Nat.le_refl _) (.cells v.L.toArray 57)).alloc (by simp) (.cells Vu.zero.L.toArray 57)
  have pc := fun W => Part_any hv (r := 1) (n := v.C) (i := i) (j := 0) (by omega) (by omega) W
  obtain ⟨V2, hV2⟩ : ∃ V2, v.partO i 0 1 v.C = V2 := ⟨_, rfl⟩
  rw [hV2]
  simp only [hV2] at pc
  clear hV2 hv
  obtain ⟨p2, t0, t1, t2, t3, t4, t5, t6, t7⟩ := V2
  obtain ⟨p, f0, f1, d0, d1, r0, r1, R, C⟩ := v
  go_enter Try.func34, Try.ntmps34
  go_wp2_with fail
  with_reducible refine (pc _).mono ?_
  rintro e w1 ⟨rfl, hb⟩
  replace DZ := DZ.on hb
  replace bz := bz.trans (hb.mono (by simp; omega))
  obtain ⟨k0, k1, k2, k3, k4, k5, k6, k7, k8⟩ := Vbx.cells DZ
  obtain ⟨z0, z1, z2, z3, z4, z5, z6, z7, z8⟩ := Vbx.free DZ
  go_wp2_with fail
  refine bodyPost_ret (v := (.agg #[.pointer p2, .int .i64 t0, .int .i64 t1, .int .i64 t2, .int .i64 t3, .int .i64 t4, .int .i64 t5, .int .i64 t6, .int .i64 t7])) (by simp [results, Try.results34, go_sem, k0, k1, k2, k3, k4, k5, k6, k7, k8]) rfl ?_
  exact ⟨rfl, by go_grown⟩
set_option maxHeartbeats 1000000 in
theorem Col_any (hv : Bd v K) {i : Int} (hi : i ≤ 9223372036854775807) (w : World) : Calls Try.prog 32 #[v.V, .int .i64 i] w (Ans w (v.partO 0 i v.R 1).V) := by
  have DB := (Blk.new w v.L 57).alloc (.cells Vu.zero.L.toArray 57)
  have DZ := Blk.new (w.alloc (.cells v.L.toArray 57)) Vu.zero.L 57
  rw [World.size_alloc] at DZ
  have bz := ((Below.refl _ w).alloc (Nat.le_refl _) (.cells v.L.toArray 57)).alloc (by simp) (.cells Vu.zero.L.toArray 57)
  have pc := fun W => Part_any hv (r := v.R) (n := 1) (i := 0) (j := i) (by omega) (by omega) W
  obtain ⟨V2, hV2⟩ : ∃ V2, v.partO 0 i v.R 1 = V2 := ⟨_, rfl⟩
  rw [hV2]
  simp only [hV2] at pc
  clear hV2 hv
  obtain ⟨p2, t0, t1, t2, t3, t4, t5, t6, t7⟩ := V2
  obtain ⟨p, f0, f1, d0, d1, r0, r1, R, C⟩ := v
  go_enter Try.func32, Try.ntmps32
  go_wp2_with fail
  with_reducible refine (pc _).mono ?_
  rintro e w1 ⟨rfl, hb⟩
  replace DZ := DZ.on hb
  replace bz := bz.trans (hb.mono (by simp; omega))
  obtain ⟨k0, k1, k2, k3, k4, k5, k6, k7, k8⟩ := Vbx.cells DZ
  obtain ⟨z0, z1, z2, z3, z4, z5, z6, z7, z8⟩ := Vbx.free DZ
  go_wp2_with fail
  refine bodyPost_ret (v := (.agg #[.pointer p2, .int .i64 t0, .int .i64 t1, .int .i64 t2, .int .i64 t3, .int .i64 t4, .int .i64 t5, .int .i64 t6, .int .i64 t7])) (by simp [results, Try.results32, go_sem, k0, k1, k2, k3, k4, k5, k6, k7, k8]) rfl ?_
  exact ⟨rfl, by go_grown⟩
/-- a new store of c columns over the floats at g, and the view of all of it -/
abbrev Vu.all (s : Nat) (R C : Int) : Vu := ⟨some ⟨s, 0, none⟩, 0, 0, 1, 0, 0, 1, R, C⟩
set_option maxHeartbeats 1000000 in
theorem whole_any (R C : Int) (A : Option Addr) (n cap : Nat) (w : World) :
    Calls Try.prog 56 #[.int .i64 R, .int .i64 C, .slice A n cap] w fun e w' => ∃ s, e = .returned (Vu.all s R C).V ∧ w.heap.size ≤ s ∧ Blk w' s [.int .i64 C, .slice A n cap] ∧ Below w.heap.size w w' := by
  have DZ := Blk.new w Vu.zero.L 57
  have bz := (Below.refl _ w).alloc (Nat.le_refl _) (.cells Vu.zero.L.toArray 57)
  have DS := Blk.new (w.alloc (.cells Vu.zero.L.toArray 57)) [.int .i64 C, .slice A n cap] 103
  rw [World.size_alloc] at DS
  replace DZ := DZ.alloc (.cells #[.int .i64 C, .slice A n cap] 103)
  replace bz := bz.alloc (by simp) (.cells #[.int .i64 C, .slice A n cap] 103)
  go_enter Try.func56, Try.ntmps56
  obtain ⟨k0, k1, k2, k3, k4, k5, k6, k7, k8⟩ := Vbx.cells DZ
  obtain ⟨z0, z1, z2, z3, z4, z5, z6, z7, z8⟩ := Vbx.free DZ
  go_wp2_with fail
  refine bodyPost_ret (v := (.agg #[.pointer (some ⟨w.heap.size + 1, 0, none⟩), .int .i64 0, .int .i64 0, .int .i64 1, .int .i64 0, .int .i64 0, .int .i64 1, .int .i64 R, .int .i64 C])) (by simp [results, Try.results56, go_sem]) rfl ?_
  refine ⟨_, rfl, by omega, ?_, by go_grown⟩
  have DS := Blk.new (w.alloc (.cells #[.pointer (some ⟨w.heap.size + 1, 0, none⟩), .int .i64 0, .int .i64 0, .int .i64 1, .int .i64 0, .int .i64 0, .int .i64 1, .int .i64 R, .int .i64 C] 57)) [.int .i64 C, .slice A n cap] 103
  rwa [World.size_alloc] at DS
def szB (m n : Int) : Bool := decide (0 ≤ m ∧ m ≤ 512 ∧ 0 ≤ n ∧ n ≤ 512)
theorem szB_bd {m n : Int} (h : szB m n = true) : (0 ≤ m ∧ m ≤ 512 ∧ 0 ≤ n ∧ n ≤ 512) ∧ 0 ≤ m * n ∧ m * n ≤ 262144 := by
  unfold szB at h
  have h := of_decide_eq_true h
  have h1 := Int.mul_nonneg h.1 h.2.2.1
  have h2 : m * n ≤ 512 * 512 := Int.mul_le_mul h.2.1 h.2.2.2 h.2.2.1 (by omega)
  exact ⟨h, h1, h2⟩
set_option maxHeartbeats 400000 in
theorem sized_any (m n : Int) (w : World) :
    Calls Try.prog 55 #[.int .i64 m, .int .i64 n] w fun e w' => e = .returned (.bool (szB m n)) ∧ w' = w := by
  obtain ⟨B, hB⟩ : ∃ B, szB m n = B := ⟨_, rfl⟩
  have HB := Lib.hid hB
  rw [hB]
  clear hB
  have close : ∀ b : Bool, b = decide (0 ≤ m ∧ m ≤ 512 ∧ 0 ≤ n ∧ n ≤ 512) → b = B := fun b h => by rw [h, ← HB.out]; rfl
  have C := Lib.hid close
  clear close
  by_cases c1 : 0 ≤ m
  · by_cases c2 : m ≤ 512
    · by_cases c3 : 0 ≤ n
      · go_enter Try.func55, Try.ntmps55
        go_wp2
        go_ret
        exact ⟨ret_boolC (C.out _ (by simp [c1, c2, c3])), rfl⟩
      · go_enter Try.func55, Try.ntmps55
        go_wp2
        go_ret
        exact ⟨ret_boolC (C.out _ (by simp; omega)), rfl⟩
    · go_enter Try.func55, Try.ntmps55
      go_wp2
      go_ret
      exact ⟨ret_boolC (C.out _ (by simp; omega)), rfl⟩
  · go_enter Try.func55, Try.ntmps55
    go_wp2
    go_ret
    exact ⟨ret_boolC (C.out _ (by simp; omega)), rfl⟩
theorem run_makeF0 (n : Nat) (hn : n ≤ 4000000) (w : World) :
    (Instr.makeSlice 22 (.int .i64 0) (.int .i64 (n : Int))).run Try.prog w = .ok (.slice (some ⟨w.heap.size, 0, none⟩) 0 n) (w.alloc (.cells (LF (List.replicate n 0)).toArray 49)) := by
  obtain ⟨i, hi, hz0, hz1, hz2⟩ := info_parts info39F
  have hr := Go.run_make (P := Try.prog) w 22 49 i (.float .f64 0) Try.underlying22 hi hz0 .i64 .i64 0 n (by omega) (by omega) (by rw [hz2]; omega) (by omega)
  simp only [Int.toNat_natCast, hz1, Nat.mul_one] at hr
  rw [show (Value.float .f64 0).cells = #[Value.float .f64 0] from rfl, made_F] at hr
  exact hr
/-- the call answers no view, and a code -/
theorem own_new (w : World) (l : List Int) (hl : l.length ≤ 4000000) {B : Nat} (hB : B ≤ w.heap.size) : OwnF (w.alloc (.cells (LF l).toArray 49)) B (some ⟨w.heap.size, 0, none⟩) l.length l := by
  have := (RowF.new w l).own (B := B) l.length (Nat.le_refl _) (by unfold maxLen; omega) hB
  rwa [List.take_length] at this
theorem OwnF.farG {w : World} {B cap g : Nat} {l : List Int} (h : OwnF w B (some ⟨g, 0, none⟩) cap l) {p : Addr} (hp : g ≠ p.block) (u : Value) : OwnF (w.setCell p u) B (some ⟨g, 0, none⟩) cap l := by
  rcases h with ⟨h1, h2⟩
  refine ⟨h1, h2.imp id fun ⟨g', cap', cur, hv, hg, hh, r⟩ => ⟨g', cap', cur, hv, hg, (Below.heap_setCell w p u g' (fun e => ?_)).trans hh, r⟩⟩
  injection hv with e1
  injection e1 with e1
  injection e1 with e1
  exact hp (e1.trans e)
theorem OwnF.far9 {w : World} {B cap g b : Nat} {l : List Int} (h : OwnF w B (some ⟨g, 0, none⟩) cap l) (hne : g ≠ b) (x0 x1 x2 x3 x4 x5 x6 x7 x8 : Value) : OwnF (((((((((w.setCell ⟨b, 0, none⟩ x0).setCell ⟨b, 1, none⟩ x1).setCell ⟨b, 2, none⟩ x2).setCell ⟨b, 3, none⟩ x3).setCell ⟨b, 4, none⟩ x4).setCell ⟨b, 5, none⟩ x5).setCell ⟨b, 6, none⟩ x6).setCell ⟨b, 7, none⟩ x7).setCell ⟨b, 8, none⟩ x8) B (some ⟨g, 0, none⟩) cap l :=
  ((((((((h.farG (p := ⟨b, 0, none⟩) hne x0).farG (p := ⟨b, 1, none⟩) hne x1).farG (p := ⟨b, 2, none⟩) hne x2).farG (p := ⟨b, 3, none⟩) hne x3).farG (p := ⟨b, 4, none⟩) hne x4).farG (p := ⟨b, 5, none⟩) hne x5).farG (p := ⟨b, 6, none⟩) hne x6).farG (p := ⟨b, 7, none⟩) hne x7).farG (p := ⟨b, 8, none⟩) hne x8
theorem St.farG {w : World} {B s g cap c : Nat} {l : List Int} (h : St w B s g cap c l) {p : Addr} (h1 : s ≠ p.block) (h2 : g ≠ p.block) (u : Value) : St (w.setCell p u) B s g cap c l := ⟨h.box.far h1 u, h.own.farG h2 u, h.ne, h.wd, h.lo, h.len, h.col⟩
theorem St.far9 {w : World} {B s g cap c b : Nat} {l : List Int} (h : St w B s g cap c l) (h1 : s ≠ b) (h2 : g ≠ b) (x0 x1 x2 x3 x4 x5 x6 x7 x8 : Value) : St (((((((((w.setCell ⟨b, 0, none⟩ x0).setCell ⟨b, 1, none⟩ x1).setCell ⟨b, 2, none⟩ x2).setCell ⟨b, 3, none⟩ x3).setCell ⟨b, 4, none⟩ x4).setCell ⟨b, 5, none⟩ x5).setCell ⟨b, 6, none⟩ x6).setCell ⟨b, 7, none⟩ x7).setCell ⟨b, 8, none⟩ x8) B s g cap c l :=
  ⟨Blk.far9 h.box h1 _ _ _ _ _ _ _ _ _, h.own.far9 h2 _ _ _ _ _ _ _ _ _, h.ne, h.wd, h.lo, h.len, h.col⟩
def NoV (w : World) (code : Int) (e : Ending) (w' : World) : Prop := e = .returned (.tuple #[Vu.zero.V, .int .i64 code]) ∧ Below w.heap.size w w'
def NewV (w : World) (R C : Int) (l : List Int) (e : Ending) (w' : World) : Prop := ∃ s g cap, e = .returned (.tuple #[(Vu.all s R C).V, .int .i64 0]) ∧ St w' w.heap.size s g cap C.toNat l ∧ Below w.heap.size w w'
set_option maxHeartbeats 2000000 in
theorem New_no {R C : Int} (hs : szB R C = false) (w : World) : Calls Try.prog 44 #[.int .i64 R, .int .i64 C] w (NoV w 2) := by
  have ps := sized_any R C
  rw [hs] at ps
  have DZ := Blk.new w Vu.zero.L 57
  obtain ⟨k0, k1, k2, k3, k4, k5, k6, k7, k8⟩ := Vbx.cells DZ
  obtain ⟨z0, z1, z2, z3, z4, z5, z6, z7, z8⟩ := Vbx.free DZ
  go_enter Try.func44, Try.ntmps44
  go_wp2_with fail
  with_reducible refine (ps _).mono ?_
  rintro e w1 ⟨rfl, rfl⟩
  go_wp2_with fail
  refine bodyPost_ret (v := .tuple #[(.agg #[.pointer none, .int .i64 0, .int .i64 0, .int .i64 0, .int .i64 0, .int .i64 0, .int .i64 0, .int .i64 0, .int .i64 0]), .int .i64 2]) (by simp [results, Try.results44, go_sem, k0, k1, k2, k3, k4, k5, k6, k7, k8]) rfl ?_
  exact ⟨rfl, by go_grown⟩
set_option maxHeartbeats 2000000 in
theorem New_yes {R C : Int} (hs : szB R C = true) (w : World) : Calls Try.prog 44 #[.int .i64 R, .int .i64 C] w (NewV w R C (List.replicate (R * C).toNat 0)) := by
  have ps := sized_any R C
  rw [hs] at ps
  obtain ⟨⟨R0, R1, C0, C1⟩, p0, p1⟩ := szB_bd hs
  obtain ⟨n, hn⟩ := Int.eq_ofNat_of_zero_le p0
  have hn2 : n ≤ 262144 := by omega
  have hmk := run_makeF n (by omega)
  rw [hn, Int.toNat_natCast]
  have pw := whole_any R C
  have DZ := Blk.new w Vu.zero.L 57
  have bz := (Below.refl _ w).alloc (Nat.le_refl _) (.cells Vu.zero.L.toArray 57)
  have hown := own_new (w.alloc (.cells Vu.zero.L.toArray 57)) (List.replicate n 0) (by simp; omega) (B := w.heap.size) (by simp)
  rw [World.size_alloc, List.length_replicate] at hown
  replace DZ := DZ.alloc (.cells (LF (List.replicate n 0)).toArray 49)
  replace bz := bz.alloc (by simp) (.cells (LF (List.replicate n 0)).toArray 49)
  go_enter Try.func44, Try.ntmps44
  go_wp2_with fail
  with_reducible refine (ps _).mono ?_
  rintro e w1 ⟨rfl, rfl⟩
  go_wp2_with fail
  with_reducible refine (pw _ _ _ _).mono ?_
  rintro e w1 ⟨s, rfl, hsl, hst, hb⟩
  replace hown := hown.on_ hb
  replace DZ := DZ.on hb
  replace bz := bz.trans (hb.mono (by simp; omega))
  rw [World.size_alloc, World.size_alloc] at hsl
  obtain ⟨k0, k1, k2, k3, k4, k5, k6, k7, k8⟩ := Vbx.cells DZ
  obtain ⟨z0, z1, z2, z3, z4, z5, z6, z7, z8⟩ := Vbx.free DZ
  clear hmk
  go_wp2_with fail
  refine bodyPost_ret (v := .tuple #[(.agg #[.pointer (some ⟨s, 0, none⟩), .int .i64 0, .int .i64 0, .int .i64 1, .int .i64 0, .int .i64 0, .int .i64 1, .int .i64 R, .int .i64 C]), .int .i64 0]) (by simp [results, Try.results44, go_sem, k0, k1, k2, k3, k4, k5, k6, k7, k8]) rfl ?_
  have hS : St w1 w.heap.size s (w.heap.size + 1) n C.toNat (List.replicate n 0) := ⟨by rw [List.length_replicate, Int.toNat_of_nonneg C0]; exact hst, hown, by omega, wd_zeros n, by omega, by simp; omega, by omega⟩
  exact ⟨s, _, _, rfl, hS.far9 (by omega) (by omega) _ _ _ _ _ _ _ _ _, by go_grown⟩
end
end Go.Proofs.Ytbaeabmmokgomaa
namespace Go.Proofs.Ytbaeabmmokgomaa
open Go.RowKit Go.Bw Go.Sort
set_option linter.unusedVariables false
set_option linter.unusedSimpArgs false
section
variable {w : World} {R C : Int} {A : Option Addr} {len c : Nat} {l : List Int}
theorem OwnF.some_ {w : World} {B cap : Nat} {A : Option Addr} {l : List Int} (h : OwnF w B A cap l) (hA : A ≠ none) : ∃ g, A = some ⟨g, 0, none⟩ := by
  rcases h.2 with ⟨e, _⟩ | ⟨g, cap', cur, hv, _⟩
  · injection e with e1; exact absurd e1 hA
  · injection hv with e1; exact ⟨g, e1⟩
set_option maxHeartbeats 2000000 in
theorem Of_no (h : FL w A len c l) (hs : szB R C = false ∨ (szB R C = true ∧ (len : Int) ≠ R * C)) :
    Calls Try.prog 29 #[mV R C A len c] w (NoV w 2) := by
  have ps := sized_any R C
  have hmx := h.max
  have DB := (Blk.new w [.int .i64 R, .int .i64 C, .slice A len c] 24).alloc (.cells Vu.zero.L.toArray 57)
  have DZ := Blk.new (w.alloc (.cells #[.int .i64 R, .int .i64 C, .slice A len c] 24)) Vu.zero.L 57
  rw [World.size_alloc] at DZ
  obtain ⟨k0, k1, k2, k3, k4, k5, k6, k7, k8⟩ := Vbx.cells DZ
  obtain ⟨z0, z1, z2, z3, z4, z5, z6, z7, z8⟩ := Vbx.free DZ
  obtain ⟨DB_0, DB_1, DB_2, DB_f0, DB_f1, DB_f2⟩ := Mbx.cells DB
  rcases hs with hs | ⟨hs, hb⟩
  · rw [hs] at ps
    go_enter Try.func29, Try.ntmps29
    go_wp2_with fail
    with_reducible refine (ps _).mono ?_
    rintro e w1 ⟨rfl, rfl⟩
    go_wp2_with fail
    refine bodyPost_ret (v := .tuple #[(.agg #[.pointer none, .int .i64 0, .int .i64 0, .int .i64 0, .int .i64 0, .int .i64 0, .int .i64 0, .int .i64 0, .int .i64 0]), .int .i64 2]) (by simp [results, Try.results29, go_sem, k0, k1, k2, k3, k4, k5, k6, k7, k8]) rfl ?_
    exact ⟨rfl, by go_grown⟩
  · obtain ⟨_, p0, p1⟩ := szB_bd hs
    rw [hs] at ps
    obtain ⟨P, hP⟩ : ∃ P, R * C = P := ⟨_, rfl⟩
    rw [hP] at hb p0 p1
    have hne : ((len : Int) != P) = true := by simp; omega
    clear hb
    go_enter Try.func29, Try.ntmps29
    go_wp2_with fail
    with_reducible refine (ps _).mono ?_
    rintro e w1 ⟨rfl, rfl⟩
    go_wp2_with fail
    refine bodyPost_ret (v := .tuple #[(.agg #[.pointer none, .int .i64 0, .int .i64 0, .int .i64 0, .int .i64 0, .int .i64 0, .int .i64 0, .int .i64 0, .int .i64 0]), .int .i64 2]) (by simp [results, Try.results29, go_sem, k0, k1, k2, k3, k4, k5, k6, k7, k8]) rfl ?_
    exact ⟨rfl, by go_grown⟩
set_option maxRecDepth 100000 in
set_option maxHeartbeats 4000000 in
theorem Of_yes (h : FL w A len c l) (hs : szB R C = true) (hl : (len : Int) = R * C) :
    Calls Try.prog 29 #[mV R C A len c] w (NewV w R C l) := by
  have ps := sized_any R C
  have hmx := h.max
  rw [hs] at ps
  obtain ⟨⟨R0, R1, C0, C1⟩, p0, p1⟩ := szB_bd hs
  have pw := whole_any R C
  obtain ⟨P, hP⟩ : ∃ P, R * C = P := ⟨_, rfl⟩
  rw [hP] at hl p0 p1
  have hne : ((len : Int) != P) = false := by simp; omega
  have hlen : len ≤ 262144 := by omega
  clear hl
  have DB := Blk.new w [.int .i64 R, .int .i64 C, .slice A len c] 24
  have DZ := Blk.new (w.alloc (.cells #[.int .i64 R, .int .i64 C, .slice A len c] 24)) Vu.zero.L 57
  replace DB := DB.alloc (.cells Vu.zero.L.toArray 57)
  have bz := ((Below.refl _ w).alloc (Nat.le_refl _) (.cells #[.int .i64 R, .int .i64 C, .slice A len c] 24)).alloc (by simp) (.cells Vu.zero.L.toArray 57)
  rw [World.size_alloc] at DZ
  have hsz : ((w.alloc (.cells #[.int .i64 R, .int .i64 C, .slice A len c] 24)).alloc (.cells Vu.zero.L.toArray 57)).heap.size = w.heap.size + 2 := by simp
  obtain ⟨DB_0, DB_1, DB_2, DB_f0, DB_f1, DB_f2⟩ := Mbx.cells DB
  have h2 := h.on bz
  clear h
  go_enter Try.func29, Try.ntmps29
  go_wp2_with fail
  with_reducible refine (ps _).mono ?_
  rintro e w1 ⟨rfl, rfl⟩
  go_wp2_with fail
  clear DB_0 DB_1 DB_2 DB_f0 DB_f1 DB_f2
  generalize ((w.alloc (.cells #[.int .i64 R, .int .i64 C, .slice A len c] 24)).alloc (.cells Vu.zero.L.toArray 57)) = W at DB DZ bz hsz h2 ⊢
  refine wp_region_held_drew (S := fun w9 : World => Mbx w9 w.heap.size R C A len c) (by kernel_rfl) DB.drew (fun hS => ?_)
  refine wpAnyH_take (i := 0) (v := ?v0_1) rfl (by kernel_rfl) (by kernel_rfl) (by kernel_rfl) (fun _ _ _ h => h) (Or.inl ⟨by rfl, ?hy0_1⟩) (by assumption) ?rest0_1
  case hy0_1 => (intro w9 hSw; clear hSw; go_simp; try with_reducible rfl)
  try simp only [Act.put, List.setIfInBounds_toArray, List.set_cons_zero, List.set_cons_succ, List.getElem_toArray, List.getElem_cons_zero, List.getElem_cons_succ]
  refine wpAnyH_take (i := 1) (v := ?v1_2) rfl (by kernel_rfl) (by kernel_rfl) (by kernel_rfl) (fun _ _ _ h => h) (Or.inl ⟨by rfl, ?hy1_2⟩) (by assumption) ?rest1_2
  case hy1_2 => (intro w9 hSw; replace hSw : Mbx w9 w.heap.size R C A len c := hSw; obtain ⟨c0, c1, c2, f0, f1, f2⟩ := Mbx.cells hSw; go_simp; try with_reducible rfl)
  try simp only [Act.put, List.setIfInBounds_toArray, List.set_cons_zero, List.set_cons_succ, List.getElem_toArray, List.getElem_cons_zero, List.getElem_cons_succ]
  refine wpAnyH_take (i := 2) (v := ?v2_3) rfl (by kernel_rfl) (by kernel_rfl) (by kernel_rfl) (fun _ _ _ h => h) (Or.inl ⟨by rfl, ?hy2_3⟩) (by assumption) ?rest2_3
  case hy2_3 => (intro w9 hSw; clear hSw; go_simp; try with_reducible rfl)
  try simp only [Act.put, List.setIfInBounds_toArray, List.set_cons_zero, List.set_cons_succ, List.getElem_toArray, List.getElem_cons_zero, List.getElem_cons_succ]
  refine wpAnyH_take (i := 3) (v := ?v3_4) rfl (by kernel_rfl) (by kernel_rfl) (by kernel_rfl) (fun _ _ _ h => h) (Or.inl ⟨by rfl, ?hy3_4⟩) (by assumption) ?rest3_4
  case hy3_4 => (intro w9 hSw; replace hSw : Mbx w9 w.heap.size R C A len c := hSw; obtain ⟨c0, c1, c2, f0, f1, f2⟩ := Mbx.cells hSw; go_simp; try with_reducible rfl)
  try simp only [Act.put, List.setIfInBounds_toArray, List.set_cons_zero, List.set_cons_succ, List.getElem_toArray, List.getElem_cons_zero, List.getElem_cons_succ]
  refine wpAnyH_take (i := 5) (v := ?v5_5) rfl (by kernel_rfl) (by kernel_rfl) (by kernel_rfl) (fun _ _ _ h => h) (Or.inl ⟨by rfl, ?hy5_5⟩) (by assumption) ?rest5_5
  case hy5_5 => (intro w9 hSw; clear hSw; go_simp; try with_reducible rfl)
  try simp only [Act.put, List.setIfInBounds_toArray, List.set_cons_zero, List.set_cons_succ, List.getElem_toArray, List.getElem_cons_zero, List.getElem_cons_succ]
  refine wpAnyH_take (i := 6) (v := ?v6_6) rfl (by kernel_rfl) (by kernel_rfl) (by kernel_rfl) (fun _ _ _ h => h) (Or.inl ⟨by rfl, ?hy6_6⟩) (by assumption) ?rest6_6
  case hy6_6 => (intro w9 hSw; replace hSw : Mbx w9 w.heap.size R C A len c := hSw; obtain ⟨c0, c1, c2, f0, f1, f2⟩ := Mbx.cells hSw; go_simp; try with_reducible rfl)
  try simp only [Act.put, List.setIfInBounds_toArray, List.set_cons_zero, List.set_cons_succ, List.getElem_toArray, List.getElem_cons_zero, List.getElem_cons_succ]
  refine wpAnyH_ready (rs := [4]) (by kernel_rfl) (by simp) ?_
  refine AllReadyH.cons rfl (fun K hK => ?_) AllReadyH.nil
  go_simp
  have hown : OwnF (W.alloc (.cells #[] 49)).drew (w.heap.size + 2) (some ⟨w.heap.size + 2, 0, none⟩) 0 [] := by have h9 := own_new W [] (by simp) (B := w.heap.size + 2) (by omega); rw [hsz] at h9; exact h9
  have h3 : FL (W.alloc (.cells #[] 49)).drew A len c l := h2.on ((Below.refl _ W).alloc (Nat.le_refl _) (.cells #[] 49)).drew
  replace DB : Mbx (W.alloc (.cells #[] 49)).drew w.heap.size R C A len c := (DB.alloc (.cells #[] 49)).drew
  replace DZ : Vbx (W.alloc (.cells #[] 49)).drew (w.heap.size + 1) Vu.zero := (DZ.alloc (.cells #[] 49)).drew
  replace bz : Below w.heap.size w (W.alloc (.cells #[] 49)).drew := (bz.alloc (by omega) (.cells #[] 49)).drew
  refine hK.out _ _ DB (fun hH => ?_)
  clear hK K hS
  have hS := hH
  clear hH
  try simp only [Act.put, List.setIfInBounds_toArray, List.set_cons_zero, List.set_cons_succ, List.getElem_toArray, List.getElem_cons_zero, List.getElem_cons_succ]
  refine wpAnyH_ready (rs := [7]) (by kernel_rfl) (by simp) ?_
  refine AllReadyH.cons rfl (fun K hK => ?_) AllReadyH.nil
  refine wp_appF _ _ _ (by rfl) (w.heap.size + 2) (some ⟨w.heap.size + 2, 0, none⟩) 0 [] (by rfl) hown _ A c l (by rw [h3.1]; rfl) h3.2.1 (by simp; rw [h3.1]; omega) (by simp; omega) ?_
  intro A2 c2 w4 hown4 hg hat
  obtain ⟨g2, rfl⟩ := hown4.some_ (by rintro rfl; simp [Value.ownBlock] at hat)
  have hg2 := (hown4.gt rfl)
  replace DB := DB.grown hg (by simp [Value.ownBlock])
  replace DZ := DZ.grown hg (by simp [Value.ownBlock])
  replace bz : Below w.heap.size w w4 := bz.grown hg (by simp; omega) (fun k e => by simp [Value.ownBlock] at e; omega)
  have hsz4 := bz.size
  have hDZ := DZ.lt
  have hwd := h3.2.2
  refine hK.out _ _ DB (fun hH => ?_)
  clear hK K hS
  have hS := hH
  clear hH
  try simp only [Act.put, List.setIfInBounds_toArray, List.set_cons_zero, List.set_cons_succ, List.getElem_toArray, List.getElem_cons_zero, List.getElem_cons_succ]
  refine wpAnyH_ready (rs := [8]) (by kernel_rfl) (by simp) ?_
  refine AllReadyH.cons rfl (fun K hK => ?_) AllReadyH.nil
  go_simp
  with_reducible refine (pw _ _ _ _).mono ?_
  rintro e w5 ⟨s, rfl, hsl, hst, hb⟩
  replace DB := DB.on hb
  replace DZ := DZ.on hb
  replace bz := bz.trans (hb.mono (by omega))
  replace hown4 := hown4.on_ hb
  obtain ⟨z0, z1, z2, z3, z4, z5, z6, z7, z8⟩ := Vbx.free DZ
  obtain ⟨k0, k1, k2, k3, k4, k5, k6, k7, k8⟩ := Vbx.cells DZ
  refine hK.out _ _ DB (fun hH => ?_)
  clear hK K hS
  have hS := hH
  clear hH
  try simp only [Act.put, List.setIfInBounds_toArray, List.set_cons_zero, List.set_cons_succ, List.getElem_toArray, List.getElem_cons_zero, List.getElem_cons_succ]
  refine wpAnyH_ready (rs := [9]) (by kernel_rfl) (by simp) ?_
  refine AllReadyH.cons rfl (fun K hK => ?_) AllReadyH.nil
  go_simp
  refine hK.out _ _ (Blk.far9 DB (by omega) _ _ _ _ _ _ _ _ _) (fun hH => ?_)
  clear hK K hS
  have hS := hH
  clear hH
  try simp only [Act.put, List.setIfInBounds_toArray, List.set_cons_zero, List.set_cons_succ, List.getElem_toArray, List.getElem_cons_zero, List.getElem_cons_succ]
  refine wpAnyH_ready (rs := [10]) (by kernel_rfl) (by simp) ?_
  refine AllReadyH.cons rfl (fun K hK => ?_) AllReadyH.nil
  go_simp
  refine hK.out _ _ hS (fun hH => ?_)
  clear hK K hS
  have hS := hH
  clear hH
  try simp only [Act.put, List.setIfInBounds_toArray, List.set_cons_zero, List.set_cons_succ, List.getElem_toArray, List.getElem_cons_zero, List.getElem_cons_succ]
  refine wpAnyH_done (by kernel_rfl) ?_ _
  go_wp2_with fail
  refine bodyPost_ret (v := .tuple #[(.agg #[.pointer (some ⟨s, 0, none⟩), .int .i64 0, .int .i64 0, .int .i64 1, .int .i64 0, .int .i64 0, .int .i64 1, .int .i64 R, .int .i64 C]), .int .i64 0]) (by simp [results, Try.results29, go_sem, k0, k1, k2, k3, k4, k5, k6, k7, k8]) rfl ?_
  have hSt : St w5 w.heap.size s g2 c2 C.toNat l := ⟨by rw [Int.toNat_of_nonneg C0]; exact hst, hown4.less (by omega), by omega, hwd, by omega, by rw [h2.1]; omega, by omega⟩
  exact ⟨s, _, _, rfl, hSt.far9 (by omega) (by omega) _ _ _ _ _ _ _ _ _, by go_grown⟩
end
end Go.Proofs.Ytbaeabmmokgomaa
namespace Go.Proofs.Ytbaeabmmokgomaa
open Go.RowKit Go.Shelf
set_option linter.unusedVariables false
set_option linter.unusedSimpArgs false
/-- how a round ends -/
def postV (B : Nat) (I : Nat → List Int → World → Prop) (Ix : World → Prop) (k : Nat) (W : World) : Exit → Act → World → Prop
  | .normal, _, W' => KeepsFrom B W W' ∧ ∃ l, I k l W'
  | .ret, _, W' => KeepsFrom B W W' ∧ Ix W'
  | _, _, _ => False
/-- it is all the same when something turns that is no cells, or what is new -/
def OwnV (B : Nat) (J : World → Prop) : Prop :=
  ∀ W W' row, J W → W.grownBy W' row → (∀ r, row = some r → B ≤ r ∧ ∃ o : Obj, W.heap[r]? = some o ∧ o.isCells = false) → J W'
theorem OwnV.put {B : Nat} {J : World → Prop} (h : OwnV B J) {W : World} {l : Nat} {o : Obj} (o' : Obj) (hs : J W) (hB : B ≤ l) (hl : W.heap[l]? = some o) (ho : o.isCells = false) : J (W.putObj l o') :=
  h W _ (some l) hs (grownBy_putObj' W l o') (fun r e => by cases e; exact ⟨hB, o, hl, ho⟩)
/-- what the function to loop over keeps: N rounds, each handed what 'enc' says of the world's list -/
def SeqV (n : Nat) (P : Program) (g : Nat) (lb : Array Value) (enc : Nat → List Int → Array Value) (N B : Nat) (R0 : List Int → World → Prop) : Prop :=
  ∀ (lp : Nat) (J : Nat → List Int → World → Prop) (Jx : World → Prop) (l : List Int) (W : World), (∀ k l W, J k l W → R0 l W) → (∀ k l W W', J k l W → Below W.heap.size W W' → J k l W') →
    (∀ k l W1, J k l W1 → k < N → YieldAt Fence.wide (n - 1) P lp (enc k l) W1 fun e W' => (e = .returned (.bool true) ∧ ∃ l', J (k + 1) l' W') ∨ (e = .returned (.bool false) ∧ Jx W')) →
    J 0 l W → CallsIn Fence.wide n P g (#[.func (.yield lp) #[] #[]] ++ lb) W fun e W' => (∃ v, e = .returned v) ∧ ((∃ l', J N l' W') ∨ Jx W')
set_option maxHeartbeats 1000000 in
theorem rangeFunc_V {n : Nat} {P : Program} {g : Operand} {ps : Array Tmp} {assign body : Code} {Q : Exit → Act → World → Prop} {a : Act} {w : World}
    (h1 : 1 ≤ n) {gf : Nat} {lb : Array Value} (hg : a.eval g = .func (.func gf) #[] lb) (eg : ∀ args w, (callFunc gf args).run P w = .ok (.enter gf args) w)
    {enc : Nat → List Int → Array Value} {N : Nat} {R0 : List Int → World → Prop} (hseq : SeqV (n - 1) P gf lb enc N w.heap.size R0)
    (hps : ∀ k l, (enc k l).size = ps.size)
    (I : Nat → List Int → World → Prop) (Ix : World → Prop) (hR : ∀ k l W, I k l W → R0 l W) (hI : ∀ k l, OwnV w.heap.size (I k l)) (hIx : OwnV w.heap.size Ix) {l0 : List Int} (h0 : I 0 l0 w) (Ax : Nat → List Int → Act → World → Prop) (hAx : ∀ k l a', OwnV w.heap.size (Ax k l a'))
    (hassign : ∀ (lp k : Nat) (l : List Int) (W : World) (K : Act → World → Prop), I k l W → (∀ a' W', KeepsFrom w.heap.size W W' → Ax k l a' W' → K a' W') →
      assign.wpIn (Fence.wide.inRound lp) (n - 1 - 1) P (Exit.then K (fun _ _ _ => False)) { tmps := (ps.zip (enc k l)).foldl (fun t (p, v) => t.setIfInBounds p v) a.tmps, defers := [] } W)
    (hbody : ∀ (lp k : Nat) (l : List Int) (a' : Act) (W : World), w.heap.size ≤ lp → Ax k l a' W → k < N → body.wpIn (Fence.wide.inRound lp) (n - 1 - 1) P (postV w.heap.size I Ix (k + 1) W) a' W)
    (hdone : ∀ (D : Nat) (l : List Int) (W : World), w.heap.size ≤ D → I N l W → W.heap[D]? = some (.deferred (some [])) → Q .normal { a with defers := { target := .collected D, args := #[] } :: a.defers } W)
    (hstop : ∀ (D : Nat) (W : World), w.heap.size ≤ D → Ix W → W.heap[D]? = some (.deferred (some [])) → Code.ret.wpIn Fence.wide n P Q { a with defers := { target := .collected D, args := #[] } :: a.defers } W) :
    (Code.rangeFunc g ps assign body).wpIn Fence.wide n P Q a w := by
  refine wpIn_rangeFunc fun fn hfn => ?_
  rw [show Fence.wide.round = none from rfl]
  obtain ⟨d, hd⟩ : ∃ d, w.heap.size = d := ⟨_, rfl⟩
  obtain ⟨rc, hrc⟩ : ∃ rc : LoopState → Option Code → Loop, rc = fun st pe => { state := st, pending := pe, fn, tmps := a.tmps, params := ps, assign, body, defers := d } := ⟨_, rfl⟩
  obtain ⟨W1, hW1⟩ : ∃ W1, (w.alloc (.deferred (some []))).alloc (.loop (rc .ready none)) = W1 := ⟨_, rfl⟩
  have hs1 : W1.heap.size = d + 2 := by rw [← hW1]; simp [hd]
  have hg1 : w.grownBy W1 none := by
    rw [← hW1]
    exact (World.grownBy_alloc w _ none).trans (World.grownBy_alloc _ _ none)
  have hL1 : W1.heap[d + 1]? = some (.loop (rc .ready none)) := by
    have := World.alloc_heap_new (w.alloc (.deferred (some []))) (.loop (rc .ready none))
    rw [World.size_alloc, hd] at this
    rw [← hW1]
    exact this
  have hK1 : W1.heap[d]? = some (.deferred (some [])) := by
    have := World.alloc_heap_new w (.deferred (some []))
    rw [hd] at this
    rw [← hW1]
    exact (Below.heap_alloc _ _ _ (by simp [hd])).trans this
  have hJ1 : I 0 l0 W1 := hI 0 l0 w W1 none h0 hg1 (fun r e => by cases e)
  have henter := run_enterLoop_outer (P := P) (w := w) fn a.tmps ps assign body
  rw [hd] at henter
  refine ⟨d + 1, [{ target := .collected d, args := #[] }], W1, { target := .fn (.func gf) lb, args := #[.func (.yield (d + 1)) #[] #[]] }, W1, gf,
    #[.func (.yield (d + 1)) #[] #[]] ++ lb, W1, by rw [henter, ← hW1, hrc], ?_, ?_, ?_, fun _ => h1, ?_⟩
  · simp only [resolve, hg]
    simp [go_sem]
  · intro f' hf'
    trivial
  · simp [invoke, go_sem, eg]
  · refine (hseq (d + 1) (fun k l W => I k l W ∧ W.heap[d + 1]? = some (.loop (rc .ready none)) ∧ W.heap[d]? = some (.deferred (some [])))
      (fun W => Ix W ∧ W.heap[d + 1]? = some (.loop (rc .done (some .ret))) ∧ W.heap[d]? = some (.deferred (some []))) l0 W1 (fun k l W h => hR k l W h.1) ?_ ?_ ⟨hJ1, hL1, hK1⟩).mono ?_
    · rintro k l X Y ⟨hi, hl, hk⟩ hb
      exact ⟨hI k l X Y none hi ⟨hb.os, hb.tape, hb.output, hb.size, fun i hi _ => hb.block i hi⟩ (fun r e => by cases e), (hb.block _ (lt_of_block hl)).trans hl, (hb.block _ (lt_of_block hk)).trans hk⟩
    · rintro k l W ⟨hi, hl, hk⟩ hlt0
      have hy := run_yield (P := P) (args := enc k l) hl (by rw [hrc]; exact hps k l)
      rw [hrc] at hy
      refine ⟨fn, _, assign, body, hy, roundIn_of_wpIn hfn (hassign _ k l W _ hi ?_)⟩
      clear hy
      intro a' Wa hka hax
      have hla := hka.same _ _ (by omega) hl rfl
      have hkk := hka.same _ _ (by omega) hk rfl
      have hlt : d + 1 < Wa.heap.size := lt_of_block hla
      obtain ⟨W2, hW2⟩ : ∃ W2, Wa.putObj (d + 1) (.loop (rc .busy none)) = W2 := ⟨_, rfl⟩
      have hl2 : W2.heap[d + 1]? = some (.loop (rc .busy none)) := by rw [← hW2]; exact World.putObj_heap_same hlt
      have hk2 : W2.heap[d]? = some (.deferred (some [])) := by rw [← hW2]; exact (World.putObj_heap_other (by omega)).trans hkk
      have hx2 : Ax k l a' W2 := by rw [← hW2]; exact (hAx k l a').put _ hax (by omega) hla rfl
      have hbegin : (Instr.beginRound (d + 1)).run P Wa = .ok () W2 := by
        rw [run_beginRound hla (by rw [hrc]), ← hW2, hrc]
      refine ⟨W2, hbegin, ?_⟩
      refine wpIn_mono (hbody (d + 1) k l a' W2 (by omega) hx2 hlt0) ?_
      rintro e a3 W3 hp
      cases e with
      | normal =>
        obtain ⟨hf3, l3, hi3⟩ := hp
        have hl3 := hf3.same _ _ (by omega) hl2 rfl
        have hk3 := hf3.same _ _ (by omega) hk2 rfl
        have hend := run_endRound (P := P) none hl3
        refine ⟨_, _, hend, .inl ⟨rfl, l3, (hI _ _).put _ hi3 (by omega) hl3 rfl, ?_, (World.putObj_heap_other (by omega)).trans hk3⟩⟩
        rw [World.putObj_heap_same (lt_of_block hl3), hrc]
        rfl
      | ret =>
        obtain ⟨hf3, hi3⟩ := hp
        have hl3 := hf3.same _ _ (by omega) hl2 rfl
        have hk3 := hf3.same _ _ (by omega) hk2 rfl
        have hend := run_endRound (P := P) (some .ret) hl3
        refine ⟨_, _, hend, .inr ⟨rfl, hIx.put _ hi3 (by omega) hl3 rfl, ?_, (World.putObj_heap_other (by omega)).trans hk3⟩⟩
        rw [World.putObj_heap_same (lt_of_block hl3), hrc]
        rfl
      | exit id => exact hp.elim
      | goto t => exact hp.elim
      | panic ch => exact hp.elim
      | outgrown => exact hp.elim
    · rintro e W2 ⟨⟨v, rfl⟩, (⟨l2, hi, hl, hk⟩ | ⟨hi, hl, hk⟩)⟩
      · have hend := run_endLoop (P := P) hl (by rw [hrc]; simp)
        refine ⟨none, _, by rw [hend, hrc], ?_⟩
        exact hdone d l2 _ (by omega) ((hI _ _).put _ hi (by omega) hl rfl) ((World.putObj_heap_other (by omega)).trans hk)
      · have hend := run_endLoop (P := P) hl (by rw [hrc]; simp)
        refine ⟨some .ret, _, by rw [hend, hrc], ?_⟩
        exact hstop d _ (by omega) (hIx.put _ hi (by omega) hl rfl) ((World.putObj_heap_other (by omega)).trans hk)
end Go.Proofs.Ytbaeabmmokgomaa
namespace Go.Proofs.Ytbaeabmmokgomaa
open Go.RowKit Go.Shelf
set_option linter.unusedVariables false
set_option linter.unusedSimpArgs false
attribute [local go_sem] Oper.semAt_some

/-- the row and the column of the place k, row by row -/
def Vu.ei (v : Vu) (k : Nat) : Int := ((k / v.C.toNat : Nat) : Int)
def Vu.ej (v : Vu) (k : Nat) : Int := ((k % v.C.toNat : Nat) : Int)
/-- what the round k is handed -/
def enc (v : Vu) (c k : Nat) (l : List Int) : Array Value := #[.agg #[.int .i64 (v.ei k), .int .i64 (v.ej k)], .float .f64 (v.at_ c l (v.ei k) (v.ej k)).toNat]
theorem enc_at (v : Vu) (c : Nat) (l : List Int) {i j n : Nat} (hn : v.C = n) (hj : j < n) : enc v c (i * n + j) l = #[.agg #[.int .i64 (i : Int), .int .i64 (j : Int)], .float .f64 (v.at_ c l i j).toNat] := by
  unfold enc Vu.ei Vu.ej
  have e : v.C.toNat = n := by omega
  have e1 : (i * n + j) / n = i := by rw [Nat.mul_comm, Nat.mul_add_div (by omega), Nat.div_eq_of_lt hj, Nat.add_zero]
  have e2 : (i * n + j) % n = j := by rw [Nat.mul_comm, Nat.mul_add_mod, Nat.mod_eq_of_lt hj]
  rw [e, e1, e2]
/-- what the loop's body leaves: the view in its box, and its store -/
def Rd (v : Vu) (B s g cap c n Bn : Nat) (l : List Int) (W : World) : Prop := Vbx W Bn v ∧ (v.p ≠ none → St W B s g cap c l ∧ l.length = n)
theorem Rd.on {v : Vu} {B s g cap c n Bn : Nat} {l : List Int} {W W' : World} (h : Rd v B s g cap c n Bn l W) (hb : Below W.heap.size W W') : Rd v B s g cap c n Bn l W' := ⟨h.1.on hb, fun hp => ⟨(h.2 hp).1.on hb, (h.2 hp).2⟩⟩
set_option maxRecDepth 100000 in
set_option maxHeartbeats 4000000 in
theorem all_seq {n : Nat} (hn : 1 ≤ n) {v : Vu} {B s g cap c N0 Bn B1 : Nat} {K : Int} (hv : Vk v s c N0 K) :
    SeqV n Try.prog 101 #[.pointer (some ⟨Bn, 0, none⟩)] (enc v c) (v.R * v.C).toNat B1 (Rd v B s g cap c N0 Bn) := by
  intro lp J Jx l W hJR hJg hY h0
  obtain ⟨hR0, hR1⟩ := hv.bd.R
  obtain ⟨hC0, hC1⟩ := hv.bd.C
  obtain ⟨m, hm⟩ := Int.eq_ofNat_of_zero_le hR0
  obtain ⟨q, hq⟩ := Int.eq_ofNat_of_zero_le hC0
  have hmq : (v.R * v.C).toNat = m * q := by rw [hm, hq]; rfl
  have hm5 : m ≤ 512 := by omega
  have hq5 : q ≤ 512 := by omega
  rw [hmq] at hY ⊢
  have HE := fun (l : List Int) (i j : Nat) (hj : j < q) => enc_at v c l (i := i) hq hj
  -- what a round asks
  have hYY : ∀ (i j : Nat) (l : List Int) (W1 : World), i < m → j < q → J (i * q + j) l W1 → YieldAt Fence.wide (n - 1) Try.prog lp #[.agg #[.int .i64 (i : Int), .int .i64 (j : Int)], .float .f64 (v.at_ c l i j).toNat] W1 fun e W' => (e = .returned (.bool true) ∧ ∃ l', J (i * q + (j + 1)) l' W') ∨ (e = .returned (.bool false) ∧ Jx W') := fun i j l W1 hi hj hJ => by
    have := hY (i * q + j) l W1 hJ (by have : (i + 1) * q ≤ m * q := Nat.mul_le_mul_right q (by omega); rw [Nat.succ_mul] at this; omega)
    rw [HE l i j hj] at this
    exact this
  have hAt : ∀ (i j : Nat) (l : List Int) (k : Nat) (W1 : World), i < m → j < q → J k l W1 → Calls Try.prog 64 #[v.V, .int .i64 (i : Int), .int .i64 (j : Int)] W1 (Ans W1 (.float .f64 (v.at_ c l i j).toNat)) := fun i j l k W1 hi hj hJ => by
    have hne : v.p ≠ none := by
      rcases hv.p with e | e
      · rw [e] at hm; simp at hm; omega
      · rw [e]; simp
    obtain ⟨hs, hl⟩ := (hJR _ _ _ hJ).2 hne
    exact At_any hs (by rw [hl]; exact hv) i j
  clear hY HE hmq
  have hB : ∀ k l W, J k l W → Vbx W Bn v := fun k l W h => (hJR _ _ _ h).1
  clear hJR
  clear hv
  obtain ⟨p, f0, f1, d0, d1, r0, r1, R, C⟩ := v
  simp only at hm hq
  subst hm hq
  obtain ⟨c0, c1, c2, c3, c4, c5, c6, c7, c8⟩ := Vbx.cells (hB _ _ _ h0)
  refine callsIn_of_wp Try.func101 rfl trivial ?_ rfl
  simp only [Try.ntmps101, List.size_toArray, List.length_cons, List.length_nil, Nat.reduceAdd, Nat.reduceSub, Array.replicate_succ, Array.replicate_zero, List.push_toArray, List.append_toArray, List.nil_append, List.cons_append]
  gi_wp2
  clear c0 c1 c2 c3 c4 c5 c6 c7 c8
  gi_loopw [7] (fun x wr => ∃ (i : Nat) (l : List Int), x = .int .i64 (i : Int) ∧ i ≤ m ∧ J (i * q) l wr) (fun x _ => m - (intOf x).toNat)
  case atStart => exact ⟨0, l, rfl, by omega, by rw [Nat.zero_mul]; exact h0⟩
  case round =>
    clear h0
    obtain ⟨i, l1, rfl, him, hJ⟩ := hrel
    by_cases hlt : i < m
    · have i0 : (0 : Int) ≤ i := by omega
      have i1 : (i : Int) < m := by omega
      obtain ⟨c0, c1, c2, c3, c4, c5, c6, c7, c8⟩ := Vbx.cells (hB _ _ _ hJ)
      gi_wp2
      clear c0 c1 c2 c3 c4 c5 c6 c7 c8
      gi_loopw [12] (fun x wr => ∃ (j : Nat) (l : List Int), x = .int .i64 (j : Int) ∧ j ≤ q ∧ J (i * q + j) l wr) (fun x _ => q - (intOf x).toNat)
      case atStart => exact ⟨0, l1, rfl, by omega, hJ⟩
      case round =>
        clear hJ
        obtain ⟨j, l2, rfl, hjq, hJ⟩ := hrel
        by_cases hjt : j < q
        · have j0 : (0 : Int) ≤ j := by omega
          have j1 : (j : Int) < q := by omega
          obtain ⟨c0, c1, c2, c3, c4, c5, c6, c7, c8⟩ := Vbx.cells (hB _ _ _ hJ)
          have pt := hAt i j l2 _ _ hlt hjt hJ
          gi_wp2_with (refine ⟨trivial, ?_⟩; gi_at_call 64; refine (callsIn_wide.2 pt).mono ?_; rintro e w2 ⟨rfl, hb⟩; have hJ2 := hJg _ _ _ _ hJ hb; obtain ⟨fn, tmps, assign, body, hy, hRo⟩ := hYY i j l2 _ hlt hjt hJ2)
          refine hRo.mono ?_
          rintro e w3 (⟨rfl, l3, hJ3⟩ | ⟨rfl, hJx⟩)
          · gi_wp2
            go_roundw
            case rel => exact ⟨j + 1, l3, by go_num, by omega, hJ3⟩
            case measure => simp [intOf]; omega
          · gi_wp2
            refine bodyPost_ret (results_none rfl _ _ _) rfl ?_
            exact ⟨⟨_, rfl⟩, .inr hJx⟩
        · obtain rfl : j = q := by omega
          gi_wp2
          go_roundw
          case rel => exact ⟨i + 1, l2, by go_num, by omega, by rw [Nat.succ_mul]; exact hJ⟩
          case measure => simp [intOf]; omega
    · obtain rfl : i = m := by omega
      gi_wp2
      go_end0
      exact ⟨⟨_, rfl⟩, .inl ⟨l1, hJ⟩⟩
end Go.Proofs.Ytbaeabmmokgomaa
namespace Go.Proofs.Ytbaeabmmokgomaa
open Go Go.RowKit Go.Bw
set_option linter.unusedVariables false
set_option linter.unusedSimpArgs false
/-- the same float, all NaNs being one -/
def alikeBC (x y : Int) : Bool := decide (one x = one y)
set_option maxHeartbeats 1000000 in
theorem All_any (v : Vu) (w : World) : Calls Try.prog 97 #[v.V] w fun e w' => e = .returned (.func (.func 101) #[] #[.pointer (some ⟨w.heap.size, 0, none⟩)]) ∧ w' = w.alloc (.cells v.L.toArray 57) := by
  obtain ⟨p, f0, f1, d0, d1, r0, r1, R, C⟩ := v
  go_enter Try.func97, Try.ntmps97
  go_wp2_with fail
  go_ret
  exact ⟨rfl, rfl⟩
end Go.Proofs.Ytbaeabmmokgomaa
namespace Go.Proofs.Ytbaeabmmokgomaa
open Go.RowKit
set_option linter.unusedVariables false
set_option linter.unusedSimpArgs false
section
variable {P : Program} {ops : Array Oper} {Q : Exit → Act → World → Prop} {md : Region.Mode} {S : World → Prop}

/-- an operation that is no defer statement goes in a round as everywhere -/
theorem wpIn_of_wp {l n : Nat} {o : Oper} {a : Act} {w : World} {K : Act → World → Prop} (hd : ∀ c, o.op ≠ .defer c) (h : o.wp P a w K Q) : o.wpIn (Fence.wide.inRound l) n P a w K Q := by
  unfold Oper.wp at h
  unfold Oper.wpIn
  refine ⟨fun _ _ => trivial, ?_⟩
  rw [Oper.semAt_eq _ _ _ hd]
  generalize (execOp a.eval o).run P w = r at *
  have nd : ∀ m : Nat, (Fence.wide.inRound l).depth.isSome = true → 1 ≤ m := fun m h => by cases h
  cases r with
  | ok x w' =>
    cases x <;> simp only [Oper.upon] at h <;> simp only [Oper.uponIn]
    case value u => exact h
    case skip => exact h
    case defer d => exact h
    case enter f args => exact ⟨nd _, CallsIn.inRound l (callsIn_wide.2 h)⟩
    case row row args => exact ⟨nd _, fun c cs _ => let ⟨v, w', r, s⟩ := h c cs; ⟨v, w', r, stepsIn_wide.2 s⟩⟩
  | halt x w' => cases x <;> simp only [Oper.upon] at h <;> simp only [Oper.uponIn] <;> exact h
/-- a statement that ends, and does nothing else -/
def onlyN (Q : Exit → Act → World → Prop) : Exit → Act → World → Prop
  | .normal, a, w => Q .normal a w
  | _, _, _ => False
theorem wp_only {c : Code} {a : Act} {w : World} (h : c.wp P (onlyN Q) a w) : c.wp P Q a w :=
  wp_mono h (fun e a w h => by cases e <;> first | exact h | exact h.elim)
def wpOpS (P : Program) (ops : Array Oper) (Q : Exit → Act → World → Prop) (i : Nat) (K : Act → World → Prop) (a : Act) (w : World) : Prop :=
  match ops[i]? with
  | none => K a w
  | some o => if Region.wanted o (yielded ops a.tmps) then o.wp P a w K Q else K (a.put o.dst undef) w
theorem wpOpS_mono {i : Nat} {a : Act} {w : World} {K K' : Act → World → Prop} (h : ∀ a w, K a w → K' a w) (hh : wpOpS P ops Q i K a w) : wpOpS P ops Q i K' a w := by
  unfold wpOpS at *
  split
  · exact h _ _ (by simpa [*] using hh)
  · rename_i o ho
    simp only [ho] at hh
    split
    · rename_i hw; simp only [hw, if_true] at hh; exact Oper.wp_mono h hh
    · rename_i hw; simp only [hw] at hh; exact h _ _ hh
theorem YieldsIf.wpOpS {i : Nat} {o : Oper} {v : Value} {a : Act} (hi : ops[i]? = some o) (hy : YieldsIf P ops S o v a)
    {K : Act → World → Prop} {w : World} (hS : S w) (h : K (a.put o.dst v) w) : wpOpS P ops Q i K a w := by
  unfold Go.Proofs.Ytbaeabmmokgomaa.wpOpS
  simp only [hi]
  rcases hy with ⟨hw, hv⟩ | ⟨hw, rfl⟩
  · simp only [hw, if_true, Oper.wp, hv w hS, Oper.upon]; exact h
  · simp only [hw, Bool.false_eq_true, if_false]; exact h
theorem wpOpS_putIf {j : Nat} {oi oj : Oper} {v : Value} (hj : ops[j]? = some oj) (hap : oi.apart ops oj = true)
    (hsi : ∀ cs b, oi.op ≠ .select cs b) (hsj : ∀ cs b, oj.op ≠ .select cs b)
    (hQ : ∀ c a w, Q (.panic c) (a.put oi.dst v) w → Q (.panic c) a w) {K : Act → World → Prop} {a : Act} {w : World}
    (hy : YieldsIf P ops S oi v a) (h : wpOpS P ops Q j K (a.put oi.dst v) w) :
    wpOpS P ops Q j (fun a' w' => YieldsIf P ops S oi v a' ∧ K (a'.put oi.dst v) w') a w := by
  obtain ⟨h1, h2, h3⟩ := Oper.apart_spec hap
  have keep : ∀ (a : Act), YieldsIf P ops S oi v a → ∀ u, YieldsIf P ops S oi v (a.put oj.dst u) := fun a hy u =>
    hy.of_same (execOp_put oi hsi a oj.dst u h3) (wanted_put oi a oj.dst u h3)
  have keepD : ∀ d, YieldsIf P ops S oi v { a with defers := d :: a.defers } := fun d => hy.of_same rfl rfl
  unfold wpOpS at *
  simp only [hj] at *
  rw [wanted_put oj a oi.dst v h1] at h
  split
  · rename_i hw
    simp only [hw, if_true] at h
    unfold Oper.wp at *
    rw [execOp_put oj hsj a oi.dst v h1] at h
    generalize (execOp a.eval oj).run P w = r at *
    cases r with
    | ok n w' =>
      cases n <;> simp only [Oper.upon] at h ⊢
      case value u => exact ⟨keep a hy u, by rw [← Act.put_comm a v u h2]; exact h⟩
      case skip => exact ⟨keep a hy _, by rw [← Act.put_comm a v undef h2]; exact h⟩
      case defer d =>
        refine ⟨keep _ (keepD d) _, ?_⟩
        rw [← Act.put_comm _ v undef h2, ← Act.put_defers]
        exact h
      case enter f args =>
        refine Calls.mono h fun e w'' he => ?_
        cases e with
        | returned u => exact ⟨keep a hy u, by rw [← Act.put_comm a v u h2]; exact he⟩
        | panicked c => exact hQ _ _ _ he
        | outgrown => exact he
      case row row args => exact Rows.mono h fun u w'' he => ⟨keep a hy u, by rw [← Act.put_comm a v u h2]; exact he⟩
    | halt x w' =>
      cases x <;> simp only [Oper.upon] at h ⊢
      case panic u => exact hQ _ _ _ h
  · rename_i hw
    simp only [hw] at h
    exact ⟨keep a hy _, by rw [← Act.put_comm a v undef h2]; exact h⟩
def wpAnyS (P : Program) (md : Region.Mode) (ops : Array Oper) (Q : Exit → Act → World → Prop) (S : World → Prop) : Nat → Array Bool → Act → World → Prop
  | 0, listed, a, w => Region.ready md ops listed = [] ∧ Q .normal a w
  | fuel + 1, listed, a, w =>
    (Region.ready md ops listed = [] → Q .normal a w) ∧
    ∀ i ∈ Region.ready md ops listed, wpOpS P ops Q i (fun a' w' => S w' ∧ wpAnyS P md ops Q S fuel (listed.setIfInBounds i true) a' w') a w
theorem wpAnyS_first {i : Nat} {oi : Oper} {v : Value} (hi : ops[i]? = some oi) (hsel : ∀ (j : Nat) (o : Oper) cs b, ops[j]? = some o → o.op ≠ .select cs b)
    (hQ : ∀ c a w, Q (.panic c) (a.put oi.dst v) w → Q (.panic c) a w) :
    ∀ (fuel : Nat) (listed : Array Bool) (a : Act) (w : World),
      (∀ j oj, ops[j]? = some oj → j ≠ i → listed.getD j true = false → (∀ e ∈ oj.after, Region.binds md e = true → e.on ≠ i) → oi.apart ops oj = true) →
      i ∈ Region.ready md ops listed → YieldsIf P ops S oi v a → S w →
      wpAnyS P md ops Q S fuel (listed.setIfInBounds i true) (a.put oi.dst v) w → wpAnyS P md ops Q S (fuel + 1) listed a w := by
  intro fuel
  induction fuel with
  | zero =>
    intro listed a w _ hr hy hS H
    refine ⟨fun h => (by rw [h] at hr; cases hr), fun j hj => ?_⟩
    by_cases hji : j = i
    · subst hji; exact YieldsIf.wpOpS hi hy hS ⟨hS, H⟩
    · have := ready_mono hj hji
      rw [H.1] at this
      cases this
  | succ fuel ih =>
    intro listed a w hfree hr hy hS H
    refine ⟨fun h => (by rw [h] at hr; cases hr), fun j hj => ?_⟩
    by_cases hji : j = i
    · subst hji; exact YieldsIf.wpOpS hi hy hS ⟨hS, H⟩
    · have h1 := H.2 j (ready_mono hj hji)
      obtain ⟨hjun, oj, hoj, hall⟩ := mem_ready.1 hj
      have hnot : ∀ e ∈ oj.after, Region.binds md e = true → e.on ≠ i := fun e he hb heq => by
        have h1 := hall e he hb
        have h0 := (mem_ready.1 hr).1
        rw [heq] at h1
        rcases Nat.lt_or_ge i listed.size with h' | h'
        · simp [h'] at h0 h1; rw [h0] at h1; cases h1
        · simp [Array.getElem?_eq_none h'] at h1
      have h2 := wpOpS_putIf hoj (hfree j oj hoj hji hjun hnot) (fun cs b => hsel i oi cs b hi) (fun cs b => hsel j oj cs b hoj) hQ hy h1
      have hfree' : ∀ k ok, ops[k]? = some ok → k ≠ i → (listed.setIfInBounds j true).getD k true = false →
          (∀ e ∈ ok.after, Region.binds md e = true → e.on ≠ i) → oi.apart ops ok = true := fun k ok hk hki hun hno => by
        refine hfree k ok hk hki ?_ hno
        by_cases hjk : j = k
        · subst hjk; exact hjun
        · rw [getD_set_ne true hjk] at hun; exact hun
      refine wpOpS_mono (fun a' w' h3 => ⟨h3.2.1, ih (listed.setIfInBounds j true) a' w' hfree' (ready_mono hr (Ne.symm hji)) h3.1 h3.2.1 ?_⟩) h2
      rw [Array.setIfInBounds_comm _ _ hji]
      exact h3.2.2
theorem wpAnyS_take {i : Nat} {oi : Oper} {v : Value} {fuel : Nat} {listed : Array Bool} {a : Act} {w : World} (hi : ops[i]? = some oi)
    (hs : Region.noSelect ops = true) (hf : Region.free md ops listed i = true) (hr : (Region.ready md ops listed).contains i = true)
    (hQ : ∀ c a w, Q (.panic c) (a.put oi.dst v) w → Q (.panic c) a w) (hy : YieldsIf P ops S oi v a) (hS : S w)
    (h : wpAnyS P md ops Q S fuel (listed.setIfInBounds i true) (a.put oi.dst v) w) : wpAnyS P md ops Q S (fuel + 1) listed a w :=
  wpAnyS_first hi (Region.noSelect_spec hs) hQ fuel listed a w (Region.free_spec hi hf) (by simpa using hr) hy hS h
theorem wpAnyS_done {listed : Array Bool} {a : Act} {w : World} (hr : Region.ready md ops listed = []) (h : Q .normal a w) :
    ∀ fuel, wpAnyS P md ops Q S fuel listed a w
  | 0 => ⟨hr, h⟩
  | _ + 1 => ⟨fun _ => h, by rw [hr]; simp⟩
def AllReadyS (P : Program) (md : Region.Mode) (ops : Array Oper) (Q : Exit → Act → World → Prop) (S : World → Prop) (fuel : Nat) (listed : Array Bool) (a : Act) (w : World) (rs : List Nat) : Prop :=
  ∀ i ∈ rs, wpOpS P ops Q i (fun a' w' => S w' ∧ wpAnyS P md ops Q S fuel (listed.setIfInBounds i true) a' w') a w
theorem AllReadyS.nil {fuel : Nat} {listed : Array Bool} {a : Act} {w : World} : AllReadyS P md ops Q S fuel listed a w [] := fun _ h => by cases h
theorem AllReadyS.cons {fuel : Nat} {listed : Array Bool} {a : Act} {w : World} {i : Nat} {o : Oper} {rs : List Nat} (ho : ops[i]? = some o)
    (h : ∀ K' : Act → World → Prop, Shut (∀ a w, S w → (S w → wpAnyS P md ops Q S fuel (listed.setIfInBounds i true) a w) → K' a w) → if Region.wanted o (yielded ops a.tmps) = true then Oper.wp P o a w K' Q else K' (a.put o.dst undef) w)
    (hs : AllReadyS P md ops Q S fuel listed a w rs) : AllReadyS P md ops Q S fuel listed a w (i :: rs) := fun j hj => by
  rcases List.mem_cons.1 hj with rfl | hj
  · unfold wpOpS
    rw [ho]
    exact h _ (fun a w hS hW => ⟨hS, hW hS⟩)
  · exact hs j hj
theorem wpAnyS_ready {rs : List Nat} {fuel : Nat} {listed : Array Bool} {a : Act} {w : World} (hr : Region.ready md ops listed = rs) (hne : rs ≠ [])
    (h : AllReadyS P md ops Q S fuel listed a w rs) : wpAnyS P md ops Q S (fuel + 1) listed a w := ⟨fun h0 => absurd (hr ▸ h0) hne, hr ▸ h⟩
def noDefer (o : Oper) : Bool := match o.op with | .defer _ => false | _ => true
theorem wpAnyIn_of_S {l n : Nat} (hd : ops.all noDefer = true) : ∀ (fuel : Nat) (listed : Array Bool) (a : Act) (w : World), wpAnyS P md ops Q S fuel listed a w → wpAnyIn (Fence.wide.inRound l) n P md ops Q fuel listed a w
  | 0, _, _, _, h => h
  | fuel + 1, listed, a, w, h => ⟨h.1, fun i hi => by
    have hh := h.2 i hi
    unfold wpOpS at hh
    unfold wpOpIn
    cases ho : ops[i]? with
    | none => rw [ho] at hh; exact wpAnyIn_of_S hd fuel _ a w hh.2
    | some o =>
      rw [ho] at hh
      simp only at hh ⊢
      have hnd : ∀ c, o.op ≠ .defer c := fun c hc => by
        obtain ⟨hlt, he⟩ := Array.getElem?_eq_some_iff.1 ho
        have := Array.all_eq_true.1 hd i hlt
        rw [he] at this
        unfold noDefer at this
        rw [hc] at this
        cases this
      split
      · rename_i hw
        simp only [hw, if_true] at hh
        exact wpIn_of_wp hnd (Oper.wp_mono (fun a' w' h' => wpAnyIn_of_S hd fuel _ a' w' h'.2) hh)
      · rename_i hw
        simp only [hw] at hh
        exact ⟨fun _ _ => trivial, wpAnyIn_of_S hd fuel _ _ w hh.2⟩⟩
theorem wpIn_region_S {l n id : Nat} {a : Act} {w : World} (hm : P.follows .mixedOrders = true) (hd : ops.all noDefer = true) (hS : S w.drew)
    (h : S w.drew → wpAnyS P .any ops Q S ops.size (Array.replicate ops.size false) a w.drew) : (Code.region id ops true).wpIn (Fence.wide.inRound l) n P Q a w :=
  wpIn_region_any hm (wpAnyIn_of_S hd _ _ _ _ (h hS))
end
end Go.Proofs.Ytbaeabmmokgomaa
