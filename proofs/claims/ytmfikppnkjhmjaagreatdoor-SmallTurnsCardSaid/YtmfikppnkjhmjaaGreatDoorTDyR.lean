/-
  Layer 3, walks, part fourteen: Float, Half, Whole, Of. (Written by wip/tools/gen_dyr.py.)
-/
import Derived.Test.YtmfikppnkjhmjaaGreatDoorTDyQ
import Derived.Test.YtmfikppnkjhmjaaGreatDoorTDyO
namespace Go.Proofs.YtmfikppnkjhmjaaGreatDoor
open Go.RowKit Go.Bw
set_option linter.unusedVariables false
set_option linter.unusedSimpArgs false

section
variable {b : Bool} {A : Option Addr} {n c : Nat} {x : Int} {l : List Int} {w : World}
theorem of_lv (v : Int) (w : World) (h0 : 0 ≤ v) (h1 : v < 18446744073709551616) : Calls Tryz.prog 31 #[.int .u64 v] w (NewV v w) := (ofMade v w h0 h1).mono fun e w' h => h.newV
theorem len_of_val {s : List Int} {v : Int} (h : Lim 18446744073709551616 s) (hn : Normal s) (hv : val 18446744073709551616 s = v) (h1 : v < 18446744073709551616) : s.length ≤ 4096 := by
  have := length_le_of_lt (b := 18446744073709551616) (by omega) h hn (k := 1) (by rw [hv, Int.pow_succ, Int.pow_zero, Int.one_mul]; exact h1)
  omega
set_option maxRecDepth 100000 in
set_option maxHeartbeats 4000000 in
theorem dHalf_any (k : Int) (w : World) :
    Calls Tryz.prog 15 #[.int .i64 k] w (DyK (ansR false 1 k).1 (ansR false 1 k).2 w) := by
  have DB := Blk.new w [.bool false, .slice none 0 0, .int .i64 0] 31
  have bw : Below w.heap.size w (w.alloc (.cells #[.bool false, .slice none 0 0, .int .i64 0] 31)) := by go_grown
  have DB_0 := Blk.cell DB 0 rfl
  have DB_1 := Blk.cell DB 1 rfl
  have DB_2 := Blk.cell DB 2 rfl
  have DB_f0 := Blk.free DB 0
  have DB_f1 := Blk.free DB 1
  have DB_f2 := Blk.free DB 2
  go_enter Tryz.func15, Tryz.ntmps15
  go_wp2_with fail
  with_reducible refine (of_lv 1 _ (by omega) (by omega)).mono ?_
  rintro e w1 ⟨s1, A1, c1, rfl, n1, v1, m1, hb⟩
  clear DB_0 DB_1 DB_2 DB_f0 DB_f1 DB_f2
  have hs1 := hb.size
  try simp only [World.size_alloc, World.size_setCell] at hs1
  replace bw : Below w.heap.size w w1 := dy_end (by go_grown) hb
  replace DB := Blk.on DB hb
  clear hb
  have DB_0 := Blk.cell DB 0 rfl
  have DB_1 := Blk.cell DB 1 rfl
  have DB_2 := Blk.cell DB 2 rfl
  have DB_f0 := Blk.free DB 0
  have DB_f1 := Blk.free DB 1
  have DB_f2 := Blk.free DB 2
  have an := fun W (mm : Lv W A1 s1.length c1 s1) => dyAns_any (b := false) (x := k) mm (len_of_val m1.2.2 n1 v1.out (by omega)) n1 (fun _ => by rw [v1.out]; rfl)
  rw [v1.out] at an
  go_wp2_with fail
  with_reducible refine (an _ m1).mono ?_
  rintro e w2 ⟨b2, q2, A2, c2, x2, rfl, hd2, m2, hb⟩
  clear DB_0 DB_1 DB_2 DB_f0 DB_f1 DB_f2
  have hs2 := hb.size
  try simp only [World.size_alloc, World.size_setCell] at hs2
  replace bw : Below w.heap.size w w2 := dy_end (by go_grown) hb
  replace m1 := Lv.on m1 hb
  replace DB := Blk.on DB hb
  clear hb
  have DB_0 := Blk.cell DB 0 rfl
  have DB_1 := Blk.cell DB 1 rfl
  have DB_2 := Blk.cell DB 2 rfl
  have DB_f0 := Blk.free DB 0
  have DB_f1 := Blk.free DB 1
  have DB_f2 := Blk.free DB 2
  go_wp2_with fail
  refine bodyPost_ret (v := .tuple #[dyV b2 A2 q2.length c2 x2, .int .i64 (ansR false 1 k).2]) (by simp [results, Tryz.results15, go_sem, DB_0, DB_1, DB_2]) rfl ?_
  exact ⟨b2, q2, A2, c2, x2, rfl, hd2, m2.put DB _ _ _ _ _, by go_grown⟩

set_option maxRecDepth 100000 in
set_option maxHeartbeats 4000000 in
theorem dWhole_neg (k : Int) (hT : Tab w) (k0 : -9223372036854775808 ≤ k) (k1 : k < 0) :
    Calls Tryz.prog 13 #[.int .i64 k] w (DyP (nfl true (-k) 0) w) := by
  have DB := Blk.new w [.bool false, .slice none 0 0, .int .i64 0] 31
  have bw : Below w.heap.size w (w.alloc (.cells #[.bool false, .slice none 0 0, .int .i64 0] 31)) := by go_grown
  have DB_0 := Blk.cell DB 0 rfl
  have DB_1 := Blk.cell DB 1 rfl
  have DB_2 := Blk.cell DB 2 rfl
  have DB_f0 := Blk.free DB 0
  have DB_f1 := Blk.free DB 1
  have DB_f2 := Blk.free DB 2
  have e1 : IntKind.u64.wrap k = k + 18446744073709551616 := by rw [IntKind.wrap_u64]; omega
  have e2 : IntKind.u64.wrap (-(k + 18446744073709551616)) = -k := by rw [IntKind.wrap_u64]; omega
  have k9 : decide (k < 0) = true := by simp; omega
  go_enter Tryz.func13, Tryz.ntmps13
  go_wp2_with fail
  with_reducible refine (of_lv (-k) _ (by omega) (by omega)).mono ?_
  rintro e w1 ⟨s1, A1, c1, rfl, n1, v1, m1, hb⟩
  clear DB_0 DB_1 DB_2 DB_f0 DB_f1 DB_f2
  have hs1 := hb.size
  try simp only [World.size_alloc, World.size_setCell] at hs1
  replace bw : Below w.heap.size w w1 := dy_end (by go_grown) hb
  replace DB := Blk.on DB hb
  clear hb
  have DB_0 := Blk.cell DB 0 rfl
  have DB_1 := Blk.cell DB 1 rfl
  have DB_2 := Blk.cell DB 2 rfl
  have DB_f0 := Blk.free DB 0
  have DB_f1 := Blk.free DB 1
  have DB_f2 := Blk.free DB 2
  go_wp2_with fail
  with_reducible refine (normal_any (b := true) (x := 0) m1 (len_of_val (Lv.lim m1) n1 v1.out (by omega)) (hT.onD (by go_grown)) (by omega) (by omega)).mono ?_
  rintro e w2 ⟨b2, q2, A2, c2, x2, rfl, hd2, m2, hb⟩
  clear DB_0 DB_1 DB_2 DB_f0 DB_f1 DB_f2
  have hs2 := hb.size
  try simp only [World.size_alloc, World.size_setCell] at hs2
  replace bw : Below w.heap.size w w2 := dy_end (by go_grown) hb
  replace m1 := Lv.on m1 hb
  replace DB := Blk.on DB hb
  clear hb
  have DB_0 := Blk.cell DB 0 rfl
  have DB_1 := Blk.cell DB 1 rfl
  have DB_2 := Blk.cell DB 2 rfl
  have DB_f0 := Blk.free DB 0
  have DB_f1 := Blk.free DB 1
  have DB_f2 := Blk.free DB 2
  rw [v1.out] at hd2
  go_wp2_with fail
  refine bodyPost_ret (v := dyV b2 A2 q2.length c2 x2) (by simp [results, Tryz.results13, go_sem, DB_0, DB_1, DB_2]) rfl ?_
  exact ⟨b2, q2, A2, c2, x2, rfl, hd2, m2.put DB _ _ _ _ _, by go_grown⟩

set_option maxRecDepth 100000 in
set_option maxHeartbeats 4000000 in
theorem dWhole_pos (k : Int) (hT : Tab w) (k0 : 0 ≤ k) (k1 : k ≤ 9223372036854775807) :
    Calls Tryz.prog 13 #[.int .i64 k] w (DyP (nfl false k 0) w) := by
  have DB := Blk.new w [.bool false, .slice none 0 0, .int .i64 0] 31
  have bw : Below w.heap.size w (w.alloc (.cells #[.bool false, .slice none 0 0, .int .i64 0] 31)) := by go_grown
  have DB_0 := Blk.cell DB 0 rfl
  have DB_1 := Blk.cell DB 1 rfl
  have DB_2 := Blk.cell DB 2 rfl
  have DB_f0 := Blk.free DB 0
  have DB_f1 := Blk.free DB 1
  have DB_f2 := Blk.free DB 2
  have k9 : decide (k < 0) = false := by simp; omega
  go_enter Tryz.func13, Tryz.ntmps13
  go_wp2_with fail
  with_reducible refine (of_lv k _ (by omega) (by omega)).mono ?_
  rintro e w1 ⟨s1, A1, c1, rfl, n1, v1, m1, hb⟩
  clear DB_0 DB_1 DB_2 DB_f0 DB_f1 DB_f2
  have hs1 := hb.size
  try simp only [World.size_alloc, World.size_setCell] at hs1
  replace bw : Below w.heap.size w w1 := dy_end (by go_grown) hb
  replace DB := Blk.on DB hb
  clear hb
  have DB_0 := Blk.cell DB 0 rfl
  have DB_1 := Blk.cell DB 1 rfl
  have DB_2 := Blk.cell DB 2 rfl
  have DB_f0 := Blk.free DB 0
  have DB_f1 := Blk.free DB 1
  have DB_f2 := Blk.free DB 2
  go_wp2_with fail
  with_reducible refine (normal_any (b := false) (x := 0) m1 (len_of_val (Lv.lim m1) n1 v1.out (by omega)) (hT.onD (by go_grown)) (by omega) (by omega)).mono ?_
  rintro e w2 ⟨b2, q2, A2, c2, x2, rfl, hd2, m2, hb⟩
  clear DB_0 DB_1 DB_2 DB_f0 DB_f1 DB_f2
  have hs2 := hb.size
  try simp only [World.size_alloc, World.size_setCell] at hs2
  replace bw : Below w.heap.size w w2 := dy_end (by go_grown) hb
  replace m1 := Lv.on m1 hb
  replace DB := Blk.on DB hb
  clear hb
  have DB_0 := Blk.cell DB 0 rfl
  have DB_1 := Blk.cell DB 1 rfl
  have DB_2 := Blk.cell DB 2 rfl
  have DB_f0 := Blk.free DB 0
  have DB_f1 := Blk.free DB 1
  have DB_f2 := Blk.free DB 2
  rw [v1.out] at hd2
  go_wp2_with fail
  refine bodyPost_ret (v := dyV b2 A2 q2.length c2 x2) (by simp [results, Tryz.results13, go_sem, DB_0, DB_1, DB_2]) rfl ?_
  exact ⟨b2, q2, A2, c2, x2, rfl, hd2, m2.put DB _ _ _ _ _, by go_grown⟩


theorem dWhole_any (k : Int) (hT : Tab w) (k0 : -9223372036854775808 ≤ k) (k1 : k ≤ 9223372036854775807) :
    Calls Tryz.prog 13 #[.int .i64 k] w (DyP (nf k 0) w) := by
  by_cases h : k < 0
  · have := dWhole_neg k hT k0 h
    unfold nfl at this
    simpa using this
  · have := dWhole_pos k hT (by omega) k1
    unfold nfl at this
    simpa using this

theorem dparts_yes (y : Int) (h0 : 0 ≤ y) (h1 : y ≤ 18446744073709551615) (hc : cls y ≤ 3) (w : World) : Calls Tryz.prog 28 #[.int .u64 y] w fun e w' => e = .returned (.tuple #[partsV (pneg y) (pman y) (pexp y), .int .i64 0]) ∧ Below w.heap.size w w' := by
  refine (parts_any y h0 h1 w).mono ?_
  rintro e w' ⟨rfl, hb⟩
  exact ⟨by unfold partsR; rw [if_pos hc], hb⟩
theorem dparts_no (y : Int) (h0 : 0 ≤ y) (h1 : y ≤ 18446744073709551615) (hc : 3 < cls y) (w : World) : Calls Tryz.prog 28 #[.int .u64 y] w fun e w' => e = .returned (.tuple #[partsV false 0 0, .int .i64 2]) ∧ Below w.heap.size w w' := by
  refine (parts_any y h0 h1 w).mono ?_
  rintro e w' ⟨rfl, hb⟩
  exact ⟨by unfold partsR; rw [if_neg (by omega)], hb⟩
theorem of_fin (y : Nat) (hn : y ≤ 18446744073709551615) (hc : cls (y : Int) ≤ 3) (w : World) :
    Calls Tryz.prog 29 #[.float .f64 y] w fun e w' => e = .returned (.int .u64 (y : Int)) ∧ w = w' := by
  have := ofBany y hn w
  unfold one at this
  rw [if_neg (by omega)] at this
  exact this
theorem one_inf (y : Int) (h : 3 < cls y) : 3 < cls (one y) := by
  unfold one
  split
  · decide
  · exact h
theorem one_bd (y : Nat) (hn : y ≤ 18446744073709551615) : 0 ≤ one (y : Int) ∧ one (y : Int) ≤ 18446744073709551615 := by
  unfold one
  split
  · decide
  · omega
theorem dpman_bd (y : Int) : 0 ≤ pman y ∧ pman y < 18446744073709551616 := by
  have := frc_bd y
  unfold pman
  split <;> omega
theorem dpexp_bd (y : Int) : -1100 ≤ pexp y ∧ pexp y ≤ 1100 := by
  have := fld_bd y
  unfold pexp
  repeat' split
  all_goals omega
set_option maxRecDepth 100000 in
set_option maxHeartbeats 4000000 in
theorem dOf_no (y : Nat) (hn : y ≤ 18446744073709551615) (hc : 3 < cls (y : Int)) (w : World) :
    Calls Tryz.prog 9 #[.float .f64 y] w (DyK zeroN 2 w) := by
  have DB := Blk.new w [.bool false, .slice none 0 0, .int .i64 0] 31
  have bw : Below w.heap.size w (w.alloc (.cells #[.bool false, .slice none 0 0, .int .i64 0] 31)) := by go_grown
  have DB_0 := Blk.cell DB 0 rfl
  have DB_1 := Blk.cell DB 1 rfl
  have DB_2 := Blk.cell DB 2 rfl
  have DB_f0 := Blk.free DB 0
  have DB_f1 := Blk.free DB 1
  have DB_f2 := Blk.free DB 2
  obtain ⟨i0, i1⟩ := one_bd y hn
  have I9 := one_inf (y : Int) hc
  go_enter Tryz.func9, Tryz.ntmps9
  go_wp2_with fail
  with_reducible refine (ofBany y hn _).mono ?_
  rintro e w0 ⟨rfl, rfl⟩
  go_wp2_with fail
  with_reducible refine (dparts_no _ i0 i1 I9 _).mono ?_
  rintro e w1 ⟨rfl, hb⟩
  clear DB_0 DB_1 DB_2 DB_f0 DB_f1 DB_f2
  have hs1 := hb.size
  try simp only [World.size_alloc, World.size_setCell] at hs1
  replace bw : Below w.heap.size w w1 := dy_end (by go_grown) hb
  replace DB := Blk.on DB hb
  clear hb
  have DB_0 := Blk.cell DB 0 rfl
  have DB_1 := Blk.cell DB 1 rfl
  have DB_2 := Blk.cell DB 2 rfl
  have DB_f0 := Blk.free DB 0
  have DB_f1 := Blk.free DB 1
  have DB_f2 := Blk.free DB 2
  replace DB := Blk.alloc DB (.cells #[.bool false, .int .u64 0, .int .i64 0] 53)
  have RB := Blk.new w1 [.bool false, .int .u64 0, .int .i64 0] 53
  have DB_v0_0 := Blk.cell DB 0 rfl
  have DB_v0_1 := Blk.cell DB 1 rfl
  have DB_v0_2 := Blk.cell DB 2 rfl
  have DB_v0_f0 := Blk.free DB 0
  have DB_v0_f1 := Blk.free DB 1
  have DB_v0_f2 := Blk.free DB 2
  have RB_0 := Blk.cell RB 0 rfl
  have RB_1 := Blk.cell RB 1 rfl
  have RB_2 := Blk.cell RB 2 rfl
  have RB_f0 := Blk.free RB 0
  have RB_f1 := Blk.free RB 1
  have RB_f2 := Blk.free RB 2
  go_wp2_with fail
  refine bodyPost_ret (v := .tuple #[dyV false none 0 0 0, .int .i64 2]) (by simp [results, Tryz.results9, go_sem, DB_0, DB_1, DB_2, DB_f0, DB_f1, DB_f2, DB_v0_0, DB_v0_1, DB_v0_2, DB_v0_f0, DB_v0_f1, DB_v0_f2]) rfl ?_
  exact ⟨false, [], none, 0, 0, rfl, Dn.zero, lv_nil _, by go_grown⟩

set_option maxRecDepth 100000 in
set_option maxHeartbeats 4000000 in
theorem dOf_yes (y : Nat) (hn : y ≤ 18446744073709551615) (hc : cls (y : Int) ≤ 3) (hT : Tab w) :
    Calls Tryz.prog 9 #[.float .f64 y] w (DyK (nfl (pneg y) (pman y) (pexp y)) 0 w) := by
  have DB := Blk.new w [.bool false, .slice none 0 0, .int .i64 0] 31
  have bw : Below w.heap.size w (w.alloc (.cells #[.bool false, .slice none 0 0, .int .i64 0] 31)) := by go_grown
  have DB_0 := Blk.cell DB 0 rfl
  have DB_1 := Blk.cell DB 1 rfl
  have DB_2 := Blk.cell DB 2 rfl
  have DB_f0 := Blk.free DB 0
  have DB_f1 := Blk.free DB 1
  have DB_f2 := Blk.free DB 2
  have B9 := dpman_bd (y : Int)
  have C9 := dpexp_bd (y : Int)
  have PY := fun W => dparts_yes (y : Int) (by omega) (by omega) hc W
  generalize pneg (y : Int) = pn, pman (y : Int) = pm, pexp (y : Int) = pe at B9 C9 PY ⊢
  go_enter Tryz.func9, Tryz.ntmps9
  go_wp2_with fail
  with_reducible refine (of_fin y hn hc _).mono ?_
  rintro e w0 ⟨rfl, rfl⟩
  go_wp2_with fail
  with_reducible refine (PY _).mono ?_
  rintro e w1 ⟨rfl, hb⟩
  clear DB_0 DB_1 DB_2 DB_f0 DB_f1 DB_f2
  have hs1 := hb.size
  try simp only [World.size_alloc, World.size_setCell] at hs1
  replace bw : Below w.heap.size w w1 := dy_end (by go_grown) hb
  replace DB := Blk.on DB hb
  clear hb
  have DB_0 := Blk.cell DB 0 rfl
  have DB_1 := Blk.cell DB 1 rfl
  have DB_2 := Blk.cell DB 2 rfl
  have DB_f0 := Blk.free DB 0
  have DB_f1 := Blk.free DB 1
  have DB_f2 := Blk.free DB 2
  replace DB := Blk.alloc DB (.cells #[.bool pn, .int .u64 pm, .int .i64 pe] 53)
  have RB := Blk.new w1 [.bool pn, .int .u64 pm, .int .i64 pe] 53
  have DB_v0_0 := Blk.cell DB 0 rfl
  have DB_v0_1 := Blk.cell DB 1 rfl
  have DB_v0_2 := Blk.cell DB 2 rfl
  have DB_v0_f0 := Blk.free DB 0
  have DB_v0_f1 := Blk.free DB 1
  have DB_v0_f2 := Blk.free DB 2
  have RB_0 := Blk.cell RB 0 rfl
  have RB_1 := Blk.cell RB 1 rfl
  have RB_2 := Blk.cell RB 2 rfl
  have RB_f0 := Blk.free RB 0
  have RB_f1 := Blk.free RB 1
  have RB_f2 := Blk.free RB 2
  go_wp2_with fail
  obtain ⟨r, hr⟩ : ∃ r, r = w1.heap.size := ⟨_, rfl⟩
  refine wp_region_held_drew (S := fun w' : World => w'.cell? ⟨w1.heap.size, 0, none⟩ = some (.bool pn) ∧ w'.cell? ⟨w1.heap.size, 1, none⟩ = some (.int .u64 pm) ∧ w'.cell? ⟨w1.heap.size, 2, none⟩ = some (.int .i64 pe)) (by kernel_rfl) ⟨RB_0, RB_1, RB_2⟩ (fun hHeld => ?_)
  refine wpAnyH_take (i := 0) (v := ?v0) rfl (by kernel_rfl) (by kernel_rfl) (by kernel_rfl) (fun _ _ _ h => h) (Or.inl ⟨by rfl, ?hy0⟩) (by assumption) ?rest0
  case hy0 => (intro w hSw; (try dsimp only at hSw); go_simp; try with_reducible rfl)
  simp only [Act.put, List.setIfInBounds_toArray, List.set_cons_zero, List.set_cons_succ, List.getElem_toArray, List.getElem_cons_zero, List.getElem_cons_succ]
  refine wpAnyH_take (i := 1) (v := ?v1) rfl (by kernel_rfl) (by kernel_rfl) (by kernel_rfl) (fun _ _ _ h => h) (Or.inl ⟨by rfl, ?hy1⟩) (by assumption) ?rest1
  case hy1 => (intro w hSw; (try dsimp only at hSw); go_simp; try with_reducible rfl)
  simp only [Act.put, List.setIfInBounds_toArray, List.set_cons_zero, List.set_cons_succ, List.getElem_toArray, List.getElem_cons_zero, List.getElem_cons_succ]
  refine wpAnyH_take (i := 2) (v := ?v2) rfl (by kernel_rfl) (by kernel_rfl) (by kernel_rfl) (fun _ _ _ h => h) (Or.inl ⟨by rfl, ?hy2⟩) (by assumption) ?rest2
  case hy2 => (intro w hSw; (try dsimp only at hSw); go_simp; try with_reducible rfl)
  simp only [Act.put, List.setIfInBounds_toArray, List.set_cons_zero, List.set_cons_succ, List.getElem_toArray, List.getElem_cons_zero, List.getElem_cons_succ]
  refine wpAnyH_take (i := 3) (v := ?v3) rfl (by kernel_rfl) (by kernel_rfl) (by kernel_rfl) (fun _ _ _ h => h) (Or.inl ⟨by rfl, ?hy3⟩) (by assumption) ?rest3
  case hy3 => (intro w hSw; (try dsimp only at hSw); go_simp; try with_reducible rfl)
  simp only [Act.put, List.setIfInBounds_toArray, List.set_cons_zero, List.set_cons_succ, List.getElem_toArray, List.getElem_cons_zero, List.getElem_cons_succ]
  refine wpAnyH_take (i := 5) (v := ?v5) rfl (by kernel_rfl) (by kernel_rfl) (by kernel_rfl) (fun _ _ _ h => h) (Or.inl ⟨by rfl, ?hy5⟩) (by assumption) ?rest5
  case hy5 => (intro w hSw; (try dsimp only at hSw); go_simp; try with_reducible rfl)
  simp only [Act.put, List.setIfInBounds_toArray, List.set_cons_zero, List.set_cons_succ, List.getElem_toArray, List.getElem_cons_zero, List.getElem_cons_succ]
  refine wpAnyH_take (i := 6) (v := ?v6) rfl (by kernel_rfl) (by kernel_rfl) (by kernel_rfl) (fun _ _ _ h => h) (Or.inl ⟨by rfl, ?hy6⟩) (by assumption) ?rest6
  case hy6 => (intro w hSw; (try dsimp only at hSw); go_simp; try with_reducible rfl)
  simp only [Act.put, List.setIfInBounds_toArray, List.set_cons_zero, List.set_cons_succ, List.getElem_toArray, List.getElem_cons_zero, List.getElem_cons_succ]
  refine wpAnyH_ready (rs := [4]) (by kernel_rfl) (by simp) ?_
  refine AllReadyH.cons rfl (fun K hK => ?_) AllReadyH.nil
  go_simp
  with_reducible refine (of_lv pm _ B9.1 B9.2).mono ?_
  rintro e w2 ⟨s2, A2, c2, rfl, n2, v2, m2, hb2⟩
  have hs2 := hb2.size
  simp only [World.size_alloc, World.size_drew] at hs2
  replace bw : Below w.heap.size w w2 := dy_end (by go_grown) hb2
  replace DB := (Blk.drew DB).on hb2
  replace hT := hT.onD bw
  refine hK.out _ _ (⟨(hb2.cell (p := ⟨w1.heap.size, 0, none⟩) (by first | omega | (dsimp only; omega) | (simp; omega) | (simp; done))).trans hHeld.1, (hb2.cell (p := ⟨w1.heap.size, 1, none⟩) (by first | omega | (dsimp only; omega) | (simp; omega) | (simp; done))).trans hHeld.2.1, (hb2.cell (p := ⟨w1.heap.size, 2, none⟩) (by first | omega | (dsimp only; omega) | (simp; omega) | (simp; done))).trans hHeld.2.2⟩) (fun hHeld => ?_)
  clear hK K
  try simp only [Act.put, List.setIfInBounds_toArray, List.set_cons_zero, List.set_cons_succ, List.getElem_toArray, List.getElem_cons_zero, List.getElem_cons_succ]
  refine wpAnyH_take (i := 7) (v := ?v7) rfl (by kernel_rfl) (by kernel_rfl) (by kernel_rfl) (fun _ _ _ h => h) (Or.inl ⟨by rfl, ?hy7⟩) (by assumption) ?rest7
  case hy7 => (intro w hSw; (try dsimp only at hSw); go_simp; try with_reducible rfl)
  simp only [Act.put, List.setIfInBounds_toArray, List.set_cons_zero, List.set_cons_succ, List.getElem_toArray, List.getElem_cons_zero, List.getElem_cons_succ]
  refine wpAnyH_ready (rs := [8]) (by kernel_rfl) (by simp) ?_
  refine AllReadyH.cons rfl (fun K hK => ?_) AllReadyH.nil
  go_simp
  with_reducible refine (normal_any (b := pn) (x := pe) m2 (len_of_val (Lv.lim m2) n2 v2.out B9.2) hT (by omega) (by omega)).mono ?_
  rintro e w3 ⟨b3, q3, A3, c3, x3, rfl, hd3, m3, hb3⟩
  have hs3 := hb3.size
  replace bw : Below w.heap.size w w3 := dy_end bw hb3
  replace DB := Blk.on DB hb3
  rw [v2.out] at hd3
  refine hK.out _ _ (⟨(hb3.cell (p := ⟨w1.heap.size, 0, none⟩) (by first | omega | (dsimp only; omega) | (simp; omega) | (simp; done))).trans hHeld.1, (hb3.cell (p := ⟨w1.heap.size, 1, none⟩) (by first | omega | (dsimp only; omega) | (simp; omega) | (simp; done))).trans hHeld.2.1, (hb3.cell (p := ⟨w1.heap.size, 2, none⟩) (by first | omega | (dsimp only; omega) | (simp; omega) | (simp; done))).trans hHeld.2.2⟩) (fun hHeld => ?_)
  clear hK K
  try simp only [Act.put, List.setIfInBounds_toArray, List.set_cons_zero, List.set_cons_succ, List.getElem_toArray, List.getElem_cons_zero, List.getElem_cons_succ]
  clear hb2 hb3
  clear DB_0 DB_1 DB_2 DB_f0 DB_f1 DB_f2 DB_v0_0 DB_v0_1 DB_v0_2 DB_v0_f0 DB_v0_f1 DB_v0_f2
  clear RB_0 RB_1 RB_2 RB_f0 RB_f1 RB_f2
  have DB_0 := Blk.cell DB 0 rfl
  have DB_1 := Blk.cell DB 1 rfl
  have DB_2 := Blk.cell DB 2 rfl
  have DB_f0 := Blk.free DB 0
  have DB_f1 := Blk.free DB 1
  have DB_f2 := Blk.free DB 2
  refine wpAnyH_ready (rs := [9]) (by kernel_rfl) (by simp) ?_
  refine AllReadyH.cons rfl (fun K hK => ?_) AllReadyH.nil
  go_simp
  refine hK.out _ _ (⟨put_cell hHeld.1 (by dsimp only; omega) _ _ _, put_cell hHeld.2.1 (by dsimp only; omega) _ _ _, put_cell hHeld.2.2 (by dsimp only; omega) _ _ _⟩) (fun hHeld => ?_)
  clear hK K
  try simp only [Act.put, List.setIfInBounds_toArray, List.set_cons_zero, List.set_cons_succ, List.getElem_toArray, List.getElem_cons_zero, List.getElem_cons_succ]
  refine wpAnyH_take (i := 10) (v := ?v10) rfl (by kernel_rfl) (by kernel_rfl) (by kernel_rfl) (fun _ _ _ h => h) (Or.inl ⟨by rfl, ?hy10⟩) (by assumption) ?rest10
  case hy10 => (intro w hSw; (try dsimp only at hSw); go_simp; try with_reducible rfl)
  simp only [Act.put, List.setIfInBounds_toArray, List.set_cons_zero, List.set_cons_succ, List.getElem_toArray, List.getElem_cons_zero, List.getElem_cons_succ]
  refine wpAnyH_done (by kernel_rfl) ?_ _
  replace m3 := m3.put DB b3 A3 q3.length c3 x3
  clear DB_0 DB_1 DB_2 DB_f0 DB_f1 DB_f2
  replace DB := Dbx.put DB b3 A3 q3.length c3 x3
  clear hHeld
  have DB_0 := Blk.cell DB 0 rfl
  have DB_1 := Blk.cell DB 1 rfl
  have DB_2 := Blk.cell DB 2 rfl
  have DB_f0 := Blk.free DB 0
  have DB_f1 := Blk.free DB 1
  have DB_f2 := Blk.free DB 2
  go_wp2_with fail
  refine bodyPost_ret (v := .tuple #[dyV b3 A3 q3.length c3 x3, .int .i64 0]) (by simp [results, Tryz.results9, go_sem, DB_0, DB_1, DB_2]) rfl ?_
  exact ⟨b3, q3, A3, c3, x3, rfl, hd3, m3, by go_grown⟩

end
end Go.Proofs.YtmfikppnkjhmjaaGreatDoor
