/-
  Layer 3, walks of the reference, part two. (Written by wip/tools/gen_dyx.py.)
-/
import Derived.Test.YtknomchkfamajaaGreatDoorDyS
import Derived.Test.YtknomchkfamajaaGreatDoorDNB1
namespace Go.Proofs.YtknomchkfamajaaGreatDoor
open Go.RowKit Go.Bw
set_option linter.unusedVariables false
set_option linter.unusedSimpArgs false

section
variable {b : Bool} {A : Option Addr} {n c : Nat} {x : Int} {l : List Int} {w : World}
theorem lim_one_x {v : Int} (h0 : 0 ≤ v) (h1 : v < 18446744073709551616) : Lim 18446744073709551616 [v] := fun y hy => by simp at hy; omega
/-- one limb that the code writes out, in a new block -/
theorem row_one (w : World) {v : Int} (h0 : 0 ≤ v) (h1 : v < 18446744073709551616) : Lv (w.alloc (.cells #[.int .u64 v] 35)) (some ⟨w.heap.size, 0, none⟩) 1 1 [v] := Lv.row w [v] 1 w.heap.size rfl rfl (by omega) (lim_one_x h0 h1) _ rfl
theorem val_one (v : Int) : val 18446744073709551616 [v] = v := by rw [val_cons, val_nil]; omega
set_option maxRecDepth 100000 in
set_option maxHeartbeats 4000000 in
theorem rHalf_yes (k : Int) (w : World) (h0 : -262144 ≤ k) (h1 : k ≤ 262144) :
    Calls Tryz.prog 34 #[.int .i64 k] w (DyK ⟨false, 1, k⟩ 0 w) := by
  have DB := Blk.new w [.bool false, .slice none 0 0, .int .i64 0] 24
  have bw : Below w.heap.size w (w.alloc (.cells #[.bool false, .slice none 0 0, .int .i64 0] 24)) := by go_grown
  have DB_0 := Blk.cell DB 0 rfl
  have DB_1 := Blk.cell DB 1 rfl
  have DB_2 := Blk.cell DB 2 rfl
  have DB_f0 := Blk.free DB 0
  have DB_f1 := Blk.free DB 1
  have DB_f2 := Blk.free DB 2
  have k9 : decide (262144 < k) = false := by simp; omega
  have m1 := row_one (w.alloc (.cells #[.bool false, .slice none 0 0, .int .i64 0] 24)) (v := 1) (by omega) (by omega)
  rw [World.size_alloc] at m1
  go_enter Tryz.func34, Tryz.ntmps34
  go_wp2_with fail
  refine bodyPost_ret (v := .tuple #[dyV false (some ⟨w.heap.size + 1, 0, none⟩) 1 1 k, .int .i64 0]) (by simp [results, Tryz.results34, go_sem, DB_0, DB_1, DB_2, DB_f0, DB_f1, DB_f2]) rfl ?_
  refine ⟨false, [1], some ⟨w.heap.size + 1, 0, none⟩, 1, k, rfl, ?_, ?_, by go_grown⟩
  · exact ⟨.inr (by decide), by simp, rfl, .inr (by show 1 % 2 = 1; rfl)⟩
  · have m2 := row_one (w.alloc (.cells #[.bool false, .slice (some ⟨w.heap.size + 1, 0, none⟩) 1 1, .int .i64 k] 24)) (v := 1) (by omega) (by omega)
    rw [World.size_alloc] at m2
    exact m2

set_option maxRecDepth 100000 in
set_option maxHeartbeats 4000000 in
theorem rHalf_lo (k : Int) (w : World) (h0 : k < -262144) :
    Calls Tryz.prog 34 #[.int .i64 k] w (DyK zeroN 3 w) := by
  have DB := Blk.new w [.bool false, .slice none 0 0, .int .i64 0] 24
  have bw : Below w.heap.size w (w.alloc (.cells #[.bool false, .slice none 0 0, .int .i64 0] 24)) := by go_grown
  have DB_0 := Blk.cell DB 0 rfl
  have DB_1 := Blk.cell DB 1 rfl
  have DB_2 := Blk.cell DB 2 rfl
  have DB_f0 := Blk.free DB 0
  have DB_f1 := Blk.free DB 1
  have DB_f2 := Blk.free DB 2
  have k8 : decide (k < -262144) = true := by simp; omega
  go_enter Tryz.func34, Tryz.ntmps34
  go_wp2_with fail
  refine bodyPost_ret (v := .tuple #[dyV false none 0 0 0, .int .i64 3]) (by simp [results, Tryz.results34, go_sem, DB_0, DB_1, DB_2, DB_f0, DB_f1, DB_f2]) rfl ?_
  exact ⟨false, [], none, 0, 0, rfl, Dn.zero, lv_nil _, by go_grown⟩

set_option maxRecDepth 100000 in
set_option maxHeartbeats 4000000 in
theorem rHalf_hi (k : Int) (w : World) (h0 : 262144 < k) :
    Calls Tryz.prog 34 #[.int .i64 k] w (DyK zeroN 3 w) := by
  have DB := Blk.new w [.bool false, .slice none 0 0, .int .i64 0] 24
  have bw : Below w.heap.size w (w.alloc (.cells #[.bool false, .slice none 0 0, .int .i64 0] 24)) := by go_grown
  have DB_0 := Blk.cell DB 0 rfl
  have DB_1 := Blk.cell DB 1 rfl
  have DB_2 := Blk.cell DB 2 rfl
  have DB_f0 := Blk.free DB 0
  have DB_f1 := Blk.free DB 1
  have DB_f2 := Blk.free DB 2
  have k8 : decide (k < -262144) = false := by simp; omega
  have k9 : decide (262144 < k) = true := by simp; omega
  go_enter Tryz.func34, Tryz.ntmps34
  go_wp2_with fail
  refine bodyPost_ret (v := .tuple #[dyV false none 0 0 0, .int .i64 3]) (by simp [results, Tryz.results34, go_sem, DB_0, DB_1, DB_2, DB_f0, DB_f1, DB_f2]) rfl ?_
  exact ⟨false, [], none, 0, 0, rfl, Dn.zero, lv_nil _, by go_grown⟩


theorem rHalf_any (k : Int) (w : World) : Calls Tryz.prog 34 #[.int .i64 k] w (DyK (ansR false 1 k).1 (ansR false 1 k).2 w) := by
  by_cases h0 : k < -262144
  · have e : ansR false 1 k = (zeroN, 3) := by unfold ansR; rw [if_neg (by decide), doneR_no (okE_false.2 (.inl h0))]
    rw [e]; exact rHalf_lo k w h0
  · by_cases h1 : 262144 < k
    · have e : ansR false 1 k = (zeroN, 3) := by unfold ansR; rw [if_neg (by decide), doneR_no (okE_false.2 (.inr h1))]
      rw [e]; exact rHalf_hi k w h1
    · have e : ansR false 1 k = (⟨false, 1, k⟩, 0) := by unfold ansR; rw [if_neg (by decide), doneR_yes (by show okE k = true; exact okE_true (by omega) (by omega))]; rfl
      rw [e]; exact rHalf_yes k w (by omega) (by omega)
set_option maxRecDepth 100000 in
set_option maxHeartbeats 4000000 in
theorem rWhole_neg (k : Int) (w : World) (k0 : -9223372036854775808 ≤ k) (k1 : k < 0) :
    Calls Tryz.prog 36 #[.int .i64 k] w (DyP (nfl true (-k) 0) w) := by
  have DB := Blk.new w [.bool false, .slice none 0 0, .int .i64 0] 24
  have bw : Below w.heap.size w (w.alloc (.cells #[.bool false, .slice none 0 0, .int .i64 0] 24)) := by go_grown
  have DB_0 := Blk.cell DB 0 rfl
  have DB_1 := Blk.cell DB 1 rfl
  have DB_2 := Blk.cell DB 2 rfl
  have DB_f0 := Blk.free DB 0
  have DB_f1 := Blk.free DB 1
  have DB_f2 := Blk.free DB 2
  have k9 : decide (k < 0) = true := by simp; omega
  have e1 : IntKind.u64.wrap k = k + 18446744073709551616 := by rw [IntKind.wrap_u64]; omega
  have e2 : IntKind.u64.wrap (-(k + 18446744073709551616)) = -k := by rw [IntKind.wrap_u64]; omega
  have m1 := row_one (w.alloc (.cells #[.bool false, .slice none 0 0, .int .i64 0] 24)) (v := (-k)) (by omega) (by omega)
  rw [World.size_alloc] at m1
  have vo := val_one (-k)
  replace DB := Blk.alloc DB (.cells #[.int .u64 (-k)] 35)
  have DB_v0_0 := Blk.cell DB 0 rfl
  have DB_v0_1 := Blk.cell DB 1 rfl
  have DB_v0_2 := Blk.cell DB 2 rfl
  have DB_v0_f0 := Blk.free DB 0
  have DB_v0_f1 := Blk.free DB 1
  have DB_v0_f2 := Blk.free DB 2
  go_enter Tryz.func36, Tryz.ntmps36
  go_wp2_with fail
  with_reducible refine (rNorm_any (b := true) (x := 0) m1 (by omega) (by omega) (by omega)).mono ?_
  rintro e w1 ⟨b2, q2, A2, c2, x2, rfl, hd2, m2, hb⟩
  clear DB_0 DB_1 DB_2 DB_f0 DB_f1 DB_f2 DB_v0_0 DB_v0_1 DB_v0_2 DB_v0_f0 DB_v0_f1 DB_v0_f2
  have hs1 := hb.size
  try simp only [World.size_alloc, World.size_setCell] at hs1
  replace bw : Below w.heap.size w w1 := dy_end (by go_grown) hb
  replace DB := Blk.on DB hb
  clear hb
  have DB_0 := Blk.cell DB 0 rfl
  have DB_1 := Blk.cell DB 1 rfl
  have DB_2 := Blk.cell DB 2 rfl
  have DB_f0 := Blk.free DB 0
  have DB_f1 := Blk.free DB 1
  have DB_f2 := Blk.free DB 2
  rw [vo] at hd2
  go_wp2_with fail
  refine bodyPost_ret (v := dyV b2 A2 q2.length c2 x2) (by simp [results, Tryz.results36, go_sem, DB_0, DB_1, DB_2, DB_f0, DB_f1, DB_f2]) rfl ?_
  exact ⟨b2, q2, A2, c2, x2, rfl, hd2, m2.put DB _ _ _ _ _, by go_grown⟩

set_option maxRecDepth 100000 in
set_option maxHeartbeats 4000000 in
theorem rWhole_pos (k : Int) (w : World) (k0 : 0 ≤ k) (k1 : k ≤ 9223372036854775807) :
    Calls Tryz.prog 36 #[.int .i64 k] w (DyP (nfl false k 0) w) := by
  have DB := Blk.new w [.bool false, .slice none 0 0, .int .i64 0] 24
  have bw : Below w.heap.size w (w.alloc (.cells #[.bool false, .slice none 0 0, .int .i64 0] 24)) := by go_grown
  have DB_0 := Blk.cell DB 0 rfl
  have DB_1 := Blk.cell DB 1 rfl
  have DB_2 := Blk.cell DB 2 rfl
  have DB_f0 := Blk.free DB 0
  have DB_f1 := Blk.free DB 1
  have DB_f2 := Blk.free DB 2
  have k9 : decide (k < 0) = false := by simp; omega
  have m1 := row_one (w.alloc (.cells #[.bool false, .slice none 0 0, .int .i64 0] 24)) (v := k) (by omega) (by omega)
  rw [World.size_alloc] at m1
  have vo := val_one k
  replace DB := Blk.alloc DB (.cells #[.int .u64 k] 35)
  have DB_v0_0 := Blk.cell DB 0 rfl
  have DB_v0_1 := Blk.cell DB 1 rfl
  have DB_v0_2 := Blk.cell DB 2 rfl
  have DB_v0_f0 := Blk.free DB 0
  have DB_v0_f1 := Blk.free DB 1
  have DB_v0_f2 := Blk.free DB 2
  go_enter Tryz.func36, Tryz.ntmps36
  go_wp2_with fail
  with_reducible refine (rNorm_any (b := false) (x := 0) m1 (by omega) (by omega) (by omega)).mono ?_
  rintro e w1 ⟨b2, q2, A2, c2, x2, rfl, hd2, m2, hb⟩
  clear DB_0 DB_1 DB_2 DB_f0 DB_f1 DB_f2 DB_v0_0 DB_v0_1 DB_v0_2 DB_v0_f0 DB_v0_f1 DB_v0_f2
  have hs1 := hb.size
  try simp only [World.size_alloc, World.size_setCell] at hs1
  replace bw : Below w.heap.size w w1 := dy_end (by go_grown) hb
  replace DB := Blk.on DB hb
  clear hb
  have DB_0 := Blk.cell DB 0 rfl
  have DB_1 := Blk.cell DB 1 rfl
  have DB_2 := Blk.cell DB 2 rfl
  have DB_f0 := Blk.free DB 0
  have DB_f1 := Blk.free DB 1
  have DB_f2 := Blk.free DB 2
  rw [vo] at hd2
  go_wp2_with fail
  refine bodyPost_ret (v := dyV b2 A2 q2.length c2 x2) (by simp [results, Tryz.results36, go_sem, DB_0, DB_1, DB_2, DB_f0, DB_f1, DB_f2]) rfl ?_
  exact ⟨b2, q2, A2, c2, x2, rfl, hd2, m2.put DB _ _ _ _ _, by go_grown⟩


theorem rWhole_any (k : Int) (w : World) (k0 : -9223372036854775808 ≤ k) (k1 : k ≤ 9223372036854775807) :
    Calls Tryz.prog 36 #[.int .i64 k] w (DyP (nf k 0) w) := by
  by_cases h : k < 0
  · have := rWhole_neg k w k0 h
    unfold nfl at this
    simpa using this
  · have := rWhole_pos k w (by omega) k1
    unfold nfl at this
    simpa using this
theorem pexp_small (y : Int) : -1100 ≤ pexp y ∧ pexp y ≤ 1100 := by
  have := fld_bd y
  unfold pexp
  repeat' split
  all_goals omega
set_option maxRecDepth 100000 in
set_option maxHeartbeats 4000000 in
theorem rWord_any (y : Int) (h0 : 0 ≤ y) (h1 : y ≤ 18446744073709551615) (hc : cls y ≤ 3) (w : World) :
    Calls Tryz.prog 32 #[.int .u64 y] w (DyP (nfl (pneg y) (pman y) (pexp y)) w) := by
  have DB := Blk.new w [.bool false, .slice none 0 0, .int .i64 0] 24
  have bw : Below w.heap.size w (w.alloc (.cells #[.bool false, .slice none 0 0, .int .i64 0] 24)) := by go_grown
  have DB_0 := Blk.cell DB 0 rfl
  have DB_1 := Blk.cell DB 1 rfl
  have DB_2 := Blk.cell DB 2 rfl
  have DB_f0 := Blk.free DB 0
  have DB_f1 := Blk.free DB 1
  have DB_f2 := Blk.free DB 2
  have B9 : 0 ≤ pman y ∧ pman y < 18446744073709551616 := by have := frc_bd y; unfold pman; split <;> omega
  have C9 := pexp_small y
  have PY := fun W => rparts_any y h0 h1 hc W
  generalize pneg y = pn, pman y = pm, pexp y = pe at B9 C9 PY ⊢
  obtain ⟨B0, B1⟩ := B9
  obtain ⟨C0, C1⟩ := C9
  go_enter Tryz.func32, Tryz.ntmps32
  go_wp2_with fail
  with_reducible refine (PY _).mono ?_
  rintro e w1 ⟨rfl, hb⟩
  clear DB_0 DB_1 DB_2 DB_f0 DB_f1 DB_f2
  have hs1 := hb.size
  try simp only [World.size_alloc, World.size_setCell] at hs1
  replace bw : Below w.heap.size w w1 := dy_end (by go_grown) hb
  replace DB := Blk.on DB hb
  clear hb
  have DB_0 := Blk.cell DB 0 rfl
  have DB_1 := Blk.cell DB 1 rfl
  have DB_2 := Blk.cell DB 2 rfl
  have DB_f0 := Blk.free DB 0
  have DB_f1 := Blk.free DB 1
  have DB_f2 := Blk.free DB 2
  replace DB := Blk.alloc DB (.cells #[.bool pn, .int .u64 pm, .int .i64 pe] 81)
  have RB := Blk.new w1 [.bool pn, .int .u64 pm, .int .i64 pe] 81
  have DB_v0_0 := Blk.cell DB 0 rfl
  have DB_v0_1 := Blk.cell DB 1 rfl
  have DB_v0_2 := Blk.cell DB 2 rfl
  have DB_v0_f0 := Blk.free DB 0
  have DB_v0_f1 := Blk.free DB 1
  have DB_v0_f2 := Blk.free DB 2
  have RB_0 := Blk.cell RB 0 rfl
  have RB_1 := Blk.cell RB 1 rfl
  have RB_2 := Blk.cell RB 2 rfl
  have RB_f0 := Blk.free RB 0
  have RB_f1 := Blk.free RB 1
  have RB_f2 := Blk.free RB 2
  have m1 := row_one (w1.alloc (.cells #[.bool pn, .int .u64 pm, .int .i64 pe] 81)) (v := pm) B0 B1
  rw [World.size_alloc] at m1
  replace DB := Blk.alloc DB (.cells #[.int .u64 pm] 35)
  have DB_v1_0 := Blk.cell DB 0 rfl
  have DB_v1_1 := Blk.cell DB 1 rfl
  have DB_v1_2 := Blk.cell DB 2 rfl
  have DB_v1_f0 := Blk.free DB 0
  have DB_v1_f1 := Blk.free DB 1
  have DB_v1_f2 := Blk.free DB 2
  replace RB := Blk.alloc RB (.cells #[.int .u64 pm] 35)
  have RB_v2_0 := Blk.cell RB 0 rfl
  have RB_v2_1 := Blk.cell RB 1 rfl
  have RB_v2_2 := Blk.cell RB 2 rfl
  have RB_v2_f0 := Blk.free RB 0
  have RB_v2_f1 := Blk.free RB 1
  have RB_v2_f2 := Blk.free RB 2
  go_wp2_with fail
  with_reducible refine (rNorm_any (b := pn) (x := pe) m1 (by omega) (by omega) (by omega)).mono ?_
  rintro e w2 ⟨b2, q2, A2, c2, x2, rfl, hd2, m2, hb⟩
  clear DB_0 DB_1 DB_2 DB_f0 DB_f1 DB_f2 DB_v0_0 DB_v0_1 DB_v0_2 DB_v0_f0 DB_v0_f1 DB_v0_f2 DB_v1_0 DB_v1_1 DB_v1_2 DB_v1_f0 DB_v1_f1 DB_v1_f2
  clear RB_0 RB_1 RB_2 RB_f0 RB_f1 RB_f2 RB_v2_0 RB_v2_1 RB_v2_2 RB_v2_f0 RB_v2_f1 RB_v2_f2
  have hs2 := hb.size
  try simp only [World.size_alloc, World.size_setCell] at hs2
  replace bw : Below w.heap.size w w2 := dy_end (by go_grown) hb
  replace DB := Blk.on DB hb
  replace RB := Blk.on RB hb
  clear hb
  have DB_0 := Blk.cell DB 0 rfl
  have DB_1 := Blk.cell DB 1 rfl
  have DB_2 := Blk.cell DB 2 rfl
  have DB_f0 := Blk.free DB 0
  have DB_f1 := Blk.free DB 1
  have DB_f2 := Blk.free DB 2
  have RB_0 := Blk.cell RB 0 rfl
  have RB_1 := Blk.cell RB 1 rfl
  have RB_2 := Blk.cell RB 2 rfl
  have RB_f0 := Blk.free RB 0
  have RB_f1 := Blk.free RB 1
  have RB_f2 := Blk.free RB 2
  rw [val_one] at hd2
  go_wp2_with fail
  refine bodyPost_ret (v := dyV b2 A2 q2.length c2 x2) (by simp [results, Tryz.results32, go_sem, DB_0, DB_1, DB_2, DB_f0, DB_f1, DB_f2]) rfl ?_
  exact ⟨b2, q2, A2, c2, x2, rfl, hd2, m2.put DB _ _ _ _ _, by go_grown⟩

set_option maxRecDepth 100000 in
set_option maxHeartbeats 4000000 in
theorem rSign_no (h : Lv w A n c l) (hn : n ≤ 4096) (ho : okE x = false) :
    Calls Tryz.prog 27 #[dyV b A n c x] w fun e w' => e = .returned (.int .i64 (0)) ∧ Below w.heap.size w w' := by
  have PB := Blk.new w [.bool b, .slice A n c, .int .i64 x] 24
  have bw : Below w.heap.size w (w.alloc (.cells #[.bool b, .slice A n c, .int .i64 x] 24)) := by go_grown
  have PB_0 := Blk.cell PB 0 rfl
  have PB_1 := Blk.cell PB 1 rfl
  have PB_2 := Blk.cell PB 2 rfl
  have PB_f0 := Blk.free PB 0
  have PB_f1 := Blk.free PB 1
  have PB_f2 := Blk.free PB 2
  go_enter Tryz.func27, Tryz.ntmps27
  go_wp2_with fail
  with_reducible refine (rMay_no (b := b) (x := x) (h.on (by go_grown)) hn ho).mono ?_
  rintro e w1 ⟨rfl, hb⟩
  clear PB_0 PB_1 PB_2 PB_f0 PB_f1 PB_f2
  have hs1 := hb.size
  try simp only [World.size_alloc, World.size_setCell] at hs1
  replace bw : Below w.heap.size w w1 := dy_end (by go_grown) hb
  replace PB := Blk.on PB hb
  clear hb
  have PB_0 := Blk.cell PB 0 rfl
  have PB_1 := Blk.cell PB 1 rfl
  have PB_2 := Blk.cell PB 2 rfl
  have PB_f0 := Blk.free PB 0
  have PB_f1 := Blk.free PB 1
  have PB_f2 := Blk.free PB 2
  go_wp2_with fail
  go_ret
  exact ⟨rfl, by go_grown⟩

set_option maxRecDepth 100000 in
set_option maxHeartbeats 4000000 in
theorem rSign_zero (h : Lv w A n c l) (hn : n ≤ 4096) (ho : okE x = true) (hv : Hid (val 18446744073709551616 l = 0)) :
    Calls Tryz.prog 27 #[dyV b A n c x] w fun e w' => e = .returned (.int .i64 (0)) ∧ Below w.heap.size w w' := by
  have PB := Blk.new w [.bool b, .slice A n c, .int .i64 x] 24
  have bw : Below w.heap.size w (w.alloc (.cells #[.bool b, .slice A n c, .int .i64 x] 24)) := by go_grown
  have PB_0 := Blk.cell PB 0 rfl
  have PB_1 := Blk.cell PB 1 rfl
  have PB_2 := Blk.cell PB 2 rfl
  have PB_f0 := Blk.free PB 0
  have PB_f1 := Blk.free PB 1
  have PB_f2 := Blk.free PB 2
  have nz := norm_zero h.2.2
  have hz : norm l = [] := nil_of_len (nz.2 hv.out)
  clear nz
  have p0 := fun W (mm : Lv W A n c l) => refNorm_lv mm (by omega)
  rw [hz] at p0
  clear hz
  go_enter Tryz.func27, Tryz.ntmps27
  go_wp2_with fail
  with_reducible refine (rMay_yes (b := b) (x := x) (h.on (by go_grown)) hn ho).mono ?_
  rintro e w1 ⟨rfl, hb⟩
  clear PB_0 PB_1 PB_2 PB_f0 PB_f1 PB_f2
  have hs1 := hb.size
  try simp only [World.size_alloc, World.size_setCell] at hs1
  replace bw : Below w.heap.size w w1 := dy_end (by go_grown) hb
  replace PB := Blk.on PB hb
  clear hb
  have PB_0 := Blk.cell PB 0 rfl
  have PB_1 := Blk.cell PB 1 rfl
  have PB_2 := Blk.cell PB 2 rfl
  have PB_f0 := Blk.free PB 0
  have PB_f1 := Blk.free PB 1
  have PB_f2 := Blk.free PB 2
  go_wp2_with fail
  with_reducible refine (p0 _ (h.on (by go_grown))).mono ?_
  rintro e w2 ⟨A1, c1, rfl, m1, hb⟩
  clear PB_0 PB_1 PB_2 PB_f0 PB_f1 PB_f2
  have hs2 := hb.size
  try simp only [World.size_alloc, World.size_setCell] at hs2
  replace bw : Below w.heap.size w w2 := dy_end (by go_grown) hb
  replace PB := Blk.on PB hb
  clear hb
  have PB_0 := Blk.cell PB 0 rfl
  have PB_1 := Blk.cell PB 1 rfl
  have PB_2 := Blk.cell PB 2 rfl
  have PB_f0 := Blk.free PB 0
  have PB_f1 := Blk.free PB 1
  have PB_f2 := Blk.free PB 2
  go_wp2_with fail
  go_ret
  exact ⟨rfl, by go_grown⟩

set_option maxRecDepth 100000 in
set_option maxHeartbeats 4000000 in
theorem rSign_true (h : Lv w A n c l) (hn : n ≤ 4096) (ho : okE x = true) (hb : b = true) (hv : Hid (val 18446744073709551616 l ≠ 0)) :
    Calls Tryz.prog 27 #[dyV b A n c x] w fun e w' => e = .returned (.int .i64 (-1)) ∧ Below w.heap.size w w' := by
  subst hb
  have PB := Blk.new w [.bool true, .slice A n c, .int .i64 x] 24
  have bw : Below w.heap.size w (w.alloc (.cells #[.bool true, .slice A n c, .int .i64 x] 24)) := by go_grown
  have PB_0 := Blk.cell PB 0 rfl
  have PB_1 := Blk.cell PB 1 rfl
  have PB_2 := Blk.cell PB 2 rfl
  have PB_f0 := Blk.free PB 0
  have PB_f1 := Blk.free PB 1
  have PB_f2 := Blk.free PB 2
  have nz := norm_zero h.2.2
  have hz : (((norm l).length : Int) == 0) = false := beq_eq_false_iff_ne.2 (fun e => hv.out (nz.1 (by omega)))
  clear nz
  have p0 := fun W (mm : Lv W A n c l) => refNorm_lv mm (by omega)
  generalize norm l = r at p0 hz
  go_enter Tryz.func27, Tryz.ntmps27
  go_wp2_with fail
  with_reducible refine (rMay_yes (b := true) (x := x) (h.on (by go_grown)) hn ho).mono ?_
  rintro e w1 ⟨rfl, hb⟩
  clear PB_0 PB_1 PB_2 PB_f0 PB_f1 PB_f2
  have hs1 := hb.size
  try simp only [World.size_alloc, World.size_setCell] at hs1
  replace bw : Below w.heap.size w w1 := dy_end (by go_grown) hb
  replace PB := Blk.on PB hb
  clear hb
  have PB_0 := Blk.cell PB 0 rfl
  have PB_1 := Blk.cell PB 1 rfl
  have PB_2 := Blk.cell PB 2 rfl
  have PB_f0 := Blk.free PB 0
  have PB_f1 := Blk.free PB 1
  have PB_f2 := Blk.free PB 2
  go_wp2_with fail
  with_reducible refine (p0 _ (h.on (by go_grown))).mono ?_
  rintro e w2 ⟨A1, c1, rfl, m1, hb⟩
  clear PB_0 PB_1 PB_2 PB_f0 PB_f1 PB_f2
  have hs2 := hb.size
  try simp only [World.size_alloc, World.size_setCell] at hs2
  replace bw : Below w.heap.size w w2 := dy_end (by go_grown) hb
  replace PB := Blk.on PB hb
  clear hb
  have PB_0 := Blk.cell PB 0 rfl
  have PB_1 := Blk.cell PB 1 rfl
  have PB_2 := Blk.cell PB 2 rfl
  have PB_f0 := Blk.free PB 0
  have PB_f1 := Blk.free PB 1
  have PB_f2 := Blk.free PB 2
  go_wp2_with fail
  go_ret
  exact ⟨rfl, by go_grown⟩

set_option maxRecDepth 100000 in
set_option maxHeartbeats 4000000 in
theorem rSign_false (h : Lv w A n c l) (hn : n ≤ 4096) (ho : okE x = true) (hb : b = false) (hv : Hid (val 18446744073709551616 l ≠ 0)) :
    Calls Tryz.prog 27 #[dyV b A n c x] w fun e w' => e = .returned (.int .i64 (1)) ∧ Below w.heap.size w w' := by
  subst hb
  have PB := Blk.new w [.bool false, .slice A n c, .int .i64 x] 24
  have bw : Below w.heap.size w (w.alloc (.cells #[.bool false, .slice A n c, .int .i64 x] 24)) := by go_grown
  have PB_0 := Blk.cell PB 0 rfl
  have PB_1 := Blk.cell PB 1 rfl
  have PB_2 := Blk.cell PB 2 rfl
  have PB_f0 := Blk.free PB 0
  have PB_f1 := Blk.free PB 1
  have PB_f2 := Blk.free PB 2
  have nz := norm_zero h.2.2
  have hz : (((norm l).length : Int) == 0) = false := beq_eq_false_iff_ne.2 (fun e => hv.out (nz.1 (by omega)))
  clear nz
  have p0 := fun W (mm : Lv W A n c l) => refNorm_lv mm (by omega)
  generalize norm l = r at p0 hz
  go_enter Tryz.func27, Tryz.ntmps27
  go_wp2_with fail
  with_reducible refine (rMay_yes (b := false) (x := x) (h.on (by go_grown)) hn ho).mono ?_
  rintro e w1 ⟨rfl, hb⟩
  clear PB_0 PB_1 PB_2 PB_f0 PB_f1 PB_f2
  have hs1 := hb.size
  try simp only [World.size_alloc, World.size_setCell] at hs1
  replace bw : Below w.heap.size w w1 := dy_end (by go_grown) hb
  replace PB := Blk.on PB hb
  clear hb
  have PB_0 := Blk.cell PB 0 rfl
  have PB_1 := Blk.cell PB 1 rfl
  have PB_2 := Blk.cell PB 2 rfl
  have PB_f0 := Blk.free PB 0
  have PB_f1 := Blk.free PB 1
  have PB_f2 := Blk.free PB 2
  go_wp2_with fail
  with_reducible refine (p0 _ (h.on (by go_grown))).mono ?_
  rintro e w2 ⟨A1, c1, rfl, m1, hb⟩
  clear PB_0 PB_1 PB_2 PB_f0 PB_f1 PB_f2
  have hs2 := hb.size
  try simp only [World.size_alloc, World.size_setCell] at hs2
  replace bw : Below w.heap.size w w2 := dy_end (by go_grown) hb
  replace PB := Blk.on PB hb
  clear hb
  have PB_0 := Blk.cell PB 0 rfl
  have PB_1 := Blk.cell PB 1 rfl
  have PB_2 := Blk.cell PB 2 rfl
  have PB_f0 := Blk.free PB 0
  have PB_f1 := Blk.free PB 1
  have PB_f2 := Blk.free PB 2
  go_wp2_with fail
  go_ret
  exact ⟨rfl, by go_grown⟩


theorem rSign_any (h : Lv w A n c l) (hn : n ≤ 4096) (ho : okE x = true) : Calls Tryz.prog 27 #[dyV b A n c x] w fun e w' => e = .returned (.int .i64 (sgn (nfl b (val 18446744073709551616 l) x))) ∧ Below w.heap.size w w' := by
  have hl := lim_val h.2.2
  by_cases hv : val 18446744073709551616 l = 0
  · have e : sgn (nfl b (val 18446744073709551616 l) x) = 0 := by rw [hv, nfl_zero]; rfl
    rw [e]; exact rSign_zero h hn ho hv
  · have e : sgn (nfl b (val 18446744073709551616 l) x) = if b then -1 else 1 := by
      unfold sgn
      rw [if_neg (fun e => hv ((nfl_man0 hl).1 e)), nfl_pos (by omega)]
    rw [e]
    cases b
    · exact rSign_false h hn ho rfl hv
    · exact rSign_true h hn ho rfl hv
end
end Go.Proofs.YtknomchkfamajaaGreatDoor
