/-
  Layer 3, walks of the reference, part two. (Written by wip/tools/gen_dyx.py.)
-/
import Derived.Test.YtfjellhbcjnjkaaGreatDoorSDyS
import Derived.Test.YtfjellhbcjnjkaaGreatDoorSNB1
namespace Go.Proofs.YtfjellhbcjnjkaaGreatDoor
open Go.RowKit Go.Bw
set_option linter.unusedVariables false
set_option linter.unusedSimpArgs false

section
variable {b : Bool} {A : Option Addr} {n c : Nat} {x : Int} {l : List Int} {w : World}
theorem lim_one_x {v : Int} (h0 : 0 ≤ v) (h1 : v < 18446744073709551616) : Lim 18446744073709551616 [v] := fun y hy => by simp at hy; omega
/-- one limb that the code writes out, in a new block -/
theorem row_one (w : World) {v : Int} (h0 : 0 ≤ v) (h1 : v < 18446744073709551616) : Lv (w.alloc (.cells #[.int .u64 v] 22)) (some ⟨w.heap.size, 0, none⟩) 1 1 [v] := Lv.row w [v] 1 w.heap.size rfl rfl (by omega) (lim_one_x h0 h1) _ rfl
theorem val_one (v : Int) : val 18446744073709551616 [v] = v := by rw [val_cons, val_nil]; omega
theorem pexp_small (y : Int) : -1100 ≤ pexp y ∧ pexp y ≤ 1100 := by
  have := fld_bd y
  unfold pexp
  repeat' split
  all_goals omega
set_option maxRecDepth 100000 in
set_option maxHeartbeats 4000000 in
theorem rSign_no (h : Lv w A n c l) (hn : n ≤ 4096) (ho : okE x = false) :
    Calls Tryz.prog 52 #[dyV b A n c x] w fun e w' => e = .returned (.int .i64 (0)) ∧ Below w.heap.size w w' := by
  have PB := Blk.new w [.bool b, .slice A n c, .int .i64 x] 35
  have bw : Below w.heap.size w (w.alloc (.cells #[.bool b, .slice A n c, .int .i64 x] 35)) := by go_grown
  have PB_0 := Blk.cell PB 0 rfl
  have PB_1 := Blk.cell PB 1 rfl
  have PB_2 := Blk.cell PB 2 rfl
  have PB_f0 := Blk.free PB 0
  have PB_f1 := Blk.free PB 1
  have PB_f2 := Blk.free PB 2
  go_enter Tryz.func52, Tryz.ntmps52
  go_wp2_with fail
  with_reducible refine (rMay_no (b := b) (x := x) (h.on (by go_grown)) hn ho).mono ?_
  rintro e w1 ⟨rfl, hb⟩
  clear PB_0 PB_1 PB_2 PB_f0 PB_f1 PB_f2
  have hs1 := hb.size
  try simp only [World.size_alloc, World.size_setCell] at hs1
  replace bw : Below w.heap.size w w1 := dy_end (by go_grown) hb
  replace PB := Blk.on PB hb
  clear hb
  have PB_0 := Blk.cell PB 0 rfl
  have PB_1 := Blk.cell PB 1 rfl
  have PB_2 := Blk.cell PB 2 rfl
  have PB_f0 := Blk.free PB 0
  have PB_f1 := Blk.free PB 1
  have PB_f2 := Blk.free PB 2
  go_wp2_with fail
  go_ret
  exact ⟨rfl, by go_grown⟩

set_option maxRecDepth 100000 in
set_option maxHeartbeats 4000000 in
theorem rSign_zero (h : Lv w A n c l) (hn : n ≤ 4096) (ho : okE x = true) (hv : Hid (val 18446744073709551616 l = 0)) :
    Calls Tryz.prog 52 #[dyV b A n c x] w fun e w' => e = .returned (.int .i64 (0)) ∧ Below w.heap.size w w' := by
  have PB := Blk.new w [.bool b, .slice A n c, .int .i64 x] 35
  have bw : Below w.heap.size w (w.alloc (.cells #[.bool b, .slice A n c, .int .i64 x] 35)) := by go_grown
  have PB_0 := Blk.cell PB 0 rfl
  have PB_1 := Blk.cell PB 1 rfl
  have PB_2 := Blk.cell PB 2 rfl
  have PB_f0 := Blk.free PB 0
  have PB_f1 := Blk.free PB 1
  have PB_f2 := Blk.free PB 2
  have nz := norm_zero h.2.2
  have hz : norm l = [] := nil_of_len (nz.2 hv.out)
  clear nz
  have p0 := fun W (mm : Lv W A n c l) => refNorm_lv mm (by omega)
  rw [hz] at p0
  clear hz
  go_enter Tryz.func52, Tryz.ntmps52
  go_wp2_with fail
  with_reducible refine (rMay_yes (b := b) (x := x) (h.on (by go_grown)) hn ho).mono ?_
  rintro e w1 ⟨rfl, hb⟩
  clear PB_0 PB_1 PB_2 PB_f0 PB_f1 PB_f2
  have hs1 := hb.size
  try simp only [World.size_alloc, World.size_setCell] at hs1
  replace bw : Below w.heap.size w w1 := dy_end (by go_grown) hb
  replace PB := Blk.on PB hb
  clear hb
  have PB_0 := Blk.cell PB 0 rfl
  have PB_1 := Blk.cell PB 1 rfl
  have PB_2 := Blk.cell PB 2 rfl
  have PB_f0 := Blk.free PB 0
  have PB_f1 := Blk.free PB 1
  have PB_f2 := Blk.free PB 2
  go_wp2_with fail
  with_reducible refine (p0 _ (h.on (by go_grown))).mono ?_
  rintro e w2 ⟨A1, c1, rfl, m1, hb⟩
  clear PB_0 PB_1 PB_2 PB_f0 PB_f1 PB_f2
  have hs2 := hb.size
  try simp only [World.size_alloc, World.size_setCell] at hs2
  replace bw : Below w.heap.size w w2 := dy_end (by go_grown) hb
  replace PB := Blk.on PB hb
  clear hb
  have PB_0 := Blk.cell PB 0 rfl
  have PB_1 := Blk.cell PB 1 rfl
  have PB_2 := Blk.cell PB 2 rfl
  have PB_f0 := Blk.free PB 0
  have PB_f1 := Blk.free PB 1
  have PB_f2 := Blk.free PB 2
  go_wp2_with fail
  go_ret
  exact ⟨rfl, by go_grown⟩

set_option maxRecDepth 100000 in
set_option maxHeartbeats 4000000 in
theorem rSign_true (h : Lv w A n c l) (hn : n ≤ 4096) (ho : okE x = true) (hb : b = true) (hv : Hid (val 18446744073709551616 l ≠ 0)) :
    Calls Tryz.prog 52 #[dyV b A n c x] w fun e w' => e = .returned (.int .i64 (-1)) ∧ Below w.heap.size w w' := by
  subst hb
  have PB := Blk.new w [.bool true, .slice A n c, .int .i64 x] 35
  have bw : Below w.heap.size w (w.alloc (.cells #[.bool true, .slice A n c, .int .i64 x] 35)) := by go_grown
  have PB_0 := Blk.cell PB 0 rfl
  have PB_1 := Blk.cell PB 1 rfl
  have PB_2 := Blk.cell PB 2 rfl
  have PB_f0 := Blk.free PB 0
  have PB_f1 := Blk.free PB 1
  have PB_f2 := Blk.free PB 2
  have nz := norm_zero h.2.2
  have hz : (((norm l).length : Int) == 0) = false := beq_eq_false_iff_ne.2 (fun e => hv.out (nz.1 (by omega)))
  clear nz
  have p0 := fun W (mm : Lv W A n c l) => refNorm_lv mm (by omega)
  generalize norm l = r at p0 hz
  go_enter Tryz.func52, Tryz.ntmps52
  go_wp2_with fail
  with_reducible refine (rMay_yes (b := true) (x := x) (h.on (by go_grown)) hn ho).mono ?_
  rintro e w1 ⟨rfl, hb⟩
  clear PB_0 PB_1 PB_2 PB_f0 PB_f1 PB_f2
  have hs1 := hb.size
  try simp only [World.size_alloc, World.size_setCell] at hs1
  replace bw : Below w.heap.size w w1 := dy_end (by go_grown) hb
  replace PB := Blk.on PB hb
  clear hb
  have PB_0 := Blk.cell PB 0 rfl
  have PB_1 := Blk.cell PB 1 rfl
  have PB_2 := Blk.cell PB 2 rfl
  have PB_f0 := Blk.free PB 0
  have PB_f1 := Blk.free PB 1
  have PB_f2 := Blk.free PB 2
  go_wp2_with fail
  with_reducible refine (p0 _ (h.on (by go_grown))).mono ?_
  rintro e w2 ⟨A1, c1, rfl, m1, hb⟩
  clear PB_0 PB_1 PB_2 PB_f0 PB_f1 PB_f2
  have hs2 := hb.size
  try simp only [World.size_alloc, World.size_setCell] at hs2
  replace bw : Below w.heap.size w w2 := dy_end (by go_grown) hb
  replace PB := Blk.on PB hb
  clear hb
  have PB_0 := Blk.cell PB 0 rfl
  have PB_1 := Blk.cell PB 1 rfl
  have PB_2 := Blk.cell PB 2 rfl
  have PB_f0 := Blk.free PB 0
  have PB_f1 := Blk.free PB 1
  have PB_f2 := Blk.free PB 2
  go_wp2_with fail
  go_ret
  exact ⟨rfl, by go_grown⟩

set_option maxRecDepth 100000 in
set_option maxHeartbeats 4000000 in
theorem rSign_false (h : Lv w A n c l) (hn : n ≤ 4096) (ho : okE x = true) (hb : b = false) (hv : Hid (val 18446744073709551616 l ≠ 0)) :
    Calls Tryz.prog 52 #[dyV b A n c x] w fun e w' => e = .returned (.int .i64 (1)) ∧ Below w.heap.size w w' := by
  subst hb
  have PB := Blk.new w [.bool false, .slice A n c, .int .i64 x] 35
  have bw : Below w.heap.size w (w.alloc (.cells #[.bool false, .slice A n c, .int .i64 x] 35)) := by go_grown
  have PB_0 := Blk.cell PB 0 rfl
  have PB_1 := Blk.cell PB 1 rfl
  have PB_2 := Blk.cell PB 2 rfl
  have PB_f0 := Blk.free PB 0
  have PB_f1 := Blk.free PB 1
  have PB_f2 := Blk.free PB 2
  have nz := norm_zero h.2.2
  have hz : (((norm l).length : Int) == 0) = false := beq_eq_false_iff_ne.2 (fun e => hv.out (nz.1 (by omega)))
  clear nz
  have p0 := fun W (mm : Lv W A n c l) => refNorm_lv mm (by omega)
  generalize norm l = r at p0 hz
  go_enter Tryz.func52, Tryz.ntmps52
  go_wp2_with fail
  with_reducible refine (rMay_yes (b := false) (x := x) (h.on (by go_grown)) hn ho).mono ?_
  rintro e w1 ⟨rfl, hb⟩
  clear PB_0 PB_1 PB_2 PB_f0 PB_f1 PB_f2
  have hs1 := hb.size
  try simp only [World.size_alloc, World.size_setCell] at hs1
  replace bw : Below w.heap.size w w1 := dy_end (by go_grown) hb
  replace PB := Blk.on PB hb
  clear hb
  have PB_0 := Blk.cell PB 0 rfl
  have PB_1 := Blk.cell PB 1 rfl
  have PB_2 := Blk.cell PB 2 rfl
  have PB_f0 := Blk.free PB 0
  have PB_f1 := Blk.free PB 1
  have PB_f2 := Blk.free PB 2
  go_wp2_with fail
  with_reducible refine (p0 _ (h.on (by go_grown))).mono ?_
  rintro e w2 ⟨A1, c1, rfl, m1, hb⟩
  clear PB_0 PB_1 PB_2 PB_f0 PB_f1 PB_f2
  have hs2 := hb.size
  try simp only [World.size_alloc, World.size_setCell] at hs2
  replace bw : Below w.heap.size w w2 := dy_end (by go_grown) hb
  replace PB := Blk.on PB hb
  clear hb
  have PB_0 := Blk.cell PB 0 rfl
  have PB_1 := Blk.cell PB 1 rfl
  have PB_2 := Blk.cell PB 2 rfl
  have PB_f0 := Blk.free PB 0
  have PB_f1 := Blk.free PB 1
  have PB_f2 := Blk.free PB 2
  go_wp2_with fail
  go_ret
  exact ⟨rfl, by go_grown⟩


theorem rSign_any (h : Lv w A n c l) (hn : n ≤ 4096) (ho : okE x = true) : Calls Tryz.prog 52 #[dyV b A n c x] w fun e w' => e = .returned (.int .i64 (sgn (nfl b (val 18446744073709551616 l) x))) ∧ Below w.heap.size w w' := by
  have hl := lim_val h.2.2
  by_cases hv : val 18446744073709551616 l = 0
  · have e : sgn (nfl b (val 18446744073709551616 l) x) = 0 := by rw [hv, nfl_zero]; rfl
    rw [e]; exact rSign_zero h hn ho hv
  · have e : sgn (nfl b (val 18446744073709551616 l) x) = if b then -1 else 1 := by
      unfold sgn
      rw [if_neg (fun e => hv ((nfl_man0 hl).1 e)), nfl_pos (by omega)]
    rw [e]
    cases b
    · exact rSign_false h hn ho rfl hv
    · exact rSign_true h hn ho rfl hv
end
end Go.Proofs.YtfjellhbcjnjkaaGreatDoor
