/-
  Layer 3, walks, part sixteen: comparisons by signs and places. (Written by wip/tools/gen_dyw.py.)
-/
import Derived.Test.YtcdbjlmegkcaiaaGreatDoorYDyU
namespace Go.Proofs.YtcdbjlmegkcaiaaGreatDoor
open Go.RowKit Go.Sort
set_option linter.unusedVariables false
set_option linter.unusedSimpArgs false

/-- how two stand to each other -/
def cmpS (u v : Int) : Int := if u < v then -1 else if v < u then 1 else 0
section
variable {b : Bool} {A : Option Addr} {n c : Nat} {x : Int} {l : List Int} {w : World}
variable {b2 : Bool} {A2 : Option Addr} {n2 c2 : Nat} {x2 : Int} {l2 : List Int}
theorem signOf_bel (b : Bool) (A : Option Addr) (n c : Nat) (w : World) {s : Int} (hs : sgnV b n = s) : Calls Tryz.prog 62 #[.bool b, .slice A n c] w fun e w' => e = .returned (.int .i64 s) ∧ Below w.heap.size w w' := by
  subst hs
  refine (signOf_any b A n c w).mono ?_
  rintro e w' ⟨rfl, rfl⟩
  exact ⟨rfl, Below.refl _ _⟩
theorem cmp_bel (u v : Int) (w : World) : Calls Tryz.prog 63 #[.int .i64 u, .int .i64 v] w fun e w' => e = .returned (.int .i64 (Lib.compareInt u v)) ∧ Below w.heap.size w w' := by
  refine (Tryz.cmp_Compare_int u v w).mono ?_
  rintro e w' ⟨rfl, rfl⟩
  exact ⟨rfl, Below.refl _ _⟩
set_option maxRecDepth 100000 in
set_option maxHeartbeats 4000000 in
theorem order_nz (hs1 : sgnV b n = -1) (hs2 : sgnV b2 n2 = 0) :
    Calls Tryz.prog 38 #[dyV b A n c x, dyV b2 A2 n2 c2 x2] w fun e w' => e = .returned (.tuple #[.int .i64 (-1), .int .i64 0]) ∧ Below w.heap.size w w' := by
  have PB := Blk.new w [.bool b, .slice A n c, .int .i64 x] 40
  have QB := Blk.new (w.alloc (.cells #[.bool b, .slice A n c, .int .i64 x] 40)) [.bool b2, .slice A2 n2 c2, .int .i64 x2] 40
  simp only [World.size_alloc] at QB
  replace PB := Blk.alloc PB (.cells #[.bool b2, .slice A2 n2 c2, .int .i64 x2] 40)
  have bw : Below w.heap.size w ((w.alloc (.cells #[.bool b, .slice A n c, .int .i64 x] 40)).alloc (.cells #[.bool b2, .slice A2 n2 c2, .int .i64 x2] 40)) := by go_grown
  have PB_0 := Blk.cell PB 0 rfl
  have PB_1 := Blk.cell PB 1 rfl
  have PB_2 := Blk.cell PB 2 rfl
  have PB_f0 := Blk.free PB 0
  have PB_f1 := Blk.free PB 1
  have PB_f2 := Blk.free PB 2
  have QB_0 := Blk.cell QB 0 rfl
  have QB_1 := Blk.cell QB 1 rfl
  have QB_2 := Blk.cell QB 2 rfl
  have QB_f0 := Blk.free QB 0
  have QB_f1 := Blk.free QB 1
  have QB_f2 := Blk.free QB 2
  go_enter Tryz.func38, Tryz.ntmps38
  go_wp2_with fail
  have cA := fun d os => Calls.regrown_of (w := ((w.alloc (.cells #[.bool b, .slice A n c, .int .i64 x] 40)).alloc (.cells #[.bool b2, .slice A2 n2 c2, .int .i64 x2] 40))) (d := d) (os := os) (signOf_bel b A n c _ hs1)
  have cB := fun d os => Calls.regrown_of (w := ((w.alloc (.cells #[.bool b, .slice A n c, .int .i64 x] 40)).alloc (.cells #[.bool b2, .slice A2 n2 c2, .int .i64 x2] 40))) (d := d) (os := os) (signOf_bel b2 A2 n2 c2 _ hs2)
  have PB_r0 := cell_regrown PB_0
  have PB_r1 := cell_regrown PB_1
  have PB_r2 := cell_regrown PB_2
  have QB_r0 := cell_regrown QB_0
  have QB_r1 := cell_regrown QB_1
  have QB_r2 := cell_regrown QB_2
  refine wp_region_quiet_below mixed (by kernel_rfl) ?_
  repeat (quiet_step (first | (with_reducible exact cA _ _) | (with_reducible exact cB _ _)))
  refine wpQuiet_nil ?_
  intro _ hw'
  obtain ⟨⟨dq, osq⟩, hw''⟩ := hw'
  subst hw''
  have hb := below_regrown ((w.alloc (.cells #[.bool b, .slice A n c, .int .i64 x] 40)).alloc (.cells #[.bool b2, .slice A2 n2 c2, .int .i64 x2] 40)) dq osq
  clear PB_r0 PB_r1 PB_r2 QB_r0 QB_r1 QB_r2 cA cB
  generalize grow (redrawn ((w.alloc (.cells #[.bool b, .slice A n c, .int .i64 x] 40)).alloc (.cells #[.bool b2, .slice A2 n2 c2, .int .i64 x2] 40)) dq) osq = w1 at hb ⊢
  clear PB_0 PB_1 PB_2 PB_f0 PB_f1 PB_f2
  clear QB_0 QB_1 QB_2 QB_f0 QB_f1 QB_f2
  replace bw : Below w.heap.size w w1 := dy_end (by go_grown) hb
  replace PB := Blk.on PB hb
  replace QB := Blk.on QB hb
  have hs1 := hb.size
  try simp only [World.size_alloc] at hs1
  clear hb
  have PB_0 := Blk.cell PB 0 rfl
  have PB_1 := Blk.cell PB 1 rfl
  have PB_2 := Blk.cell PB 2 rfl
  have PB_f0 := Blk.free PB 0
  have PB_f1 := Blk.free PB 1
  have PB_f2 := Blk.free PB 2
  have QB_0 := Blk.cell QB 0 rfl
  have QB_1 := Blk.cell QB 1 rfl
  have QB_2 := Blk.cell QB 2 rfl
  have QB_f0 := Blk.free QB 0
  have QB_f1 := Blk.free QB 1
  have QB_f2 := Blk.free QB 2
  go_wp2_with fail
  with_reducible refine (cmp_bel (-1) 0 _).mono ?_
  rintro e w2 ⟨rfl, hb⟩
  clear PB_0 PB_1 PB_2 PB_f0 PB_f1 PB_f2
  clear QB_0 QB_1 QB_2 QB_f0 QB_f1 QB_f2
  have hs2 := hb.size
  try simp only [World.size_alloc, World.size_setCell] at hs2
  replace bw : Below w.heap.size w w2 := dy_end (by go_grown) hb
  replace PB := Blk.on PB hb
  replace QB := Blk.on QB hb
  clear hb
  have PB_0 := Blk.cell PB 0 rfl
  have PB_1 := Blk.cell PB 1 rfl
  have PB_2 := Blk.cell PB 2 rfl
  have PB_f0 := Blk.free PB 0
  have PB_f1 := Blk.free PB 1
  have PB_f2 := Blk.free PB 2
  have QB_0 := Blk.cell QB 0 rfl
  have QB_1 := Blk.cell QB 1 rfl
  have QB_2 := Blk.cell QB 2 rfl
  have QB_f0 := Blk.free QB 0
  have QB_f1 := Blk.free QB 1
  have QB_f2 := Blk.free QB 2
  go_wp2_with fail
  go_ret2
  exact ⟨rfl, by go_grown⟩

set_option maxRecDepth 100000 in
set_option maxHeartbeats 4000000 in
theorem order_np (hs1 : sgnV b n = -1) (hs2 : sgnV b2 n2 = 1) (x0 : -1048576 ≤ x) (x1 : x ≤ 1048576) (y0 : -1048576 ≤ x2) (y1 : x2 ≤ 1048576) (hf : x - x2 ≤ 262144 ∧ x2 - x ≤ 262144) :
    Calls Tryz.prog 38 #[dyV b A n c x, dyV b2 A2 n2 c2 x2] w fun e w' => e = .returned (.tuple #[.int .i64 (-1), .int .i64 0]) ∧ Below w.heap.size w w' := by
  have PB := Blk.new w [.bool b, .slice A n c, .int .i64 x] 40
  have QB := Blk.new (w.alloc (.cells #[.bool b, .slice A n c, .int .i64 x] 40)) [.bool b2, .slice A2 n2 c2, .int .i64 x2] 40
  simp only [World.size_alloc] at QB
  replace PB := Blk.alloc PB (.cells #[.bool b2, .slice A2 n2 c2, .int .i64 x2] 40)
  have bw : Below w.heap.size w ((w.alloc (.cells #[.bool b, .slice A n c, .int .i64 x] 40)).alloc (.cells #[.bool b2, .slice A2 n2 c2, .int .i64 x2] 40)) := by go_grown
  have PB_0 := Blk.cell PB 0 rfl
  have PB_1 := Blk.cell PB 1 rfl
  have PB_2 := Blk.cell PB 2 rfl
  have PB_f0 := Blk.free PB 0
  have PB_f1 := Blk.free PB 1
  have PB_f2 := Blk.free PB 2
  have QB_0 := Blk.cell QB 0 rfl
  have QB_1 := Blk.cell QB 1 rfl
  have QB_2 := Blk.cell QB 2 rfl
  have QB_f0 := Blk.free QB 0
  have QB_f1 := Blk.free QB 1
  have QB_f2 := Blk.free QB 2
  go_enter Tryz.func38, Tryz.ntmps38
  go_wp2_with fail
  have cA := fun d os => Calls.regrown_of (w := ((w.alloc (.cells #[.bool b, .slice A n c, .int .i64 x] 40)).alloc (.cells #[.bool b2, .slice A2 n2 c2, .int .i64 x2] 40))) (d := d) (os := os) (signOf_bel b A n c _ hs1)
  have cB := fun d os => Calls.regrown_of (w := ((w.alloc (.cells #[.bool b, .slice A n c, .int .i64 x] 40)).alloc (.cells #[.bool b2, .slice A2 n2 c2, .int .i64 x2] 40))) (d := d) (os := os) (signOf_bel b2 A2 n2 c2 _ hs2)
  have PB_r0 := cell_regrown PB_0
  have PB_r1 := cell_regrown PB_1
  have PB_r2 := cell_regrown PB_2
  have QB_r0 := cell_regrown QB_0
  have QB_r1 := cell_regrown QB_1
  have QB_r2 := cell_regrown QB_2
  refine wp_region_quiet_below mixed (by kernel_rfl) ?_
  repeat (quiet_step (first | (with_reducible exact cA _ _) | (with_reducible exact cB _ _)))
  refine wpQuiet_nil ?_
  intro _ hw'
  obtain ⟨⟨dq, osq⟩, hw''⟩ := hw'
  subst hw''
  have hb := below_regrown ((w.alloc (.cells #[.bool b, .slice A n c, .int .i64 x] 40)).alloc (.cells #[.bool b2, .slice A2 n2 c2, .int .i64 x2] 40)) dq osq
  clear PB_r0 PB_r1 PB_r2 QB_r0 QB_r1 QB_r2 cA cB
  generalize grow (redrawn ((w.alloc (.cells #[.bool b, .slice A n c, .int .i64 x] 40)).alloc (.cells #[.bool b2, .slice A2 n2 c2, .int .i64 x2] 40)) dq) osq = w1 at hb ⊢
  clear PB_0 PB_1 PB_2 PB_f0 PB_f1 PB_f2
  clear QB_0 QB_1 QB_2 QB_f0 QB_f1 QB_f2
  replace bw : Below w.heap.size w w1 := dy_end (by go_grown) hb
  replace PB := Blk.on PB hb
  replace QB := Blk.on QB hb
  have hs1 := hb.size
  try simp only [World.size_alloc] at hs1
  clear hb
  have PB_0 := Blk.cell PB 0 rfl
  have PB_1 := Blk.cell PB 1 rfl
  have PB_2 := Blk.cell PB 2 rfl
  have PB_f0 := Blk.free PB 0
  have PB_f1 := Blk.free PB 1
  have PB_f2 := Blk.free PB 2
  have QB_0 := Blk.cell QB 0 rfl
  have QB_1 := Blk.cell QB 1 rfl
  have QB_2 := Blk.cell QB 2 rfl
  have QB_f0 := Blk.free QB 0
  have QB_f1 := Blk.free QB 1
  have QB_f2 := Blk.free QB 2
  go_wp2_with fail
  with_reducible refine (tooFar_false b b2 A A2 n n2 c c2 _ x0 x1 y0 y1 hf).mono ?_
  rintro e w2 ⟨rfl, hb⟩
  clear PB_0 PB_1 PB_2 PB_f0 PB_f1 PB_f2
  clear QB_0 QB_1 QB_2 QB_f0 QB_f1 QB_f2
  have hs2 := hb.size
  try simp only [World.size_alloc, World.size_setCell] at hs2
  replace bw : Below w.heap.size w w2 := dy_end (by go_grown) hb
  replace PB := Blk.on PB hb
  replace QB := Blk.on QB hb
  clear hb
  have PB_0 := Blk.cell PB 0 rfl
  have PB_1 := Blk.cell PB 1 rfl
  have PB_2 := Blk.cell PB 2 rfl
  have PB_f0 := Blk.free PB 0
  have PB_f1 := Blk.free PB 1
  have PB_f2 := Blk.free PB 2
  have QB_0 := Blk.cell QB 0 rfl
  have QB_1 := Blk.cell QB 1 rfl
  have QB_2 := Blk.cell QB 2 rfl
  have QB_f0 := Blk.free QB 0
  have QB_f1 := Blk.free QB 1
  have QB_f2 := Blk.free QB 2
  go_wp2_with fail
  with_reducible refine (cmp_bel (-1) 1 _).mono ?_
  rintro e w3 ⟨rfl, hb⟩
  clear PB_0 PB_1 PB_2 PB_f0 PB_f1 PB_f2
  clear QB_0 QB_1 QB_2 QB_f0 QB_f1 QB_f2
  have hs3 := hb.size
  try simp only [World.size_alloc, World.size_setCell] at hs3
  replace bw : Below w.heap.size w w3 := dy_end (by go_grown) hb
  replace PB := Blk.on PB hb
  replace QB := Blk.on QB hb
  clear hb
  have PB_0 := Blk.cell PB 0 rfl
  have PB_1 := Blk.cell PB 1 rfl
  have PB_2 := Blk.cell PB 2 rfl
  have PB_f0 := Blk.free PB 0
  have PB_f1 := Blk.free PB 1
  have PB_f2 := Blk.free PB 2
  have QB_0 := Blk.cell QB 0 rfl
  have QB_1 := Blk.cell QB 1 rfl
  have QB_2 := Blk.cell QB 2 rfl
  have QB_f0 := Blk.free QB 0
  have QB_f1 := Blk.free QB 1
  have QB_f2 := Blk.free QB 2
  go_wp2_with fail
  go_ret2
  exact ⟨rfl, by go_grown⟩

set_option maxRecDepth 100000 in
set_option maxHeartbeats 4000000 in
theorem order_zn (hs1 : sgnV b n = 0) (hs2 : sgnV b2 n2 = -1) :
    Calls Tryz.prog 38 #[dyV b A n c x, dyV b2 A2 n2 c2 x2] w fun e w' => e = .returned (.tuple #[.int .i64 1, .int .i64 0]) ∧ Below w.heap.size w w' := by
  have PB := Blk.new w [.bool b, .slice A n c, .int .i64 x] 40
  have QB := Blk.new (w.alloc (.cells #[.bool b, .slice A n c, .int .i64 x] 40)) [.bool b2, .slice A2 n2 c2, .int .i64 x2] 40
  simp only [World.size_alloc] at QB
  replace PB := Blk.alloc PB (.cells #[.bool b2, .slice A2 n2 c2, .int .i64 x2] 40)
  have bw : Below w.heap.size w ((w.alloc (.cells #[.bool b, .slice A n c, .int .i64 x] 40)).alloc (.cells #[.bool b2, .slice A2 n2 c2, .int .i64 x2] 40)) := by go_grown
  have PB_0 := Blk.cell PB 0 rfl
  have PB_1 := Blk.cell PB 1 rfl
  have PB_2 := Blk.cell PB 2 rfl
  have PB_f0 := Blk.free PB 0
  have PB_f1 := Blk.free PB 1
  have PB_f2 := Blk.free PB 2
  have QB_0 := Blk.cell QB 0 rfl
  have QB_1 := Blk.cell QB 1 rfl
  have QB_2 := Blk.cell QB 2 rfl
  have QB_f0 := Blk.free QB 0
  have QB_f1 := Blk.free QB 1
  have QB_f2 := Blk.free QB 2
  go_enter Tryz.func38, Tryz.ntmps38
  go_wp2_with fail
  have cA := fun d os => Calls.regrown_of (w := ((w.alloc (.cells #[.bool b, .slice A n c, .int .i64 x] 40)).alloc (.cells #[.bool b2, .slice A2 n2 c2, .int .i64 x2] 40))) (d := d) (os := os) (signOf_bel b A n c _ hs1)
  have cB := fun d os => Calls.regrown_of (w := ((w.alloc (.cells #[.bool b, .slice A n c, .int .i64 x] 40)).alloc (.cells #[.bool b2, .slice A2 n2 c2, .int .i64 x2] 40))) (d := d) (os := os) (signOf_bel b2 A2 n2 c2 _ hs2)
  have PB_r0 := cell_regrown PB_0
  have PB_r1 := cell_regrown PB_1
  have PB_r2 := cell_regrown PB_2
  have QB_r0 := cell_regrown QB_0
  have QB_r1 := cell_regrown QB_1
  have QB_r2 := cell_regrown QB_2
  refine wp_region_quiet_below mixed (by kernel_rfl) ?_
  repeat (quiet_step (first | (with_reducible exact cA _ _) | (with_reducible exact cB _ _)))
  refine wpQuiet_nil ?_
  intro _ hw'
  obtain ⟨⟨dq, osq⟩, hw''⟩ := hw'
  subst hw''
  have hb := below_regrown ((w.alloc (.cells #[.bool b, .slice A n c, .int .i64 x] 40)).alloc (.cells #[.bool b2, .slice A2 n2 c2, .int .i64 x2] 40)) dq osq
  clear PB_r0 PB_r1 PB_r2 QB_r0 QB_r1 QB_r2 cA cB
  generalize grow (redrawn ((w.alloc (.cells #[.bool b, .slice A n c, .int .i64 x] 40)).alloc (.cells #[.bool b2, .slice A2 n2 c2, .int .i64 x2] 40)) dq) osq = w1 at hb ⊢
  clear PB_0 PB_1 PB_2 PB_f0 PB_f1 PB_f2
  clear QB_0 QB_1 QB_2 QB_f0 QB_f1 QB_f2
  replace bw : Below w.heap.size w w1 := dy_end (by go_grown) hb
  replace PB := Blk.on PB hb
  replace QB := Blk.on QB hb
  have hs1 := hb.size
  try simp only [World.size_alloc] at hs1
  clear hb
  have PB_0 := Blk.cell PB 0 rfl
  have PB_1 := Blk.cell PB 1 rfl
  have PB_2 := Blk.cell PB 2 rfl
  have PB_f0 := Blk.free PB 0
  have PB_f1 := Blk.free PB 1
  have PB_f2 := Blk.free PB 2
  have QB_0 := Blk.cell QB 0 rfl
  have QB_1 := Blk.cell QB 1 rfl
  have QB_2 := Blk.cell QB 2 rfl
  have QB_f0 := Blk.free QB 0
  have QB_f1 := Blk.free QB 1
  have QB_f2 := Blk.free QB 2
  go_wp2_with fail
  with_reducible refine (cmp_bel 0 (-1) _).mono ?_
  rintro e w2 ⟨rfl, hb⟩
  clear PB_0 PB_1 PB_2 PB_f0 PB_f1 PB_f2
  clear QB_0 QB_1 QB_2 QB_f0 QB_f1 QB_f2
  have hs2 := hb.size
  try simp only [World.size_alloc, World.size_setCell] at hs2
  replace bw : Below w.heap.size w w2 := dy_end (by go_grown) hb
  replace PB := Blk.on PB hb
  replace QB := Blk.on QB hb
  clear hb
  have PB_0 := Blk.cell PB 0 rfl
  have PB_1 := Blk.cell PB 1 rfl
  have PB_2 := Blk.cell PB 2 rfl
  have PB_f0 := Blk.free PB 0
  have PB_f1 := Blk.free PB 1
  have PB_f2 := Blk.free PB 2
  have QB_0 := Blk.cell QB 0 rfl
  have QB_1 := Blk.cell QB 1 rfl
  have QB_2 := Blk.cell QB 2 rfl
  have QB_f0 := Blk.free QB 0
  have QB_f1 := Blk.free QB 1
  have QB_f2 := Blk.free QB 2
  go_wp2_with fail
  go_ret2
  exact ⟨rfl, by go_grown⟩

set_option maxRecDepth 100000 in
set_option maxHeartbeats 4000000 in
theorem order_zz (hs1 : sgnV b n = 0) (hs2 : sgnV b2 n2 = 0) :
    Calls Tryz.prog 38 #[dyV b A n c x, dyV b2 A2 n2 c2 x2] w fun e w' => e = .returned (.tuple #[.int .i64 0, .int .i64 0]) ∧ Below w.heap.size w w' := by
  have PB := Blk.new w [.bool b, .slice A n c, .int .i64 x] 40
  have QB := Blk.new (w.alloc (.cells #[.bool b, .slice A n c, .int .i64 x] 40)) [.bool b2, .slice A2 n2 c2, .int .i64 x2] 40
  simp only [World.size_alloc] at QB
  replace PB := Blk.alloc PB (.cells #[.bool b2, .slice A2 n2 c2, .int .i64 x2] 40)
  have bw : Below w.heap.size w ((w.alloc (.cells #[.bool b, .slice A n c, .int .i64 x] 40)).alloc (.cells #[.bool b2, .slice A2 n2 c2, .int .i64 x2] 40)) := by go_grown
  have PB_0 := Blk.cell PB 0 rfl
  have PB_1 := Blk.cell PB 1 rfl
  have PB_2 := Blk.cell PB 2 rfl
  have PB_f0 := Blk.free PB 0
  have PB_f1 := Blk.free PB 1
  have PB_f2 := Blk.free PB 2
  have QB_0 := Blk.cell QB 0 rfl
  have QB_1 := Blk.cell QB 1 rfl
  have QB_2 := Blk.cell QB 2 rfl
  have QB_f0 := Blk.free QB 0
  have QB_f1 := Blk.free QB 1
  have QB_f2 := Blk.free QB 2
  go_enter Tryz.func38, Tryz.ntmps38
  go_wp2_with fail
  have cA := fun d os => Calls.regrown_of (w := ((w.alloc (.cells #[.bool b, .slice A n c, .int .i64 x] 40)).alloc (.cells #[.bool b2, .slice A2 n2 c2, .int .i64 x2] 40))) (d := d) (os := os) (signOf_bel b A n c _ hs1)
  have cB := fun d os => Calls.regrown_of (w := ((w.alloc (.cells #[.bool b, .slice A n c, .int .i64 x] 40)).alloc (.cells #[.bool b2, .slice A2 n2 c2, .int .i64 x2] 40))) (d := d) (os := os) (signOf_bel b2 A2 n2 c2 _ hs2)
  have PB_r0 := cell_regrown PB_0
  have PB_r1 := cell_regrown PB_1
  have PB_r2 := cell_regrown PB_2
  have QB_r0 := cell_regrown QB_0
  have QB_r1 := cell_regrown QB_1
  have QB_r2 := cell_regrown QB_2
  refine wp_region_quiet_below mixed (by kernel_rfl) ?_
  repeat (quiet_step (first | (with_reducible exact cA _ _) | (with_reducible exact cB _ _)))
  refine wpQuiet_nil ?_
  intro _ hw'
  obtain ⟨⟨dq, osq⟩, hw''⟩ := hw'
  subst hw''
  have hb := below_regrown ((w.alloc (.cells #[.bool b, .slice A n c, .int .i64 x] 40)).alloc (.cells #[.bool b2, .slice A2 n2 c2, .int .i64 x2] 40)) dq osq
  clear PB_r0 PB_r1 PB_r2 QB_r0 QB_r1 QB_r2 cA cB
  generalize grow (redrawn ((w.alloc (.cells #[.bool b, .slice A n c, .int .i64 x] 40)).alloc (.cells #[.bool b2, .slice A2 n2 c2, .int .i64 x2] 40)) dq) osq = w1 at hb ⊢
  clear PB_0 PB_1 PB_2 PB_f0 PB_f1 PB_f2
  clear QB_0 QB_1 QB_2 QB_f0 QB_f1 QB_f2
  replace bw : Below w.heap.size w w1 := dy_end (by go_grown) hb
  replace PB := Blk.on PB hb
  replace QB := Blk.on QB hb
  have hs1 := hb.size
  try simp only [World.size_alloc] at hs1
  clear hb
  have PB_0 := Blk.cell PB 0 rfl
  have PB_1 := Blk.cell PB 1 rfl
  have PB_2 := Blk.cell PB 2 rfl
  have PB_f0 := Blk.free PB 0
  have PB_f1 := Blk.free PB 1
  have PB_f2 := Blk.free PB 2
  have QB_0 := Blk.cell QB 0 rfl
  have QB_1 := Blk.cell QB 1 rfl
  have QB_2 := Blk.cell QB 2 rfl
  have QB_f0 := Blk.free QB 0
  have QB_f1 := Blk.free QB 1
  have QB_f2 := Blk.free QB 2
  go_wp2_with fail
  with_reducible refine (cmp_bel 0 0 _).mono ?_
  rintro e w2 ⟨rfl, hb⟩
  clear PB_0 PB_1 PB_2 PB_f0 PB_f1 PB_f2
  clear QB_0 QB_1 QB_2 QB_f0 QB_f1 QB_f2
  have hs2 := hb.size
  try simp only [World.size_alloc, World.size_setCell] at hs2
  replace bw : Below w.heap.size w w2 := dy_end (by go_grown) hb
  replace PB := Blk.on PB hb
  replace QB := Blk.on QB hb
  clear hb
  have PB_0 := Blk.cell PB 0 rfl
  have PB_1 := Blk.cell PB 1 rfl
  have PB_2 := Blk.cell PB 2 rfl
  have PB_f0 := Blk.free PB 0
  have PB_f1 := Blk.free PB 1
  have PB_f2 := Blk.free PB 2
  have QB_0 := Blk.cell QB 0 rfl
  have QB_1 := Blk.cell QB 1 rfl
  have QB_2 := Blk.cell QB 2 rfl
  have QB_f0 := Blk.free QB 0
  have QB_f1 := Blk.free QB 1
  have QB_f2 := Blk.free QB 2
  go_wp2_with fail
  go_ret2
  exact ⟨rfl, by go_grown⟩

set_option maxRecDepth 100000 in
set_option maxHeartbeats 4000000 in
theorem order_zp (hs1 : sgnV b n = 0) (hs2 : sgnV b2 n2 = 1) :
    Calls Tryz.prog 38 #[dyV b A n c x, dyV b2 A2 n2 c2 x2] w fun e w' => e = .returned (.tuple #[.int .i64 (-1), .int .i64 0]) ∧ Below w.heap.size w w' := by
  have PB := Blk.new w [.bool b, .slice A n c, .int .i64 x] 40
  have QB := Blk.new (w.alloc (.cells #[.bool b, .slice A n c, .int .i64 x] 40)) [.bool b2, .slice A2 n2 c2, .int .i64 x2] 40
  simp only [World.size_alloc] at QB
  replace PB := Blk.alloc PB (.cells #[.bool b2, .slice A2 n2 c2, .int .i64 x2] 40)
  have bw : Below w.heap.size w ((w.alloc (.cells #[.bool b, .slice A n c, .int .i64 x] 40)).alloc (.cells #[.bool b2, .slice A2 n2 c2, .int .i64 x2] 40)) := by go_grown
  have PB_0 := Blk.cell PB 0 rfl
  have PB_1 := Blk.cell PB 1 rfl
  have PB_2 := Blk.cell PB 2 rfl
  have PB_f0 := Blk.free PB 0
  have PB_f1 := Blk.free PB 1
  have PB_f2 := Blk.free PB 2
  have QB_0 := Blk.cell QB 0 rfl
  have QB_1 := Blk.cell QB 1 rfl
  have QB_2 := Blk.cell QB 2 rfl
  have QB_f0 := Blk.free QB 0
  have QB_f1 := Blk.free QB 1
  have QB_f2 := Blk.free QB 2
  go_enter Tryz.func38, Tryz.ntmps38
  go_wp2_with fail
  have cA := fun d os => Calls.regrown_of (w := ((w.alloc (.cells #[.bool b, .slice A n c, .int .i64 x] 40)).alloc (.cells #[.bool b2, .slice A2 n2 c2, .int .i64 x2] 40))) (d := d) (os := os) (signOf_bel b A n c _ hs1)
  have cB := fun d os => Calls.regrown_of (w := ((w.alloc (.cells #[.bool b, .slice A n c, .int .i64 x] 40)).alloc (.cells #[.bool b2, .slice A2 n2 c2, .int .i64 x2] 40))) (d := d) (os := os) (signOf_bel b2 A2 n2 c2 _ hs2)
  have PB_r0 := cell_regrown PB_0
  have PB_r1 := cell_regrown PB_1
  have PB_r2 := cell_regrown PB_2
  have QB_r0 := cell_regrown QB_0
  have QB_r1 := cell_regrown QB_1
  have QB_r2 := cell_regrown QB_2
  refine wp_region_quiet_below mixed (by kernel_rfl) ?_
  repeat (quiet_step (first | (with_reducible exact cA _ _) | (with_reducible exact cB _ _)))
  refine wpQuiet_nil ?_
  intro _ hw'
  obtain ⟨⟨dq, osq⟩, hw''⟩ := hw'
  subst hw''
  have hb := below_regrown ((w.alloc (.cells #[.bool b, .slice A n c, .int .i64 x] 40)).alloc (.cells #[.bool b2, .slice A2 n2 c2, .int .i64 x2] 40)) dq osq
  clear PB_r0 PB_r1 PB_r2 QB_r0 QB_r1 QB_r2 cA cB
  generalize grow (redrawn ((w.alloc (.cells #[.bool b, .slice A n c, .int .i64 x] 40)).alloc (.cells #[.bool b2, .slice A2 n2 c2, .int .i64 x2] 40)) dq) osq = w1 at hb ⊢
  clear PB_0 PB_1 PB_2 PB_f0 PB_f1 PB_f2
  clear QB_0 QB_1 QB_2 QB_f0 QB_f1 QB_f2
  replace bw : Below w.heap.size w w1 := dy_end (by go_grown) hb
  replace PB := Blk.on PB hb
  replace QB := Blk.on QB hb
  have hs1 := hb.size
  try simp only [World.size_alloc] at hs1
  clear hb
  have PB_0 := Blk.cell PB 0 rfl
  have PB_1 := Blk.cell PB 1 rfl
  have PB_2 := Blk.cell PB 2 rfl
  have PB_f0 := Blk.free PB 0
  have PB_f1 := Blk.free PB 1
  have PB_f2 := Blk.free PB 2
  have QB_0 := Blk.cell QB 0 rfl
  have QB_1 := Blk.cell QB 1 rfl
  have QB_2 := Blk.cell QB 2 rfl
  have QB_f0 := Blk.free QB 0
  have QB_f1 := Blk.free QB 1
  have QB_f2 := Blk.free QB 2
  go_wp2_with fail
  with_reducible refine (cmp_bel 0 1 _).mono ?_
  rintro e w2 ⟨rfl, hb⟩
  clear PB_0 PB_1 PB_2 PB_f0 PB_f1 PB_f2
  clear QB_0 QB_1 QB_2 QB_f0 QB_f1 QB_f2
  have hs2 := hb.size
  try simp only [World.size_alloc, World.size_setCell] at hs2
  replace bw : Below w.heap.size w w2 := dy_end (by go_grown) hb
  replace PB := Blk.on PB hb
  replace QB := Blk.on QB hb
  clear hb
  have PB_0 := Blk.cell PB 0 rfl
  have PB_1 := Blk.cell PB 1 rfl
  have PB_2 := Blk.cell PB 2 rfl
  have PB_f0 := Blk.free PB 0
  have PB_f1 := Blk.free PB 1
  have PB_f2 := Blk.free PB 2
  have QB_0 := Blk.cell QB 0 rfl
  have QB_1 := Blk.cell QB 1 rfl
  have QB_2 := Blk.cell QB 2 rfl
  have QB_f0 := Blk.free QB 0
  have QB_f1 := Blk.free QB 1
  have QB_f2 := Blk.free QB 2
  go_wp2_with fail
  go_ret2
  exact ⟨rfl, by go_grown⟩

set_option maxRecDepth 100000 in
set_option maxHeartbeats 4000000 in
theorem order_pn (hs1 : sgnV b n = 1) (hs2 : sgnV b2 n2 = -1) (x0 : -1048576 ≤ x) (x1 : x ≤ 1048576) (y0 : -1048576 ≤ x2) (y1 : x2 ≤ 1048576) (hf : x - x2 ≤ 262144 ∧ x2 - x ≤ 262144) :
    Calls Tryz.prog 38 #[dyV b A n c x, dyV b2 A2 n2 c2 x2] w fun e w' => e = .returned (.tuple #[.int .i64 1, .int .i64 0]) ∧ Below w.heap.size w w' := by
  have PB := Blk.new w [.bool b, .slice A n c, .int .i64 x] 40
  have QB := Blk.new (w.alloc (.cells #[.bool b, .slice A n c, .int .i64 x] 40)) [.bool b2, .slice A2 n2 c2, .int .i64 x2] 40
  simp only [World.size_alloc] at QB
  replace PB := Blk.alloc PB (.cells #[.bool b2, .slice A2 n2 c2, .int .i64 x2] 40)
  have bw : Below w.heap.size w ((w.alloc (.cells #[.bool b, .slice A n c, .int .i64 x] 40)).alloc (.cells #[.bool b2, .slice A2 n2 c2, .int .i64 x2] 40)) := by go_grown
  have PB_0 := Blk.cell PB 0 rfl
  have PB_1 := Blk.cell PB 1 rfl
  have PB_2 := Blk.cell PB 2 rfl
  have PB_f0 := Blk.free PB 0
  have PB_f1 := Blk.free PB 1
  have PB_f2 := Blk.free PB 2
  have QB_0 := Blk.cell QB 0 rfl
  have QB_1 := Blk.cell QB 1 rfl
  have QB_2 := Blk.cell QB 2 rfl
  have QB_f0 := Blk.free QB 0
  have QB_f1 := Blk.free QB 1
  have QB_f2 := Blk.free QB 2
  go_enter Tryz.func38, Tryz.ntmps38
  go_wp2_with fail
  have cA := fun d os => Calls.regrown_of (w := ((w.alloc (.cells #[.bool b, .slice A n c, .int .i64 x] 40)).alloc (.cells #[.bool b2, .slice A2 n2 c2, .int .i64 x2] 40))) (d := d) (os := os) (signOf_bel b A n c _ hs1)
  have cB := fun d os => Calls.regrown_of (w := ((w.alloc (.cells #[.bool b, .slice A n c, .int .i64 x] 40)).alloc (.cells #[.bool b2, .slice A2 n2 c2, .int .i64 x2] 40))) (d := d) (os := os) (signOf_bel b2 A2 n2 c2 _ hs2)
  have PB_r0 := cell_regrown PB_0
  have PB_r1 := cell_regrown PB_1
  have PB_r2 := cell_regrown PB_2
  have QB_r0 := cell_regrown QB_0
  have QB_r1 := cell_regrown QB_1
  have QB_r2 := cell_regrown QB_2
  refine wp_region_quiet_below mixed (by kernel_rfl) ?_
  repeat (quiet_step (first | (with_reducible exact cA _ _) | (with_reducible exact cB _ _)))
  refine wpQuiet_nil ?_
  intro _ hw'
  obtain ⟨⟨dq, osq⟩, hw''⟩ := hw'
  subst hw''
  have hb := below_regrown ((w.alloc (.cells #[.bool b, .slice A n c, .int .i64 x] 40)).alloc (.cells #[.bool b2, .slice A2 n2 c2, .int .i64 x2] 40)) dq osq
  clear PB_r0 PB_r1 PB_r2 QB_r0 QB_r1 QB_r2 cA cB
  generalize grow (redrawn ((w.alloc (.cells #[.bool b, .slice A n c, .int .i64 x] 40)).alloc (.cells #[.bool b2, .slice A2 n2 c2, .int .i64 x2] 40)) dq) osq = w1 at hb ⊢
  clear PB_0 PB_1 PB_2 PB_f0 PB_f1 PB_f2
  clear QB_0 QB_1 QB_2 QB_f0 QB_f1 QB_f2
  replace bw : Below w.heap.size w w1 := dy_end (by go_grown) hb
  replace PB := Blk.on PB hb
  replace QB := Blk.on QB hb
  have hs1 := hb.size
  try simp only [World.size_alloc] at hs1
  clear hb
  have PB_0 := Blk.cell PB 0 rfl
  have PB_1 := Blk.cell PB 1 rfl
  have PB_2 := Blk.cell PB 2 rfl
  have PB_f0 := Blk.free PB 0
  have PB_f1 := Blk.free PB 1
  have PB_f2 := Blk.free PB 2
  have QB_0 := Blk.cell QB 0 rfl
  have QB_1 := Blk.cell QB 1 rfl
  have QB_2 := Blk.cell QB 2 rfl
  have QB_f0 := Blk.free QB 0
  have QB_f1 := Blk.free QB 1
  have QB_f2 := Blk.free QB 2
  go_wp2_with fail
  with_reducible refine (tooFar_false b b2 A A2 n n2 c c2 _ x0 x1 y0 y1 hf).mono ?_
  rintro e w2 ⟨rfl, hb⟩
  clear PB_0 PB_1 PB_2 PB_f0 PB_f1 PB_f2
  clear QB_0 QB_1 QB_2 QB_f0 QB_f1 QB_f2
  have hs2 := hb.size
  try simp only [World.size_alloc, World.size_setCell] at hs2
  replace bw : Below w.heap.size w w2 := dy_end (by go_grown) hb
  replace PB := Blk.on PB hb
  replace QB := Blk.on QB hb
  clear hb
  have PB_0 := Blk.cell PB 0 rfl
  have PB_1 := Blk.cell PB 1 rfl
  have PB_2 := Blk.cell PB 2 rfl
  have PB_f0 := Blk.free PB 0
  have PB_f1 := Blk.free PB 1
  have PB_f2 := Blk.free PB 2
  have QB_0 := Blk.cell QB 0 rfl
  have QB_1 := Blk.cell QB 1 rfl
  have QB_2 := Blk.cell QB 2 rfl
  have QB_f0 := Blk.free QB 0
  have QB_f1 := Blk.free QB 1
  have QB_f2 := Blk.free QB 2
  go_wp2_with fail
  with_reducible refine (cmp_bel 1 (-1) _).mono ?_
  rintro e w3 ⟨rfl, hb⟩
  clear PB_0 PB_1 PB_2 PB_f0 PB_f1 PB_f2
  clear QB_0 QB_1 QB_2 QB_f0 QB_f1 QB_f2
  have hs3 := hb.size
  try simp only [World.size_alloc, World.size_setCell] at hs3
  replace bw : Below w.heap.size w w3 := dy_end (by go_grown) hb
  replace PB := Blk.on PB hb
  replace QB := Blk.on QB hb
  clear hb
  have PB_0 := Blk.cell PB 0 rfl
  have PB_1 := Blk.cell PB 1 rfl
  have PB_2 := Blk.cell PB 2 rfl
  have PB_f0 := Blk.free PB 0
  have PB_f1 := Blk.free PB 1
  have PB_f2 := Blk.free PB 2
  have QB_0 := Blk.cell QB 0 rfl
  have QB_1 := Blk.cell QB 1 rfl
  have QB_2 := Blk.cell QB 2 rfl
  have QB_f0 := Blk.free QB 0
  have QB_f1 := Blk.free QB 1
  have QB_f2 := Blk.free QB 2
  go_wp2_with fail
  go_ret2
  exact ⟨rfl, by go_grown⟩

set_option maxRecDepth 100000 in
set_option maxHeartbeats 4000000 in
theorem order_pz (hs1 : sgnV b n = 1) (hs2 : sgnV b2 n2 = 0) :
    Calls Tryz.prog 38 #[dyV b A n c x, dyV b2 A2 n2 c2 x2] w fun e w' => e = .returned (.tuple #[.int .i64 1, .int .i64 0]) ∧ Below w.heap.size w w' := by
  have PB := Blk.new w [.bool b, .slice A n c, .int .i64 x] 40
  have QB := Blk.new (w.alloc (.cells #[.bool b, .slice A n c, .int .i64 x] 40)) [.bool b2, .slice A2 n2 c2, .int .i64 x2] 40
  simp only [World.size_alloc] at QB
  replace PB := Blk.alloc PB (.cells #[.bool b2, .slice A2 n2 c2, .int .i64 x2] 40)
  have bw : Below w.heap.size w ((w.alloc (.cells #[.bool b, .slice A n c, .int .i64 x] 40)).alloc (.cells #[.bool b2, .slice A2 n2 c2, .int .i64 x2] 40)) := by go_grown
  have PB_0 := Blk.cell PB 0 rfl
  have PB_1 := Blk.cell PB 1 rfl
  have PB_2 := Blk.cell PB 2 rfl
  have PB_f0 := Blk.free PB 0
  have PB_f1 := Blk.free PB 1
  have PB_f2 := Blk.free PB 2
  have QB_0 := Blk.cell QB 0 rfl
  have QB_1 := Blk.cell QB 1 rfl
  have QB_2 := Blk.cell QB 2 rfl
  have QB_f0 := Blk.free QB 0
  have QB_f1 := Blk.free QB 1
  have QB_f2 := Blk.free QB 2
  go_enter Tryz.func38, Tryz.ntmps38
  go_wp2_with fail
  have cA := fun d os => Calls.regrown_of (w := ((w.alloc (.cells #[.bool b, .slice A n c, .int .i64 x] 40)).alloc (.cells #[.bool b2, .slice A2 n2 c2, .int .i64 x2] 40))) (d := d) (os := os) (signOf_bel b A n c _ hs1)
  have cB := fun d os => Calls.regrown_of (w := ((w.alloc (.cells #[.bool b, .slice A n c, .int .i64 x] 40)).alloc (.cells #[.bool b2, .slice A2 n2 c2, .int .i64 x2] 40))) (d := d) (os := os) (signOf_bel b2 A2 n2 c2 _ hs2)
  have PB_r0 := cell_regrown PB_0
  have PB_r1 := cell_regrown PB_1
  have PB_r2 := cell_regrown PB_2
  have QB_r0 := cell_regrown QB_0
  have QB_r1 := cell_regrown QB_1
  have QB_r2 := cell_regrown QB_2
  refine wp_region_quiet_below mixed (by kernel_rfl) ?_
  repeat (quiet_step (first | (with_reducible exact cA _ _) | (with_reducible exact cB _ _)))
  refine wpQuiet_nil ?_
  intro _ hw'
  obtain ⟨⟨dq, osq⟩, hw''⟩ := hw'
  subst hw''
  have hb := below_regrown ((w.alloc (.cells #[.bool b, .slice A n c, .int .i64 x] 40)).alloc (.cells #[.bool b2, .slice A2 n2 c2, .int .i64 x2] 40)) dq osq
  clear PB_r0 PB_r1 PB_r2 QB_r0 QB_r1 QB_r2 cA cB
  generalize grow (redrawn ((w.alloc (.cells #[.bool b, .slice A n c, .int .i64 x] 40)).alloc (.cells #[.bool b2, .slice A2 n2 c2, .int .i64 x2] 40)) dq) osq = w1 at hb ⊢
  clear PB_0 PB_1 PB_2 PB_f0 PB_f1 PB_f2
  clear QB_0 QB_1 QB_2 QB_f0 QB_f1 QB_f2
  replace bw : Below w.heap.size w w1 := dy_end (by go_grown) hb
  replace PB := Blk.on PB hb
  replace QB := Blk.on QB hb
  have hs1 := hb.size
  try simp only [World.size_alloc] at hs1
  clear hb
  have PB_0 := Blk.cell PB 0 rfl
  have PB_1 := Blk.cell PB 1 rfl
  have PB_2 := Blk.cell PB 2 rfl
  have PB_f0 := Blk.free PB 0
  have PB_f1 := Blk.free PB 1
  have PB_f2 := Blk.free PB 2
  have QB_0 := Blk.cell QB 0 rfl
  have QB_1 := Blk.cell QB 1 rfl
  have QB_2 := Blk.cell QB 2 rfl
  have QB_f0 := Blk.free QB 0
  have QB_f1 := Blk.free QB 1
  have QB_f2 := Blk.free QB 2
  go_wp2_with fail
  with_reducible refine (cmp_bel 1 0 _).mono ?_
  rintro e w2 ⟨rfl, hb⟩
  clear PB_0 PB_1 PB_2 PB_f0 PB_f1 PB_f2
  clear QB_0 QB_1 QB_2 QB_f0 QB_f1 QB_f2
  have hs2 := hb.size
  try simp only [World.size_alloc, World.size_setCell] at hs2
  replace bw : Below w.heap.size w w2 := dy_end (by go_grown) hb
  replace PB := Blk.on PB hb
  replace QB := Blk.on QB hb
  clear hb
  have PB_0 := Blk.cell PB 0 rfl
  have PB_1 := Blk.cell PB 1 rfl
  have PB_2 := Blk.cell PB 2 rfl
  have PB_f0 := Blk.free PB 0
  have PB_f1 := Blk.free PB 1
  have PB_f2 := Blk.free PB 2
  have QB_0 := Blk.cell QB 0 rfl
  have QB_1 := Blk.cell QB 1 rfl
  have QB_2 := Blk.cell QB 2 rfl
  have QB_f0 := Blk.free QB 0
  have QB_f1 := Blk.free QB 1
  have QB_f2 := Blk.free QB 2
  go_wp2_with fail
  go_ret2
  exact ⟨rfl, by go_grown⟩

set_option maxRecDepth 100000 in
set_option maxHeartbeats 4000000 in
theorem order_far_p (hs1 : sgnV b n = 1) (hs2 : sgnV b2 n2 = 1) (x0 : -1048576 ≤ x) (x1 : x ≤ 1048576) (y0 : -1048576 ≤ x2) (y1 : x2 ≤ 1048576) (hf : 262144 < x - x2 ∨ 262144 < x2 - x) :
    Calls Tryz.prog 38 #[dyV b A n c x, dyV b2 A2 n2 c2 x2] w fun e w' => e = .returned (.tuple #[.int .i64 0, .int .i64 3]) ∧ Below w.heap.size w w' := by
  have PB := Blk.new w [.bool b, .slice A n c, .int .i64 x] 40
  have QB := Blk.new (w.alloc (.cells #[.bool b, .slice A n c, .int .i64 x] 40)) [.bool b2, .slice A2 n2 c2, .int .i64 x2] 40
  simp only [World.size_alloc] at QB
  replace PB := Blk.alloc PB (.cells #[.bool b2, .slice A2 n2 c2, .int .i64 x2] 40)
  have bw : Below w.heap.size w ((w.alloc (.cells #[.bool b, .slice A n c, .int .i64 x] 40)).alloc (.cells #[.bool b2, .slice A2 n2 c2, .int .i64 x2] 40)) := by go_grown
  have PB_0 := Blk.cell PB 0 rfl
  have PB_1 := Blk.cell PB 1 rfl
  have PB_2 := Blk.cell PB 2 rfl
  have PB_f0 := Blk.free PB 0
  have PB_f1 := Blk.free PB 1
  have PB_f2 := Blk.free PB 2
  have QB_0 := Blk.cell QB 0 rfl
  have QB_1 := Blk.cell QB 1 rfl
  have QB_2 := Blk.cell QB 2 rfl
  have QB_f0 := Blk.free QB 0
  have QB_f1 := Blk.free QB 1
  have QB_f2 := Blk.free QB 2
  go_enter Tryz.func38, Tryz.ntmps38
  go_wp2_with fail
  have cA := fun d os => Calls.regrown_of (w := ((w.alloc (.cells #[.bool b, .slice A n c, .int .i64 x] 40)).alloc (.cells #[.bool b2, .slice A2 n2 c2, .int .i64 x2] 40))) (d := d) (os := os) (signOf_bel b A n c _ hs1)
  have cB := fun d os => Calls.regrown_of (w := ((w.alloc (.cells #[.bool b, .slice A n c, .int .i64 x] 40)).alloc (.cells #[.bool b2, .slice A2 n2 c2, .int .i64 x2] 40))) (d := d) (os := os) (signOf_bel b2 A2 n2 c2 _ hs2)
  have PB_r0 := cell_regrown PB_0
  have PB_r1 := cell_regrown PB_1
  have PB_r2 := cell_regrown PB_2
  have QB_r0 := cell_regrown QB_0
  have QB_r1 := cell_regrown QB_1
  have QB_r2 := cell_regrown QB_2
  refine wp_region_quiet_below mixed (by kernel_rfl) ?_
  repeat (quiet_step (first | (with_reducible exact cA _ _) | (with_reducible exact cB _ _)))
  refine wpQuiet_nil ?_
  intro _ hw'
  obtain ⟨⟨dq, osq⟩, hw''⟩ := hw'
  subst hw''
  have hb := below_regrown ((w.alloc (.cells #[.bool b, .slice A n c, .int .i64 x] 40)).alloc (.cells #[.bool b2, .slice A2 n2 c2, .int .i64 x2] 40)) dq osq
  clear PB_r0 PB_r1 PB_r2 QB_r0 QB_r1 QB_r2 cA cB
  generalize grow (redrawn ((w.alloc (.cells #[.bool b, .slice A n c, .int .i64 x] 40)).alloc (.cells #[.bool b2, .slice A2 n2 c2, .int .i64 x2] 40)) dq) osq = w1 at hb ⊢
  clear PB_0 PB_1 PB_2 PB_f0 PB_f1 PB_f2
  clear QB_0 QB_1 QB_2 QB_f0 QB_f1 QB_f2
  replace bw : Below w.heap.size w w1 := dy_end (by go_grown) hb
  replace PB := Blk.on PB hb
  replace QB := Blk.on QB hb
  have hs1 := hb.size
  try simp only [World.size_alloc] at hs1
  clear hb
  have PB_0 := Blk.cell PB 0 rfl
  have PB_1 := Blk.cell PB 1 rfl
  have PB_2 := Blk.cell PB 2 rfl
  have PB_f0 := Blk.free PB 0
  have PB_f1 := Blk.free PB 1
  have PB_f2 := Blk.free PB 2
  have QB_0 := Blk.cell QB 0 rfl
  have QB_1 := Blk.cell QB 1 rfl
  have QB_2 := Blk.cell QB 2 rfl
  have QB_f0 := Blk.free QB 0
  have QB_f1 := Blk.free QB 1
  have QB_f2 := Blk.free QB 2
  go_wp2_with fail
  with_reducible refine (tooFar_true b b2 A A2 n n2 c c2 _ x0 x1 y0 y1 hf).mono ?_
  rintro e w2 ⟨rfl, hb⟩
  clear PB_0 PB_1 PB_2 PB_f0 PB_f1 PB_f2
  clear QB_0 QB_1 QB_2 QB_f0 QB_f1 QB_f2
  have hs2 := hb.size
  try simp only [World.size_alloc, World.size_setCell] at hs2
  replace bw : Below w.heap.size w w2 := dy_end (by go_grown) hb
  replace PB := Blk.on PB hb
  replace QB := Blk.on QB hb
  clear hb
  have PB_0 := Blk.cell PB 0 rfl
  have PB_1 := Blk.cell PB 1 rfl
  have PB_2 := Blk.cell PB 2 rfl
  have PB_f0 := Blk.free PB 0
  have PB_f1 := Blk.free PB 1
  have PB_f2 := Blk.free PB 2
  have QB_0 := Blk.cell QB 0 rfl
  have QB_1 := Blk.cell QB 1 rfl
  have QB_2 := Blk.cell QB 2 rfl
  have QB_f0 := Blk.free QB 0
  have QB_f1 := Blk.free QB 1
  have QB_f2 := Blk.free QB 2
  go_wp2_with fail
  go_ret2
  exact ⟨rfl, by go_grown⟩

set_option maxRecDepth 100000 in
set_option maxHeartbeats 4000000 in
theorem order_far_n (hs1 : sgnV b n = -1) (hs2 : sgnV b2 n2 = -1) (x0 : -1048576 ≤ x) (x1 : x ≤ 1048576) (y0 : -1048576 ≤ x2) (y1 : x2 ≤ 1048576) (hf : 262144 < x - x2 ∨ 262144 < x2 - x) :
    Calls Tryz.prog 38 #[dyV b A n c x, dyV b2 A2 n2 c2 x2] w fun e w' => e = .returned (.tuple #[.int .i64 0, .int .i64 3]) ∧ Below w.heap.size w w' := by
  have PB := Blk.new w [.bool b, .slice A n c, .int .i64 x] 40
  have QB := Blk.new (w.alloc (.cells #[.bool b, .slice A n c, .int .i64 x] 40)) [.bool b2, .slice A2 n2 c2, .int .i64 x2] 40
  simp only [World.size_alloc] at QB
  replace PB := Blk.alloc PB (.cells #[.bool b2, .slice A2 n2 c2, .int .i64 x2] 40)
  have bw : Below w.heap.size w ((w.alloc (.cells #[.bool b, .slice A n c, .int .i64 x] 40)).alloc (.cells #[.bool b2, .slice A2 n2 c2, .int .i64 x2] 40)) := by go_grown
  have PB_0 := Blk.cell PB 0 rfl
  have PB_1 := Blk.cell PB 1 rfl
  have PB_2 := Blk.cell PB 2 rfl
  have PB_f0 := Blk.free PB 0
  have PB_f1 := Blk.free PB 1
  have PB_f2 := Blk.free PB 2
  have QB_0 := Blk.cell QB 0 rfl
  have QB_1 := Blk.cell QB 1 rfl
  have QB_2 := Blk.cell QB 2 rfl
  have QB_f0 := Blk.free QB 0
  have QB_f1 := Blk.free QB 1
  have QB_f2 := Blk.free QB 2
  go_enter Tryz.func38, Tryz.ntmps38
  go_wp2_with fail
  have cA := fun d os => Calls.regrown_of (w := ((w.alloc (.cells #[.bool b, .slice A n c, .int .i64 x] 40)).alloc (.cells #[.bool b2, .slice A2 n2 c2, .int .i64 x2] 40))) (d := d) (os := os) (signOf_bel b A n c _ hs1)
  have cB := fun d os => Calls.regrown_of (w := ((w.alloc (.cells #[.bool b, .slice A n c, .int .i64 x] 40)).alloc (.cells #[.bool b2, .slice A2 n2 c2, .int .i64 x2] 40))) (d := d) (os := os) (signOf_bel b2 A2 n2 c2 _ hs2)
  have PB_r0 := cell_regrown PB_0
  have PB_r1 := cell_regrown PB_1
  have PB_r2 := cell_regrown PB_2
  have QB_r0 := cell_regrown QB_0
  have QB_r1 := cell_regrown QB_1
  have QB_r2 := cell_regrown QB_2
  refine wp_region_quiet_below mixed (by kernel_rfl) ?_
  repeat (quiet_step (first | (with_reducible exact cA _ _) | (with_reducible exact cB _ _)))
  refine wpQuiet_nil ?_
  intro _ hw'
  obtain ⟨⟨dq, osq⟩, hw''⟩ := hw'
  subst hw''
  have hb := below_regrown ((w.alloc (.cells #[.bool b, .slice A n c, .int .i64 x] 40)).alloc (.cells #[.bool b2, .slice A2 n2 c2, .int .i64 x2] 40)) dq osq
  clear PB_r0 PB_r1 PB_r2 QB_r0 QB_r1 QB_r2 cA cB
  generalize grow (redrawn ((w.alloc (.cells #[.bool b, .slice A n c, .int .i64 x] 40)).alloc (.cells #[.bool b2, .slice A2 n2 c2, .int .i64 x2] 40)) dq) osq = w1 at hb ⊢
  clear PB_0 PB_1 PB_2 PB_f0 PB_f1 PB_f2
  clear QB_0 QB_1 QB_2 QB_f0 QB_f1 QB_f2
  replace bw : Below w.heap.size w w1 := dy_end (by go_grown) hb
  replace PB := Blk.on PB hb
  replace QB := Blk.on QB hb
  have hs1 := hb.size
  try simp only [World.size_alloc] at hs1
  clear hb
  have PB_0 := Blk.cell PB 0 rfl
  have PB_1 := Blk.cell PB 1 rfl
  have PB_2 := Blk.cell PB 2 rfl
  have PB_f0 := Blk.free PB 0
  have PB_f1 := Blk.free PB 1
  have PB_f2 := Blk.free PB 2
  have QB_0 := Blk.cell QB 0 rfl
  have QB_1 := Blk.cell QB 1 rfl
  have QB_2 := Blk.cell QB 2 rfl
  have QB_f0 := Blk.free QB 0
  have QB_f1 := Blk.free QB 1
  have QB_f2 := Blk.free QB 2
  go_wp2_with fail
  with_reducible refine (tooFar_true b b2 A A2 n n2 c c2 _ x0 x1 y0 y1 hf).mono ?_
  rintro e w2 ⟨rfl, hb⟩
  clear PB_0 PB_1 PB_2 PB_f0 PB_f1 PB_f2
  clear QB_0 QB_1 QB_2 QB_f0 QB_f1 QB_f2
  have hs2 := hb.size
  try simp only [World.size_alloc, World.size_setCell] at hs2
  replace bw : Below w.heap.size w w2 := dy_end (by go_grown) hb
  replace PB := Blk.on PB hb
  replace QB := Blk.on QB hb
  clear hb
  have PB_0 := Blk.cell PB 0 rfl
  have PB_1 := Blk.cell PB 1 rfl
  have PB_2 := Blk.cell PB 2 rfl
  have PB_f0 := Blk.free PB 0
  have PB_f1 := Blk.free PB 1
  have PB_f2 := Blk.free PB 2
  have QB_0 := Blk.cell QB 0 rfl
  have QB_1 := Blk.cell QB 1 rfl
  have QB_2 := Blk.cell QB 2 rfl
  have QB_f0 := Blk.free QB 0
  have QB_f1 := Blk.free QB 1
  have QB_f2 := Blk.free QB 2
  go_wp2_with fail
  go_ret2
  exact ⟨rfl, by go_grown⟩


/-- what order answers, of normal numbers -/
def OrdC (d d2 : Nf) (v k : Int) : Prop := ∀ {b b2 : Bool} {A A2 : Option Addr} {c c2 : Nat} {x x2 : Int} {l l2 : List Int} {w : World}, Dn b l x d → Lv w A l.length c l → Dn b2 l2 x2 d2 → Lv w A2 l2.length c2 l2 → Tab w → -1048576 ≤ x → x ≤ 1048576 → -1048576 ≤ x2 → x2 ≤ 1048576 →
  Calls Tryz.prog 38 #[dyV b A l.length c x, dyV b2 A2 l2.length c2 x2] w fun e w' => e = .returned (.tuple #[.int .i64 v, .int .i64 k]) ∧ Below w.heap.size w w'
set_option maxRecDepth 100000 in
set_option maxHeartbeats 4000000 in
theorem both_order (h : Lv w A n c l) (hn : n ≤ 4096) (h2 : Lv w A2 n2 c2 l2) (hn2 : n2 ≤ 4096) (hT : Tab w) (ho : okE x = true) (ho2 : okE x2 = true) {v k : Int} (hc : OrdC (nfl b (val 18446744073709551616 l) x) (nfl b2 (val 18446744073709551616 l2) x2) v k) :
    Calls Tryz.prog 37 #[dyV b A n c x, dyV b2 A2 n2 c2 x2, .func (.func 38) #[] #[]] w fun e w' => e = .returned (.tuple #[.int .i64 v, .int .i64 k]) ∧ Below w.heap.size w w' := by
  unfold OrdC at hc
  have PB := Blk.new w [.bool b, .slice A n c, .int .i64 x] 40
  have QB := Blk.new (w.alloc (.cells #[.bool b, .slice A n c, .int .i64 x] 40)) [.bool b2, .slice A2 n2 c2, .int .i64 x2] 40
  simp only [World.size_alloc] at QB
  replace PB := Blk.alloc PB (.cells #[.bool b2, .slice A2 n2 c2, .int .i64 x2] 40)
  have bw : Below w.heap.size w ((w.alloc (.cells #[.bool b, .slice A n c, .int .i64 x] 40)).alloc (.cells #[.bool b2, .slice A2 n2 c2, .int .i64 x2] 40)) := by go_grown
  have PB_0 := Blk.cell PB 0 rfl
  have PB_1 := Blk.cell PB 1 rfl
  have PB_2 := Blk.cell PB 2 rfl
  have PB_f0 := Blk.free PB 0
  have PB_f1 := Blk.free PB 1
  have PB_f2 := Blk.free PB 2
  have QB_0 := Blk.cell QB 0 rfl
  have QB_1 := Blk.cell QB 1 rfl
  have QB_2 := Blk.cell QB 2 rfl
  have QB_f0 := Blk.free QB 0
  have QB_f1 := Blk.free QB 1
  have QB_f2 := Blk.free QB 2
  go_enter Tryz.func37, Tryz.ntmps37
  go_wp2_with fail
  with_reducible refine (dyTaken_yes (b := b) (x := x) (h.on (by go_grown)) hn (hT.onD (by go_grown)) ho).mono ?_
  rintro e w1 ⟨b3, q3, A3, c3, x3, rfl, hd3, m3, hb⟩
  clear PB_0 PB_1 PB_2 PB_f0 PB_f1 PB_f2
  clear QB_0 QB_1 QB_2 QB_f0 QB_f1 QB_f2
  have hs1 := hb.size
  try simp only [World.size_alloc, World.size_setCell] at hs1
  replace bw : Below w.heap.size w w1 := dy_end (by go_grown) hb
  replace PB := Blk.on PB hb
  replace QB := Blk.on QB hb
  clear hb
  have PB_0 := Blk.cell PB 0 rfl
  have PB_1 := Blk.cell PB 1 rfl
  have PB_2 := Blk.cell PB 2 rfl
  have PB_f0 := Blk.free PB 0
  have PB_f1 := Blk.free PB 1
  have PB_f2 := Blk.free PB 2
  have QB_0 := Blk.cell QB 0 rfl
  have QB_1 := Blk.cell QB 1 rfl
  have QB_2 := Blk.cell QB 2 rfl
  have QB_f0 := Blk.free QB 0
  have QB_f1 := Blk.free QB 1
  have QB_f2 := Blk.free QB 2
  replace m3 := Lv.put m3 PB (b3) (A3) (q3.length) (c3) (x3)
  replace QB := Blk.putO QB (g := w.heap.size) (by omega) (.bool (b3)) (.slice (A3) (q3.length) (c3)) (.int .i64 (x3))
  replace PB := Dbx.put PB (b3) (A3) (q3.length) (c3) (x3)
  go_wp2_with fail
  with_reducible refine (dyTaken_yes (b := b2) (x := x2) (h2.on (by go_grown)) hn2 (hT.onD (by go_grown)) ho2).mono ?_
  rintro e w2 ⟨b4, q4, A4, c4, x4, rfl, hd4, m4, hb⟩
  clear PB_0 PB_1 PB_2 PB_f0 PB_f1 PB_f2
  clear QB_0 QB_1 QB_2 QB_f0 QB_f1 QB_f2
  have hs2 := hb.size
  try simp only [World.size_alloc, World.size_setCell] at hs2
  replace bw : Below w.heap.size w w2 := dy_end (by go_grown) hb
  replace m3 := Lv.on m3 hb
  replace PB := Blk.on PB hb
  replace QB := Blk.on QB hb
  clear hb
  have PB_0 := Blk.cell PB 0 rfl
  have PB_1 := Blk.cell PB 1 rfl
  have PB_2 := Blk.cell PB 2 rfl
  have PB_f0 := Blk.free PB 0
  have PB_f1 := Blk.free PB 1
  have PB_f2 := Blk.free PB 2
  have QB_0 := Blk.cell QB 0 rfl
  have QB_1 := Blk.cell QB 1 rfl
  have QB_2 := Blk.cell QB 2 rfl
  have QB_f0 := Blk.free QB 0
  have QB_f1 := Blk.free QB 1
  have QB_f2 := Blk.free QB 2
  replace m3 := Lv.put m3 QB (b4) (A4) (q4.length) (c4) (x4)
  replace m4 := Lv.put m4 QB (b4) (A4) (q4.length) (c4) (x4)
  replace PB := Blk.putO PB (g := (w.heap.size + 1)) (by omega) (.bool (b4)) (.slice (A4) (q4.length) (c4)) (.int .i64 (x4))
  replace QB := Dbx.put QB (b4) (A4) (q4.length) (c4) (x4)
  have X3 := exp_bd h hn ho hd3
  have X4 := exp_bd h2 hn2 ho2 hd4
  go_wp2_with fail
  with_reducible refine (hc hd3 m3 hd4 m4 (hT.onD (by go_grown)) X3.1 X3.2 X4.1 X4.2).mono ?_
  rintro e w3 ⟨rfl, hb⟩
  clear PB_0 PB_1 PB_2 PB_f0 PB_f1 PB_f2
  clear QB_0 QB_1 QB_2 QB_f0 QB_f1 QB_f2
  have hs3 := hb.size
  try simp only [World.size_alloc, World.size_setCell] at hs3
  replace bw : Below w.heap.size w w3 := dy_end (by go_grown) hb
  replace m3 := Lv.on m3 hb
  replace m4 := Lv.on m4 hb
  replace PB := Blk.on PB hb
  replace QB := Blk.on QB hb
  clear hb
  have PB_0 := Blk.cell PB 0 rfl
  have PB_1 := Blk.cell PB 1 rfl
  have PB_2 := Blk.cell PB 2 rfl
  have PB_f0 := Blk.free PB 0
  have PB_f1 := Blk.free PB 1
  have PB_f2 := Blk.free PB 2
  have QB_0 := Blk.cell QB 0 rfl
  have QB_1 := Blk.cell QB 1 rfl
  have QB_2 := Blk.cell QB 2 rfl
  have QB_f0 := Blk.free QB 0
  have QB_f1 := Blk.free QB 1
  have QB_f2 := Blk.free QB 2
  go_wp2_with fail
  go_ret2
  exact ⟨rfl, by go_grown⟩

set_option maxRecDepth 100000 in
set_option maxHeartbeats 4000000 in
theorem dCmp_yes (h : Lv w A n c l) (hn : n ≤ 4096) (h2 : Lv w A2 n2 c2 l2) (hn2 : n2 ≤ 4096) (hT : Tab w) (ho : okE x = true) (ho2 : okE x2 = true) {v k : Int} (hc : OrdC (nfl b (val 18446744073709551616 l) x) (nfl b2 (val 18446744073709551616 l2) x2) v k) :
    Calls Tryz.prog 14 #[dyV b A n c x, dyV b2 A2 n2 c2 x2] w fun e w' => e = .returned (.tuple #[.int .i64 v, .int .i64 k]) ∧ Below w.heap.size w w' := by
  have PB := Blk.new w [.bool b, .slice A n c, .int .i64 x] 40
  have QB := Blk.new (w.alloc (.cells #[.bool b, .slice A n c, .int .i64 x] 40)) [.bool b2, .slice A2 n2 c2, .int .i64 x2] 40
  simp only [World.size_alloc] at QB
  replace PB := Blk.alloc PB (.cells #[.bool b2, .slice A2 n2 c2, .int .i64 x2] 40)
  have bw : Below w.heap.size w ((w.alloc (.cells #[.bool b, .slice A n c, .int .i64 x] 40)).alloc (.cells #[.bool b2, .slice A2 n2 c2, .int .i64 x2] 40)) := by go_grown
  have PB_0 := Blk.cell PB 0 rfl
  have PB_1 := Blk.cell PB 1 rfl
  have PB_2 := Blk.cell PB 2 rfl
  have PB_f0 := Blk.free PB 0
  have PB_f1 := Blk.free PB 1
  have PB_f2 := Blk.free PB 2
  have QB_0 := Blk.cell QB 0 rfl
  have QB_1 := Blk.cell QB 1 rfl
  have QB_2 := Blk.cell QB 2 rfl
  have QB_f0 := Blk.free QB 0
  have QB_f1 := Blk.free QB 1
  have QB_f2 := Blk.free QB 2
  go_enter Tryz.func14, Tryz.ntmps14
  go_wp2_with fail
  with_reducible refine (both_order (b := b) (b2 := b2) (x := x) (x2 := x2) (h.on (by go_grown)) hn (h2.on (by go_grown)) hn2 (hT.onD (by go_grown)) ho ho2 hc).mono ?_
  rintro e w1 ⟨rfl, hb⟩
  clear PB_0 PB_1 PB_2 PB_f0 PB_f1 PB_f2
  clear QB_0 QB_1 QB_2 QB_f0 QB_f1 QB_f2
  have hs1 := hb.size
  try simp only [World.size_alloc, World.size_setCell] at hs1
  replace bw : Below w.heap.size w w1 := dy_end (by go_grown) hb
  replace PB := Blk.on PB hb
  replace QB := Blk.on QB hb
  clear hb
  have PB_0 := Blk.cell PB 0 rfl
  have PB_1 := Blk.cell PB 1 rfl
  have PB_2 := Blk.cell PB 2 rfl
  have PB_f0 := Blk.free PB 0
  have PB_f1 := Blk.free PB 1
  have PB_f2 := Blk.free PB 2
  have QB_0 := Blk.cell QB 0 rfl
  have QB_1 := Blk.cell QB 1 rfl
  have QB_2 := Blk.cell QB 2 rfl
  have QB_f0 := Blk.free QB 0
  have QB_f1 := Blk.free QB 1
  have QB_f2 := Blk.free QB 2
  go_wp2_with fail
  go_ret2
  exact ⟨rfl, by go_grown⟩


theorem dCmp_dn {d d2 : Nf} (hd : Dn b l x d) (h : Lv w A l.length c l) (hd2 : Dn b2 l2 x2 d2) (h2 : Lv w A2 l2.length c2 l2) (hT : Tab w) (ho : okE x = true) (ho2 : okE x2 = true) {v k : Int} (hc : OrdC d d2 v k) :
    Calls Tryz.prog 14 #[dyV b A l.length c x, dyV b2 A2 l2.length c2 x2] w fun e w' => e = .returned (.tuple #[.int .i64 v, .int .i64 k]) ∧ Below w.heap.size w w' :=
  dCmp_yes (b := b) (b2 := b2) (x := x) (x2 := x2) h hd.2.1 h2 hd2.2.1 hT ho ho2 (by rw [hd.is h.2.2, hd2.is h2.2.2]; exact hc)
/-- by the signs -/
theorem ord_signs {d d2 : Nf} (hs : sgn d ≠ sgn d2 ∨ sgn d = 0) (hf : d.man ≠ 0 → d2.man ≠ 0 → farN d d2 = false) : OrdC d d2 (cmpS (sgn d) (sgn d2)) 0 := by
  intro b b2 A A2 c c2 x x2 l l2 w hd h hd2 h2 hT x0 x1 y0 y1
  have e1 := sgn_dn hd h.2.2
  have e2 := sgn_dn hd2 h2.2.2
  have r1 : sgn d = -1 ∨ sgn d = 0 ∨ sgn d = 1 := by unfold sgn; repeat' split <;> simp
  have r2 : sgn d2 = -1 ∨ sgn d2 = 0 ∨ sgn d2 = 1 := by unfold sgn; repeat' split <;> simp
  have hfar : sgn d ≠ 0 → sgn d2 ≠ 0 → x - x2 ≤ 262144 ∧ x2 - x ≤ 262144 := by
    intro a1 a2
    have m1 : d.man ≠ 0 := fun e => a1 (by unfold sgn; rw [if_pos e])
    have m2 : d2.man ≠ 0 := fun e => a2 (by unfold sgn; rw [if_pos e])
    have := hf m1 m2
    unfold farN farB at this
    rw [hd.exp, hd2.exp] at this
    simp [m1, m2] at this
    omega
  rcases r1 with r1 | r1 | r1 <;> rcases r2 with r2 | r2 | r2 <;> rw [r1] at hs e1 hfar ⊢ <;> rw [r2] at hs e2 hfar ⊢
  · simp at hs
  · exact order_nz e1 e2
  · exact order_np e1 e2 x0 x1 y0 y1 (hfar (by decide) (by decide))
  · exact order_zn e1 e2
  · exact order_zz e1 e2
  · exact order_zp e1 e2
  · exact order_pn e1 e2 x0 x1 y0 y1 (hfar (by decide) (by decide))
  · exact order_pz e1 e2
  · simp at hs
theorem ord_far {d d2 : Nf} (hs : sgn d = sgn d2) (h0 : sgn d ≠ 0) (hf : farN d d2 = true) : OrdC d d2 0 3 := by
  intro b b2 A A2 c c2 x x2 l l2 w hd h hd2 h2 hT x0 x1 y0 y1
  have e1 := sgn_dn hd h.2.2
  have e2 := sgn_dn hd2 h2.2.2
  have r1 : sgn d = -1 ∨ sgn d = 0 ∨ sgn d = 1 := by unfold sgn; repeat' split <;> simp
  have g : 262144 < x - x2 ∨ 262144 < x2 - x := by
    unfold farN farB at hf
    rw [hd.exp, hd2.exp] at hf
    simp at hf
    omega
  rcases r1 with r1 | r1 | r1
  · rw [← hs, r1] at e2
    rw [r1] at e1
    exact order_far_n e1 e2 x0 x1 y0 y1 g
  · exact absurd r1 h0
  · rw [← hs, r1] at e2
    rw [r1] at e1
    exact order_far_p e1 e2 x0 x1 y0 y1 g
end
end Go.Proofs.YtcdbjlmegkcaiaaGreatDoor
