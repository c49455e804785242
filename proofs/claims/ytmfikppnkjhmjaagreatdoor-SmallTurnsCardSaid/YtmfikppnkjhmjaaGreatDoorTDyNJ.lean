/-
  Layer 3, the laws: comparisons of numbers of one sign. (Written by a script of wip/tools.)
-/
import Derived.Test.YtmfikppnkjhmjaaGreatDoorTDyW
import Derived.Deep.Cut
namespace Go.Proofs.YtmfikppnkjhmjaaGreatDoor
open Go.RowKit Go.Sort Go.Bw
set_option linter.unusedVariables false
set_option linter.unusedSimpArgs false

section
variable {b : Bool} {A : Option Addr} {n c : Nat} {x : Int} {l : List Int} {w : World}
variable {b2 : Bool} {A2 : Option Addr} {n2 c2 : Nat} {x2 : Int} {l2 : List Int} {d d2 : Nf}
set_option maxRecDepth 100000 in
set_option maxHeartbeats 8000000 in
theorem order_lt_p (h : Lv w A n c l) (hn : n ≤ 4096) (h2 : Lv w A2 n2 c2 l2) (hn2 : n2 ≤ 4096) (hs1 : sgnV b n = 1) (hs2 : sgnV b2 n2 = 1) (x0 : -1048576 ≤ x) (x1 : x ≤ 1048576) (y0 : -1048576 ≤ x2) (y1 : x2 ≤ 1048576) (hf : x - x2 ≤ 262144 ∧ x2 - x ≤ 262144) {k k2 : Nat} (hk : IsBits (val 18446744073709551616 l) k) (hk2 : IsBits (val 18446744073709551616 l2) k2) {u v : Int} (hu : x + (k : Int) = u) (hv : x2 + (k2 : Int) = v) (hlt : u < v) :
    Calls Tryz.prog 42 #[dyV b A n c x, dyV b2 A2 n2 c2 x2] w fun e w' => e = .returned (.tuple #[.int .i64 (-1), .int .i64 0]) ∧ Below w.heap.size w w' := by
  have n1 : (u != v) = true := by simp; omega
  have n3 : (u == v) = false := by simp; omega
  have hc : Lib.compareInt u v = -1 := by unfold Lib.compareInt; rw [if_pos hlt]
  have pc := fun W => cmp_bel u v W
  rw [hc] at pc
  clear hc
  have pu := fun W (mm : Lv W A n c l) => height_any (b := b) (x := x) mm hn hk x0 x1
  have pv := fun W (mm : Lv W A2 n2 c2 l2) => height_any (b := b2) (x := x2) mm hn2 hk2 y0 y1
  rw [hu] at pu
  rw [hv] at pv
  clear hu hv hk hk2
  have PB := Blk.new w [.bool b, .slice A n c, .int .i64 x] 31
  have QB := Blk.new (w.alloc (.cells #[.bool b, .slice A n c, .int .i64 x] 31)) [.bool b2, .slice A2 n2 c2, .int .i64 x2] 31
  simp only [World.size_alloc] at QB
  replace PB := Blk.alloc PB (.cells #[.bool b2, .slice A2 n2 c2, .int .i64 x2] 31)
  have bw : Below w.heap.size w ((w.alloc (.cells #[.bool b, .slice A n c, .int .i64 x] 31)).alloc (.cells #[.bool b2, .slice A2 n2 c2, .int .i64 x2] 31)) := by go_grown
  obtain ⟨PB_0, PB_1, PB_2, PB_f0, PB_f1, PB_f2⟩ := Dbx.cells PB
  obtain ⟨QB_0, QB_1, QB_2, QB_f0, QB_f1, QB_f2⟩ := Dbx.cells QB
  go_enter Tryz.func42, Tryz.ntmps42
  go_wp2_with fail
  have cA := fun d os => Calls.regrown_of (w := ((w.alloc (.cells #[.bool b, .slice A n c, .int .i64 x] 31)).alloc (.cells #[.bool b2, .slice A2 n2 c2, .int .i64 x2] 31))) (d := d) (os := os) (signOf_bel b A n c _ hs1)
  have cB := fun d os => Calls.regrown_of (w := ((w.alloc (.cells #[.bool b, .slice A n c, .int .i64 x] 31)).alloc (.cells #[.bool b2, .slice A2 n2 c2, .int .i64 x2] 31))) (d := d) (os := os) (signOf_bel b2 A2 n2 c2 _ hs2)
  have PB_r0 := cell_regrown PB_0
  have PB_r1 := cell_regrown PB_1
  have PB_r2 := cell_regrown PB_2
  have QB_r0 := cell_regrown QB_0
  have QB_r1 := cell_regrown QB_1
  have QB_r2 := cell_regrown QB_2
  refine wp_region_quiet_below mixed (by kernel_rfl) ?_
  repeat (quiet_step (first | (with_reducible exact cA _ _) | (with_reducible exact cB _ _)))
  refine wpQuiet_nil ?_
  intro _ hw'
  obtain ⟨⟨dq, osq⟩, hw''⟩ := hw'
  subst hw''
  have hb := below_regrown ((w.alloc (.cells #[.bool b, .slice A n c, .int .i64 x] 31)).alloc (.cells #[.bool b2, .slice A2 n2 c2, .int .i64 x2] 31)) dq osq
  clear PB_r0 PB_r1 PB_r2 QB_r0 QB_r1 QB_r2 cA cB
  generalize grow (redrawn ((w.alloc (.cells #[.bool b, .slice A n c, .int .i64 x] 31)).alloc (.cells #[.bool b2, .slice A2 n2 c2, .int .i64 x2] 31)) dq) osq = w1 at hb ⊢
  clear PB_0 PB_1 PB_2 PB_f0 PB_f1 PB_f2
  clear QB_0 QB_1 QB_2 QB_f0 QB_f1 QB_f2
  replace bw : Below w.heap.size w w1 := dy_end (by go_grown) hb
  replace PB := Blk.on PB hb
  replace QB := Blk.on QB hb
  have hs1 := hb.size
  try simp only [World.size_alloc] at hs1
  clear hb
  obtain ⟨PB_0, PB_1, PB_2, PB_f0, PB_f1, PB_f2⟩ := Dbx.cells PB
  obtain ⟨QB_0, QB_1, QB_2, QB_f0, QB_f1, QB_f2⟩ := Dbx.cells QB
  go_wp2_with fail
  with_reducible refine (tooFar_false b b2 A A2 n n2 c c2 _ x0 x1 y0 y1 hf).mono ?_
  rintro e w2 ⟨rfl, hb⟩
  clear PB_0 PB_1 PB_2 PB_f0 PB_f1 PB_f2
  clear QB_0 QB_1 QB_2 QB_f0 QB_f1 QB_f2
  have hs2 := hb.size
  try simp only [World.size_alloc, World.size_setCell] at hs2
  replace bw : Below w.heap.size w w2 := dy_end (by go_grown) hb
  replace PB := Blk.on PB hb
  replace QB := Blk.on QB hb
  clear hb
  obtain ⟨PB_0, PB_1, PB_2, PB_f0, PB_f1, PB_f2⟩ := Dbx.cells PB
  obtain ⟨QB_0, QB_1, QB_2, QB_f0, QB_f1, QB_f2⟩ := Dbx.cells QB
  go_wp2_with fail
  have cA := fun d os => Calls.regrown_of (w := w2) (d := d) (os := os) (pu _ (h.on (dy_end bw (below_regrown _ d os))))
  have cB := fun d os => Calls.regrown_of (w := w2) (d := d) (os := os) (pv _ (h2.on (dy_end bw (below_regrown _ d os))))
  have PB_r0 := cell_regrown PB_0
  have PB_r1 := cell_regrown PB_1
  have PB_r2 := cell_regrown PB_2
  have QB_r0 := cell_regrown QB_0
  have QB_r1 := cell_regrown QB_1
  have QB_r2 := cell_regrown QB_2
  refine wp_region_quiet_below mixed (by kernel_rfl) ?_
  repeat (quiet_step (first | (with_reducible exact cA _ _) | (with_reducible exact cB _ _)))
  refine wpQuiet_nil ?_
  intro _ hw'
  obtain ⟨⟨dq, osq⟩, hw''⟩ := hw'
  subst hw''
  have hb := below_regrown (w2) dq osq
  clear PB_r0 PB_r1 PB_r2 QB_r0 QB_r1 QB_r2 cA cB
  generalize grow (redrawn (w2) dq) osq = w3 at hb ⊢
  clear PB_0 PB_1 PB_2 PB_f0 PB_f1 PB_f2
  clear QB_0 QB_1 QB_2 QB_f0 QB_f1 QB_f2
  replace bw : Below w.heap.size w w3 := dy_end (by go_grown) hb
  replace PB := Blk.on PB hb
  replace QB := Blk.on QB hb
  have hs3 := hb.size
  try simp only [World.size_alloc] at hs3
  clear hb
  obtain ⟨PB_0, PB_1, PB_2, PB_f0, PB_f1, PB_f2⟩ := Dbx.cells PB
  obtain ⟨QB_0, QB_1, QB_2, QB_f0, QB_f1, QB_f2⟩ := Dbx.cells QB
  go_wp2_with fail
  have cA := fun d os => Calls.regrown_of (w := w3) (d := d) (os := os) (pu _ (h.on (dy_end bw (below_regrown _ d os))))
  have cB := fun d os => Calls.regrown_of (w := w3) (d := d) (os := os) (pv _ (h2.on (dy_end bw (below_regrown _ d os))))
  have cC := fun d os => Calls.regrown_of (w := w3) (d := d) (os := os) (pc _)
  have PB_r0 := cell_regrown PB_0
  have PB_r1 := cell_regrown PB_1
  have PB_r2 := cell_regrown PB_2
  have QB_r0 := cell_regrown QB_0
  have QB_r1 := cell_regrown QB_1
  have QB_r2 := cell_regrown QB_2
  refine wp_region_quiet_below mixed (by kernel_rfl) ?_
  repeat (quiet_step (first | (with_reducible exact cA _ _) | (with_reducible exact cB _ _) | (with_reducible exact cC _ _)))
  refine wpQuiet_nil ?_
  intro _ hw'
  obtain ⟨⟨dq, osq⟩, hw''⟩ := hw'
  subst hw''
  have hb := below_regrown (w3) dq osq
  clear PB_r0 PB_r1 PB_r2 QB_r0 QB_r1 QB_r2 cA cB cC
  generalize grow (redrawn (w3) dq) osq = w4 at hb ⊢
  clear PB_0 PB_1 PB_2 PB_f0 PB_f1 PB_f2
  clear QB_0 QB_1 QB_2 QB_f0 QB_f1 QB_f2
  replace bw : Below w.heap.size w w4 := dy_end (by go_grown) hb
  replace PB := Blk.on PB hb
  replace QB := Blk.on QB hb
  have hs4 := hb.size
  try simp only [World.size_alloc] at hs4
  clear hb
  obtain ⟨PB_0, PB_1, PB_2, PB_f0, PB_f1, PB_f2⟩ := Dbx.cells PB
  obtain ⟨QB_0, QB_1, QB_2, QB_f0, QB_f1, QB_f2⟩ := Dbx.cells QB
  go_wp2_with fail
  go_ret2
  exact ⟨rfl, by go_grown⟩

set_option maxRecDepth 100000 in
set_option maxHeartbeats 8000000 in
theorem order_gt_p (h : Lv w A n c l) (hn : n ≤ 4096) (h2 : Lv w A2 n2 c2 l2) (hn2 : n2 ≤ 4096) (hs1 : sgnV b n = 1) (hs2 : sgnV b2 n2 = 1) (x0 : -1048576 ≤ x) (x1 : x ≤ 1048576) (y0 : -1048576 ≤ x2) (y1 : x2 ≤ 1048576) (hf : x - x2 ≤ 262144 ∧ x2 - x ≤ 262144) {k k2 : Nat} (hk : IsBits (val 18446744073709551616 l) k) (hk2 : IsBits (val 18446744073709551616 l2) k2) {u v : Int} (hu : x + (k : Int) = u) (hv : x2 + (k2 : Int) = v) (hlt : v < u) :
    Calls Tryz.prog 42 #[dyV b A n c x, dyV b2 A2 n2 c2 x2] w fun e w' => e = .returned (.tuple #[.int .i64 1, .int .i64 0]) ∧ Below w.heap.size w w' := by
  have n1 : (u != v) = true := by simp; omega
  have n3 : (u == v) = false := by simp; omega
  have hc : Lib.compareInt u v = 1 := by unfold Lib.compareInt; rw [if_neg (by omega), if_pos (by omega)]
  have pc := fun W => cmp_bel u v W
  rw [hc] at pc
  clear hc
  have pu := fun W (mm : Lv W A n c l) => height_any (b := b) (x := x) mm hn hk x0 x1
  have pv := fun W (mm : Lv W A2 n2 c2 l2) => height_any (b := b2) (x := x2) mm hn2 hk2 y0 y1
  rw [hu] at pu
  rw [hv] at pv
  clear hu hv hk hk2
  have PB := Blk.new w [.bool b, .slice A n c, .int .i64 x] 31
  have QB := Blk.new (w.alloc (.cells #[.bool b, .slice A n c, .int .i64 x] 31)) [.bool b2, .slice A2 n2 c2, .int .i64 x2] 31
  simp only [World.size_alloc] at QB
  replace PB := Blk.alloc PB (.cells #[.bool b2, .slice A2 n2 c2, .int .i64 x2] 31)
  have bw : Below w.heap.size w ((w.alloc (.cells #[.bool b, .slice A n c, .int .i64 x] 31)).alloc (.cells #[.bool b2, .slice A2 n2 c2, .int .i64 x2] 31)) := by go_grown
  obtain ⟨PB_0, PB_1, PB_2, PB_f0, PB_f1, PB_f2⟩ := Dbx.cells PB
  obtain ⟨QB_0, QB_1, QB_2, QB_f0, QB_f1, QB_f2⟩ := Dbx.cells QB
  go_enter Tryz.func42, Tryz.ntmps42
  go_wp2_with fail
  have cA := fun d os => Calls.regrown_of (w := ((w.alloc (.cells #[.bool b, .slice A n c, .int .i64 x] 31)).alloc (.cells #[.bool b2, .slice A2 n2 c2, .int .i64 x2] 31))) (d := d) (os := os) (signOf_bel b A n c _ hs1)
  have cB := fun d os => Calls.regrown_of (w := ((w.alloc (.cells #[.bool b, .slice A n c, .int .i64 x] 31)).alloc (.cells #[.bool b2, .slice A2 n2 c2, .int .i64 x2] 31))) (d := d) (os := os) (signOf_bel b2 A2 n2 c2 _ hs2)
  have PB_r0 := cell_regrown PB_0
  have PB_r1 := cell_regrown PB_1
  have PB_r2 := cell_regrown PB_2
  have QB_r0 := cell_regrown QB_0
  have QB_r1 := cell_regrown QB_1
  have QB_r2 := cell_regrown QB_2
  refine wp_region_quiet_below mixed (by kernel_rfl) ?_
  repeat (quiet_step (first | (with_reducible exact cA _ _) | (with_reducible exact cB _ _)))
  refine wpQuiet_nil ?_
  intro _ hw'
  obtain ⟨⟨dq, osq⟩, hw''⟩ := hw'
  subst hw''
  have hb := below_regrown ((w.alloc (.cells #[.bool b, .slice A n c, .int .i64 x] 31)).alloc (.cells #[.bool b2, .slice A2 n2 c2, .int .i64 x2] 31)) dq osq
  clear PB_r0 PB_r1 PB_r2 QB_r0 QB_r1 QB_r2 cA cB
  generalize grow (redrawn ((w.alloc (.cells #[.bool b, .slice A n c, .int .i64 x] 31)).alloc (.cells #[.bool b2, .slice A2 n2 c2, .int .i64 x2] 31)) dq) osq = w1 at hb ⊢
  clear PB_0 PB_1 PB_2 PB_f0 PB_f1 PB_f2
  clear QB_0 QB_1 QB_2 QB_f0 QB_f1 QB_f2
  replace bw : Below w.heap.size w w1 := dy_end (by go_grown) hb
  replace PB := Blk.on PB hb
  replace QB := Blk.on QB hb
  have hs1 := hb.size
  try simp only [World.size_alloc] at hs1
  clear hb
  obtain ⟨PB_0, PB_1, PB_2, PB_f0, PB_f1, PB_f2⟩ := Dbx.cells PB
  obtain ⟨QB_0, QB_1, QB_2, QB_f0, QB_f1, QB_f2⟩ := Dbx.cells QB
  go_wp2_with fail
  with_reducible refine (tooFar_false b b2 A A2 n n2 c c2 _ x0 x1 y0 y1 hf).mono ?_
  rintro e w2 ⟨rfl, hb⟩
  clear PB_0 PB_1 PB_2 PB_f0 PB_f1 PB_f2
  clear QB_0 QB_1 QB_2 QB_f0 QB_f1 QB_f2
  have hs2 := hb.size
  try simp only [World.size_alloc, World.size_setCell] at hs2
  replace bw : Below w.heap.size w w2 := dy_end (by go_grown) hb
  replace PB := Blk.on PB hb
  replace QB := Blk.on QB hb
  clear hb
  obtain ⟨PB_0, PB_1, PB_2, PB_f0, PB_f1, PB_f2⟩ := Dbx.cells PB
  obtain ⟨QB_0, QB_1, QB_2, QB_f0, QB_f1, QB_f2⟩ := Dbx.cells QB
  go_wp2_with fail
  have cA := fun d os => Calls.regrown_of (w := w2) (d := d) (os := os) (pu _ (h.on (dy_end bw (below_regrown _ d os))))
  have cB := fun d os => Calls.regrown_of (w := w2) (d := d) (os := os) (pv _ (h2.on (dy_end bw (below_regrown _ d os))))
  have PB_r0 := cell_regrown PB_0
  have PB_r1 := cell_regrown PB_1
  have PB_r2 := cell_regrown PB_2
  have QB_r0 := cell_regrown QB_0
  have QB_r1 := cell_regrown QB_1
  have QB_r2 := cell_regrown QB_2
  refine wp_region_quiet_below mixed (by kernel_rfl) ?_
  repeat (quiet_step (first | (with_reducible exact cA _ _) | (with_reducible exact cB _ _)))
  refine wpQuiet_nil ?_
  intro _ hw'
  obtain ⟨⟨dq, osq⟩, hw''⟩ := hw'
  subst hw''
  have hb := below_regrown (w2) dq osq
  clear PB_r0 PB_r1 PB_r2 QB_r0 QB_r1 QB_r2 cA cB
  generalize grow (redrawn (w2) dq) osq = w3 at hb ⊢
  clear PB_0 PB_1 PB_2 PB_f0 PB_f1 PB_f2
  clear QB_0 QB_1 QB_2 QB_f0 QB_f1 QB_f2
  replace bw : Below w.heap.size w w3 := dy_end (by go_grown) hb
  replace PB := Blk.on PB hb
  replace QB := Blk.on QB hb
  have hs3 := hb.size
  try simp only [World.size_alloc] at hs3
  clear hb
  obtain ⟨PB_0, PB_1, PB_2, PB_f0, PB_f1, PB_f2⟩ := Dbx.cells PB
  obtain ⟨QB_0, QB_1, QB_2, QB_f0, QB_f1, QB_f2⟩ := Dbx.cells QB
  go_wp2_with fail
  have cA := fun d os => Calls.regrown_of (w := w3) (d := d) (os := os) (pu _ (h.on (dy_end bw (below_regrown _ d os))))
  have cB := fun d os => Calls.regrown_of (w := w3) (d := d) (os := os) (pv _ (h2.on (dy_end bw (below_regrown _ d os))))
  have cC := fun d os => Calls.regrown_of (w := w3) (d := d) (os := os) (pc _)
  have PB_r0 := cell_regrown PB_0
  have PB_r1 := cell_regrown PB_1
  have PB_r2 := cell_regrown PB_2
  have QB_r0 := cell_regrown QB_0
  have QB_r1 := cell_regrown QB_1
  have QB_r2 := cell_regrown QB_2
  refine wp_region_quiet_below mixed (by kernel_rfl) ?_
  repeat (quiet_step (first | (with_reducible exact cA _ _) | (with_reducible exact cB _ _) | (with_reducible exact cC _ _)))
  refine wpQuiet_nil ?_
  intro _ hw'
  obtain ⟨⟨dq, osq⟩, hw''⟩ := hw'
  subst hw''
  have hb := below_regrown (w3) dq osq
  clear PB_r0 PB_r1 PB_r2 QB_r0 QB_r1 QB_r2 cA cB cC
  generalize grow (redrawn (w3) dq) osq = w4 at hb ⊢
  clear PB_0 PB_1 PB_2 PB_f0 PB_f1 PB_f2
  clear QB_0 QB_1 QB_2 QB_f0 QB_f1 QB_f2
  replace bw : Below w.heap.size w w4 := dy_end (by go_grown) hb
  replace PB := Blk.on PB hb
  replace QB := Blk.on QB hb
  have hs4 := hb.size
  try simp only [World.size_alloc] at hs4
  clear hb
  obtain ⟨PB_0, PB_1, PB_2, PB_f0, PB_f1, PB_f2⟩ := Dbx.cells PB
  obtain ⟨QB_0, QB_1, QB_2, QB_f0, QB_f1, QB_f2⟩ := Dbx.cells QB
  go_wp2_with fail
  go_ret2
  exact ⟨rfl, by go_grown⟩

set_option maxRecDepth 100000 in
set_option maxHeartbeats 8000000 in
theorem order_lt_n (h : Lv w A n c l) (hn : n ≤ 4096) (h2 : Lv w A2 n2 c2 l2) (hn2 : n2 ≤ 4096) (hs1 : sgnV b n = -1) (hs2 : sgnV b2 n2 = -1) (x0 : -1048576 ≤ x) (x1 : x ≤ 1048576) (y0 : -1048576 ≤ x2) (y1 : x2 ≤ 1048576) (hf : x - x2 ≤ 262144 ∧ x2 - x ≤ 262144) {k k2 : Nat} (hk : IsBits (val 18446744073709551616 l) k) (hk2 : IsBits (val 18446744073709551616 l2) k2) {u v : Int} (hu : x + (k : Int) = u) (hv : x2 + (k2 : Int) = v) (hlt : u < v) :
    Calls Tryz.prog 42 #[dyV b A n c x, dyV b2 A2 n2 c2 x2] w fun e w' => e = .returned (.tuple #[.int .i64 1, .int .i64 0]) ∧ Below w.heap.size w w' := by
  have n1 : (u != v) = true := by simp; omega
  have n3 : (u == v) = false := by simp; omega
  have hc : Lib.compareInt u v = -1 := by unfold Lib.compareInt; rw [if_pos hlt]
  have pc := fun W => cmp_bel u v W
  rw [hc] at pc
  clear hc
  have pu := fun W (mm : Lv W A n c l) => height_any (b := b) (x := x) mm hn hk x0 x1
  have pv := fun W (mm : Lv W A2 n2 c2 l2) => height_any (b := b2) (x := x2) mm hn2 hk2 y0 y1
  rw [hu] at pu
  rw [hv] at pv
  clear hu hv hk hk2
  have PB := Blk.new w [.bool b, .slice A n c, .int .i64 x] 31
  have QB := Blk.new (w.alloc (.cells #[.bool b, .slice A n c, .int .i64 x] 31)) [.bool b2, .slice A2 n2 c2, .int .i64 x2] 31
  simp only [World.size_alloc] at QB
  replace PB := Blk.alloc PB (.cells #[.bool b2, .slice A2 n2 c2, .int .i64 x2] 31)
  have bw : Below w.heap.size w ((w.alloc (.cells #[.bool b, .slice A n c, .int .i64 x] 31)).alloc (.cells #[.bool b2, .slice A2 n2 c2, .int .i64 x2] 31)) := by go_grown
  obtain ⟨PB_0, PB_1, PB_2, PB_f0, PB_f1, PB_f2⟩ := Dbx.cells PB
  obtain ⟨QB_0, QB_1, QB_2, QB_f0, QB_f1, QB_f2⟩ := Dbx.cells QB
  go_enter Tryz.func42, Tryz.ntmps42
  go_wp2_with fail
  have cA := fun d os => Calls.regrown_of (w := ((w.alloc (.cells #[.bool b, .slice A n c, .int .i64 x] 31)).alloc (.cells #[.bool b2, .slice A2 n2 c2, .int .i64 x2] 31))) (d := d) (os := os) (signOf_bel b A n c _ hs1)
  have cB := fun d os => Calls.regrown_of (w := ((w.alloc (.cells #[.bool b, .slice A n c, .int .i64 x] 31)).alloc (.cells #[.bool b2, .slice A2 n2 c2, .int .i64 x2] 31))) (d := d) (os := os) (signOf_bel b2 A2 n2 c2 _ hs2)
  have PB_r0 := cell_regrown PB_0
  have PB_r1 := cell_regrown PB_1
  have PB_r2 := cell_regrown PB_2
  have QB_r0 := cell_regrown QB_0
  have QB_r1 := cell_regrown QB_1
  have QB_r2 := cell_regrown QB_2
  refine wp_region_quiet_below mixed (by kernel_rfl) ?_
  repeat (quiet_step (first | (with_reducible exact cA _ _) | (with_reducible exact cB _ _)))
  refine wpQuiet_nil ?_
  intro _ hw'
  obtain ⟨⟨dq, osq⟩, hw''⟩ := hw'
  subst hw''
  have hb := below_regrown ((w.alloc (.cells #[.bool b, .slice A n c, .int .i64 x] 31)).alloc (.cells #[.bool b2, .slice A2 n2 c2, .int .i64 x2] 31)) dq osq
  clear PB_r0 PB_r1 PB_r2 QB_r0 QB_r1 QB_r2 cA cB
  generalize grow (redrawn ((w.alloc (.cells #[.bool b, .slice A n c, .int .i64 x] 31)).alloc (.cells #[.bool b2, .slice A2 n2 c2, .int .i64 x2] 31)) dq) osq = w1 at hb ⊢
  clear PB_0 PB_1 PB_2 PB_f0 PB_f1 PB_f2
  clear QB_0 QB_1 QB_2 QB_f0 QB_f1 QB_f2
  replace bw : Below w.heap.size w w1 := dy_end (by go_grown) hb
  replace PB := Blk.on PB hb
  replace QB := Blk.on QB hb
  have hs1 := hb.size
  try simp only [World.size_alloc] at hs1
  clear hb
  obtain ⟨PB_0, PB_1, PB_2, PB_f0, PB_f1, PB_f2⟩ := Dbx.cells PB
  obtain ⟨QB_0, QB_1, QB_2, QB_f0, QB_f1, QB_f2⟩ := Dbx.cells QB
  go_wp2_with fail
  with_reducible refine (tooFar_false b b2 A A2 n n2 c c2 _ x0 x1 y0 y1 hf).mono ?_
  rintro e w2 ⟨rfl, hb⟩
  clear PB_0 PB_1 PB_2 PB_f0 PB_f1 PB_f2
  clear QB_0 QB_1 QB_2 QB_f0 QB_f1 QB_f2
  have hs2 := hb.size
  try simp only [World.size_alloc, World.size_setCell] at hs2
  replace bw : Below w.heap.size w w2 := dy_end (by go_grown) hb
  replace PB := Blk.on PB hb
  replace QB := Blk.on QB hb
  clear hb
  obtain ⟨PB_0, PB_1, PB_2, PB_f0, PB_f1, PB_f2⟩ := Dbx.cells PB
  obtain ⟨QB_0, QB_1, QB_2, QB_f0, QB_f1, QB_f2⟩ := Dbx.cells QB
  go_wp2_with fail
  have cA := fun d os => Calls.regrown_of (w := w2) (d := d) (os := os) (pu _ (h.on (dy_end bw (below_regrown _ d os))))
  have cB := fun d os => Calls.regrown_of (w := w2) (d := d) (os := os) (pv _ (h2.on (dy_end bw (below_regrown _ d os))))
  have PB_r0 := cell_regrown PB_0
  have PB_r1 := cell_regrown PB_1
  have PB_r2 := cell_regrown PB_2
  have QB_r0 := cell_regrown QB_0
  have QB_r1 := cell_regrown QB_1
  have QB_r2 := cell_regrown QB_2
  refine wp_region_quiet_below mixed (by kernel_rfl) ?_
  repeat (quiet_step (first | (with_reducible exact cA _ _) | (with_reducible exact cB _ _)))
  refine wpQuiet_nil ?_
  intro _ hw'
  obtain ⟨⟨dq, osq⟩, hw''⟩ := hw'
  subst hw''
  have hb := below_regrown (w2) dq osq
  clear PB_r0 PB_r1 PB_r2 QB_r0 QB_r1 QB_r2 cA cB
  generalize grow (redrawn (w2) dq) osq = w3 at hb ⊢
  clear PB_0 PB_1 PB_2 PB_f0 PB_f1 PB_f2
  clear QB_0 QB_1 QB_2 QB_f0 QB_f1 QB_f2
  replace bw : Below w.heap.size w w3 := dy_end (by go_grown) hb
  replace PB := Blk.on PB hb
  replace QB := Blk.on QB hb
  have hs3 := hb.size
  try simp only [World.size_alloc] at hs3
  clear hb
  obtain ⟨PB_0, PB_1, PB_2, PB_f0, PB_f1, PB_f2⟩ := Dbx.cells PB
  obtain ⟨QB_0, QB_1, QB_2, QB_f0, QB_f1, QB_f2⟩ := Dbx.cells QB
  go_wp2_with fail
  have cA := fun d os => Calls.regrown_of (w := w3) (d := d) (os := os) (pu _ (h.on (dy_end bw (below_regrown _ d os))))
  have cB := fun d os => Calls.regrown_of (w := w3) (d := d) (os := os) (pv _ (h2.on (dy_end bw (below_regrown _ d os))))
  have cC := fun d os => Calls.regrown_of (w := w3) (d := d) (os := os) (pc _)
  have PB_r0 := cell_regrown PB_0
  have PB_r1 := cell_regrown PB_1
  have PB_r2 := cell_regrown PB_2
  have QB_r0 := cell_regrown QB_0
  have QB_r1 := cell_regrown QB_1
  have QB_r2 := cell_regrown QB_2
  refine wp_region_quiet_below mixed (by kernel_rfl) ?_
  repeat (quiet_step (first | (with_reducible exact cA _ _) | (with_reducible exact cB _ _) | (with_reducible exact cC _ _)))
  refine wpQuiet_nil ?_
  intro _ hw'
  obtain ⟨⟨dq, osq⟩, hw''⟩ := hw'
  subst hw''
  have hb := below_regrown (w3) dq osq
  clear PB_r0 PB_r1 PB_r2 QB_r0 QB_r1 QB_r2 cA cB cC
  generalize grow (redrawn (w3) dq) osq = w4 at hb ⊢
  clear PB_0 PB_1 PB_2 PB_f0 PB_f1 PB_f2
  clear QB_0 QB_1 QB_2 QB_f0 QB_f1 QB_f2
  replace bw : Below w.heap.size w w4 := dy_end (by go_grown) hb
  replace PB := Blk.on PB hb
  replace QB := Blk.on QB hb
  have hs4 := hb.size
  try simp only [World.size_alloc] at hs4
  clear hb
  obtain ⟨PB_0, PB_1, PB_2, PB_f0, PB_f1, PB_f2⟩ := Dbx.cells PB
  obtain ⟨QB_0, QB_1, QB_2, QB_f0, QB_f1, QB_f2⟩ := Dbx.cells QB
  go_wp2_with fail
  go_ret2
  exact ⟨rfl, by go_grown⟩

set_option maxRecDepth 100000 in
set_option maxHeartbeats 8000000 in
theorem order_gt_n (h : Lv w A n c l) (hn : n ≤ 4096) (h2 : Lv w A2 n2 c2 l2) (hn2 : n2 ≤ 4096) (hs1 : sgnV b n = -1) (hs2 : sgnV b2 n2 = -1) (x0 : -1048576 ≤ x) (x1 : x ≤ 1048576) (y0 : -1048576 ≤ x2) (y1 : x2 ≤ 1048576) (hf : x - x2 ≤ 262144 ∧ x2 - x ≤ 262144) {k k2 : Nat} (hk : IsBits (val 18446744073709551616 l) k) (hk2 : IsBits (val 18446744073709551616 l2) k2) {u v : Int} (hu : x + (k : Int) = u) (hv : x2 + (k2 : Int) = v) (hlt : v < u) :
    Calls Tryz.prog 42 #[dyV b A n c x, dyV b2 A2 n2 c2 x2] w fun e w' => e = .returned (.tuple #[.int .i64 (-1), .int .i64 0]) ∧ Below w.heap.size w w' := by
  have n1 : (u != v) = true := by simp; omega
  have n3 : (u == v) = false := by simp; omega
  have hc : Lib.compareInt u v = 1 := by unfold Lib.compareInt; rw [if_neg (by omega), if_pos (by omega)]
  have pc := fun W => cmp_bel u v W
  rw [hc] at pc
  clear hc
  have pu := fun W (mm : Lv W A n c l) => height_any (b := b) (x := x) mm hn hk x0 x1
  have pv := fun W (mm : Lv W A2 n2 c2 l2) => height_any (b := b2) (x := x2) mm hn2 hk2 y0 y1
  rw [hu] at pu
  rw [hv] at pv
  clear hu hv hk hk2
  have PB := Blk.new w [.bool b, .slice A n c, .int .i64 x] 31
  have QB := Blk.new (w.alloc (.cells #[.bool b, .slice A n c, .int .i64 x] 31)) [.bool b2, .slice A2 n2 c2, .int .i64 x2] 31
  simp only [World.size_alloc] at QB
  replace PB := Blk.alloc PB (.cells #[.bool b2, .slice A2 n2 c2, .int .i64 x2] 31)
  have bw : Below w.heap.size w ((w.alloc (.cells #[.bool b, .slice A n c, .int .i64 x] 31)).alloc (.cells #[.bool b2, .slice A2 n2 c2, .int .i64 x2] 31)) := by go_grown
  obtain ⟨PB_0, PB_1, PB_2, PB_f0, PB_f1, PB_f2⟩ := Dbx.cells PB
  obtain ⟨QB_0, QB_1, QB_2, QB_f0, QB_f1, QB_f2⟩ := Dbx.cells QB
  go_enter Tryz.func42, Tryz.ntmps42
  go_wp2_with fail
  have cA := fun d os => Calls.regrown_of (w := ((w.alloc (.cells #[.bool b, .slice A n c, .int .i64 x] 31)).alloc (.cells #[.bool b2, .slice A2 n2 c2, .int .i64 x2] 31))) (d := d) (os := os) (signOf_bel b A n c _ hs1)
  have cB := fun d os => Calls.regrown_of (w := ((w.alloc (.cells #[.bool b, .slice A n c, .int .i64 x] 31)).alloc (.cells #[.bool b2, .slice A2 n2 c2, .int .i64 x2] 31))) (d := d) (os := os) (signOf_bel b2 A2 n2 c2 _ hs2)
  have PB_r0 := cell_regrown PB_0
  have PB_r1 := cell_regrown PB_1
  have PB_r2 := cell_regrown PB_2
  have QB_r0 := cell_regrown QB_0
  have QB_r1 := cell_regrown QB_1
  have QB_r2 := cell_regrown QB_2
  refine wp_region_quiet_below mixed (by kernel_rfl) ?_
  repeat (quiet_step (first | (with_reducible exact cA _ _) | (with_reducible exact cB _ _)))
  refine wpQuiet_nil ?_
  intro _ hw'
  obtain ⟨⟨dq, osq⟩, hw''⟩ := hw'
  subst hw''
  have hb := below_regrown ((w.alloc (.cells #[.bool b, .slice A n c, .int .i64 x] 31)).alloc (.cells #[.bool b2, .slice A2 n2 c2, .int .i64 x2] 31)) dq osq
  clear PB_r0 PB_r1 PB_r2 QB_r0 QB_r1 QB_r2 cA cB
  generalize grow (redrawn ((w.alloc (.cells #[.bool b, .slice A n c, .int .i64 x] 31)).alloc (.cells #[.bool b2, .slice A2 n2 c2, .int .i64 x2] 31)) dq) osq = w1 at hb ⊢
  clear PB_0 PB_1 PB_2 PB_f0 PB_f1 PB_f2
  clear QB_0 QB_1 QB_2 QB_f0 QB_f1 QB_f2
  replace bw : Below w.heap.size w w1 := dy_end (by go_grown) hb
  replace PB := Blk.on PB hb
  replace QB := Blk.on QB hb
  have hs1 := hb.size
  try simp only [World.size_alloc] at hs1
  clear hb
  obtain ⟨PB_0, PB_1, PB_2, PB_f0, PB_f1, PB_f2⟩ := Dbx.cells PB
  obtain ⟨QB_0, QB_1, QB_2, QB_f0, QB_f1, QB_f2⟩ := Dbx.cells QB
  go_wp2_with fail
  with_reducible refine (tooFar_false b b2 A A2 n n2 c c2 _ x0 x1 y0 y1 hf).mono ?_
  rintro e w2 ⟨rfl, hb⟩
  clear PB_0 PB_1 PB_2 PB_f0 PB_f1 PB_f2
  clear QB_0 QB_1 QB_2 QB_f0 QB_f1 QB_f2
  have hs2 := hb.size
  try simp only [World.size_alloc, World.size_setCell] at hs2
  replace bw : Below w.heap.size w w2 := dy_end (by go_grown) hb
  replace PB := Blk.on PB hb
  replace QB := Blk.on QB hb
  clear hb
  obtain ⟨PB_0, PB_1, PB_2, PB_f0, PB_f1, PB_f2⟩ := Dbx.cells PB
  obtain ⟨QB_0, QB_1, QB_2, QB_f0, QB_f1, QB_f2⟩ := Dbx.cells QB
  go_wp2_with fail
  have cA := fun d os => Calls.regrown_of (w := w2) (d := d) (os := os) (pu _ (h.on (dy_end bw (below_regrown _ d os))))
  have cB := fun d os => Calls.regrown_of (w := w2) (d := d) (os := os) (pv _ (h2.on (dy_end bw (below_regrown _ d os))))
  have PB_r0 := cell_regrown PB_0
  have PB_r1 := cell_regrown PB_1
  have PB_r2 := cell_regrown PB_2
  have QB_r0 := cell_regrown QB_0
  have QB_r1 := cell_regrown QB_1
  have QB_r2 := cell_regrown QB_2
  refine wp_region_quiet_below mixed (by kernel_rfl) ?_
  repeat (quiet_step (first | (with_reducible exact cA _ _) | (with_reducible exact cB _ _)))
  refine wpQuiet_nil ?_
  intro _ hw'
  obtain ⟨⟨dq, osq⟩, hw''⟩ := hw'
  subst hw''
  have hb := below_regrown (w2) dq osq
  clear PB_r0 PB_r1 PB_r2 QB_r0 QB_r1 QB_r2 cA cB
  generalize grow (redrawn (w2) dq) osq = w3 at hb ⊢
  clear PB_0 PB_1 PB_2 PB_f0 PB_f1 PB_f2
  clear QB_0 QB_1 QB_2 QB_f0 QB_f1 QB_f2
  replace bw : Below w.heap.size w w3 := dy_end (by go_grown) hb
  replace PB := Blk.on PB hb
  replace QB := Blk.on QB hb
  have hs3 := hb.size
  try simp only [World.size_alloc] at hs3
  clear hb
  obtain ⟨PB_0, PB_1, PB_2, PB_f0, PB_f1, PB_f2⟩ := Dbx.cells PB
  obtain ⟨QB_0, QB_1, QB_2, QB_f0, QB_f1, QB_f2⟩ := Dbx.cells QB
  go_wp2_with fail
  have cA := fun d os => Calls.regrown_of (w := w3) (d := d) (os := os) (pu _ (h.on (dy_end bw (below_regrown _ d os))))
  have cB := fun d os => Calls.regrown_of (w := w3) (d := d) (os := os) (pv _ (h2.on (dy_end bw (below_regrown _ d os))))
  have cC := fun d os => Calls.regrown_of (w := w3) (d := d) (os := os) (pc _)
  have PB_r0 := cell_regrown PB_0
  have PB_r1 := cell_regrown PB_1
  have PB_r2 := cell_regrown PB_2
  have QB_r0 := cell_regrown QB_0
  have QB_r1 := cell_regrown QB_1
  have QB_r2 := cell_regrown QB_2
  refine wp_region_quiet_below mixed (by kernel_rfl) ?_
  repeat (quiet_step (first | (with_reducible exact cA _ _) | (with_reducible exact cB _ _) | (with_reducible exact cC _ _)))
  refine wpQuiet_nil ?_
  intro _ hw'
  obtain ⟨⟨dq, osq⟩, hw''⟩ := hw'
  subst hw''
  have hb := below_regrown (w3) dq osq
  clear PB_r0 PB_r1 PB_r2 QB_r0 QB_r1 QB_r2 cA cB cC
  generalize grow (redrawn (w3) dq) osq = w4 at hb ⊢
  clear PB_0 PB_1 PB_2 PB_f0 PB_f1 PB_f2
  clear QB_0 QB_1 QB_2 QB_f0 QB_f1 QB_f2
  replace bw : Below w.heap.size w w4 := dy_end (by go_grown) hb
  replace PB := Blk.on PB hb
  replace QB := Blk.on QB hb
  have hs4 := hb.size
  try simp only [World.size_alloc] at hs4
  clear hb
  obtain ⟨PB_0, PB_1, PB_2, PB_f0, PB_f1, PB_f2⟩ := Dbx.cells PB
  obtain ⟨QB_0, QB_1, QB_2, QB_f0, QB_f1, QB_f2⟩ := Dbx.cells QB
  go_wp2_with fail
  go_ret2
  exact ⟨rfl, by go_grown⟩

theorem cellC {W w : World} {p : Addr} {v : Value} (h : W.cell? p = some v) (hb : Below W.heap.size W w) : w.cell? p = some v := (hb.cell (World.block_lt_of_cell? _ _ h)).trans h
theorem Dn.turnN {b : Bool} {l : List Int} {x : Int} {d : Nf} (h : Dn b l x d) (hl : Lim 18446744073709551616 l) (h0 : d.man ≠ 0) : Dn (!b) l x (negN d) := by
  rcases h.turn hl with ⟨e, _⟩ | ⟨_, g⟩
  · exact absurd ((h.nil hl).1 (by rw [e]; rfl)) h0
  · exact g
set_option maxRecDepth 100000 in
set_option maxHeartbeats 8000000 in
theorem order_eq_p (h : Lv w A n c l) (hn : n ≤ 4096) (h2 : Lv w A2 n2 c2 l2) (hn2 : n2 ≤ 4096) (hs1 : sgnV b n = 1) (hs2 : sgnV b2 n2 = 1) (x0 : -1048576 ≤ x) (x1 : x ≤ 1048576) (y0 : -1048576 ≤ x2) (y1 : x2 ≤ 1048576) (hf : x - x2 ≤ 262144 ∧ x2 - x ≤ 262144) {k k2 : Nat} (hk : IsBits (val 18446744073709551616 l) k) (hk2 : IsBits (val 18446744073709551616 l2) k2) {u v : Int} (hu : x + (k : Int) = u) (hv : x2 + (k2 : Int) = v) (heq : u = v) (hT : Tab w) (hd : Dn b l x d) (hd2 : Dn (!b2) l2 x2 d2) (m0 : d.man ≠ 0) (m2 : d2.man ≠ 0) (hN : Near d d2) {r : Int} (HS : Hid (sgn (sumN d d2) = r)) :
    Calls Tryz.prog 42 #[dyV b A n c x, dyV b2 A2 n2 c2 x2] w fun e w' => e = .returned (.tuple #[.int .i64 r, .int .i64 0]) ∧ Below w.heap.size w w' := by
  have n1 : (u != v) = false := by simp; omega
  have n3 : (u == v) = true := by simp; omega
  clear heq
  have pu := fun W (mm : Lv W A n c l) => height_any (b := b) (x := x) mm hn hk x0 x1
  have pv := fun W (mm : Lv W A2 n2 c2 l2) => height_any (b := b2) (x := x2) mm hn2 hk2 y0 y1
  rw [hu] at pu
  rw [hv] at pv
  clear hu hv hk hk2
  have PB := Blk.new w [.bool b, .slice A n c, .int .i64 x] 31
  have QB := Blk.new (w.alloc (.cells #[.bool b, .slice A n c, .int .i64 x] 31)) [.bool b2, .slice A2 n2 c2, .int .i64 x2] 31
  simp only [World.size_alloc] at QB
  replace PB := Blk.alloc PB (.cells #[.bool b2, .slice A2 n2 c2, .int .i64 x2] 31)
  have bw : Below w.heap.size w ((w.alloc (.cells #[.bool b, .slice A n c, .int .i64 x] 31)).alloc (.cells #[.bool b2, .slice A2 n2 c2, .int .i64 x2] 31)) := by go_grown
  obtain ⟨PB_0, PB_1, PB_2, PB_f0, PB_f1, PB_f2⟩ := Dbx.cells PB
  obtain ⟨QB_0, QB_1, QB_2, QB_f0, QB_f1, QB_f2⟩ := Dbx.cells QB
  go_enter Tryz.func42, Tryz.ntmps42
  go_wp2_with fail
  have cA := fun d os => Calls.regrown_of (w := ((w.alloc (.cells #[.bool b, .slice A n c, .int .i64 x] 31)).alloc (.cells #[.bool b2, .slice A2 n2 c2, .int .i64 x2] 31))) (d := d) (os := os) (signOf_bel b A n c _ hs1)
  have cB := fun d os => Calls.regrown_of (w := ((w.alloc (.cells #[.bool b, .slice A n c, .int .i64 x] 31)).alloc (.cells #[.bool b2, .slice A2 n2 c2, .int .i64 x2] 31))) (d := d) (os := os) (signOf_bel b2 A2 n2 c2 _ hs2)
  have PB_r0 := cell_regrown PB_0
  have PB_r1 := cell_regrown PB_1
  have PB_r2 := cell_regrown PB_2
  have QB_r0 := cell_regrown QB_0
  have QB_r1 := cell_regrown QB_1
  have QB_r2 := cell_regrown QB_2
  refine wp_region_quiet_below mixed (by kernel_rfl) ?_
  repeat (quiet_step (first | (with_reducible exact cA _ _) | (with_reducible exact cB _ _)))
  refine wpQuiet_nil ?_
  intro _ hw'
  obtain ⟨⟨dq, osq⟩, hw''⟩ := hw'
  subst hw''
  have hb := below_regrown ((w.alloc (.cells #[.bool b, .slice A n c, .int .i64 x] 31)).alloc (.cells #[.bool b2, .slice A2 n2 c2, .int .i64 x2] 31)) dq osq
  clear PB_r0 PB_r1 PB_r2 QB_r0 QB_r1 QB_r2 cA cB
  generalize grow (redrawn ((w.alloc (.cells #[.bool b, .slice A n c, .int .i64 x] 31)).alloc (.cells #[.bool b2, .slice A2 n2 c2, .int .i64 x2] 31)) dq) osq = w1 at hb ⊢
  clear PB_0 PB_1 PB_2 PB_f0 PB_f1 PB_f2
  clear QB_0 QB_1 QB_2 QB_f0 QB_f1 QB_f2
  replace bw : Below w.heap.size w w1 := dy_end (by go_grown) hb
  replace PB := Blk.on PB hb
  replace QB := Blk.on QB hb
  have hs1 := hb.size
  try simp only [World.size_alloc] at hs1
  clear hb
  obtain ⟨PB_0, PB_1, PB_2, PB_f0, PB_f1, PB_f2⟩ := Dbx.cells PB
  obtain ⟨QB_0, QB_1, QB_2, QB_f0, QB_f1, QB_f2⟩ := Dbx.cells QB
  go_wp2_with fail
  with_reducible refine (tooFar_false b b2 A A2 n n2 c c2 _ x0 x1 y0 y1 hf).mono ?_
  rintro e w2 ⟨rfl, hb⟩
  clear PB_0 PB_1 PB_2 PB_f0 PB_f1 PB_f2
  clear QB_0 QB_1 QB_2 QB_f0 QB_f1 QB_f2
  have hs2 := hb.size
  try simp only [World.size_alloc, World.size_setCell] at hs2
  replace bw : Below w.heap.size w w2 := dy_end (by go_grown) hb
  replace PB := Blk.on PB hb
  replace QB := Blk.on QB hb
  clear hb
  obtain ⟨PB_0, PB_1, PB_2, PB_f0, PB_f1, PB_f2⟩ := Dbx.cells PB
  obtain ⟨QB_0, QB_1, QB_2, QB_f0, QB_f1, QB_f2⟩ := Dbx.cells QB
  go_wp2_with fail
  have cA := fun d os => Calls.regrown_of (w := w2) (d := d) (os := os) (pu _ (h.on (dy_end bw (below_regrown _ d os))))
  have cB := fun d os => Calls.regrown_of (w := w2) (d := d) (os := os) (pv _ (h2.on (dy_end bw (below_regrown _ d os))))
  have PB_r0 := cell_regrown PB_0
  have PB_r1 := cell_regrown PB_1
  have PB_r2 := cell_regrown PB_2
  have QB_r0 := cell_regrown QB_0
  have QB_r1 := cell_regrown QB_1
  have QB_r2 := cell_regrown QB_2
  refine wp_region_quiet_below mixed (by kernel_rfl) ?_
  repeat (quiet_step (first | (with_reducible exact cA _ _) | (with_reducible exact cB _ _)))
  refine wpQuiet_nil ?_
  intro _ hw'
  obtain ⟨⟨dq, osq⟩, hw''⟩ := hw'
  subst hw''
  have hb := below_regrown (w2) dq osq
  clear PB_r0 PB_r1 PB_r2 QB_r0 QB_r1 QB_r2 cA cB
  generalize grow (redrawn (w2) dq) osq = w3 at hb ⊢
  clear PB_0 PB_1 PB_2 PB_f0 PB_f1 PB_f2
  clear QB_0 QB_1 QB_2 QB_f0 QB_f1 QB_f2
  replace bw : Below w.heap.size w w3 := dy_end (by go_grown) hb
  replace PB := Blk.on PB hb
  replace QB := Blk.on QB hb
  have hs3 := hb.size
  try simp only [World.size_alloc] at hs3
  clear hb
  obtain ⟨PB_0, PB_1, PB_2, PB_f0, PB_f1, PB_f2⟩ := Dbx.cells PB
  obtain ⟨QB_0, QB_1, QB_2, QB_f0, QB_f1, QB_f2⟩ := Dbx.cells QB
  go_upto_region 8 with fail
  refine wp_region_held_drew (S := fun w9 : World => Below w3.heap.size w3 w9) (by kernel_rfl) ((Below.refl _ _).drew) (fun hHeld => ?_)
  refine wpAnyH_take (i := 0) (v := ?v0_1) rfl (by kernel_rfl) (by kernel_rfl) (by kernel_rfl) (fun _ _ _ h => h) (Or.inl ⟨by rfl, ?hy0_1⟩) (by assumption) ?rest0_1
  case hy0_1 => (intro w9 hSw; have c0 := cellC PB_0 hSw; have c1 := cellC PB_1 hSw; have c2 := cellC PB_2 hSw; clear hSw; go_simp; try with_reducible rfl)
  simp only [Act.put, List.setIfInBounds_toArray, List.set_cons_zero, List.set_cons_succ, List.getElem_toArray, List.getElem_cons_zero, List.getElem_cons_succ]
  refine wpAnyH_take (i := 1) (v := ?v1_2) rfl (by kernel_rfl) (by kernel_rfl) (by kernel_rfl) (fun _ _ _ h => h) (Or.inl ⟨by rfl, ?hy1_2⟩) (by assumption) ?rest1_2
  case hy1_2 => (intro w9 hSw; have c0 := cellC QB_0 hSw; have c1 := cellC QB_1 hSw; have c2 := cellC QB_2 hSw; clear hSw; go_simp; try with_reducible rfl)
  simp only [Act.put, List.setIfInBounds_toArray, List.set_cons_zero, List.set_cons_succ, List.getElem_toArray, List.getElem_cons_zero, List.getElem_cons_succ]
  clear PB_0 PB_1 PB_2 PB_f0 PB_f1 PB_f2
  clear QB_0 QB_1 QB_2 QB_f0 QB_f1 QB_f2
  clear PB QB
  have pp := fun W (bb : Below w.heap.size w W) => pair_near (b := b) (b2 := !b2) (x := x) (x2 := x2) (h.on bb) hn (h2.on bb) hn2 hd hd2 m0 m2 hN x0 x1 y0 y1
  have pt := fun W (bb : Below w.heap.size w W) => total_any (b := b) (b2 := !b2) (x := x) (x2 := x2) (h.on bb) hn (h2.on bb) hn2 (hT.onD bb) hd hd2 m0 m2 hN x0 x1 y0 y1
  refine wpAnyH_ready (rs := [2, 8]) (by kernel_rfl) (by simp) ?_
  refine (AllReadyH.cons rfl (fun K hK => ?_) (AllReadyH.cons rfl (fun K hK => ?_) AllReadyH.nil))
  · go_simp
    with_reducible refine (dturned_any b2 A2 n2 c2 x2 _).mono ?_
    rintro e wz0 ⟨rfl, hb⟩
    have hr0 := dy_end hHeld hb
    have hz0 := hr0.size
    refine hK.out _ _ (dy_end hHeld hb) (fun hHeld => ?_)
    clear hK K
    try simp only [Act.put, List.setIfInBounds_toArray, List.set_cons_zero, List.set_cons_succ, List.getElem_toArray, List.getElem_cons_zero, List.getElem_cons_succ]
    clear hb
    refine wpAnyH_ready (rs := [3, 8]) (by kernel_rfl) (by simp) ?_
    refine (AllReadyH.cons rfl (fun K hK => ?_) (AllReadyH.cons rfl (fun K hK => ?_) AllReadyH.nil))
    · go_simp
      with_reducible refine (pp _ (dy_end bw hHeld)).mono ?_
      rintro e wz1 ⟨rfl, hb⟩
      have hr1 := dy_end hHeld hb
      have hz1 := hr1.size
      refine hK.out _ _ (dy_end hHeld hb) (fun hHeld => ?_)
      clear hK K
      try simp only [Act.put, List.setIfInBounds_toArray, List.set_cons_zero, List.set_cons_succ, List.getElem_toArray, List.getElem_cons_zero, List.getElem_cons_succ]
      clear hb
      refine wpAnyH_ready (rs := [4, 8]) (by kernel_rfl) (by simp) ?_
      refine (AllReadyH.cons rfl (fun K hK => ?_) (AllReadyH.cons rfl (fun K hK => ?_) AllReadyH.nil))
      · go_simp
        with_reducible refine (pt _ (dy_end bw hHeld)).mono ?_
        rintro e wz2 ⟨b5, q5, A5, c5, x5, rfl, hd5, m5, hb⟩
        have hr2 := dy_end hHeld hb
        have hz2 := hr2.size
        replace bw : Below w.heap.size w wz2 := dy_end bw hr2
        have hzw := bw.size
        refine hK.out _ _ (dy_end hHeld hb) (fun hHeld => ?_)
        clear hK K
        try simp only [Act.put, List.setIfInBounds_toArray, List.set_cons_zero, List.set_cons_succ, List.getElem_toArray, List.getElem_cons_zero, List.getElem_cons_succ]
        clear hb
        refine wpAnyH_take (i := 5) (v := ?v5_3) rfl (by kernel_rfl) (by kernel_rfl) (by kernel_rfl) (fun _ _ _ h => h) (Or.inl ⟨by rfl, ?hy5_3⟩) (by assumption) ?rest5_3
        case hy5_3 => (intro w9 hSw;  clear hSw; go_simp; try with_reducible rfl)
        simp only [Act.put, List.setIfInBounds_toArray, List.set_cons_zero, List.set_cons_succ, List.getElem_toArray, List.getElem_cons_zero, List.getElem_cons_succ]
        refine wpAnyH_take (i := 6) (v := ?v6_4) rfl (by kernel_rfl) (by kernel_rfl) (by kernel_rfl) (fun _ _ _ h => h) (Or.inl ⟨by rfl, ?hy6_4⟩) (by assumption) ?rest6_4
        case hy6_4 => (intro w9 hSw;  clear hSw; go_simp; try with_reducible rfl)
        simp only [Act.put, List.setIfInBounds_toArray, List.set_cons_zero, List.set_cons_succ, List.getElem_toArray, List.getElem_cons_zero, List.getElem_cons_succ]
        refine wpAnyH_take (i := 7) (v := ?v7_5) rfl (by kernel_rfl) (by kernel_rfl) (by kernel_rfl) (fun _ _ _ h => h) (Or.inl ⟨by rfl, ?hy7_5⟩) (by assumption) ?rest7_5
        case hy7_5 => (intro w9 hSw;  clear hSw; go_simp; try with_reducible rfl)
        simp only [Act.put, List.setIfInBounds_toArray, List.set_cons_zero, List.set_cons_succ, List.getElem_toArray, List.getElem_cons_zero, List.getElem_cons_succ]
        refine wpAnyH_ready (rs := [8]) (by kernel_rfl) (by simp) ?_
        refine (AllReadyH.cons rfl (fun K hK => ?_) AllReadyH.nil)
        go_simp
        refine hK.out _ _ (by go_grown) (fun hHeld => ?_)
        clear hK K
        try simp only [Act.put, List.setIfInBounds_toArray, List.set_cons_zero, List.set_cons_succ, List.getElem_toArray, List.getElem_cons_zero, List.getElem_cons_succ]
        have TB := Blk.new wz2 [.bool false, .slice none 0 0, .int .i64 0] 31
        refine wpAnyH_ready (rs := [9]) (by kernel_rfl) (by simp) ?_
        refine AllReadyH.cons rfl (fun K hK => ?_) AllReadyH.nil
        have TB_0 := Blk.cell TB 0 rfl
        have TB_f0 := Blk.free TB 0
        have TB_1 := Blk.cell TB 1 rfl
        have TB_f1 := Blk.free TB 1
        have TB_2 := Blk.cell TB 2 rfl
        have TB_f2 := Blk.free TB 2
        go_simp
        refine hK.out _ _ (by go_grown) (fun hHeld => ?_)
        clear hK K
        try simp only [Act.put, List.setIfInBounds_toArray, List.set_cons_zero, List.set_cons_succ, List.getElem_toArray, List.getElem_cons_zero, List.getElem_cons_succ]
        refine wpAnyH_take (i := 10) (v := ?v10_6) rfl (by kernel_rfl) (by kernel_rfl) (by kernel_rfl) (fun _ _ _ h => h) (Or.inl ⟨by rfl, ?hy10_6⟩) (by assumption) ?rest10_6
        case hy10_6 => (intro w9 hSw;  clear hSw; go_simp; try with_reducible rfl)
        simp only [Act.put, List.setIfInBounds_toArray, List.set_cons_zero, List.set_cons_succ, List.getElem_toArray, List.getElem_cons_zero, List.getElem_cons_succ]
        refine wpAnyH_done (by kernel_rfl) ?_ _
        clear TB_0 TB_f0 TB_1 TB_f1 TB_2 TB_f2
        replace m5 := Lv.alloc m5 (.cells #[.bool b5, .slice A5 q5.length c5, .int .i64 x5] 31)
        replace TB := Blk.new wz2 [.bool b5, .slice A5 q5.length c5, .int .i64 x5] 31
        have TB_0 := Blk.cell TB 0 rfl
        have TB_f0 := Blk.free TB 0
        have TB_1 := Blk.cell TB 1 rfl
        have TB_f1 := Blk.free TB 1
        have TB_2 := Blk.cell TB 2 rfl
        have TB_f2 := Blk.free TB 2
        go_wp2_with fail
        with_reducible refine (signOf_bel b5 A5 q5.length c5 _ ((sgn_dn hd5 m5.lim).trans HS.out)).mono ?_
        rintro e w9 ⟨rfl, hb⟩
        go_wp2_with fail
        go_ret2
        exact ⟨rfl, dy_end (by go_grown) hb⟩
      · go_simp
        refine hK.out _ _ (by go_grown) (fun hHeld => ?_)
        clear hK K
        try simp only [Act.put, List.setIfInBounds_toArray, List.set_cons_zero, List.set_cons_succ, List.getElem_toArray, List.getElem_cons_zero, List.getElem_cons_succ]
        have TB := Blk.new wz1 [.bool false, .slice none 0 0, .int .i64 0] 31
        refine wpAnyH_ready (rs := [4]) (by kernel_rfl) (by simp) ?_
        refine (AllReadyH.cons rfl (fun K hK => ?_) AllReadyH.nil)
        go_simp
        with_reducible refine (pt _ (dy_end bw hHeld)).mono ?_
        rintro e wz2 ⟨b5, q5, A5, c5, x5, rfl, hd5, m5, hb⟩
        have hr2 := dy_end hHeld hb
        have hz2 := hr2.size
        replace TB := Blk.on TB hb
        replace bw : Below w.heap.size w wz2 := dy_end bw hr2
        have hzw := bw.size
        refine hK.out _ _ (dy_end hHeld hb) (fun hHeld => ?_)
        clear hK K
        try simp only [Act.put, List.setIfInBounds_toArray, List.set_cons_zero, List.set_cons_succ, List.getElem_toArray, List.getElem_cons_zero, List.getElem_cons_succ]
        clear hb
        refine wpAnyH_take (i := 5) (v := ?v5_7) rfl (by kernel_rfl) (by kernel_rfl) (by kernel_rfl) (fun _ _ _ h => h) (Or.inl ⟨by rfl, ?hy5_7⟩) (by assumption) ?rest5_7
        case hy5_7 => (intro w9 hSw;  clear hSw; go_simp; try with_reducible rfl)
        simp only [Act.put, List.setIfInBounds_toArray, List.set_cons_zero, List.set_cons_succ, List.getElem_toArray, List.getElem_cons_zero, List.getElem_cons_succ]
        refine wpAnyH_take (i := 6) (v := ?v6_8) rfl (by kernel_rfl) (by kernel_rfl) (by kernel_rfl) (fun _ _ _ h => h) (Or.inl ⟨by rfl, ?hy6_8⟩) (by assumption) ?rest6_8
        case hy6_8 => (intro w9 hSw;  clear hSw; go_simp; try with_reducible rfl)
        simp only [Act.put, List.setIfInBounds_toArray, List.set_cons_zero, List.set_cons_succ, List.getElem_toArray, List.getElem_cons_zero, List.getElem_cons_succ]
        refine wpAnyH_take (i := 7) (v := ?v7_9) rfl (by kernel_rfl) (by kernel_rfl) (by kernel_rfl) (fun _ _ _ h => h) (Or.inl ⟨by rfl, ?hy7_9⟩) (by assumption) ?rest7_9
        case hy7_9 => (intro w9 hSw;  clear hSw; go_simp; try with_reducible rfl)
        simp only [Act.put, List.setIfInBounds_toArray, List.set_cons_zero, List.set_cons_succ, List.getElem_toArray, List.getElem_cons_zero, List.getElem_cons_succ]
        refine wpAnyH_ready (rs := [9]) (by kernel_rfl) (by simp) ?_
        refine AllReadyH.cons rfl (fun K hK => ?_) AllReadyH.nil
        have TB_0 := Blk.cell TB 0 rfl
        have TB_f0 := Blk.free TB 0
        have TB_1 := Blk.cell TB 1 rfl
        have TB_f1 := Blk.free TB 1
        have TB_2 := Blk.cell TB 2 rfl
        have TB_f2 := Blk.free TB 2
        go_simp
        refine hK.out _ _ (by go_grown) (fun hHeld => ?_)
        clear hK K
        try simp only [Act.put, List.setIfInBounds_toArray, List.set_cons_zero, List.set_cons_succ, List.getElem_toArray, List.getElem_cons_zero, List.getElem_cons_succ]
        refine wpAnyH_take (i := 10) (v := ?v10_10) rfl (by kernel_rfl) (by kernel_rfl) (by kernel_rfl) (fun _ _ _ h => h) (Or.inl ⟨by rfl, ?hy10_10⟩) (by assumption) ?rest10_10
        case hy10_10 => (intro w9 hSw;  clear hSw; go_simp; try with_reducible rfl)
        simp only [Act.put, List.setIfInBounds_toArray, List.set_cons_zero, List.set_cons_succ, List.getElem_toArray, List.getElem_cons_zero, List.getElem_cons_succ]
        refine wpAnyH_done (by kernel_rfl) ?_ _
        clear TB_0 TB_f0 TB_1 TB_f1 TB_2 TB_f2
        replace m5 := m5.put TB b5 A5 q5.length c5 x5
        replace TB := Dbx.put TB b5 A5 q5.length c5 x5
        have TB_0 := Blk.cell TB 0 rfl
        have TB_f0 := Blk.free TB 0
        have TB_1 := Blk.cell TB 1 rfl
        have TB_f1 := Blk.free TB 1
        have TB_2 := Blk.cell TB 2 rfl
        have TB_f2 := Blk.free TB 2
        go_wp2_with fail
        with_reducible refine (signOf_bel b5 A5 q5.length c5 _ ((sgn_dn hd5 m5.lim).trans HS.out)).mono ?_
        rintro e w9 ⟨rfl, hb⟩
        go_wp2_with fail
        go_ret2
        exact ⟨rfl, dy_end (by go_grown) hb⟩
    · go_simp
      refine hK.out _ _ (by go_grown) (fun hHeld => ?_)
      clear hK K
      try simp only [Act.put, List.setIfInBounds_toArray, List.set_cons_zero, List.set_cons_succ, List.getElem_toArray, List.getElem_cons_zero, List.getElem_cons_succ]
      have TB := Blk.new wz0 [.bool false, .slice none 0 0, .int .i64 0] 31
      refine wpAnyH_ready (rs := [3]) (by kernel_rfl) (by simp) ?_
      refine (AllReadyH.cons rfl (fun K hK => ?_) AllReadyH.nil)
      go_simp
      with_reducible refine (pp _ (dy_end bw hHeld)).mono ?_
      rintro e wz1 ⟨rfl, hb⟩
      have hr1 := dy_end hHeld hb
      have hz1 := hr1.size
      replace TB := Blk.on TB hb
      refine hK.out _ _ (dy_end hHeld hb) (fun hHeld => ?_)
      clear hK K
      try simp only [Act.put, List.setIfInBounds_toArray, List.set_cons_zero, List.set_cons_succ, List.getElem_toArray, List.getElem_cons_zero, List.getElem_cons_succ]
      clear hb
      refine wpAnyH_ready (rs := [4]) (by kernel_rfl) (by simp) ?_
      refine (AllReadyH.cons rfl (fun K hK => ?_) AllReadyH.nil)
      go_simp
      with_reducible refine (pt _ (dy_end bw hHeld)).mono ?_
      rintro e wz2 ⟨b5, q5, A5, c5, x5, rfl, hd5, m5, hb⟩
      have hr2 := dy_end hHeld hb
      have hz2 := hr2.size
      replace TB := Blk.on TB hb
      replace bw : Below w.heap.size w wz2 := dy_end bw hr2
      have hzw := bw.size
      refine hK.out _ _ (dy_end hHeld hb) (fun hHeld => ?_)
      clear hK K
      try simp only [Act.put, List.setIfInBounds_toArray, List.set_cons_zero, List.set_cons_succ, List.getElem_toArray, List.getElem_cons_zero, List.getElem_cons_succ]
      clear hb
      refine wpAnyH_take (i := 5) (v := ?v5_11) rfl (by kernel_rfl) (by kernel_rfl) (by kernel_rfl) (fun _ _ _ h => h) (Or.inl ⟨by rfl, ?hy5_11⟩) (by assumption) ?rest5_11
      case hy5_11 => (intro w9 hSw;  clear hSw; go_simp; try with_reducible rfl)
      simp only [Act.put, List.setIfInBounds_toArray, List.set_cons_zero, List.set_cons_succ, List.getElem_toArray, List.getElem_cons_zero, List.getElem_cons_succ]
      refine wpAnyH_take (i := 6) (v := ?v6_12) rfl (by kernel_rfl) (by kernel_rfl) (by kernel_rfl) (fun _ _ _ h => h) (Or.inl ⟨by rfl, ?hy6_12⟩) (by assumption) ?rest6_12
      case hy6_12 => (intro w9 hSw;  clear hSw; go_simp; try with_reducible rfl)
      simp only [Act.put, List.setIfInBounds_toArray, List.set_cons_zero, List.set_cons_succ, List.getElem_toArray, List.getElem_cons_zero, List.getElem_cons_succ]
      refine wpAnyH_take (i := 7) (v := ?v7_13) rfl (by kernel_rfl) (by kernel_rfl) (by kernel_rfl) (fun _ _ _ h => h) (Or.inl ⟨by rfl, ?hy7_13⟩) (by assumption) ?rest7_13
      case hy7_13 => (intro w9 hSw;  clear hSw; go_simp; try with_reducible rfl)
      simp only [Act.put, List.setIfInBounds_toArray, List.set_cons_zero, List.set_cons_succ, List.getElem_toArray, List.getElem_cons_zero, List.getElem_cons_succ]
      refine wpAnyH_ready (rs := [9]) (by kernel_rfl) (by simp) ?_
      refine AllReadyH.cons rfl (fun K hK => ?_) AllReadyH.nil
      have TB_0 := Blk.cell TB 0 rfl
      have TB_f0 := Blk.free TB 0
      have TB_1 := Blk.cell TB 1 rfl
      have TB_f1 := Blk.free TB 1
      have TB_2 := Blk.cell TB 2 rfl
      have TB_f2 := Blk.free TB 2
      go_simp
      refine hK.out _ _ (by go_grown) (fun hHeld => ?_)
      clear hK K
      try simp only [Act.put, List.setIfInBounds_toArray, List.set_cons_zero, List.set_cons_succ, List.getElem_toArray, List.getElem_cons_zero, List.getElem_cons_succ]
      refine wpAnyH_take (i := 10) (v := ?v10_14) rfl (by kernel_rfl) (by kernel_rfl) (by kernel_rfl) (fun _ _ _ h => h) (Or.inl ⟨by rfl, ?hy10_14⟩) (by assumption) ?rest10_14
      case hy10_14 => (intro w9 hSw;  clear hSw; go_simp; try with_reducible rfl)
      simp only [Act.put, List.setIfInBounds_toArray, List.set_cons_zero, List.set_cons_succ, List.getElem_toArray, List.getElem_cons_zero, List.getElem_cons_succ]
      refine wpAnyH_done (by kernel_rfl) ?_ _
      clear TB_0 TB_f0 TB_1 TB_f1 TB_2 TB_f2
      replace m5 := m5.put TB b5 A5 q5.length c5 x5
      replace TB := Dbx.put TB b5 A5 q5.length c5 x5
      have TB_0 := Blk.cell TB 0 rfl
      have TB_f0 := Blk.free TB 0
      have TB_1 := Blk.cell TB 1 rfl
      have TB_f1 := Blk.free TB 1
      have TB_2 := Blk.cell TB 2 rfl
      have TB_f2 := Blk.free TB 2
      go_wp2_with fail
      with_reducible refine (signOf_bel b5 A5 q5.length c5 _ ((sgn_dn hd5 m5.lim).trans HS.out)).mono ?_
      rintro e w9 ⟨rfl, hb⟩
      go_wp2_with fail
      go_ret2
      exact ⟨rfl, dy_end (by go_grown) hb⟩
  · go_simp
    refine hK.out _ _ (by go_grown) (fun hHeld => ?_)
    clear hK K
    try simp only [Act.put, List.setIfInBounds_toArray, List.set_cons_zero, List.set_cons_succ, List.getElem_toArray, List.getElem_cons_zero, List.getElem_cons_succ]
    have TB := Blk.new (w3.drew) [.bool false, .slice none 0 0, .int .i64 0] 31
    simp only [World.size_drew] at TB
    refine wpAnyH_ready (rs := [2]) (by kernel_rfl) (by simp) ?_
    refine (AllReadyH.cons rfl (fun K hK => ?_) AllReadyH.nil)
    go_simp
    with_reducible refine (dturned_any b2 A2 n2 c2 x2 _).mono ?_
    rintro e wz0 ⟨rfl, hb⟩
    have hr0 := dy_end hHeld hb
    have hz0 := hr0.size
    replace TB := Blk.on TB hb
    refine hK.out _ _ (dy_end hHeld hb) (fun hHeld => ?_)
    clear hK K
    try simp only [Act.put, List.setIfInBounds_toArray, List.set_cons_zero, List.set_cons_succ, List.getElem_toArray, List.getElem_cons_zero, List.getElem_cons_succ]
    clear hb
    refine wpAnyH_ready (rs := [3]) (by kernel_rfl) (by simp) ?_
    refine (AllReadyH.cons rfl (fun K hK => ?_) AllReadyH.nil)
    go_simp
    with_reducible refine (pp _ (dy_end bw hHeld)).mono ?_
    rintro e wz1 ⟨rfl, hb⟩
    have hr1 := dy_end hHeld hb
    have hz1 := hr1.size
    replace TB := Blk.on TB hb
    refine hK.out _ _ (dy_end hHeld hb) (fun hHeld => ?_)
    clear hK K
    try simp only [Act.put, List.setIfInBounds_toArray, List.set_cons_zero, List.set_cons_succ, List.getElem_toArray, List.getElem_cons_zero, List.getElem_cons_succ]
    clear hb
    refine wpAnyH_ready (rs := [4]) (by kernel_rfl) (by simp) ?_
    refine (AllReadyH.cons rfl (fun K hK => ?_) AllReadyH.nil)
    go_simp
    with_reducible refine (pt _ (dy_end bw hHeld)).mono ?_
    rintro e wz2 ⟨b5, q5, A5, c5, x5, rfl, hd5, m5, hb⟩
    have hr2 := dy_end hHeld hb
    have hz2 := hr2.size
    replace TB := Blk.on TB hb
    replace bw : Below w.heap.size w wz2 := dy_end bw hr2
    have hzw := bw.size
    refine hK.out _ _ (dy_end hHeld hb) (fun hHeld => ?_)
    clear hK K
    try simp only [Act.put, List.setIfInBounds_toArray, List.set_cons_zero, List.set_cons_succ, List.getElem_toArray, List.getElem_cons_zero, List.getElem_cons_succ]
    clear hb
    refine wpAnyH_take (i := 5) (v := ?v5_15) rfl (by kernel_rfl) (by kernel_rfl) (by kernel_rfl) (fun _ _ _ h => h) (Or.inl ⟨by rfl, ?hy5_15⟩) (by assumption) ?rest5_15
    case hy5_15 => (intro w9 hSw;  clear hSw; go_simp; try with_reducible rfl)
    simp only [Act.put, List.setIfInBounds_toArray, List.set_cons_zero, List.set_cons_succ, List.getElem_toArray, List.getElem_cons_zero, List.getElem_cons_succ]
    refine wpAnyH_take (i := 6) (v := ?v6_16) rfl (by kernel_rfl) (by kernel_rfl) (by kernel_rfl) (fun _ _ _ h => h) (Or.inl ⟨by rfl, ?hy6_16⟩) (by assumption) ?rest6_16
    case hy6_16 => (intro w9 hSw;  clear hSw; go_simp; try with_reducible rfl)
    simp only [Act.put, List.setIfInBounds_toArray, List.set_cons_zero, List.set_cons_succ, List.getElem_toArray, List.getElem_cons_zero, List.getElem_cons_succ]
    refine wpAnyH_take (i := 7) (v := ?v7_17) rfl (by kernel_rfl) (by kernel_rfl) (by kernel_rfl) (fun _ _ _ h => h) (Or.inl ⟨by rfl, ?hy7_17⟩) (by assumption) ?rest7_17
    case hy7_17 => (intro w9 hSw;  clear hSw; go_simp; try with_reducible rfl)
    simp only [Act.put, List.setIfInBounds_toArray, List.set_cons_zero, List.set_cons_succ, List.getElem_toArray, List.getElem_cons_zero, List.getElem_cons_succ]
    refine wpAnyH_ready (rs := [9]) (by kernel_rfl) (by simp) ?_
    refine AllReadyH.cons rfl (fun K hK => ?_) AllReadyH.nil
    have TB_0 := Blk.cell TB 0 rfl
    have TB_f0 := Blk.free TB 0
    have TB_1 := Blk.cell TB 1 rfl
    have TB_f1 := Blk.free TB 1
    have TB_2 := Blk.cell TB 2 rfl
    have TB_f2 := Blk.free TB 2
    go_simp
    refine hK.out _ _ (by go_grown) (fun hHeld => ?_)
    clear hK K
    try simp only [Act.put, List.setIfInBounds_toArray, List.set_cons_zero, List.set_cons_succ, List.getElem_toArray, List.getElem_cons_zero, List.getElem_cons_succ]
    refine wpAnyH_take (i := 10) (v := ?v10_18) rfl (by kernel_rfl) (by kernel_rfl) (by kernel_rfl) (fun _ _ _ h => h) (Or.inl ⟨by rfl, ?hy10_18⟩) (by assumption) ?rest10_18
    case hy10_18 => (intro w9 hSw;  clear hSw; go_simp; try with_reducible rfl)
    simp only [Act.put, List.setIfInBounds_toArray, List.set_cons_zero, List.set_cons_succ, List.getElem_toArray, List.getElem_cons_zero, List.getElem_cons_succ]
    refine wpAnyH_done (by kernel_rfl) ?_ _
    clear TB_0 TB_f0 TB_1 TB_f1 TB_2 TB_f2
    replace m5 := m5.put TB b5 A5 q5.length c5 x5
    replace TB := Dbx.put TB b5 A5 q5.length c5 x5
    have TB_0 := Blk.cell TB 0 rfl
    have TB_f0 := Blk.free TB 0
    have TB_1 := Blk.cell TB 1 rfl
    have TB_f1 := Blk.free TB 1
    have TB_2 := Blk.cell TB 2 rfl
    have TB_f2 := Blk.free TB 2
    go_wp2_with fail
    with_reducible refine (signOf_bel b5 A5 q5.length c5 _ ((sgn_dn hd5 m5.lim).trans HS.out)).mono ?_
    rintro e w9 ⟨rfl, hb⟩
    go_wp2_with fail
    go_ret2
    exact ⟨rfl, dy_end (by go_grown) hb⟩

set_option maxRecDepth 100000 in
set_option maxHeartbeats 8000000 in
theorem order_eq_n (h : Lv w A n c l) (hn : n ≤ 4096) (h2 : Lv w A2 n2 c2 l2) (hn2 : n2 ≤ 4096) (hs1 : sgnV b n = -1) (hs2 : sgnV b2 n2 = -1) (x0 : -1048576 ≤ x) (x1 : x ≤ 1048576) (y0 : -1048576 ≤ x2) (y1 : x2 ≤ 1048576) (hf : x - x2 ≤ 262144 ∧ x2 - x ≤ 262144) {k k2 : Nat} (hk : IsBits (val 18446744073709551616 l) k) (hk2 : IsBits (val 18446744073709551616 l2) k2) {u v : Int} (hu : x + (k : Int) = u) (hv : x2 + (k2 : Int) = v) (heq : u = v) (hT : Tab w) (hd : Dn b l x d) (hd2 : Dn (!b2) l2 x2 d2) (m0 : d.man ≠ 0) (m2 : d2.man ≠ 0) (hN : Near d d2) {r : Int} (HS : Hid (sgn (sumN d d2) = r)) :
    Calls Tryz.prog 42 #[dyV b A n c x, dyV b2 A2 n2 c2 x2] w fun e w' => e = .returned (.tuple #[.int .i64 r, .int .i64 0]) ∧ Below w.heap.size w w' := by
  have n1 : (u != v) = false := by simp; omega
  have n3 : (u == v) = true := by simp; omega
  clear heq
  have pu := fun W (mm : Lv W A n c l) => height_any (b := b) (x := x) mm hn hk x0 x1
  have pv := fun W (mm : Lv W A2 n2 c2 l2) => height_any (b := b2) (x := x2) mm hn2 hk2 y0 y1
  rw [hu] at pu
  rw [hv] at pv
  clear hu hv hk hk2
  have PB := Blk.new w [.bool b, .slice A n c, .int .i64 x] 31
  have QB := Blk.new (w.alloc (.cells #[.bool b, .slice A n c, .int .i64 x] 31)) [.bool b2, .slice A2 n2 c2, .int .i64 x2] 31
  simp only [World.size_alloc] at QB
  replace PB := Blk.alloc PB (.cells #[.bool b2, .slice A2 n2 c2, .int .i64 x2] 31)
  have bw : Below w.heap.size w ((w.alloc (.cells #[.bool b, .slice A n c, .int .i64 x] 31)).alloc (.cells #[.bool b2, .slice A2 n2 c2, .int .i64 x2] 31)) := by go_grown
  obtain ⟨PB_0, PB_1, PB_2, PB_f0, PB_f1, PB_f2⟩ := Dbx.cells PB
  obtain ⟨QB_0, QB_1, QB_2, QB_f0, QB_f1, QB_f2⟩ := Dbx.cells QB
  go_enter Tryz.func42, Tryz.ntmps42
  go_wp2_with fail
  have cA := fun d os => Calls.regrown_of (w := ((w.alloc (.cells #[.bool b, .slice A n c, .int .i64 x] 31)).alloc (.cells #[.bool b2, .slice A2 n2 c2, .int .i64 x2] 31))) (d := d) (os := os) (signOf_bel b A n c _ hs1)
  have cB := fun d os => Calls.regrown_of (w := ((w.alloc (.cells #[.bool b, .slice A n c, .int .i64 x] 31)).alloc (.cells #[.bool b2, .slice A2 n2 c2, .int .i64 x2] 31))) (d := d) (os := os) (signOf_bel b2 A2 n2 c2 _ hs2)
  have PB_r0 := cell_regrown PB_0
  have PB_r1 := cell_regrown PB_1
  have PB_r2 := cell_regrown PB_2
  have QB_r0 := cell_regrown QB_0
  have QB_r1 := cell_regrown QB_1
  have QB_r2 := cell_regrown QB_2
  refine wp_region_quiet_below mixed (by kernel_rfl) ?_
  repeat (quiet_step (first | (with_reducible exact cA _ _) | (with_reducible exact cB _ _)))
  refine wpQuiet_nil ?_
  intro _ hw'
  obtain ⟨⟨dq, osq⟩, hw''⟩ := hw'
  subst hw''
  have hb := below_regrown ((w.alloc (.cells #[.bool b, .slice A n c, .int .i64 x] 31)).alloc (.cells #[.bool b2, .slice A2 n2 c2, .int .i64 x2] 31)) dq osq
  clear PB_r0 PB_r1 PB_r2 QB_r0 QB_r1 QB_r2 cA cB
  generalize grow (redrawn ((w.alloc (.cells #[.bool b, .slice A n c, .int .i64 x] 31)).alloc (.cells #[.bool b2, .slice A2 n2 c2, .int .i64 x2] 31)) dq) osq = w1 at hb ⊢
  clear PB_0 PB_1 PB_2 PB_f0 PB_f1 PB_f2
  clear QB_0 QB_1 QB_2 QB_f0 QB_f1 QB_f2
  replace bw : Below w.heap.size w w1 := dy_end (by go_grown) hb
  replace PB := Blk.on PB hb
  replace QB := Blk.on QB hb
  have hs1 := hb.size
  try simp only [World.size_alloc] at hs1
  clear hb
  obtain ⟨PB_0, PB_1, PB_2, PB_f0, PB_f1, PB_f2⟩ := Dbx.cells PB
  obtain ⟨QB_0, QB_1, QB_2, QB_f0, QB_f1, QB_f2⟩ := Dbx.cells QB
  go_wp2_with fail
  with_reducible refine (tooFar_false b b2 A A2 n n2 c c2 _ x0 x1 y0 y1 hf).mono ?_
  rintro e w2 ⟨rfl, hb⟩
  clear PB_0 PB_1 PB_2 PB_f0 PB_f1 PB_f2
  clear QB_0 QB_1 QB_2 QB_f0 QB_f1 QB_f2
  have hs2 := hb.size
  try simp only [World.size_alloc, World.size_setCell] at hs2
  replace bw : Below w.heap.size w w2 := dy_end (by go_grown) hb
  replace PB := Blk.on PB hb
  replace QB := Blk.on QB hb
  clear hb
  obtain ⟨PB_0, PB_1, PB_2, PB_f0, PB_f1, PB_f2⟩ := Dbx.cells PB
  obtain ⟨QB_0, QB_1, QB_2, QB_f0, QB_f1, QB_f2⟩ := Dbx.cells QB
  go_wp2_with fail
  have cA := fun d os => Calls.regrown_of (w := w2) (d := d) (os := os) (pu _ (h.on (dy_end bw (below_regrown _ d os))))
  have cB := fun d os => Calls.regrown_of (w := w2) (d := d) (os := os) (pv _ (h2.on (dy_end bw (below_regrown _ d os))))
  have PB_r0 := cell_regrown PB_0
  have PB_r1 := cell_regrown PB_1
  have PB_r2 := cell_regrown PB_2
  have QB_r0 := cell_regrown QB_0
  have QB_r1 := cell_regrown QB_1
  have QB_r2 := cell_regrown QB_2
  refine wp_region_quiet_below mixed (by kernel_rfl) ?_
  repeat (quiet_step (first | (with_reducible exact cA _ _) | (with_reducible exact cB _ _)))
  refine wpQuiet_nil ?_
  intro _ hw'
  obtain ⟨⟨dq, osq⟩, hw''⟩ := hw'
  subst hw''
  have hb := below_regrown (w2) dq osq
  clear PB_r0 PB_r1 PB_r2 QB_r0 QB_r1 QB_r2 cA cB
  generalize grow (redrawn (w2) dq) osq = w3 at hb ⊢
  clear PB_0 PB_1 PB_2 PB_f0 PB_f1 PB_f2
  clear QB_0 QB_1 QB_2 QB_f0 QB_f1 QB_f2
  replace bw : Below w.heap.size w w3 := dy_end (by go_grown) hb
  replace PB := Blk.on PB hb
  replace QB := Blk.on QB hb
  have hs3 := hb.size
  try simp only [World.size_alloc] at hs3
  clear hb
  obtain ⟨PB_0, PB_1, PB_2, PB_f0, PB_f1, PB_f2⟩ := Dbx.cells PB
  obtain ⟨QB_0, QB_1, QB_2, QB_f0, QB_f1, QB_f2⟩ := Dbx.cells QB
  go_upto_region 8 with fail
  refine wp_region_held_drew (S := fun w9 : World => Below w3.heap.size w3 w9) (by kernel_rfl) ((Below.refl _ _).drew) (fun hHeld => ?_)
  refine wpAnyH_take (i := 0) (v := ?v0_19) rfl (by kernel_rfl) (by kernel_rfl) (by kernel_rfl) (fun _ _ _ h => h) (Or.inl ⟨by rfl, ?hy0_19⟩) (by assumption) ?rest0_19
  case hy0_19 => (intro w9 hSw; have c0 := cellC PB_0 hSw; have c1 := cellC PB_1 hSw; have c2 := cellC PB_2 hSw; clear hSw; go_simp; try with_reducible rfl)
  simp only [Act.put, List.setIfInBounds_toArray, List.set_cons_zero, List.set_cons_succ, List.getElem_toArray, List.getElem_cons_zero, List.getElem_cons_succ]
  refine wpAnyH_take (i := 1) (v := ?v1_20) rfl (by kernel_rfl) (by kernel_rfl) (by kernel_rfl) (fun _ _ _ h => h) (Or.inl ⟨by rfl, ?hy1_20⟩) (by assumption) ?rest1_20
  case hy1_20 => (intro w9 hSw; have c0 := cellC QB_0 hSw; have c1 := cellC QB_1 hSw; have c2 := cellC QB_2 hSw; clear hSw; go_simp; try with_reducible rfl)
  simp only [Act.put, List.setIfInBounds_toArray, List.set_cons_zero, List.set_cons_succ, List.getElem_toArray, List.getElem_cons_zero, List.getElem_cons_succ]
  clear PB_0 PB_1 PB_2 PB_f0 PB_f1 PB_f2
  clear QB_0 QB_1 QB_2 QB_f0 QB_f1 QB_f2
  clear PB QB
  have pp := fun W (bb : Below w.heap.size w W) => pair_near (b := b) (b2 := !b2) (x := x) (x2 := x2) (h.on bb) hn (h2.on bb) hn2 hd hd2 m0 m2 hN x0 x1 y0 y1
  have pt := fun W (bb : Below w.heap.size w W) => total_any (b := b) (b2 := !b2) (x := x) (x2 := x2) (h.on bb) hn (h2.on bb) hn2 (hT.onD bb) hd hd2 m0 m2 hN x0 x1 y0 y1
  refine wpAnyH_ready (rs := [2, 8]) (by kernel_rfl) (by simp) ?_
  refine (AllReadyH.cons rfl (fun K hK => ?_) (AllReadyH.cons rfl (fun K hK => ?_) AllReadyH.nil))
  · go_simp
    with_reducible refine (dturned_any b2 A2 n2 c2 x2 _).mono ?_
    rintro e wz0 ⟨rfl, hb⟩
    have hr0 := dy_end hHeld hb
    have hz0 := hr0.size
    refine hK.out _ _ (dy_end hHeld hb) (fun hHeld => ?_)
    clear hK K
    try simp only [Act.put, List.setIfInBounds_toArray, List.set_cons_zero, List.set_cons_succ, List.getElem_toArray, List.getElem_cons_zero, List.getElem_cons_succ]
    clear hb
    refine wpAnyH_ready (rs := [3, 8]) (by kernel_rfl) (by simp) ?_
    refine (AllReadyH.cons rfl (fun K hK => ?_) (AllReadyH.cons rfl (fun K hK => ?_) AllReadyH.nil))
    · go_simp
      with_reducible refine (pp _ (dy_end bw hHeld)).mono ?_
      rintro e wz1 ⟨rfl, hb⟩
      have hr1 := dy_end hHeld hb
      have hz1 := hr1.size
      refine hK.out _ _ (dy_end hHeld hb) (fun hHeld => ?_)
      clear hK K
      try simp only [Act.put, List.setIfInBounds_toArray, List.set_cons_zero, List.set_cons_succ, List.getElem_toArray, List.getElem_cons_zero, List.getElem_cons_succ]
      clear hb
      refine wpAnyH_ready (rs := [4, 8]) (by kernel_rfl) (by simp) ?_
      refine (AllReadyH.cons rfl (fun K hK => ?_) (AllReadyH.cons rfl (fun K hK => ?_) AllReadyH.nil))
      · go_simp
        with_reducible refine (pt _ (dy_end bw hHeld)).mono ?_
        rintro e wz2 ⟨b5, q5, A5, c5, x5, rfl, hd5, m5, hb⟩
        have hr2 := dy_end hHeld hb
        have hz2 := hr2.size
        replace bw : Below w.heap.size w wz2 := dy_end bw hr2
        have hzw := bw.size
        refine hK.out _ _ (dy_end hHeld hb) (fun hHeld => ?_)
        clear hK K
        try simp only [Act.put, List.setIfInBounds_toArray, List.set_cons_zero, List.set_cons_succ, List.getElem_toArray, List.getElem_cons_zero, List.getElem_cons_succ]
        clear hb
        refine wpAnyH_take (i := 5) (v := ?v5_21) rfl (by kernel_rfl) (by kernel_rfl) (by kernel_rfl) (fun _ _ _ h => h) (Or.inl ⟨by rfl, ?hy5_21⟩) (by assumption) ?rest5_21
        case hy5_21 => (intro w9 hSw;  clear hSw; go_simp; try with_reducible rfl)
        simp only [Act.put, List.setIfInBounds_toArray, List.set_cons_zero, List.set_cons_succ, List.getElem_toArray, List.getElem_cons_zero, List.getElem_cons_succ]
        refine wpAnyH_take (i := 6) (v := ?v6_22) rfl (by kernel_rfl) (by kernel_rfl) (by kernel_rfl) (fun _ _ _ h => h) (Or.inl ⟨by rfl, ?hy6_22⟩) (by assumption) ?rest6_22
        case hy6_22 => (intro w9 hSw;  clear hSw; go_simp; try with_reducible rfl)
        simp only [Act.put, List.setIfInBounds_toArray, List.set_cons_zero, List.set_cons_succ, List.getElem_toArray, List.getElem_cons_zero, List.getElem_cons_succ]
        refine wpAnyH_take (i := 7) (v := ?v7_23) rfl (by kernel_rfl) (by kernel_rfl) (by kernel_rfl) (fun _ _ _ h => h) (Or.inl ⟨by rfl, ?hy7_23⟩) (by assumption) ?rest7_23
        case hy7_23 => (intro w9 hSw;  clear hSw; go_simp; try with_reducible rfl)
        simp only [Act.put, List.setIfInBounds_toArray, List.set_cons_zero, List.set_cons_succ, List.getElem_toArray, List.getElem_cons_zero, List.getElem_cons_succ]
        refine wpAnyH_ready (rs := [8]) (by kernel_rfl) (by simp) ?_
        refine (AllReadyH.cons rfl (fun K hK => ?_) AllReadyH.nil)
        go_simp
        refine hK.out _ _ (by go_grown) (fun hHeld => ?_)
        clear hK K
        try simp only [Act.put, List.setIfInBounds_toArray, List.set_cons_zero, List.set_cons_succ, List.getElem_toArray, List.getElem_cons_zero, List.getElem_cons_succ]
        have TB := Blk.new wz2 [.bool false, .slice none 0 0, .int .i64 0] 31
        refine wpAnyH_ready (rs := [9]) (by kernel_rfl) (by simp) ?_
        refine AllReadyH.cons rfl (fun K hK => ?_) AllReadyH.nil
        have TB_0 := Blk.cell TB 0 rfl
        have TB_f0 := Blk.free TB 0
        have TB_1 := Blk.cell TB 1 rfl
        have TB_f1 := Blk.free TB 1
        have TB_2 := Blk.cell TB 2 rfl
        have TB_f2 := Blk.free TB 2
        go_simp
        refine hK.out _ _ (by go_grown) (fun hHeld => ?_)
        clear hK K
        try simp only [Act.put, List.setIfInBounds_toArray, List.set_cons_zero, List.set_cons_succ, List.getElem_toArray, List.getElem_cons_zero, List.getElem_cons_succ]
        refine wpAnyH_take (i := 10) (v := ?v10_24) rfl (by kernel_rfl) (by kernel_rfl) (by kernel_rfl) (fun _ _ _ h => h) (Or.inl ⟨by rfl, ?hy10_24⟩) (by assumption) ?rest10_24
        case hy10_24 => (intro w9 hSw;  clear hSw; go_simp; try with_reducible rfl)
        simp only [Act.put, List.setIfInBounds_toArray, List.set_cons_zero, List.set_cons_succ, List.getElem_toArray, List.getElem_cons_zero, List.getElem_cons_succ]
        refine wpAnyH_done (by kernel_rfl) ?_ _
        clear TB_0 TB_f0 TB_1 TB_f1 TB_2 TB_f2
        replace m5 := Lv.alloc m5 (.cells #[.bool b5, .slice A5 q5.length c5, .int .i64 x5] 31)
        replace TB := Blk.new wz2 [.bool b5, .slice A5 q5.length c5, .int .i64 x5] 31
        have TB_0 := Blk.cell TB 0 rfl
        have TB_f0 := Blk.free TB 0
        have TB_1 := Blk.cell TB 1 rfl
        have TB_f1 := Blk.free TB 1
        have TB_2 := Blk.cell TB 2 rfl
        have TB_f2 := Blk.free TB 2
        go_wp2_with fail
        with_reducible refine (signOf_bel b5 A5 q5.length c5 _ ((sgn_dn hd5 m5.lim).trans HS.out)).mono ?_
        rintro e w9 ⟨rfl, hb⟩
        go_wp2_with fail
        go_ret2
        exact ⟨rfl, dy_end (by go_grown) hb⟩
      · go_simp
        refine hK.out _ _ (by go_grown) (fun hHeld => ?_)
        clear hK K
        try simp only [Act.put, List.setIfInBounds_toArray, List.set_cons_zero, List.set_cons_succ, List.getElem_toArray, List.getElem_cons_zero, List.getElem_cons_succ]
        have TB := Blk.new wz1 [.bool false, .slice none 0 0, .int .i64 0] 31
        refine wpAnyH_ready (rs := [4]) (by kernel_rfl) (by simp) ?_
        refine (AllReadyH.cons rfl (fun K hK => ?_) AllReadyH.nil)
        go_simp
        with_reducible refine (pt _ (dy_end bw hHeld)).mono ?_
        rintro e wz2 ⟨b5, q5, A5, c5, x5, rfl, hd5, m5, hb⟩
        have hr2 := dy_end hHeld hb
        have hz2 := hr2.size
        replace TB := Blk.on TB hb
        replace bw : Below w.heap.size w wz2 := dy_end bw hr2
        have hzw := bw.size
        refine hK.out _ _ (dy_end hHeld hb) (fun hHeld => ?_)
        clear hK K
        try simp only [Act.put, List.setIfInBounds_toArray, List.set_cons_zero, List.set_cons_succ, List.getElem_toArray, List.getElem_cons_zero, List.getElem_cons_succ]
        clear hb
        refine wpAnyH_take (i := 5) (v := ?v5_25) rfl (by kernel_rfl) (by kernel_rfl) (by kernel_rfl) (fun _ _ _ h => h) (Or.inl ⟨by rfl, ?hy5_25⟩) (by assumption) ?rest5_25
        case hy5_25 => (intro w9 hSw;  clear hSw; go_simp; try with_reducible rfl)
        simp only [Act.put, List.setIfInBounds_toArray, List.set_cons_zero, List.set_cons_succ, List.getElem_toArray, List.getElem_cons_zero, List.getElem_cons_succ]
        refine wpAnyH_take (i := 6) (v := ?v6_26) rfl (by kernel_rfl) (by kernel_rfl) (by kernel_rfl) (fun _ _ _ h => h) (Or.inl ⟨by rfl, ?hy6_26⟩) (by assumption) ?rest6_26
        case hy6_26 => (intro w9 hSw;  clear hSw; go_simp; try with_reducible rfl)
        simp only [Act.put, List.setIfInBounds_toArray, List.set_cons_zero, List.set_cons_succ, List.getElem_toArray, List.getElem_cons_zero, List.getElem_cons_succ]
        refine wpAnyH_take (i := 7) (v := ?v7_27) rfl (by kernel_rfl) (by kernel_rfl) (by kernel_rfl) (fun _ _ _ h => h) (Or.inl ⟨by rfl, ?hy7_27⟩) (by assumption) ?rest7_27
        case hy7_27 => (intro w9 hSw;  clear hSw; go_simp; try with_reducible rfl)
        simp only [Act.put, List.setIfInBounds_toArray, List.set_cons_zero, List.set_cons_succ, List.getElem_toArray, List.getElem_cons_zero, List.getElem_cons_succ]
        refine wpAnyH_ready (rs := [9]) (by kernel_rfl) (by simp) ?_
        refine AllReadyH.cons rfl (fun K hK => ?_) AllReadyH.nil
        have TB_0 := Blk.cell TB 0 rfl
        have TB_f0 := Blk.free TB 0
        have TB_1 := Blk.cell TB 1 rfl
        have TB_f1 := Blk.free TB 1
        have TB_2 := Blk.cell TB 2 rfl
        have TB_f2 := Blk.free TB 2
        go_simp
        refine hK.out _ _ (by go_grown) (fun hHeld => ?_)
        clear hK K
        try simp only [Act.put, List.setIfInBounds_toArray, List.set_cons_zero, List.set_cons_succ, List.getElem_toArray, List.getElem_cons_zero, List.getElem_cons_succ]
        refine wpAnyH_take (i := 10) (v := ?v10_28) rfl (by kernel_rfl) (by kernel_rfl) (by kernel_rfl) (fun _ _ _ h => h) (Or.inl ⟨by rfl, ?hy10_28⟩) (by assumption) ?rest10_28
        case hy10_28 => (intro w9 hSw;  clear hSw; go_simp; try with_reducible rfl)
        simp only [Act.put, List.setIfInBounds_toArray, List.set_cons_zero, List.set_cons_succ, List.getElem_toArray, List.getElem_cons_zero, List.getElem_cons_succ]
        refine wpAnyH_done (by kernel_rfl) ?_ _
        clear TB_0 TB_f0 TB_1 TB_f1 TB_2 TB_f2
        replace m5 := m5.put TB b5 A5 q5.length c5 x5
        replace TB := Dbx.put TB b5 A5 q5.length c5 x5
        have TB_0 := Blk.cell TB 0 rfl
        have TB_f0 := Blk.free TB 0
        have TB_1 := Blk.cell TB 1 rfl
        have TB_f1 := Blk.free TB 1
        have TB_2 := Blk.cell TB 2 rfl
        have TB_f2 := Blk.free TB 2
        go_wp2_with fail
        with_reducible refine (signOf_bel b5 A5 q5.length c5 _ ((sgn_dn hd5 m5.lim).trans HS.out)).mono ?_
        rintro e w9 ⟨rfl, hb⟩
        go_wp2_with fail
        go_ret2
        exact ⟨rfl, dy_end (by go_grown) hb⟩
    · go_simp
      refine hK.out _ _ (by go_grown) (fun hHeld => ?_)
      clear hK K
      try simp only [Act.put, List.setIfInBounds_toArray, List.set_cons_zero, List.set_cons_succ, List.getElem_toArray, List.getElem_cons_zero, List.getElem_cons_succ]
      have TB := Blk.new wz0 [.bool false, .slice none 0 0, .int .i64 0] 31
      refine wpAnyH_ready (rs := [3]) (by kernel_rfl) (by simp) ?_
      refine (AllReadyH.cons rfl (fun K hK => ?_) AllReadyH.nil)
      go_simp
      with_reducible refine (pp _ (dy_end bw hHeld)).mono ?_
      rintro e wz1 ⟨rfl, hb⟩
      have hr1 := dy_end hHeld hb
      have hz1 := hr1.size
      replace TB := Blk.on TB hb
      refine hK.out _ _ (dy_end hHeld hb) (fun hHeld => ?_)
      clear hK K
      try simp only [Act.put, List.setIfInBounds_toArray, List.set_cons_zero, List.set_cons_succ, List.getElem_toArray, List.getElem_cons_zero, List.getElem_cons_succ]
      clear hb
      refine wpAnyH_ready (rs := [4]) (by kernel_rfl) (by simp) ?_
      refine (AllReadyH.cons rfl (fun K hK => ?_) AllReadyH.nil)
      go_simp
      with_reducible refine (pt _ (dy_end bw hHeld)).mono ?_
      rintro e wz2 ⟨b5, q5, A5, c5, x5, rfl, hd5, m5, hb⟩
      have hr2 := dy_end hHeld hb
      have hz2 := hr2.size
      replace TB := Blk.on TB hb
      replace bw : Below w.heap.size w wz2 := dy_end bw hr2
      have hzw := bw.size
      refine hK.out _ _ (dy_end hHeld hb) (fun hHeld => ?_)
      clear hK K
      try simp only [Act.put, List.setIfInBounds_toArray, List.set_cons_zero, List.set_cons_succ, List.getElem_toArray, List.getElem_cons_zero, List.getElem_cons_succ]
      clear hb
      refine wpAnyH_take (i := 5) (v := ?v5_29) rfl (by kernel_rfl) (by kernel_rfl) (by kernel_rfl) (fun _ _ _ h => h) (Or.inl ⟨by rfl, ?hy5_29⟩) (by assumption) ?rest5_29
      case hy5_29 => (intro w9 hSw;  clear hSw; go_simp; try with_reducible rfl)
      simp only [Act.put, List.setIfInBounds_toArray, List.set_cons_zero, List.set_cons_succ, List.getElem_toArray, List.getElem_cons_zero, List.getElem_cons_succ]
      refine wpAnyH_take (i := 6) (v := ?v6_30) rfl (by kernel_rfl) (by kernel_rfl) (by kernel_rfl) (fun _ _ _ h => h) (Or.inl ⟨by rfl, ?hy6_30⟩) (by assumption) ?rest6_30
      case hy6_30 => (intro w9 hSw;  clear hSw; go_simp; try with_reducible rfl)
      simp only [Act.put, List.setIfInBounds_toArray, List.set_cons_zero, List.set_cons_succ, List.getElem_toArray, List.getElem_cons_zero, List.getElem_cons_succ]
      refine wpAnyH_take (i := 7) (v := ?v7_31) rfl (by kernel_rfl) (by kernel_rfl) (by kernel_rfl) (fun _ _ _ h => h) (Or.inl ⟨by rfl, ?hy7_31⟩) (by assumption) ?rest7_31
      case hy7_31 => (intro w9 hSw;  clear hSw; go_simp; try with_reducible rfl)
      simp only [Act.put, List.setIfInBounds_toArray, List.set_cons_zero, List.set_cons_succ, List.getElem_toArray, List.getElem_cons_zero, List.getElem_cons_succ]
      refine wpAnyH_ready (rs := [9]) (by kernel_rfl) (by simp) ?_
      refine AllReadyH.cons rfl (fun K hK => ?_) AllReadyH.nil
      have TB_0 := Blk.cell TB 0 rfl
      have TB_f0 := Blk.free TB 0
      have TB_1 := Blk.cell TB 1 rfl
      have TB_f1 := Blk.free TB 1
      have TB_2 := Blk.cell TB 2 rfl
      have TB_f2 := Blk.free TB 2
      go_simp
      refine hK.out _ _ (by go_grown) (fun hHeld => ?_)
      clear hK K
      try simp only [Act.put, List.setIfInBounds_toArray, List.set_cons_zero, List.set_cons_succ, List.getElem_toArray, List.getElem_cons_zero, List.getElem_cons_succ]
      refine wpAnyH_take (i := 10) (v := ?v10_32) rfl (by kernel_rfl) (by kernel_rfl) (by kernel_rfl) (fun _ _ _ h => h) (Or.inl ⟨by rfl, ?hy10_32⟩) (by assumption) ?rest10_32
      case hy10_32 => (intro w9 hSw;  clear hSw; go_simp; try with_reducible rfl)
      simp only [Act.put, List.setIfInBounds_toArray, List.set_cons_zero, List.set_cons_succ, List.getElem_toArray, List.getElem_cons_zero, List.getElem_cons_succ]
      refine wpAnyH_done (by kernel_rfl) ?_ _
      clear TB_0 TB_f0 TB_1 TB_f1 TB_2 TB_f2
      replace m5 := m5.put TB b5 A5 q5.length c5 x5
      replace TB := Dbx.put TB b5 A5 q5.length c5 x5
      have TB_0 := Blk.cell TB 0 rfl
      have TB_f0 := Blk.free TB 0
      have TB_1 := Blk.cell TB 1 rfl
      have TB_f1 := Blk.free TB 1
      have TB_2 := Blk.cell TB 2 rfl
      have TB_f2 := Blk.free TB 2
      go_wp2_with fail
      with_reducible refine (signOf_bel b5 A5 q5.length c5 _ ((sgn_dn hd5 m5.lim).trans HS.out)).mono ?_
      rintro e w9 ⟨rfl, hb⟩
      go_wp2_with fail
      go_ret2
      exact ⟨rfl, dy_end (by go_grown) hb⟩
  · go_simp
    refine hK.out _ _ (by go_grown) (fun hHeld => ?_)
    clear hK K
    try simp only [Act.put, List.setIfInBounds_toArray, List.set_cons_zero, List.set_cons_succ, List.getElem_toArray, List.getElem_cons_zero, List.getElem_cons_succ]
    have TB := Blk.new (w3.drew) [.bool false, .slice none 0 0, .int .i64 0] 31
    simp only [World.size_drew] at TB
    refine wpAnyH_ready (rs := [2]) (by kernel_rfl) (by simp) ?_
    refine (AllReadyH.cons rfl (fun K hK => ?_) AllReadyH.nil)
    go_simp
    with_reducible refine (dturned_any b2 A2 n2 c2 x2 _).mono ?_
    rintro e wz0 ⟨rfl, hb⟩
    have hr0 := dy_end hHeld hb
    have hz0 := hr0.size
    replace TB := Blk.on TB hb
    refine hK.out _ _ (dy_end hHeld hb) (fun hHeld => ?_)
    clear hK K
    try simp only [Act.put, List.setIfInBounds_toArray, List.set_cons_zero, List.set_cons_succ, List.getElem_toArray, List.getElem_cons_zero, List.getElem_cons_succ]
    clear hb
    refine wpAnyH_ready (rs := [3]) (by kernel_rfl) (by simp) ?_
    refine (AllReadyH.cons rfl (fun K hK => ?_) AllReadyH.nil)
    go_simp
    with_reducible refine (pp _ (dy_end bw hHeld)).mono ?_
    rintro e wz1 ⟨rfl, hb⟩
    have hr1 := dy_end hHeld hb
    have hz1 := hr1.size
    replace TB := Blk.on TB hb
    refine hK.out _ _ (dy_end hHeld hb) (fun hHeld => ?_)
    clear hK K
    try simp only [Act.put, List.setIfInBounds_toArray, List.set_cons_zero, List.set_cons_succ, List.getElem_toArray, List.getElem_cons_zero, List.getElem_cons_succ]
    clear hb
    refine wpAnyH_ready (rs := [4]) (by kernel_rfl) (by simp) ?_
    refine (AllReadyH.cons rfl (fun K hK => ?_) AllReadyH.nil)
    go_simp
    with_reducible refine (pt _ (dy_end bw hHeld)).mono ?_
    rintro e wz2 ⟨b5, q5, A5, c5, x5, rfl, hd5, m5, hb⟩
    have hr2 := dy_end hHeld hb
    have hz2 := hr2.size
    replace TB := Blk.on TB hb
    replace bw : Below w.heap.size w wz2 := dy_end bw hr2
    have hzw := bw.size
    refine hK.out _ _ (dy_end hHeld hb) (fun hHeld => ?_)
    clear hK K
    try simp only [Act.put, List.setIfInBounds_toArray, List.set_cons_zero, List.set_cons_succ, List.getElem_toArray, List.getElem_cons_zero, List.getElem_cons_succ]
    clear hb
    refine wpAnyH_take (i := 5) (v := ?v5_33) rfl (by kernel_rfl) (by kernel_rfl) (by kernel_rfl) (fun _ _ _ h => h) (Or.inl ⟨by rfl, ?hy5_33⟩) (by assumption) ?rest5_33
    case hy5_33 => (intro w9 hSw;  clear hSw; go_simp; try with_reducible rfl)
    simp only [Act.put, List.setIfInBounds_toArray, List.set_cons_zero, List.set_cons_succ, List.getElem_toArray, List.getElem_cons_zero, List.getElem_cons_succ]
    refine wpAnyH_take (i := 6) (v := ?v6_34) rfl (by kernel_rfl) (by kernel_rfl) (by kernel_rfl) (fun _ _ _ h => h) (Or.inl ⟨by rfl, ?hy6_34⟩) (by assumption) ?rest6_34
    case hy6_34 => (intro w9 hSw;  clear hSw; go_simp; try with_reducible rfl)
    simp only [Act.put, List.setIfInBounds_toArray, List.set_cons_zero, List.set_cons_succ, List.getElem_toArray, List.getElem_cons_zero, List.getElem_cons_succ]
    refine wpAnyH_take (i := 7) (v := ?v7_35) rfl (by kernel_rfl) (by kernel_rfl) (by kernel_rfl) (fun _ _ _ h => h) (Or.inl ⟨by rfl, ?hy7_35⟩) (by assumption) ?rest7_35
    case hy7_35 => (intro w9 hSw;  clear hSw; go_simp; try with_reducible rfl)
    simp only [Act.put, List.setIfInBounds_toArray, List.set_cons_zero, List.set_cons_succ, List.getElem_toArray, List.getElem_cons_zero, List.getElem_cons_succ]
    refine wpAnyH_ready (rs := [9]) (by kernel_rfl) (by simp) ?_
    refine AllReadyH.cons rfl (fun K hK => ?_) AllReadyH.nil
    have TB_0 := Blk.cell TB 0 rfl
    have TB_f0 := Blk.free TB 0
    have TB_1 := Blk.cell TB 1 rfl
    have TB_f1 := Blk.free TB 1
    have TB_2 := Blk.cell TB 2 rfl
    have TB_f2 := Blk.free TB 2
    go_simp
    refine hK.out _ _ (by go_grown) (fun hHeld => ?_)
    clear hK K
    try simp only [Act.put, List.setIfInBounds_toArray, List.set_cons_zero, List.set_cons_succ, List.getElem_toArray, List.getElem_cons_zero, List.getElem_cons_succ]
    refine wpAnyH_take (i := 10) (v := ?v10_36) rfl (by kernel_rfl) (by kernel_rfl) (by kernel_rfl) (fun _ _ _ h => h) (Or.inl ⟨by rfl, ?hy10_36⟩) (by assumption) ?rest10_36
    case hy10_36 => (intro w9 hSw;  clear hSw; go_simp; try with_reducible rfl)
    simp only [Act.put, List.setIfInBounds_toArray, List.set_cons_zero, List.set_cons_succ, List.getElem_toArray, List.getElem_cons_zero, List.getElem_cons_succ]
    refine wpAnyH_done (by kernel_rfl) ?_ _
    clear TB_0 TB_f0 TB_1 TB_f1 TB_2 TB_f2
    replace m5 := m5.put TB b5 A5 q5.length c5 x5
    replace TB := Dbx.put TB b5 A5 q5.length c5 x5
    have TB_0 := Blk.cell TB 0 rfl
    have TB_f0 := Blk.free TB 0
    have TB_1 := Blk.cell TB 1 rfl
    have TB_f1 := Blk.free TB 1
    have TB_2 := Blk.cell TB 2 rfl
    have TB_f2 := Blk.free TB 2
    go_wp2_with fail
    with_reducible refine (signOf_bel b5 A5 q5.length c5 _ ((sgn_dn hd5 m5.lim).trans HS.out)).mono ?_
    rintro e w9 ⟨rfl, hb⟩
    go_wp2_with fail
    go_ret2
    exact ⟨rfl, dy_end (by go_grown) hb⟩

end
end Go.Proofs.YtmfikppnkjhmjaaGreatDoor
