/-
  Layer 3: how numbers stand to each other.
-/
import Derived.Test.YtcdbjlmegkcaiaaGreatDoorYDyU
import Derived.Test.YtcdbjlmegkcaiaaGreatDoorYDyW
import Derived.Deep.Cut
namespace Go.Proofs.YtcdbjlmegkcaiaaGreatDoor
open Go.RowKit Go.Sort Go.Bw
set_option linter.unusedVariables false
set_option linter.unusedSimpArgs false

section
variable {b : Bool} {A : Option Addr} {n c : Nat} {x : Int} {l : List Int} {w : World}
variable {b2 : Bool} {A2 : Option Addr} {n2 c2 : Nat} {x2 : Int} {l2 : List Int} {d d2 : Nf}
set_option maxRecDepth 100000 in
set_option maxHeartbeats 8000000 in
theorem order_lt_p (h : Lv w A n c l) (hn : n ≤ 4096) (h2 : Lv w A2 n2 c2 l2) (hn2 : n2 ≤ 4096) (hs1 : sgnV b n = 1) (hs2 : sgnV b2 n2 = 1) (x0 : -1048576 ≤ x) (x1 : x ≤ 1048576) (y0 : -1048576 ≤ x2) (y1 : x2 ≤ 1048576) (hf : x - x2 ≤ 262144 ∧ x2 - x ≤ 262144) {k k2 : Nat} (hk : IsBits (val 18446744073709551616 l) k) (hk2 : IsBits (val 18446744073709551616 l2) k2) {u v : Int} (hu : x + (k : Int) = u) (hv : x2 + (k2 : Int) = v) (hlt : u < v) :
    Calls Tryz.prog 38 #[dyV b A n c x, dyV b2 A2 n2 c2 x2] w fun e w' => e = .returned (.tuple #[.int .i64 (-1), .int .i64 0]) ∧ Below w.heap.size w w' := by
  have n1 : (u != v) = true := by simp; omega
  have n3 : (u == v) = false := by simp; omega
  have hc : Lib.compareInt u v = -1 := by unfold Lib.compareInt; rw [if_pos hlt]
  have pc := fun W => cmp_bel u v W
  rw [hc] at pc
  clear hc
  have pu := fun W (mm : Lv W A n c l) => height_any (b := b) (x := x) mm hn hk x0 x1
  have pv := fun W (mm : Lv W A2 n2 c2 l2) => height_any (b := b2) (x := x2) mm hn2 hk2 y0 y1
  rw [hu] at pu
  rw [hv] at pv
  clear hu hv hk hk2
  have PB := Blk.new w [.bool b, .slice A n c, .int .i64 x] 40
  have QB := Blk.new (w.alloc (.cells #[.bool b, .slice A n c, .int .i64 x] 40)) [.bool b2, .slice A2 n2 c2, .int .i64 x2] 40
  simp only [World.size_alloc] at QB
  replace PB := Blk.alloc PB (.cells #[.bool b2, .slice A2 n2 c2, .int .i64 x2] 40)
  have bw : Below w.heap.size w ((w.alloc (.cells #[.bool b, .slice A n c, .int .i64 x] 40)).alloc (.cells #[.bool b2, .slice A2 n2 c2, .int .i64 x2] 40)) := by go_grown
  obtain ⟨PB_0, PB_1, PB_2, PB_f0, PB_f1, PB_f2⟩ := Dbx.cells PB
  obtain ⟨QB_0, QB_1, QB_2, QB_f0, QB_f1, QB_f2⟩ := Dbx.cells QB
  go_enter Tryz.func38, Tryz.ntmps38
  go_wp2_with fail
  have cA := fun d os => Calls.regrown_of (w := ((w.alloc (.cells #[.bool b, .slice A n c, .int .i64 x] 40)).alloc (.cells #[.bool b2, .slice A2 n2 c2, .int .i64 x2] 40))) (d := d) (os := os) (signOf_bel b A n c _ hs1)
  have cB := fun d os => Calls.regrown_of (w := ((w.alloc (.cells #[.bool b, .slice A n c, .int .i64 x] 40)).alloc (.cells #[.bool b2, .slice A2 n2 c2, .int .i64 x2] 40))) (d := d) (os := os) (signOf_bel b2 A2 n2 c2 _ hs2)
  have PB_r0 := cell_regrown PB_0
  have PB_r1 := cell_regrown PB_1
  have PB_r2 := cell_regrown PB_2
  have QB_r0 := cell_regrown QB_0
  have QB_r1 := cell_regrown QB_1
  have QB_r2 := cell_regrown QB_2
  refine wp_region_quiet_below mixed (by kernel_rfl) ?_
  repeat (quiet_step (first | (with_reducible exact cA _ _) | (with_reducible exact cB _ _)))
  refine wpQuiet_nil ?_
  intro _ hw'
  obtain ⟨⟨dq, osq⟩, hw''⟩ := hw'
  subst hw''
  have hb := below_regrown ((w.alloc (.cells #[.bool b, .slice A n c, .int .i64 x] 40)).alloc (.cells #[.bool b2, .slice A2 n2 c2, .int .i64 x2] 40)) dq osq
  clear PB_r0 PB_r1 PB_r2 QB_r0 QB_r1 QB_r2 cA cB
  generalize grow (redrawn ((w.alloc (.cells #[.bool b, .slice A n c, .int .i64 x] 40)).alloc (.cells #[.bool b2, .slice A2 n2 c2, .int .i64 x2] 40)) dq) osq = w1 at hb ⊢
  clear PB_0 PB_1 PB_2 PB_f0 PB_f1 PB_f2
  clear QB_0 QB_1 QB_2 QB_f0 QB_f1 QB_f2
  replace bw : Below w.heap.size w w1 := dy_end (by go_grown) hb
  replace PB := Blk.on PB hb
  replace QB := Blk.on QB hb
  have hs1 := hb.size
  try simp only [World.size_alloc] at hs1
  clear hb
  obtain ⟨PB_0, PB_1, PB_2, PB_f0, PB_f1, PB_f2⟩ := Dbx.cells PB
  obtain ⟨QB_0, QB_1, QB_2, QB_f0, QB_f1, QB_f2⟩ := Dbx.cells QB
  go_wp2_with fail
  with_reducible refine (tooFar_false b b2 A A2 n n2 c c2 _ x0 x1 y0 y1 hf).mono ?_
  rintro e w2 ⟨rfl, hb⟩
  clear PB_0 PB_1 PB_2 PB_f0 PB_f1 PB_f2
  clear QB_0 QB_1 QB_2 QB_f0 QB_f1 QB_f2
  have hs2 := hb.size
  try simp only [World.size_alloc, World.size_setCell] at hs2
  replace bw : Below w.heap.size w w2 := dy_end (by go_grown) hb
  replace PB := Blk.on PB hb
  replace QB := Blk.on QB hb
  clear hb
  obtain ⟨PB_0, PB_1, PB_2, PB_f0, PB_f1, PB_f2⟩ := Dbx.cells PB
  obtain ⟨QB_0, QB_1, QB_2, QB_f0, QB_f1, QB_f2⟩ := Dbx.cells QB
  go_wp2_with fail
  have cA := fun d os => Calls.regrown_of (w := w2) (d := d) (os := os) (pu _ (h.on (dy_end bw (below_regrown _ d os))))
  have cB := fun d os => Calls.regrown_of (w := w2) (d := d) (os := os) (pv _ (h2.on (dy_end bw (below_regrown _ d os))))
  have PB_r0 := cell_regrown PB_0
  have PB_r1 := cell_regrown PB_1
  have PB_r2 := cell_regrown PB_2
  have QB_r0 := cell_regrown QB_0
  have QB_r1 := cell_regrown QB_1
  have QB_r2 := cell_regrown QB_2
  refine wp_region_quiet_below mixed (by kernel_rfl) ?_
  repeat (quiet_step (first | (with_reducible exact cA _ _) | (with_reducible exact cB _ _)))
  refine wpQuiet_nil ?_
  intro _ hw'
  obtain ⟨⟨dq, osq⟩, hw''⟩ := hw'
  subst hw''
  have hb := below_regrown (w2) dq osq
  clear PB_r0 PB_r1 PB_r2 QB_r0 QB_r1 QB_r2 cA cB
  generalize grow (redrawn (w2) dq) osq = w3 at hb ⊢
  clear PB_0 PB_1 PB_2 PB_f0 PB_f1 PB_f2
  clear QB_0 QB_1 QB_2 QB_f0 QB_f1 QB_f2
  replace bw : Below w.heap.size w w3 := dy_end (by go_grown) hb
  replace PB := Blk.on PB hb
  replace QB := Blk.on QB hb
  have hs3 := hb.size
  try simp only [World.size_alloc] at hs3
  clear hb
  obtain ⟨PB_0, PB_1, PB_2, PB_f0, PB_f1, PB_f2⟩ := Dbx.cells PB
  obtain ⟨QB_0, QB_1, QB_2, QB_f0, QB_f1, QB_f2⟩ := Dbx.cells QB
  go_wp2_with fail
  have cA := fun d os => Calls.regrown_of (w := w3) (d := d) (os := os) (pu _ (h.on (dy_end bw (below_regrown _ d os))))
  have cB := fun d os => Calls.regrown_of (w := w3) (d := d) (os := os) (pv _ (h2.on (dy_end bw (below_regrown _ d os))))
  have cC := fun d os => Calls.regrown_of (w := w3) (d := d) (os := os) (pc _)
  have PB_r0 := cell_regrown PB_0
  have PB_r1 := cell_regrown PB_1
  have PB_r2 := cell_regrown PB_2
  have QB_r0 := cell_regrown QB_0
  have QB_r1 := cell_regrown QB_1
  have QB_r2 := cell_regrown QB_2
  refine wp_region_quiet_below mixed (by kernel_rfl) ?_
  repeat (quiet_step (first | (with_reducible exact cA _ _) | (with_reducible exact cB _ _) | (with_reducible exact cC _ _)))
  refine wpQuiet_nil ?_
  intro _ hw'
  obtain ⟨⟨dq, osq⟩, hw''⟩ := hw'
  subst hw''
  have hb := below_regrown (w3) dq osq
  clear PB_r0 PB_r1 PB_r2 QB_r0 QB_r1 QB_r2 cA cB cC
  generalize grow (redrawn (w3) dq) osq = w4 at hb ⊢
  clear PB_0 PB_1 PB_2 PB_f0 PB_f1 PB_f2
  clear QB_0 QB_1 QB_2 QB_f0 QB_f1 QB_f2
  replace bw : Below w.heap.size w w4 := dy_end (by go_grown) hb
  replace PB := Blk.on PB hb
  replace QB := Blk.on QB hb
  have hs4 := hb.size
  try simp only [World.size_alloc] at hs4
  clear hb
  obtain ⟨PB_0, PB_1, PB_2, PB_f0, PB_f1, PB_f2⟩ := Dbx.cells PB
  obtain ⟨QB_0, QB_1, QB_2, QB_f0, QB_f1, QB_f2⟩ := Dbx.cells QB
  go_wp2_with fail
  go_ret2
  exact ⟨rfl, by go_grown⟩

set_option maxRecDepth 100000 in
set_option maxHeartbeats 8000000 in
theorem order_gt_p (h : Lv w A n c l) (hn : n ≤ 4096) (h2 : Lv w A2 n2 c2 l2) (hn2 : n2 ≤ 4096) (hs1 : sgnV b n = 1) (hs2 : sgnV b2 n2 = 1) (x0 : -1048576 ≤ x) (x1 : x ≤ 1048576) (y0 : -1048576 ≤ x2) (y1 : x2 ≤ 1048576) (hf : x - x2 ≤ 262144 ∧ x2 - x ≤ 262144) {k k2 : Nat} (hk : IsBits (val 18446744073709551616 l) k) (hk2 : IsBits (val 18446744073709551616 l2) k2) {u v : Int} (hu : x + (k : Int) = u) (hv : x2 + (k2 : Int) = v) (hlt : v < u) :
    Calls Tryz.prog 38 #[dyV b A n c x, dyV b2 A2 n2 c2 x2] w fun e w' => e = .returned (.tuple #[.int .i64 1, .int .i64 0]) ∧ Below w.heap.size w w' := by
  have n1 : (u != v) = true := by simp; omega
  have n3 : (u == v) = false := by simp; omega
  have hc : Lib.compareInt u v = 1 := by unfold Lib.compareInt; rw [if_neg (by omega), if_pos (by omega)]
  have pc := fun W => cmp_bel u v W
  rw [hc] at pc
  clear hc
  have pu := fun W (mm : Lv W A n c l) => height_any (b := b) (x := x) mm hn hk x0 x1
  have pv := fun W (mm : Lv W A2 n2 c2 l2) => height_any (b := b2) (x := x2) mm hn2 hk2 y0 y1
  rw [hu] at pu
  rw [hv] at pv
  clear hu hv hk hk2
  have PB := Blk.new w [.bool b, .slice A n c, .int .i64 x] 40
  have QB := Blk.new (w.alloc (.cells #[.bool b, .slice A n c, .int .i64 x] 40)) [.bool b2, .slice A2 n2 c2, .int .i64 x2] 40
  simp only [World.size_alloc] at QB
  replace PB := Blk.alloc PB (.cells #[.bool b2, .slice A2 n2 c2, .int .i64 x2] 40)
  have bw : Below w.heap.size w ((w.alloc (.cells #[.bool b, .slice A n c, .int .i64 x] 40)).alloc (.cells #[.bool b2, .slice A2 n2 c2, .int .i64 x2] 40)) := by go_grown
  obtain ⟨PB_0, PB_1, PB_2, PB_f0, PB_f1, PB_f2⟩ := Dbx.cells PB
  obtain ⟨QB_0, QB_1, QB_2, QB_f0, QB_f1, QB_f2⟩ := Dbx.cells QB
  go_enter Tryz.func38, Tryz.ntmps38
  go_wp2_with fail
  have cA := fun d os => Calls.regrown_of (w := ((w.alloc (.cells #[.bool b, .slice A n c, .int .i64 x] 40)).alloc (.cells #[.bool b2, .slice A2 n2 c2, .int .i64 x2] 40))) (d := d) (os := os) (signOf_bel b A n c _ hs1)
  have cB := fun d os => Calls.regrown_of (w := ((w.alloc (.cells #[.bool b, .slice A n c, .int .i64 x] 40)).alloc (.cells #[.bool b2, .slice A2 n2 c2, .int .i64 x2] 40))) (d := d) (os := os) (signOf_bel b2 A2 n2 c2 _ hs2)
  have PB_r0 := cell_regrown PB_0
  have PB_r1 := cell_regrown PB_1
  have PB_r2 := cell_regrown PB_2
  have QB_r0 := cell_regrown QB_0
  have QB_r1 := cell_regrown QB_1
  have QB_r2 := cell_regrown QB_2
  refine wp_region_quiet_below mixed (by kernel_rfl) ?_
  repeat (quiet_step (first | (with_reducible exact cA _ _) | (with_reducible exact cB _ _)))
  refine wpQuiet_nil ?_
  intro _ hw'
  obtain ⟨⟨dq, osq⟩, hw''⟩ := hw'
  subst hw''
  have hb := below_regrown ((w.alloc (.cells #[.bool b, .slice A n c, .int .i64 x] 40)).alloc (.cells #[.bool b2, .slice A2 n2 c2, .int .i64 x2] 40)) dq osq
  clear PB_r0 PB_r1 PB_r2 QB_r0 QB_r1 QB_r2 cA cB
  generalize grow (redrawn ((w.alloc (.cells #[.bool b, .slice A n c, .int .i64 x] 40)).alloc (.cells #[.bool b2, .slice A2 n2 c2, .int .i64 x2] 40)) dq) osq = w1 at hb ⊢
  clear PB_0 PB_1 PB_2 PB_f0 PB_f1 PB_f2
  clear QB_0 QB_1 QB_2 QB_f0 QB_f1 QB_f2
  replace bw : Below w.heap.size w w1 := dy_end (by go_grown) hb
  replace PB := Blk.on PB hb
  replace QB := Blk.on QB hb
  have hs1 := hb.size
  try simp only [World.size_alloc] at hs1
  clear hb
  obtain ⟨PB_0, PB_1, PB_2, PB_f0, PB_f1, PB_f2⟩ := Dbx.cells PB
  obtain ⟨QB_0, QB_1, QB_2, QB_f0, QB_f1, QB_f2⟩ := Dbx.cells QB
  go_wp2_with fail
  with_reducible refine (tooFar_false b b2 A A2 n n2 c c2 _ x0 x1 y0 y1 hf).mono ?_
  rintro e w2 ⟨rfl, hb⟩
  clear PB_0 PB_1 PB_2 PB_f0 PB_f1 PB_f2
  clear QB_0 QB_1 QB_2 QB_f0 QB_f1 QB_f2
  have hs2 := hb.size
  try simp only [World.size_alloc, World.size_setCell] at hs2
  replace bw : Below w.heap.size w w2 := dy_end (by go_grown) hb
  replace PB := Blk.on PB hb
  replace QB := Blk.on QB hb
  clear hb
  obtain ⟨PB_0, PB_1, PB_2, PB_f0, PB_f1, PB_f2⟩ := Dbx.cells PB
  obtain ⟨QB_0, QB_1, QB_2, QB_f0, QB_f1, QB_f2⟩ := Dbx.cells QB
  go_wp2_with fail
  have cA := fun d os => Calls.regrown_of (w := w2) (d := d) (os := os) (pu _ (h.on (dy_end bw (below_regrown _ d os))))
  have cB := fun d os => Calls.regrown_of (w := w2) (d := d) (os := os) (pv _ (h2.on (dy_end bw (below_regrown _ d os))))
  have PB_r0 := cell_regrown PB_0
  have PB_r1 := cell_regrown PB_1
  have PB_r2 := cell_regrown PB_2
  have QB_r0 := cell_regrown QB_0
  have QB_r1 := cell_regrown QB_1
  have QB_r2 := cell_regrown QB_2
  refine wp_region_quiet_below mixed (by kernel_rfl) ?_
  repeat (quiet_step (first | (with_reducible exact cA _ _) | (with_reducible exact cB _ _)))
  refine wpQuiet_nil ?_
  intro _ hw'
  obtain ⟨⟨dq, osq⟩, hw''⟩ := hw'
  subst hw''
  have hb := below_regrown (w2) dq osq
  clear PB_r0 PB_r1 PB_r2 QB_r0 QB_r1 QB_r2 cA cB
  generalize grow (redrawn (w2) dq) osq = w3 at hb ⊢
  clear PB_0 PB_1 PB_2 PB_f0 PB_f1 PB_f2
  clear QB_0 QB_1 QB_2 QB_f0 QB_f1 QB_f2
  replace bw : Below w.heap.size w w3 := dy_end (by go_grown) hb
  replace PB := Blk.on PB hb
  replace QB := Blk.on QB hb
  have hs3 := hb.size
  try simp only [World.size_alloc] at hs3
  clear hb
  obtain ⟨PB_0, PB_1, PB_2, PB_f0, PB_f1, PB_f2⟩ := Dbx.cells PB
  obtain ⟨QB_0, QB_1, QB_2, QB_f0, QB_f1, QB_f2⟩ := Dbx.cells QB
  go_wp2_with fail
  have cA := fun d os => Calls.regrown_of (w := w3) (d := d) (os := os) (pu _ (h.on (dy_end bw (below_regrown _ d os))))
  have cB := fun d os => Calls.regrown_of (w := w3) (d := d) (os := os) (pv _ (h2.on (dy_end bw (below_regrown _ d os))))
  have cC := fun d os => Calls.regrown_of (w := w3) (d := d) (os := os) (pc _)
  have PB_r0 := cell_regrown PB_0
  have PB_r1 := cell_regrown PB_1
  have PB_r2 := cell_regrown PB_2
  have QB_r0 := cell_regrown QB_0
  have QB_r1 := cell_regrown QB_1
  have QB_r2 := cell_regrown QB_2
  refine wp_region_quiet_below mixed (by kernel_rfl) ?_
  repeat (quiet_step (first | (with_reducible exact cA _ _) | (with_reducible exact cB _ _) | (with_reducible exact cC _ _)))
  refine wpQuiet_nil ?_
  intro _ hw'
  obtain ⟨⟨dq, osq⟩, hw''⟩ := hw'
  subst hw''
  have hb := below_regrown (w3) dq osq
  clear PB_r0 PB_r1 PB_r2 QB_r0 QB_r1 QB_r2 cA cB cC
  generalize grow (redrawn (w3) dq) osq = w4 at hb ⊢
  clear PB_0 PB_1 PB_2 PB_f0 PB_f1 PB_f2
  clear QB_0 QB_1 QB_2 QB_f0 QB_f1 QB_f2
  replace bw : Below w.heap.size w w4 := dy_end (by go_grown) hb
  replace PB := Blk.on PB hb
  replace QB := Blk.on QB hb
  have hs4 := hb.size
  try simp only [World.size_alloc] at hs4
  clear hb
  obtain ⟨PB_0, PB_1, PB_2, PB_f0, PB_f1, PB_f2⟩ := Dbx.cells PB
  obtain ⟨QB_0, QB_1, QB_2, QB_f0, QB_f1, QB_f2⟩ := Dbx.cells QB
  go_wp2_with fail
  go_ret2
  exact ⟨rfl, by go_grown⟩

set_option maxRecDepth 100000 in
set_option maxHeartbeats 8000000 in
theorem order_lt_n (h : Lv w A n c l) (hn : n ≤ 4096) (h2 : Lv w A2 n2 c2 l2) (hn2 : n2 ≤ 4096) (hs1 : sgnV b n = -1) (hs2 : sgnV b2 n2 = -1) (x0 : -1048576 ≤ x) (x1 : x ≤ 1048576) (y0 : -1048576 ≤ x2) (y1 : x2 ≤ 1048576) (hf : x - x2 ≤ 262144 ∧ x2 - x ≤ 262144) {k k2 : Nat} (hk : IsBits (val 18446744073709551616 l) k) (hk2 : IsBits (val 18446744073709551616 l2) k2) {u v : Int} (hu : x + (k : Int) = u) (hv : x2 + (k2 : Int) = v) (hlt : u < v) :
    Calls Tryz.prog 38 #[dyV b A n c x, dyV b2 A2 n2 c2 x2] w fun e w' => e = .returned (.tuple #[.int .i64 1, .int .i64 0]) ∧ Below w.heap.size w w' := by
  have n1 : (u != v) = true := by simp; omega
  have n3 : (u == v) = false := by simp; omega
  have hc : Lib.compareInt u v = -1 := by unfold Lib.compareInt; rw [if_pos hlt]
  have pc := fun W => cmp_bel u v W
  rw [hc] at pc
  clear hc
  have pu := fun W (mm : Lv W A n c l) => height_any (b := b) (x := x) mm hn hk x0 x1
  have pv := fun W (mm : Lv W A2 n2 c2 l2) => height_any (b := b2) (x := x2) mm hn2 hk2 y0 y1
  rw [hu] at pu
  rw [hv] at pv
  clear hu hv hk hk2
  have PB := Blk.new w [.bool b, .slice A n c, .int .i64 x] 40
  have QB := Blk.new (w.alloc (.cells #[.bool b, .slice A n c, .int .i64 x] 40)) [.bool b2, .slice A2 n2 c2, .int .i64 x2] 40
  simp only [World.size_alloc] at QB
  replace PB := Blk.alloc PB (.cells #[.bool b2, .slice A2 n2 c2, .int .i64 x2] 40)
  have bw : Below w.heap.size w ((w.alloc (.cells #[.bool b, .slice A n c, .int .i64 x] 40)).alloc (.cells #[.bool b2, .slice A2 n2 c2, .int .i64 x2] 40)) := by go_grown
  obtain ⟨PB_0, PB_1, PB_2, PB_f0, PB_f1, PB_f2⟩ := Dbx.cells PB
  obtain ⟨QB_0, QB_1, QB_2, QB_f0, QB_f1, QB_f2⟩ := Dbx.cells QB
  go_enter Tryz.func38, Tryz.ntmps38
  go_wp2_with fail
  have cA := fun d os => Calls.regrown_of (w := ((w.alloc (.cells #[.bool b, .slice A n c, .int .i64 x] 40)).alloc (.cells #[.bool b2, .slice A2 n2 c2, .int .i64 x2] 40))) (d := d) (os := os) (signOf_bel b A n c _ hs1)
  have cB := fun d os => Calls.regrown_of (w := ((w.alloc (.cells #[.bool b, .slice A n c, .int .i64 x] 40)).alloc (.cells #[.bool b2, .slice A2 n2 c2, .int .i64 x2] 40))) (d := d) (os := os) (signOf_bel b2 A2 n2 c2 _ hs2)
  have PB_r0 := cell_regrown PB_0
  have PB_r1 := cell_regrown PB_1
  have PB_r2 := cell_regrown PB_2
  have QB_r0 := cell_regrown QB_0
  have QB_r1 := cell_regrown QB_1
  have QB_r2 := cell_regrown QB_2
  refine wp_region_quiet_below mixed (by kernel_rfl) ?_
  repeat (quiet_step (first | (with_reducible exact cA _ _) | (with_reducible exact cB _ _)))
  refine wpQuiet_nil ?_
  intro _ hw'
  obtain ⟨⟨dq, osq⟩, hw''⟩ := hw'
  subst hw''
  have hb := below_regrown ((w.alloc (.cells #[.bool b, .slice A n c, .int .i64 x] 40)).alloc (.cells #[.bool b2, .slice A2 n2 c2, .int .i64 x2] 40)) dq osq
  clear PB_r0 PB_r1 PB_r2 QB_r0 QB_r1 QB_r2 cA cB
  generalize grow (redrawn ((w.alloc (.cells #[.bool b, .slice A n c, .int .i64 x] 40)).alloc (.cells #[.bool b2, .slice A2 n2 c2, .int .i64 x2] 40)) dq) osq = w1 at hb ⊢
  clear PB_0 PB_1 PB_2 PB_f0 PB_f1 PB_f2
  clear QB_0 QB_1 QB_2 QB_f0 QB_f1 QB_f2
  replace bw : Below w.heap.size w w1 := dy_end (by go_grown) hb
  replace PB := Blk.on PB hb
  replace QB := Blk.on QB hb
  have hs1 := hb.size
  try simp only [World.size_alloc] at hs1
  clear hb
  obtain ⟨PB_0, PB_1, PB_2, PB_f0, PB_f1, PB_f2⟩ := Dbx.cells PB
  obtain ⟨QB_0, QB_1, QB_2, QB_f0, QB_f1, QB_f2⟩ := Dbx.cells QB
  go_wp2_with fail
  with_reducible refine (tooFar_false b b2 A A2 n n2 c c2 _ x0 x1 y0 y1 hf).mono ?_
  rintro e w2 ⟨rfl, hb⟩
  clear PB_0 PB_1 PB_2 PB_f0 PB_f1 PB_f2
  clear QB_0 QB_1 QB_2 QB_f0 QB_f1 QB_f2
  have hs2 := hb.size
  try simp only [World.size_alloc, World.size_setCell] at hs2
  replace bw : Below w.heap.size w w2 := dy_end (by go_grown) hb
  replace PB := Blk.on PB hb
  replace QB := Blk.on QB hb
  clear hb
  obtain ⟨PB_0, PB_1, PB_2, PB_f0, PB_f1, PB_f2⟩ := Dbx.cells PB
  obtain ⟨QB_0, QB_1, QB_2, QB_f0, QB_f1, QB_f2⟩ := Dbx.cells QB
  go_wp2_with fail
  have cA := fun d os => Calls.regrown_of (w := w2) (d := d) (os := os) (pu _ (h.on (dy_end bw (below_regrown _ d os))))
  have cB := fun d os => Calls.regrown_of (w := w2) (d := d) (os := os) (pv _ (h2.on (dy_end bw (below_regrown _ d os))))
  have PB_r0 := cell_regrown PB_0
  have PB_r1 := cell_regrown PB_1
  have PB_r2 := cell_regrown PB_2
  have QB_r0 := cell_regrown QB_0
  have QB_r1 := cell_regrown QB_1
  have QB_r2 := cell_regrown QB_2
  refine wp_region_quiet_below mixed (by kernel_rfl) ?_
  repeat (quiet_step (first | (with_reducible exact cA _ _) | (with_reducible exact cB _ _)))
  refine wpQuiet_nil ?_
  intro _ hw'
  obtain ⟨⟨dq, osq⟩, hw''⟩ := hw'
  subst hw''
  have hb := below_regrown (w2) dq osq
  clear PB_r0 PB_r1 PB_r2 QB_r0 QB_r1 QB_r2 cA cB
  generalize grow (redrawn (w2) dq) osq = w3 at hb ⊢
  clear PB_0 PB_1 PB_2 PB_f0 PB_f1 PB_f2
  clear QB_0 QB_1 QB_2 QB_f0 QB_f1 QB_f2
  replace bw : Below w.heap.size w w3 := dy_end (by go_grown) hb
  replace PB := Blk.on PB hb
  replace QB := Blk.on QB hb
  have hs3 := hb.size
  try simp only [World.size_alloc] at hs3
  clear hb
  obtain ⟨PB_0, PB_1, PB_2, PB_f0, PB_f1, PB_f2⟩ := Dbx.cells PB
  obtain ⟨QB_0, QB_1, QB_2, QB_f0, QB_f1, QB_f2⟩ := Dbx.cells QB
  go_wp2_with fail
  have cA := fun d os => Calls.regrown_of (w := w3) (d := d) (os := os) (pu _ (h.on (dy_end bw (below_regrown _ d os))))
  have cB := fun d os => Calls.regrown_of (w := w3) (d := d) (os := os) (pv _ (h2.on (dy_end bw (below_regrown _ d os))))
  have cC := fun d os => Calls.regrown_of (w := w3) (d := d) (os := os) (pc _)
  have PB_r0 := cell_regrown PB_0
  have PB_r1 := cell_regrown PB_1
  have PB_r2 := cell_regrown PB_2
  have QB_r0 := cell_regrown QB_0
  have QB_r1 := cell_regrown QB_1
  have QB_r2 := cell_regrown QB_2
  refine wp_region_quiet_below mixed (by kernel_rfl) ?_
  repeat (quiet_step (first | (with_reducible exact cA _ _) | (with_reducible exact cB _ _) | (with_reducible exact cC _ _)))
  refine wpQuiet_nil ?_
  intro _ hw'
  obtain ⟨⟨dq, osq⟩, hw''⟩ := hw'
  subst hw''
  have hb := below_regrown (w3) dq osq
  clear PB_r0 PB_r1 PB_r2 QB_r0 QB_r1 QB_r2 cA cB cC
  generalize grow (redrawn (w3) dq) osq = w4 at hb ⊢
  clear PB_0 PB_1 PB_2 PB_f0 PB_f1 PB_f2
  clear QB_0 QB_1 QB_2 QB_f0 QB_f1 QB_f2
  replace bw : Below w.heap.size w w4 := dy_end (by go_grown) hb
  replace PB := Blk.on PB hb
  replace QB := Blk.on QB hb
  have hs4 := hb.size
  try simp only [World.size_alloc] at hs4
  clear hb
  obtain ⟨PB_0, PB_1, PB_2, PB_f0, PB_f1, PB_f2⟩ := Dbx.cells PB
  obtain ⟨QB_0, QB_1, QB_2, QB_f0, QB_f1, QB_f2⟩ := Dbx.cells QB
  go_wp2_with fail
  go_ret2
  exact ⟨rfl, by go_grown⟩

set_option maxRecDepth 100000 in
set_option maxHeartbeats 8000000 in
theorem order_gt_n (h : Lv w A n c l) (hn : n ≤ 4096) (h2 : Lv w A2 n2 c2 l2) (hn2 : n2 ≤ 4096) (hs1 : sgnV b n = -1) (hs2 : sgnV b2 n2 = -1) (x0 : -1048576 ≤ x) (x1 : x ≤ 1048576) (y0 : -1048576 ≤ x2) (y1 : x2 ≤ 1048576) (hf : x - x2 ≤ 262144 ∧ x2 - x ≤ 262144) {k k2 : Nat} (hk : IsBits (val 18446744073709551616 l) k) (hk2 : IsBits (val 18446744073709551616 l2) k2) {u v : Int} (hu : x + (k : Int) = u) (hv : x2 + (k2 : Int) = v) (hlt : v < u) :
    Calls Tryz.prog 38 #[dyV b A n c x, dyV b2 A2 n2 c2 x2] w fun e w' => e = .returned (.tuple #[.int .i64 (-1), .int .i64 0]) ∧ Below w.heap.size w w' := by
  have n1 : (u != v) = true := by simp; omega
  have n3 : (u == v) = false := by simp; omega
  have hc : Lib.compareInt u v = 1 := by unfold Lib.compareInt; rw [if_neg (by omega), if_pos (by omega)]
  have pc := fun W => cmp_bel u v W
  rw [hc] at pc
  clear hc
  have pu := fun W (mm : Lv W A n c l) => height_any (b := b) (x := x) mm hn hk x0 x1
  have pv := fun W (mm : Lv W A2 n2 c2 l2) => height_any (b := b2) (x := x2) mm hn2 hk2 y0 y1
  rw [hu] at pu
  rw [hv] at pv
  clear hu hv hk hk2
  have PB := Blk.new w [.bool b, .slice A n c, .int .i64 x] 40
  have QB := Blk.new (w.alloc (.cells #[.bool b, .slice A n c, .int .i64 x] 40)) [.bool b2, .slice A2 n2 c2, .int .i64 x2] 40
  simp only [World.size_alloc] at QB
  replace PB := Blk.alloc PB (.cells #[.bool b2, .slice A2 n2 c2, .int .i64 x2] 40)
  have bw : Below w.heap.size w ((w.alloc (.cells #[.bool b, .slice A n c, .int .i64 x] 40)).alloc (.cells #[.bool b2, .slice A2 n2 c2, .int .i64 x2] 40)) := by go_grown
  obtain ⟨PB_0, PB_1, PB_2, PB_f0, PB_f1, PB_f2⟩ := Dbx.cells PB
  obtain ⟨QB_0, QB_1, QB_2, QB_f0, QB_f1, QB_f2⟩ := Dbx.cells QB
  go_enter Tryz.func38, Tryz.ntmps38
  go_wp2_with fail
  have cA := fun d os => Calls.regrown_of (w := ((w.alloc (.cells #[.bool b, .slice A n c, .int .i64 x] 40)).alloc (.cells #[.bool b2, .slice A2 n2 c2, .int .i64 x2] 40))) (d := d) (os := os) (signOf_bel b A n c _ hs1)
  have cB := fun d os => Calls.regrown_of (w := ((w.alloc (.cells #[.bool b, .slice A n c, .int .i64 x] 40)).alloc (.cells #[.bool b2, .slice A2 n2 c2, .int .i64 x2] 40))) (d := d) (os := os) (signOf_bel b2 A2 n2 c2 _ hs2)
  have PB_r0 := cell_regrown PB_0
  have PB_r1 := cell_regrown PB_1
  have PB_r2 := cell_regrown PB_2
  have QB_r0 := cell_regrown QB_0
  have QB_r1 := cell_regrown QB_1
  have QB_r2 := cell_regrown QB_2
  refine wp_region_quiet_below mixed (by kernel_rfl) ?_
  repeat (quiet_step (first | (with_reducible exact cA _ _) | (with_reducible exact cB _ _)))
  refine wpQuiet_nil ?_
  intro _ hw'
  obtain ⟨⟨dq, osq⟩, hw''⟩ := hw'
  subst hw''
  have hb := below_regrown ((w.alloc (.cells #[.bool b, .slice A n c, .int .i64 x] 40)).alloc (.cells #[.bool b2, .slice A2 n2 c2, .int .i64 x2] 40)) dq osq
  clear PB_r0 PB_r1 PB_r2 QB_r0 QB_r1 QB_r2 cA cB
  generalize grow (redrawn ((w.alloc (.cells #[.bool b, .slice A n c, .int .i64 x] 40)).alloc (.cells #[.bool b2, .slice A2 n2 c2, .int .i64 x2] 40)) dq) osq = w1 at hb ⊢
  clear PB_0 PB_1 PB_2 PB_f0 PB_f1 PB_f2
  clear QB_0 QB_1 QB_2 QB_f0 QB_f1 QB_f2
  replace bw : Below w.heap.size w w1 := dy_end (by go_grown) hb
  replace PB := Blk.on PB hb
  replace QB := Blk.on QB hb
  have hs1 := hb.size
  try simp only [World.size_alloc] at hs1
  clear hb
  obtain ⟨PB_0, PB_1, PB_2, PB_f0, PB_f1, PB_f2⟩ := Dbx.cells PB
  obtain ⟨QB_0, QB_1, QB_2, QB_f0, QB_f1, QB_f2⟩ := Dbx.cells QB
  go_wp2_with fail
  with_reducible refine (tooFar_false b b2 A A2 n n2 c c2 _ x0 x1 y0 y1 hf).mono ?_
  rintro e w2 ⟨rfl, hb⟩
  clear PB_0 PB_1 PB_2 PB_f0 PB_f1 PB_f2
  clear QB_0 QB_1 QB_2 QB_f0 QB_f1 QB_f2
  have hs2 := hb.size
  try simp only [World.size_alloc, World.size_setCell] at hs2
  replace bw : Below w.heap.size w w2 := dy_end (by go_grown) hb
  replace PB := Blk.on PB hb
  replace QB := Blk.on QB hb
  clear hb
  obtain ⟨PB_0, PB_1, PB_2, PB_f0, PB_f1, PB_f2⟩ := Dbx.cells PB
  obtain ⟨QB_0, QB_1, QB_2, QB_f0, QB_f1, QB_f2⟩ := Dbx.cells QB
  go_wp2_with fail
  have cA := fun d os => Calls.regrown_of (w := w2) (d := d) (os := os) (pu _ (h.on (dy_end bw (below_regrown _ d os))))
  have cB := fun d os => Calls.regrown_of (w := w2) (d := d) (os := os) (pv _ (h2.on (dy_end bw (below_regrown _ d os))))
  have PB_r0 := cell_regrown PB_0
  have PB_r1 := cell_regrown PB_1
  have PB_r2 := cell_regrown PB_2
  have QB_r0 := cell_regrown QB_0
  have QB_r1 := cell_regrown QB_1
  have QB_r2 := cell_regrown QB_2
  refine wp_region_quiet_below mixed (by kernel_rfl) ?_
  repeat (quiet_step (first | (with_reducible exact cA _ _) | (with_reducible exact cB _ _)))
  refine wpQuiet_nil ?_
  intro _ hw'
  obtain ⟨⟨dq, osq⟩, hw''⟩ := hw'
  subst hw''
  have hb := below_regrown (w2) dq osq
  clear PB_r0 PB_r1 PB_r2 QB_r0 QB_r1 QB_r2 cA cB
  generalize grow (redrawn (w2) dq) osq = w3 at hb ⊢
  clear PB_0 PB_1 PB_2 PB_f0 PB_f1 PB_f2
  clear QB_0 QB_1 QB_2 QB_f0 QB_f1 QB_f2
  replace bw : Below w.heap.size w w3 := dy_end (by go_grown) hb
  replace PB := Blk.on PB hb
  replace QB := Blk.on QB hb
  have hs3 := hb.size
  try simp only [World.size_alloc] at hs3
  clear hb
  obtain ⟨PB_0, PB_1, PB_2, PB_f0, PB_f1, PB_f2⟩ := Dbx.cells PB
  obtain ⟨QB_0, QB_1, QB_2, QB_f0, QB_f1, QB_f2⟩ := Dbx.cells QB
  go_wp2_with fail
  have cA := fun d os => Calls.regrown_of (w := w3) (d := d) (os := os) (pu _ (h.on (dy_end bw (below_regrown _ d os))))
  have cB := fun d os => Calls.regrown_of (w := w3) (d := d) (os := os) (pv _ (h2.on (dy_end bw (below_regrown _ d os))))
  have cC := fun d os => Calls.regrown_of (w := w3) (d := d) (os := os) (pc _)
  have PB_r0 := cell_regrown PB_0
  have PB_r1 := cell_regrown PB_1
  have PB_r2 := cell_regrown PB_2
  have QB_r0 := cell_regrown QB_0
  have QB_r1 := cell_regrown QB_1
  have QB_r2 := cell_regrown QB_2
  refine wp_region_quiet_below mixed (by kernel_rfl) ?_
  repeat (quiet_step (first | (with_reducible exact cA _ _) | (with_reducible exact cB _ _) | (with_reducible exact cC _ _)))
  refine wpQuiet_nil ?_
  intro _ hw'
  obtain ⟨⟨dq, osq⟩, hw''⟩ := hw'
  subst hw''
  have hb := below_regrown (w3) dq osq
  clear PB_r0 PB_r1 PB_r2 QB_r0 QB_r1 QB_r2 cA cB cC
  generalize grow (redrawn (w3) dq) osq = w4 at hb ⊢
  clear PB_0 PB_1 PB_2 PB_f0 PB_f1 PB_f2
  clear QB_0 QB_1 QB_2 QB_f0 QB_f1 QB_f2
  replace bw : Below w.heap.size w w4 := dy_end (by go_grown) hb
  replace PB := Blk.on PB hb
  replace QB := Blk.on QB hb
  have hs4 := hb.size
  try simp only [World.size_alloc] at hs4
  clear hb
  obtain ⟨PB_0, PB_1, PB_2, PB_f0, PB_f1, PB_f2⟩ := Dbx.cells PB
  obtain ⟨QB_0, QB_1, QB_2, QB_f0, QB_f1, QB_f2⟩ := Dbx.cells QB
  go_wp2_with fail
  go_ret2
  exact ⟨rfl, by go_grown⟩

theorem cellC {W w : World} {p : Addr} {v : Value} (h : W.cell? p = some v) (hb : Below W.heap.size W w) : w.cell? p = some v := (hb.cell (World.block_lt_of_cell? _ _ h)).trans h
theorem Dn.turnN {b : Bool} {l : List Int} {x : Int} {d : Nf} (h : Dn b l x d) (hl : Lim 18446744073709551616 l) (h0 : d.man ≠ 0) : Dn (!b) l x (negN d) := by
  rcases h.turn hl with ⟨e, _⟩ | ⟨_, g⟩
  · exact absurd ((h.nil hl).1 (by rw [e]; rfl)) h0
  · exact g
set_option maxRecDepth 100000 in
set_option maxHeartbeats 8000000 in
theorem order_eq_p (h : Lv w A n c l) (hn : n ≤ 4096) (h2 : Lv w A2 n2 c2 l2) (hn2 : n2 ≤ 4096) (hs1 : sgnV b n = 1) (hs2 : sgnV b2 n2 = 1) (x0 : -1048576 ≤ x) (x1 : x ≤ 1048576) (y0 : -1048576 ≤ x2) (y1 : x2 ≤ 1048576) (hf : x - x2 ≤ 262144 ∧ x2 - x ≤ 262144) {k k2 : Nat} (hk : IsBits (val 18446744073709551616 l) k) (hk2 : IsBits (val 18446744073709551616 l2) k2) {u v : Int} (hu : x + (k : Int) = u) (hv : x2 + (k2 : Int) = v) (heq : u = v) (hT : Tab w) (hd : Dn b l x d) (hd2 : Dn (!b2) l2 x2 d2) (m0 : d.man ≠ 0) (m2 : d2.man ≠ 0) (hN : Near d d2) {r : Int} (HS : Hid (sgn (sumN d d2) = r)) :
    Calls Tryz.prog 38 #[dyV b A n c x, dyV b2 A2 n2 c2 x2] w fun e w' => e = .returned (.tuple #[.int .i64 r, .int .i64 0]) ∧ Below w.heap.size w w' := by
  have n1 : (u != v) = false := by simp; omega
  have n3 : (u == v) = true := by simp; omega
  clear heq
  have pu := fun W (mm : Lv W A n c l) => height_any (b := b) (x := x) mm hn hk x0 x1
  have pv := fun W (mm : Lv W A2 n2 c2 l2) => height_any (b := b2) (x := x2) mm hn2 hk2 y0 y1
  rw [hu] at pu
  rw [hv] at pv
  clear hu hv hk hk2
  have PB := Blk.new w [.bool b, .slice A n c, .int .i64 x] 40
  have QB := Blk.new (w.alloc (.cells #[.bool b, .slice A n c, .int .i64 x] 40)) [.bool b2, .slice A2 n2 c2, .int .i64 x2] 40
  simp only [World.size_alloc] at QB
  replace PB := Blk.alloc PB (.cells #[.bool b2, .slice A2 n2 c2, .int .i64 x2] 40)
  have bw : Below w.heap.size w ((w.alloc (.cells #[.bool b, .slice A n c, .int .i64 x] 40)).alloc (.cells #[.bool b2, .slice A2 n2 c2, .int .i64 x2] 40)) := by go_grown
  obtain ⟨PB_0, PB_1, PB_2, PB_f0, PB_f1, PB_f2⟩ := Dbx.cells PB
  obtain ⟨QB_0, QB_1, QB_2, QB_f0, QB_f1, QB_f2⟩ := Dbx.cells QB
  go_enter Tryz.func38, Tryz.ntmps38
  go_wp2_with fail
  have cA := fun d os => Calls.regrown_of (w := ((w.alloc (.cells #[.bool b, .slice A n c, .int .i64 x] 40)).alloc (.cells #[.bool b2, .slice A2 n2 c2, .int .i64 x2] 40))) (d := d) (os := os) (signOf_bel b A n c _ hs1)
  have cB := fun d os => Calls.regrown_of (w := ((w.alloc (.cells #[.bool b, .slice A n c, .int .i64 x] 40)).alloc (.cells #[.bool b2, .slice A2 n2 c2, .int .i64 x2] 40))) (d := d) (os := os) (signOf_bel b2 A2 n2 c2 _ hs2)
  have PB_r0 := cell_regrown PB_0
  have PB_r1 := cell_regrown PB_1
  have PB_r2 := cell_regrown PB_2
  have QB_r0 := cell_regrown QB_0
  have QB_r1 := cell_regrown QB_1
  have QB_r2 := cell_regrown QB_2
  refine wp_region_quiet_below mixed (by kernel_rfl) ?_
  repeat (quiet_step (first | (with_reducible exact cA _ _) | (with_reducible exact cB _ _)))
  refine wpQuiet_nil ?_
  intro _ hw'
  obtain ⟨⟨dq, osq⟩, hw''⟩ := hw'
  subst hw''
  have hb := below_regrown ((w.alloc (.cells #[.bool b, .slice A n c, .int .i64 x] 40)).alloc (.cells #[.bool b2, .slice A2 n2 c2, .int .i64 x2] 40)) dq osq
  clear PB_r0 PB_r1 PB_r2 QB_r0 QB_r1 QB_r2 cA cB
  generalize grow (redrawn ((w.alloc (.cells #[.bool b, .slice A n c, .int .i64 x] 40)).alloc (.cells #[.bool b2, .slice A2 n2 c2, .int .i64 x2] 40)) dq) osq = w1 at hb ⊢
  clear PB_0 PB_1 PB_2 PB_f0 PB_f1 PB_f2
  clear QB_0 QB_1 QB_2 QB_f0 QB_f1 QB_f2
  replace bw : Below w.heap.size w w1 := dy_end (by go_grown) hb
  replace PB := Blk.on PB hb
  replace QB := Blk.on QB hb
  have hs1 := hb.size
  try simp only [World.size_alloc] at hs1
  clear hb
  obtain ⟨PB_0, PB_1, PB_2, PB_f0, PB_f1, PB_f2⟩ := Dbx.cells PB
  obtain ⟨QB_0, QB_1, QB_2, QB_f0, QB_f1, QB_f2⟩ := Dbx.cells QB
  go_wp2_with fail
  with_reducible refine (tooFar_false b b2 A A2 n n2 c c2 _ x0 x1 y0 y1 hf).mono ?_
  rintro e w2 ⟨rfl, hb⟩
  clear PB_0 PB_1 PB_2 PB_f0 PB_f1 PB_f2
  clear QB_0 QB_1 QB_2 QB_f0 QB_f1 QB_f2
  have hs2 := hb.size
  try simp only [World.size_alloc, World.size_setCell] at hs2
  replace bw : Below w.heap.size w w2 := dy_end (by go_grown) hb
  replace PB := Blk.on PB hb
  replace QB := Blk.on QB hb
  clear hb
  obtain ⟨PB_0, PB_1, PB_2, PB_f0, PB_f1, PB_f2⟩ := Dbx.cells PB
  obtain ⟨QB_0, QB_1, QB_2, QB_f0, QB_f1, QB_f2⟩ := Dbx.cells QB
  go_wp2_with fail
  have cA := fun d os => Calls.regrown_of (w := w2) (d := d) (os := os) (pu _ (h.on (dy_end bw (below_regrown _ d os))))
  have cB := fun d os => Calls.regrown_of (w := w2) (d := d) (os := os) (pv _ (h2.on (dy_end bw (below_regrown _ d os))))
  have PB_r0 := cell_regrown PB_0
  have PB_r1 := cell_regrown PB_1
  have PB_r2 := cell_regrown PB_2
  have QB_r0 := cell_regrown QB_0
  have QB_r1 := cell_regrown QB_1
  have QB_r2 := cell_regrown QB_2
  refine wp_region_quiet_below mixed (by kernel_rfl) ?_
  repeat (quiet_step (first | (with_reducible exact cA _ _) | (with_reducible exact cB _ _)))
  refine wpQuiet_nil ?_
  intro _ hw'
  obtain ⟨⟨dq, osq⟩, hw''⟩ := hw'
  subst hw''
  have hb := below_regrown (w2) dq osq
  clear PB_r0 PB_r1 PB_r2 QB_r0 QB_r1 QB_r2 cA cB
  generalize grow (redrawn (w2) dq) osq = w3 at hb ⊢
  clear PB_0 PB_1 PB_2 PB_f0 PB_f1 PB_f2
  clear QB_0 QB_1 QB_2 QB_f0 QB_f1 QB_f2
  replace bw : Below w.heap.size w w3 := dy_end (by go_grown) hb
  replace PB := Blk.on PB hb
  replace QB := Blk.on QB hb
  have hs3 := hb.size
  try simp only [World.size_alloc] at hs3
  clear hb
  obtain ⟨PB_0, PB_1, PB_2, PB_f0, PB_f1, PB_f2⟩ := Dbx.cells PB
  obtain ⟨QB_0, QB_1, QB_2, QB_f0, QB_f1, QB_f2⟩ := Dbx.cells QB
  go_upto_region 8 with fail
  refine wp_region_held_drew (S := fun w9 : World => Below w3.heap.size w3 w9) (by kernel_rfl) ((Below.refl _ _).drew) (fun hHeld => ?_)
  refine wpAnyH_take (i := 0) (v := ?v0_1) rfl (by kernel_rfl) (by kernel_rfl) (by kernel_rfl) (fun _ _ _ h => h) (Or.inl ⟨by rfl, ?hy0_1⟩) (by assumption) ?rest0_1
  case hy0_1 => (intro w9 hSw; have c0 := cellC PB_0 hSw; have c1 := cellC PB_1 hSw; have c2 := cellC PB_2 hSw; clear hSw; go_simp; try with_reducible rfl)
  simp only [Act.put, List.setIfInBounds_toArray, List.set_cons_zero, List.set_cons_succ, List.getElem_toArray, List.getElem_cons_zero, List.getElem_cons_succ]
  refine wpAnyH_take (i := 1) (v := ?v1_2) rfl (by kernel_rfl) (by kernel_rfl) (by kernel_rfl) (fun _ _ _ h => h) (Or.inl ⟨by rfl, ?hy1_2⟩) (by assumption) ?rest1_2
  case hy1_2 => (intro w9 hSw; have c0 := cellC QB_0 hSw; have c1 := cellC QB_1 hSw; have c2 := cellC QB_2 hSw; clear hSw; go_simp; try with_reducible rfl)
  simp only [Act.put, List.setIfInBounds_toArray, List.set_cons_zero, List.set_cons_succ, List.getElem_toArray, List.getElem_cons_zero, List.getElem_cons_succ]
  clear PB_0 PB_1 PB_2 PB_f0 PB_f1 PB_f2
  clear QB_0 QB_1 QB_2 QB_f0 QB_f1 QB_f2
  clear PB QB
  have pp := fun W (bb : Below w.heap.size w W) => pair_near (b := b) (b2 := !b2) (x := x) (x2 := x2) (h.on bb) hn (h2.on bb) hn2 hd hd2 m0 m2 hN x0 x1 y0 y1
  have pt := fun W (bb : Below w.heap.size w W) => total_any (b := b) (b2 := !b2) (x := x) (x2 := x2) (h.on bb) hn (h2.on bb) hn2 (hT.onD bb) hd hd2 m0 m2 hN x0 x1 y0 y1
  refine wpAnyH_ready (rs := [2, 8]) (by kernel_rfl) (by simp) ?_
  refine (AllReadyH.cons rfl (fun K hK => ?_) (AllReadyH.cons rfl (fun K hK => ?_) AllReadyH.nil))
  · go_simp
    with_reducible refine (dturned_any b2 A2 n2 c2 x2 _).mono ?_
    rintro e wz0 ⟨rfl, hb⟩
    have hr0 := dy_end hHeld hb
    have hz0 := hr0.size
    refine hK.out _ _ (dy_end hHeld hb) (fun hHeld => ?_)
    clear hK K
    try simp only [Act.put, List.setIfInBounds_toArray, List.set_cons_zero, List.set_cons_succ, List.getElem_toArray, List.getElem_cons_zero, List.getElem_cons_succ]
    clear hb
    refine wpAnyH_ready (rs := [3, 8]) (by kernel_rfl) (by simp) ?_
    refine (AllReadyH.cons rfl (fun K hK => ?_) (AllReadyH.cons rfl (fun K hK => ?_) AllReadyH.nil))
    · go_simp
      with_reducible refine (pp _ (dy_end bw hHeld)).mono ?_
      rintro e wz1 ⟨rfl, hb⟩
      have hr1 := dy_end hHeld hb
      have hz1 := hr1.size
      refine hK.out _ _ (dy_end hHeld hb) (fun hHeld => ?_)
      clear hK K
      try simp only [Act.put, List.setIfInBounds_toArray, List.set_cons_zero, List.set_cons_succ, List.getElem_toArray, List.getElem_cons_zero, List.getElem_cons_succ]
      clear hb
      refine wpAnyH_ready (rs := [4, 8]) (by kernel_rfl) (by simp) ?_
      refine (AllReadyH.cons rfl (fun K hK => ?_) (AllReadyH.cons rfl (fun K hK => ?_) AllReadyH.nil))
      · go_simp
        with_reducible refine (pt _ (dy_end bw hHeld)).mono ?_
        rintro e wz2 ⟨b5, q5, A5, c5, x5, rfl, hd5, m5, hb⟩
        have hr2 := dy_end hHeld hb
        have hz2 := hr2.size
        replace bw : Below w.heap.size w wz2 := dy_end bw hr2
        have hzw := bw.size
        refine hK.out _ _ (dy_end hHeld hb) (fun hHeld => ?_)
        clear hK K
        try simp only [Act.put, List.setIfInBounds_toArray, List.set_cons_zero, List.set_cons_succ, List.getElem_toArray, List.getElem_cons_zero, List.getElem_cons_succ]
        clear hb
        refine wpAnyH_take (i := 5) (v := ?v5_3) rfl (by kernel_rfl) (by kernel_rfl) (by kernel_rfl) (fun _ _ _ h => h) (Or.inl ⟨by rfl, ?hy5_3⟩) (by assumption) ?rest5_3
        case hy5_3 => (intro w9 hSw;  clear hSw; go_simp; try with_reducible rfl)
        simp only [Act.put, List.setIfInBounds_toArray, List.set_cons_zero, List.set_cons_succ, List.getElem_toArray, List.getElem_cons_zero, List.getElem_cons_succ]
        refine wpAnyH_take (i := 6) (v := ?v6_4) rfl (by kernel_rfl) (by kernel_rfl) (by kernel_rfl) (fun _ _ _ h => h) (Or.inl ⟨by rfl, ?hy6_4⟩) (by assumption) ?rest6_4
        case hy6_4 => (intro w9 hSw;  clear hSw; go_simp; try with_reducible rfl)
        simp only [Act.put, List.setIfInBounds_toArray, List.set_cons_zero, List.set_cons_succ, List.getElem_toArray, List.getElem_cons_zero, List.getElem_cons_succ]
        refine wpAnyH_take (i := 7) (v := ?v7_5) rfl (by kernel_rfl) (by kernel_rfl) (by kernel_rfl) (fun _ _ _ h => h) (Or.inl ⟨by rfl, ?hy7_5⟩) (by assumption) ?rest7_5
        case hy7_5 => (intro w9 hSw;  clear hSw; go_simp; try with_reducible rfl)
        simp only [Act.put, List.setIfInBounds_toArray, List.set_cons_zero, List.set_cons_succ, List.getElem_toArray, List.getElem_cons_zero, List.getElem_cons_succ]
        refine wpAnyH_ready (rs := [8]) (by kernel_rfl) (by simp) ?_
        refine (AllReadyH.cons rfl (fun K hK => ?_) AllReadyH.nil)
        go_simp
        refine hK.out _ _ (by go_grown) (fun hHeld => ?_)
        clear hK K
        try simp only [Act.put, List.setIfInBounds_toArray, List.set_cons_zero, List.set_cons_succ, List.getElem_toArray, List.getElem_cons_zero, List.getElem_cons_succ]
        have TB := Blk.new wz2 [.bool false, .slice none 0 0, .int .i64 0] 40
        refine wpAnyH_ready (rs := [9]) (by kernel_rfl) (by simp) ?_
        refine AllReadyH.cons rfl (fun K hK => ?_) AllReadyH.nil
        have TB_0 := Blk.cell TB 0 rfl
        have TB_f0 := Blk.free TB 0
        have TB_1 := Blk.cell TB 1 rfl
        have TB_f1 := Blk.free TB 1
        have TB_2 := Blk.cell TB 2 rfl
        have TB_f2 := Blk.free TB 2
        go_simp
        refine hK.out _ _ (by go_grown) (fun hHeld => ?_)
        clear hK K
        try simp only [Act.put, List.setIfInBounds_toArray, List.set_cons_zero, List.set_cons_succ, List.getElem_toArray, List.getElem_cons_zero, List.getElem_cons_succ]
        refine wpAnyH_take (i := 10) (v := ?v10_6) rfl (by kernel_rfl) (by kernel_rfl) (by kernel_rfl) (fun _ _ _ h => h) (Or.inl ⟨by rfl, ?hy10_6⟩) (by assumption) ?rest10_6
        case hy10_6 => (intro w9 hSw;  clear hSw; go_simp; try with_reducible rfl)
        simp only [Act.put, List.setIfInBounds_toArray, List.set_cons_zero, List.set_cons_succ, List.getElem_toArray, List.getElem_cons_zero, List.getElem_cons_succ]
        refine wpAnyH_done (by kernel_rfl) ?_ _
        clear TB_0 TB_f0 TB_1 TB_f1 TB_2 TB_f2
        replace m5 := Lv.alloc m5 (.cells #[.bool b5, .slice A5 q5.length c5, .int .i64 x5] 40)
        replace TB := Blk.new wz2 [.bool b5, .slice A5 q5.length c5, .int .i64 x5] 40
        have TB_0 := Blk.cell TB 0 rfl
        have TB_f0 := Blk.free TB 0
        have TB_1 := Blk.cell TB 1 rfl
        have TB_f1 := Blk.free TB 1
        have TB_2 := Blk.cell TB 2 rfl
        have TB_f2 := Blk.free TB 2
        go_wp2_with fail
        with_reducible refine (signOf_bel b5 A5 q5.length c5 _ ((sgn_dn hd5 m5.lim).trans HS.out)).mono ?_
        rintro e w9 ⟨rfl, hb⟩
        go_wp2_with fail
        go_ret2
        exact ⟨rfl, dy_end (by go_grown) hb⟩
      · go_simp
        refine hK.out _ _ (by go_grown) (fun hHeld => ?_)
        clear hK K
        try simp only [Act.put, List.setIfInBounds_toArray, List.set_cons_zero, List.set_cons_succ, List.getElem_toArray, List.getElem_cons_zero, List.getElem_cons_succ]
        have TB := Blk.new wz1 [.bool false, .slice none 0 0, .int .i64 0] 40
        refine wpAnyH_ready (rs := [4]) (by kernel_rfl) (by simp) ?_
        refine (AllReadyH.cons rfl (fun K hK => ?_) AllReadyH.nil)
        go_simp
        with_reducible refine (pt _ (dy_end bw hHeld)).mono ?_
        rintro e wz2 ⟨b5, q5, A5, c5, x5, rfl, hd5, m5, hb⟩
        have hr2 := dy_end hHeld hb
        have hz2 := hr2.size
        replace TB := Blk.on TB hb
        replace bw : Below w.heap.size w wz2 := dy_end bw hr2
        have hzw := bw.size
        refine hK.out _ _ (dy_end hHeld hb) (fun hHeld => ?_)
        clear hK K
        try simp only [Act.put, List.setIfInBounds_toArray, List.set_cons_zero, List.set_cons_succ, List.getElem_toArray, List.getElem_cons_zero, List.getElem_cons_succ]
        clear hb
        refine wpAnyH_take (i := 5) (v := ?v5_7) rfl (by kernel_rfl) (by kernel_rfl) (by kernel_rfl) (fun _ _ _ h => h) (Or.inl ⟨by rfl, ?hy5_7⟩) (by assumption) ?rest5_7
        case hy5_7 => (intro w9 hSw;  clear hSw; go_simp; try with_reducible rfl)
        simp only [Act.put, List.setIfInBounds_toArray, List.set_cons_zero, List.set_cons_succ, List.getElem_toArray, List.getElem_cons_zero, List.getElem_cons_succ]
        refine wpAnyH_take (i := 6) (v := ?v6_8) rfl (by kernel_rfl) (by kernel_rfl) (by kernel_rfl) (fun _ _ _ h => h) (Or.inl ⟨by rfl, ?hy6_8⟩) (by assumption) ?rest6_8
        case hy6_8 => (intro w9 hSw;  clear hSw; go_simp; try with_reducible rfl)
        simp only [Act.put, List.setIfInBounds_toArray, List.set_cons_zero, List.set_cons_succ, List.getElem_toArray, List.getElem_cons_zero, List.getElem_cons_succ]
        refine wpAnyH_take (i := 7) (v := ?v7_9) rfl (by kernel_rfl) (by kernel_rfl) (by kernel_rfl) (fun _ _ _ h => h) (Or.inl ⟨by rfl, ?hy7_9⟩) (by assumption) ?rest7_9
        case hy7_9 => (intro w9 hSw;  clear hSw; go_simp; try with_reducible rfl)
        simp only [Act.put, List.setIfInBounds_toArray, List.set_cons_zero, List.set_cons_succ, List.getElem_toArray, List.getElem_cons_zero, List.getElem_cons_succ]
        refine wpAnyH_ready (rs := [9]) (by kernel_rfl) (by simp) ?_
        refine AllReadyH.cons rfl (fun K hK => ?_) AllReadyH.nil
        have TB_0 := Blk.cell TB 0 rfl
        have TB_f0 := Blk.free TB 0
        have TB_1 := Blk.cell TB 1 rfl
        have TB_f1 := Blk.free TB 1
        have TB_2 := Blk.cell TB 2 rfl
        have TB_f2 := Blk.free TB 2
        go_simp
        refine hK.out _ _ (by go_grown) (fun hHeld => ?_)
        clear hK K
        try simp only [Act.put, List.setIfInBounds_toArray, List.set_cons_zero, List.set_cons_succ, List.getElem_toArray, List.getElem_cons_zero, List.getElem_cons_succ]
        refine wpAnyH_take (i := 10) (v := ?v10_10) rfl (by kernel_rfl) (by kernel_rfl) (by kernel_rfl) (fun _ _ _ h => h) (Or.inl ⟨by rfl, ?hy10_10⟩) (by assumption) ?rest10_10
        case hy10_10 => (intro w9 hSw;  clear hSw; go_simp; try with_reducible rfl)
        simp only [Act.put, List.setIfInBounds_toArray, List.set_cons_zero, List.set_cons_succ, List.getElem_toArray, List.getElem_cons_zero, List.getElem_cons_succ]
        refine wpAnyH_done (by kernel_rfl) ?_ _
        clear TB_0 TB_f0 TB_1 TB_f1 TB_2 TB_f2
        replace m5 := m5.put TB b5 A5 q5.length c5 x5
        replace TB := Dbx.put TB b5 A5 q5.length c5 x5
        have TB_0 := Blk.cell TB 0 rfl
        have TB_f0 := Blk.free TB 0
        have TB_1 := Blk.cell TB 1 rfl
        have TB_f1 := Blk.free TB 1
        have TB_2 := Blk.cell TB 2 rfl
        have TB_f2 := Blk.free TB 2
        go_wp2_with fail
        with_reducible refine (signOf_bel b5 A5 q5.length c5 _ ((sgn_dn hd5 m5.lim).trans HS.out)).mono ?_
        rintro e w9 ⟨rfl, hb⟩
        go_wp2_with fail
        go_ret2
        exact ⟨rfl, dy_end (by go_grown) hb⟩
    · go_simp
      refine hK.out _ _ (by go_grown) (fun hHeld => ?_)
      clear hK K
      try simp only [Act.put, List.setIfInBounds_toArray, List.set_cons_zero, List.set_cons_succ, List.getElem_toArray, List.getElem_cons_zero, List.getElem_cons_succ]
      have TB := Blk.new wz0 [.bool false, .slice none 0 0, .int .i64 0] 40
      refine wpAnyH_ready (rs := [3]) (by kernel_rfl) (by simp) ?_
      refine (AllReadyH.cons rfl (fun K hK => ?_) AllReadyH.nil)
      go_simp
      with_reducible refine (pp _ (dy_end bw hHeld)).mono ?_
      rintro e wz1 ⟨rfl, hb⟩
      have hr1 := dy_end hHeld hb
      have hz1 := hr1.size
      replace TB := Blk.on TB hb
      refine hK.out _ _ (dy_end hHeld hb) (fun hHeld => ?_)
      clear hK K
      try simp only [Act.put, List.setIfInBounds_toArray, List.set_cons_zero, List.set_cons_succ, List.getElem_toArray, List.getElem_cons_zero, List.getElem_cons_succ]
      clear hb
      refine wpAnyH_ready (rs := [4]) (by kernel_rfl) (by simp) ?_
      refine (AllReadyH.cons rfl (fun K hK => ?_) AllReadyH.nil)
      go_simp
      with_reducible refine (pt _ (dy_end bw hHeld)).mono ?_
      rintro e wz2 ⟨b5, q5, A5, c5, x5, rfl, hd5, m5, hb⟩
      have hr2 := dy_end hHeld hb
      have hz2 := hr2.size
      replace TB := Blk.on TB hb
      replace bw : Below w.heap.size w wz2 := dy_end bw hr2
      have hzw := bw.size
      refine hK.out _ _ (dy_end hHeld hb) (fun hHeld => ?_)
      clear hK K
      try simp only [Act.put, List.setIfInBounds_toArray, List.set_cons_zero, List.set_cons_succ, List.getElem_toArray, List.getElem_cons_zero, List.getElem_cons_succ]
      clear hb
      refine wpAnyH_take (i := 5) (v := ?v5_11) rfl (by kernel_rfl) (by kernel_rfl) (by kernel_rfl) (fun _ _ _ h => h) (Or.inl ⟨by rfl, ?hy5_11⟩) (by assumption) ?rest5_11
      case hy5_11 => (intro w9 hSw;  clear hSw; go_simp; try with_reducible rfl)
      simp only [Act.put, List.setIfInBounds_toArray, List.set_cons_zero, List.set_cons_succ, List.getElem_toArray, List.getElem_cons_zero, List.getElem_cons_succ]
      refine wpAnyH_take (i := 6) (v := ?v6_12) rfl (by kernel_rfl) (by kernel_rfl) (by kernel_rfl) (fun _ _ _ h => h) (Or.inl ⟨by rfl, ?hy6_12⟩) (by assumption) ?rest6_12
      case hy6_12 => (intro w9 hSw;  clear hSw; go_simp; try with_reducible rfl)
      simp only [Act.put, List.setIfInBounds_toArray, List.set_cons_zero, List.set_cons_succ, List.getElem_toArray, List.getElem_cons_zero, List.getElem_cons_succ]
      refine wpAnyH_take (i := 7) (v := ?v7_13) rfl (by kernel_rfl) (by kernel_rfl) (by kernel_rfl) (fun _ _ _ h => h) (Or.inl ⟨by rfl, ?hy7_13⟩) (by assumption) ?rest7_13
      case hy7_13 => (intro w9 hSw;  clear hSw; go_simp; try with_reducible rfl)
      simp only [Act.put, List.setIfInBounds_toArray, List.set_cons_zero, List.set_cons_succ, List.getElem_toArray, List.getElem_cons_zero, List.getElem_cons_succ]
      refine wpAnyH_ready (rs := [9]) (by kernel_rfl) (by simp) ?_
      refine AllReadyH.cons rfl (fun K hK => ?_) AllReadyH.nil
      have TB_0 := Blk.cell TB 0 rfl
      have TB_f0 := Blk.free TB 0
      have TB_1 := Blk.cell TB 1 rfl
      have TB_f1 := Blk.free TB 1
      have TB_2 := Blk.cell TB 2 rfl
      have TB_f2 := Blk.free TB 2
      go_simp
      refine hK.out _ _ (by go_grown) (fun hHeld => ?_)
      clear hK K
      try simp only [Act.put, List.setIfInBounds_toArray, List.set_cons_zero, List.set_cons_succ, List.getElem_toArray, List.getElem_cons_zero, List.getElem_cons_succ]
      refine wpAnyH_take (i := 10) (v := ?v10_14) rfl (by kernel_rfl) (by kernel_rfl) (by kernel_rfl) (fun _ _ _ h => h) (Or.inl ⟨by rfl, ?hy10_14⟩) (by assumption) ?rest10_14
      case hy10_14 => (intro w9 hSw;  clear hSw; go_simp; try with_reducible rfl)
      simp only [Act.put, List.setIfInBounds_toArray, List.set_cons_zero, List.set_cons_succ, List.getElem_toArray, List.getElem_cons_zero, List.getElem_cons_succ]
      refine wpAnyH_done (by kernel_rfl) ?_ _
      clear TB_0 TB_f0 TB_1 TB_f1 TB_2 TB_f2
      replace m5 := m5.put TB b5 A5 q5.length c5 x5
      replace TB := Dbx.put TB b5 A5 q5.length c5 x5
      have TB_0 := Blk.cell TB 0 rfl
      have TB_f0 := Blk.free TB 0
      have TB_1 := Blk.cell TB 1 rfl
      have TB_f1 := Blk.free TB 1
      have TB_2 := Blk.cell TB 2 rfl
      have TB_f2 := Blk.free TB 2
      go_wp2_with fail
      with_reducible refine (signOf_bel b5 A5 q5.length c5 _ ((sgn_dn hd5 m5.lim).trans HS.out)).mono ?_
      rintro e w9 ⟨rfl, hb⟩
      go_wp2_with fail
      go_ret2
      exact ⟨rfl, dy_end (by go_grown) hb⟩
  · go_simp
    refine hK.out _ _ (by go_grown) (fun hHeld => ?_)
    clear hK K
    try simp only [Act.put, List.setIfInBounds_toArray, List.set_cons_zero, List.set_cons_succ, List.getElem_toArray, List.getElem_cons_zero, List.getElem_cons_succ]
    have TB := Blk.new (w3.drew) [.bool false, .slice none 0 0, .int .i64 0] 40
    simp only [World.size_drew] at TB
    refine wpAnyH_ready (rs := [2]) (by kernel_rfl) (by simp) ?_
    refine (AllReadyH.cons rfl (fun K hK => ?_) AllReadyH.nil)
    go_simp
    with_reducible refine (dturned_any b2 A2 n2 c2 x2 _).mono ?_
    rintro e wz0 ⟨rfl, hb⟩
    have hr0 := dy_end hHeld hb
    have hz0 := hr0.size
    replace TB := Blk.on TB hb
    refine hK.out _ _ (dy_end hHeld hb) (fun hHeld => ?_)
    clear hK K
    try simp only [Act.put, List.setIfInBounds_toArray, List.set_cons_zero, List.set_cons_succ, List.getElem_toArray, List.getElem_cons_zero, List.getElem_cons_succ]
    clear hb
    refine wpAnyH_ready (rs := [3]) (by kernel_rfl) (by simp) ?_
    refine (AllReadyH.cons rfl (fun K hK => ?_) AllReadyH.nil)
    go_simp
    with_reducible refine (pp _ (dy_end bw hHeld)).mono ?_
    rintro e wz1 ⟨rfl, hb⟩
    have hr1 := dy_end hHeld hb
    have hz1 := hr1.size
    replace TB := Blk.on TB hb
    refine hK.out _ _ (dy_end hHeld hb) (fun hHeld => ?_)
    clear hK K
    try simp only [Act.put, List.setIfInBounds_toArray, List.set_cons_zero, List.set_cons_succ, List.getElem_toArray, List.getElem_cons_zero, List.getElem_cons_succ]
    clear hb
    refine wpAnyH_ready (rs := [4]) (by kernel_rfl) (by simp) ?_
    refine (AllReadyH.cons rfl (fun K hK => ?_) AllReadyH.nil)
    go_simp
    with_reducible refine (pt _ (dy_end bw hHeld)).mono ?_
    rintro e wz2 ⟨b5, q5, A5, c5, x5, rfl, hd5, m5, hb⟩
    have hr2 := dy_end hHeld hb
    have hz2 := hr2.size
    replace TB := Blk.on TB hb
    replace bw : Below w.heap.size w wz2 := dy_end bw hr2
    have hzw := bw.size
    refine hK.out _ _ (dy_end hHeld hb) (fun hHeld => ?_)
    clear hK K
    try simp only [Act.put, List.setIfInBounds_toArray, List.set_cons_zero, List.set_cons_succ, List.getElem_toArray, List.getElem_cons_zero, List.getElem_cons_succ]
    clear hb
    refine wpAnyH_take (i := 5) (v := ?v5_15) rfl (by kernel_rfl) (by kernel_rfl) (by kernel_rfl) (fun _ _ _ h => h) (Or.inl ⟨by rfl, ?hy5_15⟩) (by assumption) ?rest5_15
    case hy5_15 => (intro w9 hSw;  clear hSw; go_simp; try with_reducible rfl)
    simp only [Act.put, List.setIfInBounds_toArray, List.set_cons_zero, List.set_cons_succ, List.getElem_toArray, List.getElem_cons_zero, List.getElem_cons_succ]
    refine wpAnyH_take (i := 6) (v := ?v6_16) rfl (by kernel_rfl) (by kernel_rfl) (by kernel_rfl) (fun _ _ _ h => h) (Or.inl ⟨by rfl, ?hy6_16⟩) (by assumption) ?rest6_16
    case hy6_16 => (intro w9 hSw;  clear hSw; go_simp; try with_reducible rfl)
    simp only [Act.put, List.setIfInBounds_toArray, List.set_cons_zero, List.set_cons_succ, List.getElem_toArray, List.getElem_cons_zero, List.getElem_cons_succ]
    refine wpAnyH_take (i := 7) (v := ?v7_17) rfl (by kernel_rfl) (by kernel_rfl) (by kernel_rfl) (fun _ _ _ h => h) (Or.inl ⟨by rfl, ?hy7_17⟩) (by assumption) ?rest7_17
    case hy7_17 => (intro w9 hSw;  clear hSw; go_simp; try with_reducible rfl)
    simp only [Act.put, List.setIfInBounds_toArray, List.set_cons_zero, List.set_cons_succ, List.getElem_toArray, List.getElem_cons_zero, List.getElem_cons_succ]
    refine wpAnyH_ready (rs := [9]) (by kernel_rfl) (by simp) ?_
    refine AllReadyH.cons rfl (fun K hK => ?_) AllReadyH.nil
    have TB_0 := Blk.cell TB 0 rfl
    have TB_f0 := Blk.free TB 0
    have TB_1 := Blk.cell TB 1 rfl
    have TB_f1 := Blk.free TB 1
    have TB_2 := Blk.cell TB 2 rfl
    have TB_f2 := Blk.free TB 2
    go_simp
    refine hK.out _ _ (by go_grown) (fun hHeld => ?_)
    clear hK K
    try simp only [Act.put, List.setIfInBounds_toArray, List.set_cons_zero, List.set_cons_succ, List.getElem_toArray, List.getElem_cons_zero, List.getElem_cons_succ]
    refine wpAnyH_take (i := 10) (v := ?v10_18) rfl (by kernel_rfl) (by kernel_rfl) (by kernel_rfl) (fun _ _ _ h => h) (Or.inl ⟨by rfl, ?hy10_18⟩) (by assumption) ?rest10_18
    case hy10_18 => (intro w9 hSw;  clear hSw; go_simp; try with_reducible rfl)
    simp only [Act.put, List.setIfInBounds_toArray, List.set_cons_zero, List.set_cons_succ, List.getElem_toArray, List.getElem_cons_zero, List.getElem_cons_succ]
    refine wpAnyH_done (by kernel_rfl) ?_ _
    clear TB_0 TB_f0 TB_1 TB_f1 TB_2 TB_f2
    replace m5 := m5.put TB b5 A5 q5.length c5 x5
    replace TB := Dbx.put TB b5 A5 q5.length c5 x5
    have TB_0 := Blk.cell TB 0 rfl
    have TB_f0 := Blk.free TB 0
    have TB_1 := Blk.cell TB 1 rfl
    have TB_f1 := Blk.free TB 1
    have TB_2 := Blk.cell TB 2 rfl
    have TB_f2 := Blk.free TB 2
    go_wp2_with fail
    with_reducible refine (signOf_bel b5 A5 q5.length c5 _ ((sgn_dn hd5 m5.lim).trans HS.out)).mono ?_
    rintro e w9 ⟨rfl, hb⟩
    go_wp2_with fail
    go_ret2
    exact ⟨rfl, dy_end (by go_grown) hb⟩

set_option maxRecDepth 100000 in
set_option maxHeartbeats 8000000 in
theorem order_eq_n (h : Lv w A n c l) (hn : n ≤ 4096) (h2 : Lv w A2 n2 c2 l2) (hn2 : n2 ≤ 4096) (hs1 : sgnV b n = -1) (hs2 : sgnV b2 n2 = -1) (x0 : -1048576 ≤ x) (x1 : x ≤ 1048576) (y0 : -1048576 ≤ x2) (y1 : x2 ≤ 1048576) (hf : x - x2 ≤ 262144 ∧ x2 - x ≤ 262144) {k k2 : Nat} (hk : IsBits (val 18446744073709551616 l) k) (hk2 : IsBits (val 18446744073709551616 l2) k2) {u v : Int} (hu : x + (k : Int) = u) (hv : x2 + (k2 : Int) = v) (heq : u = v) (hT : Tab w) (hd : Dn b l x d) (hd2 : Dn (!b2) l2 x2 d2) (m0 : d.man ≠ 0) (m2 : d2.man ≠ 0) (hN : Near d d2) {r : Int} (HS : Hid (sgn (sumN d d2) = r)) :
    Calls Tryz.prog 38 #[dyV b A n c x, dyV b2 A2 n2 c2 x2] w fun e w' => e = .returned (.tuple #[.int .i64 r, .int .i64 0]) ∧ Below w.heap.size w w' := by
  have n1 : (u != v) = false := by simp; omega
  have n3 : (u == v) = true := by simp; omega
  clear heq
  have pu := fun W (mm : Lv W A n c l) => height_any (b := b) (x := x) mm hn hk x0 x1
  have pv := fun W (mm : Lv W A2 n2 c2 l2) => height_any (b := b2) (x := x2) mm hn2 hk2 y0 y1
  rw [hu] at pu
  rw [hv] at pv
  clear hu hv hk hk2
  have PB := Blk.new w [.bool b, .slice A n c, .int .i64 x] 40
  have QB := Blk.new (w.alloc (.cells #[.bool b, .slice A n c, .int .i64 x] 40)) [.bool b2, .slice A2 n2 c2, .int .i64 x2] 40
  simp only [World.size_alloc] at QB
  replace PB := Blk.alloc PB (.cells #[.bool b2, .slice A2 n2 c2, .int .i64 x2] 40)
  have bw : Below w.heap.size w ((w.alloc (.cells #[.bool b, .slice A n c, .int .i64 x] 40)).alloc (.cells #[.bool b2, .slice A2 n2 c2, .int .i64 x2] 40)) := by go_grown
  obtain ⟨PB_0, PB_1, PB_2, PB_f0, PB_f1, PB_f2⟩ := Dbx.cells PB
  obtain ⟨QB_0, QB_1, QB_2, QB_f0, QB_f1, QB_f2⟩ := Dbx.cells QB
  go_enter Tryz.func38, Tryz.ntmps38
  go_wp2_with fail
  have cA := fun d os => Calls.regrown_of (w := ((w.alloc (.cells #[.bool b, .slice A n c, .int .i64 x] 40)).alloc (.cells #[.bool b2, .slice A2 n2 c2, .int .i64 x2] 40))) (d := d) (os := os) (signOf_bel b A n c _ hs1)
  have cB := fun d os => Calls.regrown_of (w := ((w.alloc (.cells #[.bool b, .slice A n c, .int .i64 x] 40)).alloc (.cells #[.bool b2, .slice A2 n2 c2, .int .i64 x2] 40))) (d := d) (os := os) (signOf_bel b2 A2 n2 c2 _ hs2)
  have PB_r0 := cell_regrown PB_0
  have PB_r1 := cell_regrown PB_1
  have PB_r2 := cell_regrown PB_2
  have QB_r0 := cell_regrown QB_0
  have QB_r1 := cell_regrown QB_1
  have QB_r2 := cell_regrown QB_2
  refine wp_region_quiet_below mixed (by kernel_rfl) ?_
  repeat (quiet_step (first | (with_reducible exact cA _ _) | (with_reducible exact cB _ _)))
  refine wpQuiet_nil ?_
  intro _ hw'
  obtain ⟨⟨dq, osq⟩, hw''⟩ := hw'
  subst hw''
  have hb := below_regrown ((w.alloc (.cells #[.bool b, .slice A n c, .int .i64 x] 40)).alloc (.cells #[.bool b2, .slice A2 n2 c2, .int .i64 x2] 40)) dq osq
  clear PB_r0 PB_r1 PB_r2 QB_r0 QB_r1 QB_r2 cA cB
  generalize grow (redrawn ((w.alloc (.cells #[.bool b, .slice A n c, .int .i64 x] 40)).alloc (.cells #[.bool b2, .slice A2 n2 c2, .int .i64 x2] 40)) dq) osq = w1 at hb ⊢
  clear PB_0 PB_1 PB_2 PB_f0 PB_f1 PB_f2
  clear QB_0 QB_1 QB_2 QB_f0 QB_f1 QB_f2
  replace bw : Below w.heap.size w w1 := dy_end (by go_grown) hb
  replace PB := Blk.on PB hb
  replace QB := Blk.on QB hb
  have hs1 := hb.size
  try simp only [World.size_alloc] at hs1
  clear hb
  obtain ⟨PB_0, PB_1, PB_2, PB_f0, PB_f1, PB_f2⟩ := Dbx.cells PB
  obtain ⟨QB_0, QB_1, QB_2, QB_f0, QB_f1, QB_f2⟩ := Dbx.cells QB
  go_wp2_with fail
  with_reducible refine (tooFar_false b b2 A A2 n n2 c c2 _ x0 x1 y0 y1 hf).mono ?_
  rintro e w2 ⟨rfl, hb⟩
  clear PB_0 PB_1 PB_2 PB_f0 PB_f1 PB_f2
  clear QB_0 QB_1 QB_2 QB_f0 QB_f1 QB_f2
  have hs2 := hb.size
  try simp only [World.size_alloc, World.size_setCell] at hs2
  replace bw : Below w.heap.size w w2 := dy_end (by go_grown) hb
  replace PB := Blk.on PB hb
  replace QB := Blk.on QB hb
  clear hb
  obtain ⟨PB_0, PB_1, PB_2, PB_f0, PB_f1, PB_f2⟩ := Dbx.cells PB
  obtain ⟨QB_0, QB_1, QB_2, QB_f0, QB_f1, QB_f2⟩ := Dbx.cells QB
  go_wp2_with fail
  have cA := fun d os => Calls.regrown_of (w := w2) (d := d) (os := os) (pu _ (h.on (dy_end bw (below_regrown _ d os))))
  have cB := fun d os => Calls.regrown_of (w := w2) (d := d) (os := os) (pv _ (h2.on (dy_end bw (below_regrown _ d os))))
  have PB_r0 := cell_regrown PB_0
  have PB_r1 := cell_regrown PB_1
  have PB_r2 := cell_regrown PB_2
  have QB_r0 := cell_regrown QB_0
  have QB_r1 := cell_regrown QB_1
  have QB_r2 := cell_regrown QB_2
  refine wp_region_quiet_below mixed (by kernel_rfl) ?_
  repeat (quiet_step (first | (with_reducible exact cA _ _) | (with_reducible exact cB _ _)))
  refine wpQuiet_nil ?_
  intro _ hw'
  obtain ⟨⟨dq, osq⟩, hw''⟩ := hw'
  subst hw''
  have hb := below_regrown (w2) dq osq
  clear PB_r0 PB_r1 PB_r2 QB_r0 QB_r1 QB_r2 cA cB
  generalize grow (redrawn (w2) dq) osq = w3 at hb ⊢
  clear PB_0 PB_1 PB_2 PB_f0 PB_f1 PB_f2
  clear QB_0 QB_1 QB_2 QB_f0 QB_f1 QB_f2
  replace bw : Below w.heap.size w w3 := dy_end (by go_grown) hb
  replace PB := Blk.on PB hb
  replace QB := Blk.on QB hb
  have hs3 := hb.size
  try simp only [World.size_alloc] at hs3
  clear hb
  obtain ⟨PB_0, PB_1, PB_2, PB_f0, PB_f1, PB_f2⟩ := Dbx.cells PB
  obtain ⟨QB_0, QB_1, QB_2, QB_f0, QB_f1, QB_f2⟩ := Dbx.cells QB
  go_upto_region 8 with fail
  refine wp_region_held_drew (S := fun w9 : World => Below w3.heap.size w3 w9) (by kernel_rfl) ((Below.refl _ _).drew) (fun hHeld => ?_)
  refine wpAnyH_take (i := 0) (v := ?v0_19) rfl (by kernel_rfl) (by kernel_rfl) (by kernel_rfl) (fun _ _ _ h => h) (Or.inl ⟨by rfl, ?hy0_19⟩) (by assumption) ?rest0_19
  case hy0_19 => (intro w9 hSw; have c0 := cellC PB_0 hSw; have c1 := cellC PB_1 hSw; have c2 := cellC PB_2 hSw; clear hSw; go_simp; try with_reducible rfl)
  simp only [Act.put, List.setIfInBounds_toArray, List.set_cons_zero, List.set_cons_succ, List.getElem_toArray, List.getElem_cons_zero, List.getElem_cons_succ]
  refine wpAnyH_take (i := 1) (v := ?v1_20) rfl (by kernel_rfl) (by kernel_rfl) (by kernel_rfl) (fun _ _ _ h => h) (Or.inl ⟨by rfl, ?hy1_20⟩) (by assumption) ?rest1_20
  case hy1_20 => (intro w9 hSw; have c0 := cellC QB_0 hSw; have c1 := cellC QB_1 hSw; have c2 := cellC QB_2 hSw; clear hSw; go_simp; try with_reducible rfl)
  simp only [Act.put, List.setIfInBounds_toArray, List.set_cons_zero, List.set_cons_succ, List.getElem_toArray, List.getElem_cons_zero, List.getElem_cons_succ]
  clear PB_0 PB_1 PB_2 PB_f0 PB_f1 PB_f2
  clear QB_0 QB_1 QB_2 QB_f0 QB_f1 QB_f2
  clear PB QB
  have pp := fun W (bb : Below w.heap.size w W) => pair_near (b := b) (b2 := !b2) (x := x) (x2 := x2) (h.on bb) hn (h2.on bb) hn2 hd hd2 m0 m2 hN x0 x1 y0 y1
  have pt := fun W (bb : Below w.heap.size w W) => total_any (b := b) (b2 := !b2) (x := x) (x2 := x2) (h.on bb) hn (h2.on bb) hn2 (hT.onD bb) hd hd2 m0 m2 hN x0 x1 y0 y1
  refine wpAnyH_ready (rs := [2, 8]) (by kernel_rfl) (by simp) ?_
  refine (AllReadyH.cons rfl (fun K hK => ?_) (AllReadyH.cons rfl (fun K hK => ?_) AllReadyH.nil))
  · go_simp
    with_reducible refine (dturned_any b2 A2 n2 c2 x2 _).mono ?_
    rintro e wz0 ⟨rfl, hb⟩
    have hr0 := dy_end hHeld hb
    have hz0 := hr0.size
    refine hK.out _ _ (dy_end hHeld hb) (fun hHeld => ?_)
    clear hK K
    try simp only [Act.put, List.setIfInBounds_toArray, List.set_cons_zero, List.set_cons_succ, List.getElem_toArray, List.getElem_cons_zero, List.getElem_cons_succ]
    clear hb
    refine wpAnyH_ready (rs := [3, 8]) (by kernel_rfl) (by simp) ?_
    refine (AllReadyH.cons rfl (fun K hK => ?_) (AllReadyH.cons rfl (fun K hK => ?_) AllReadyH.nil))
    · go_simp
      with_reducible refine (pp _ (dy_end bw hHeld)).mono ?_
      rintro e wz1 ⟨rfl, hb⟩
      have hr1 := dy_end hHeld hb
      have hz1 := hr1.size
      refine hK.out _ _ (dy_end hHeld hb) (fun hHeld => ?_)
      clear hK K
      try simp only [Act.put, List.setIfInBounds_toArray, List.set_cons_zero, List.set_cons_succ, List.getElem_toArray, List.getElem_cons_zero, List.getElem_cons_succ]
      clear hb
      refine wpAnyH_ready (rs := [4, 8]) (by kernel_rfl) (by simp) ?_
      refine (AllReadyH.cons rfl (fun K hK => ?_) (AllReadyH.cons rfl (fun K hK => ?_) AllReadyH.nil))
      · go_simp
        with_reducible refine (pt _ (dy_end bw hHeld)).mono ?_
        rintro e wz2 ⟨b5, q5, A5, c5, x5, rfl, hd5, m5, hb⟩
        have hr2 := dy_end hHeld hb
        have hz2 := hr2.size
        replace bw : Below w.heap.size w wz2 := dy_end bw hr2
        have hzw := bw.size
        refine hK.out _ _ (dy_end hHeld hb) (fun hHeld => ?_)
        clear hK K
        try simp only [Act.put, List.setIfInBounds_toArray, List.set_cons_zero, List.set_cons_succ, List.getElem_toArray, List.getElem_cons_zero, List.getElem_cons_succ]
        clear hb
        refine wpAnyH_take (i := 5) (v := ?v5_21) rfl (by kernel_rfl) (by kernel_rfl) (by kernel_rfl) (fun _ _ _ h => h) (Or.inl ⟨by rfl, ?hy5_21⟩) (by assumption) ?rest5_21
        case hy5_21 => (intro w9 hSw;  clear hSw; go_simp; try with_reducible rfl)
        simp only [Act.put, List.setIfInBounds_toArray, List.set_cons_zero, List.set_cons_succ, List.getElem_toArray, List.getElem_cons_zero, List.getElem_cons_succ]
        refine wpAnyH_take (i := 6) (v := ?v6_22) rfl (by kernel_rfl) (by kernel_rfl) (by kernel_rfl) (fun _ _ _ h => h) (Or.inl ⟨by rfl, ?hy6_22⟩) (by assumption) ?rest6_22
        case hy6_22 => (intro w9 hSw;  clear hSw; go_simp; try with_reducible rfl)
        simp only [Act.put, List.setIfInBounds_toArray, List.set_cons_zero, List.set_cons_succ, List.getElem_toArray, List.getElem_cons_zero, List.getElem_cons_succ]
        refine wpAnyH_take (i := 7) (v := ?v7_23) rfl (by kernel_rfl) (by kernel_rfl) (by kernel_rfl) (fun _ _ _ h => h) (Or.inl ⟨by rfl, ?hy7_23⟩) (by assumption) ?rest7_23
        case hy7_23 => (intro w9 hSw;  clear hSw; go_simp; try with_reducible rfl)
        simp only [Act.put, List.setIfInBounds_toArray, List.set_cons_zero, List.set_cons_succ, List.getElem_toArray, List.getElem_cons_zero, List.getElem_cons_succ]
        refine wpAnyH_ready (rs := [8]) (by kernel_rfl) (by simp) ?_
        refine (AllReadyH.cons rfl (fun K hK => ?_) AllReadyH.nil)
        go_simp
        refine hK.out _ _ (by go_grown) (fun hHeld => ?_)
        clear hK K
        try simp only [Act.put, List.setIfInBounds_toArray, List.set_cons_zero, List.set_cons_succ, List.getElem_toArray, List.getElem_cons_zero, List.getElem_cons_succ]
        have TB := Blk.new wz2 [.bool false, .slice none 0 0, .int .i64 0] 40
        refine wpAnyH_ready (rs := [9]) (by kernel_rfl) (by simp) ?_
        refine AllReadyH.cons rfl (fun K hK => ?_) AllReadyH.nil
        have TB_0 := Blk.cell TB 0 rfl
        have TB_f0 := Blk.free TB 0
        have TB_1 := Blk.cell TB 1 rfl
        have TB_f1 := Blk.free TB 1
        have TB_2 := Blk.cell TB 2 rfl
        have TB_f2 := Blk.free TB 2
        go_simp
        refine hK.out _ _ (by go_grown) (fun hHeld => ?_)
        clear hK K
        try simp only [Act.put, List.setIfInBounds_toArray, List.set_cons_zero, List.set_cons_succ, List.getElem_toArray, List.getElem_cons_zero, List.getElem_cons_succ]
        refine wpAnyH_take (i := 10) (v := ?v10_24) rfl (by kernel_rfl) (by kernel_rfl) (by kernel_rfl) (fun _ _ _ h => h) (Or.inl ⟨by rfl, ?hy10_24⟩) (by assumption) ?rest10_24
        case hy10_24 => (intro w9 hSw;  clear hSw; go_simp; try with_reducible rfl)
        simp only [Act.put, List.setIfInBounds_toArray, List.set_cons_zero, List.set_cons_succ, List.getElem_toArray, List.getElem_cons_zero, List.getElem_cons_succ]
        refine wpAnyH_done (by kernel_rfl) ?_ _
        clear TB_0 TB_f0 TB_1 TB_f1 TB_2 TB_f2
        replace m5 := Lv.alloc m5 (.cells #[.bool b5, .slice A5 q5.length c5, .int .i64 x5] 40)
        replace TB := Blk.new wz2 [.bool b5, .slice A5 q5.length c5, .int .i64 x5] 40
        have TB_0 := Blk.cell TB 0 rfl
        have TB_f0 := Blk.free TB 0
        have TB_1 := Blk.cell TB 1 rfl
        have TB_f1 := Blk.free TB 1
        have TB_2 := Blk.cell TB 2 rfl
        have TB_f2 := Blk.free TB 2
        go_wp2_with fail
        with_reducible refine (signOf_bel b5 A5 q5.length c5 _ ((sgn_dn hd5 m5.lim).trans HS.out)).mono ?_
        rintro e w9 ⟨rfl, hb⟩
        go_wp2_with fail
        go_ret2
        exact ⟨rfl, dy_end (by go_grown) hb⟩
      · go_simp
        refine hK.out _ _ (by go_grown) (fun hHeld => ?_)
        clear hK K
        try simp only [Act.put, List.setIfInBounds_toArray, List.set_cons_zero, List.set_cons_succ, List.getElem_toArray, List.getElem_cons_zero, List.getElem_cons_succ]
        have TB := Blk.new wz1 [.bool false, .slice none 0 0, .int .i64 0] 40
        refine wpAnyH_ready (rs := [4]) (by kernel_rfl) (by simp) ?_
        refine (AllReadyH.cons rfl (fun K hK => ?_) AllReadyH.nil)
        go_simp
        with_reducible refine (pt _ (dy_end bw hHeld)).mono ?_
        rintro e wz2 ⟨b5, q5, A5, c5, x5, rfl, hd5, m5, hb⟩
        have hr2 := dy_end hHeld hb
        have hz2 := hr2.size
        replace TB := Blk.on TB hb
        replace bw : Below w.heap.size w wz2 := dy_end bw hr2
        have hzw := bw.size
        refine hK.out _ _ (dy_end hHeld hb) (fun hHeld => ?_)
        clear hK K
        try simp only [Act.put, List.setIfInBounds_toArray, List.set_cons_zero, List.set_cons_succ, List.getElem_toArray, List.getElem_cons_zero, List.getElem_cons_succ]
        clear hb
        refine wpAnyH_take (i := 5) (v := ?v5_25) rfl (by kernel_rfl) (by kernel_rfl) (by kernel_rfl) (fun _ _ _ h => h) (Or.inl ⟨by rfl, ?hy5_25⟩) (by assumption) ?rest5_25
        case hy5_25 => (intro w9 hSw;  clear hSw; go_simp; try with_reducible rfl)
        simp only [Act.put, List.setIfInBounds_toArray, List.set_cons_zero, List.set_cons_succ, List.getElem_toArray, List.getElem_cons_zero, List.getElem_cons_succ]
        refine wpAnyH_take (i := 6) (v := ?v6_26) rfl (by kernel_rfl) (by kernel_rfl) (by kernel_rfl) (fun _ _ _ h => h) (Or.inl ⟨by rfl, ?hy6_26⟩) (by assumption) ?rest6_26
        case hy6_26 => (intro w9 hSw;  clear hSw; go_simp; try with_reducible rfl)
        simp only [Act.put, List.setIfInBounds_toArray, List.set_cons_zero, List.set_cons_succ, List.getElem_toArray, List.getElem_cons_zero, List.getElem_cons_succ]
        refine wpAnyH_take (i := 7) (v := ?v7_27) rfl (by kernel_rfl) (by kernel_rfl) (by kernel_rfl) (fun _ _ _ h => h) (Or.inl ⟨by rfl, ?hy7_27⟩) (by assumption) ?rest7_27
        case hy7_27 => (intro w9 hSw;  clear hSw; go_simp; try with_reducible rfl)
        simp only [Act.put, List.setIfInBounds_toArray, List.set_cons_zero, List.set_cons_succ, List.getElem_toArray, List.getElem_cons_zero, List.getElem_cons_succ]
        refine wpAnyH_ready (rs := [9]) (by kernel_rfl) (by simp) ?_
        refine AllReadyH.cons rfl (fun K hK => ?_) AllReadyH.nil
        have TB_0 := Blk.cell TB 0 rfl
        have TB_f0 := Blk.free TB 0
        have TB_1 := Blk.cell TB 1 rfl
        have TB_f1 := Blk.free TB 1
        have TB_2 := Blk.cell TB 2 rfl
        have TB_f2 := Blk.free TB 2
        go_simp
        refine hK.out _ _ (by go_grown) (fun hHeld => ?_)
        clear hK K
        try simp only [Act.put, List.setIfInBounds_toArray, List.set_cons_zero, List.set_cons_succ, List.getElem_toArray, List.getElem_cons_zero, List.getElem_cons_succ]
        refine wpAnyH_take (i := 10) (v := ?v10_28) rfl (by kernel_rfl) (by kernel_rfl) (by kernel_rfl) (fun _ _ _ h => h) (Or.inl ⟨by rfl, ?hy10_28⟩) (by assumption) ?rest10_28
        case hy10_28 => (intro w9 hSw;  clear hSw; go_simp; try with_reducible rfl)
        simp only [Act.put, List.setIfInBounds_toArray, List.set_cons_zero, List.set_cons_succ, List.getElem_toArray, List.getElem_cons_zero, List.getElem_cons_succ]
        refine wpAnyH_done (by kernel_rfl) ?_ _
        clear TB_0 TB_f0 TB_1 TB_f1 TB_2 TB_f2
        replace m5 := m5.put TB b5 A5 q5.length c5 x5
        replace TB := Dbx.put TB b5 A5 q5.length c5 x5
        have TB_0 := Blk.cell TB 0 rfl
        have TB_f0 := Blk.free TB 0
        have TB_1 := Blk.cell TB 1 rfl
        have TB_f1 := Blk.free TB 1
        have TB_2 := Blk.cell TB 2 rfl
        have TB_f2 := Blk.free TB 2
        go_wp2_with fail
        with_reducible refine (signOf_bel b5 A5 q5.length c5 _ ((sgn_dn hd5 m5.lim).trans HS.out)).mono ?_
        rintro e w9 ⟨rfl, hb⟩
        go_wp2_with fail
        go_ret2
        exact ⟨rfl, dy_end (by go_grown) hb⟩
    · go_simp
      refine hK.out _ _ (by go_grown) (fun hHeld => ?_)
      clear hK K
      try simp only [Act.put, List.setIfInBounds_toArray, List.set_cons_zero, List.set_cons_succ, List.getElem_toArray, List.getElem_cons_zero, List.getElem_cons_succ]
      have TB := Blk.new wz0 [.bool false, .slice none 0 0, .int .i64 0] 40
      refine wpAnyH_ready (rs := [3]) (by kernel_rfl) (by simp) ?_
      refine (AllReadyH.cons rfl (fun K hK => ?_) AllReadyH.nil)
      go_simp
      with_reducible refine (pp _ (dy_end bw hHeld)).mono ?_
      rintro e wz1 ⟨rfl, hb⟩
      have hr1 := dy_end hHeld hb
      have hz1 := hr1.size
      replace TB := Blk.on TB hb
      refine hK.out _ _ (dy_end hHeld hb) (fun hHeld => ?_)
      clear hK K
      try simp only [Act.put, List.setIfInBounds_toArray, List.set_cons_zero, List.set_cons_succ, List.getElem_toArray, List.getElem_cons_zero, List.getElem_cons_succ]
      clear hb
      refine wpAnyH_ready (rs := [4]) (by kernel_rfl) (by simp) ?_
      refine (AllReadyH.cons rfl (fun K hK => ?_) AllReadyH.nil)
      go_simp
      with_reducible refine (pt _ (dy_end bw hHeld)).mono ?_
      rintro e wz2 ⟨b5, q5, A5, c5, x5, rfl, hd5, m5, hb⟩
      have hr2 := dy_end hHeld hb
      have hz2 := hr2.size
      replace TB := Blk.on TB hb
      replace bw : Below w.heap.size w wz2 := dy_end bw hr2
      have hzw := bw.size
      refine hK.out _ _ (dy_end hHeld hb) (fun hHeld => ?_)
      clear hK K
      try simp only [Act.put, List.setIfInBounds_toArray, List.set_cons_zero, List.set_cons_succ, List.getElem_toArray, List.getElem_cons_zero, List.getElem_cons_succ]
      clear hb
      refine wpAnyH_take (i := 5) (v := ?v5_29) rfl (by kernel_rfl) (by kernel_rfl) (by kernel_rfl) (fun _ _ _ h => h) (Or.inl ⟨by rfl, ?hy5_29⟩) (by assumption) ?rest5_29
      case hy5_29 => (intro w9 hSw;  clear hSw; go_simp; try with_reducible rfl)
      simp only [Act.put, List.setIfInBounds_toArray, List.set_cons_zero, List.set_cons_succ, List.getElem_toArray, List.getElem_cons_zero, List.getElem_cons_succ]
      refine wpAnyH_take (i := 6) (v := ?v6_30) rfl (by kernel_rfl) (by kernel_rfl) (by kernel_rfl) (fun _ _ _ h => h) (Or.inl ⟨by rfl, ?hy6_30⟩) (by assumption) ?rest6_30
      case hy6_30 => (intro w9 hSw;  clear hSw; go_simp; try with_reducible rfl)
      simp only [Act.put, List.setIfInBounds_toArray, List.set_cons_zero, List.set_cons_succ, List.getElem_toArray, List.getElem_cons_zero, List.getElem_cons_succ]
      refine wpAnyH_take (i := 7) (v := ?v7_31) rfl (by kernel_rfl) (by kernel_rfl) (by kernel_rfl) (fun _ _ _ h => h) (Or.inl ⟨by rfl, ?hy7_31⟩) (by assumption) ?rest7_31
      case hy7_31 => (intro w9 hSw;  clear hSw; go_simp; try with_reducible rfl)
      simp only [Act.put, List.setIfInBounds_toArray, List.set_cons_zero, List.set_cons_succ, List.getElem_toArray, List.getElem_cons_zero, List.getElem_cons_succ]
      refine wpAnyH_ready (rs := [9]) (by kernel_rfl) (by simp) ?_
      refine AllReadyH.cons rfl (fun K hK => ?_) AllReadyH.nil
      have TB_0 := Blk.cell TB 0 rfl
      have TB_f0 := Blk.free TB 0
      have TB_1 := Blk.cell TB 1 rfl
      have TB_f1 := Blk.free TB 1
      have TB_2 := Blk.cell TB 2 rfl
      have TB_f2 := Blk.free TB 2
      go_simp
      refine hK.out _ _ (by go_grown) (fun hHeld => ?_)
      clear hK K
      try simp only [Act.put, List.setIfInBounds_toArray, List.set_cons_zero, List.set_cons_succ, List.getElem_toArray, List.getElem_cons_zero, List.getElem_cons_succ]
      refine wpAnyH_take (i := 10) (v := ?v10_32) rfl (by kernel_rfl) (by kernel_rfl) (by kernel_rfl) (fun _ _ _ h => h) (Or.inl ⟨by rfl, ?hy10_32⟩) (by assumption) ?rest10_32
      case hy10_32 => (intro w9 hSw;  clear hSw; go_simp; try with_reducible rfl)
      simp only [Act.put, List.setIfInBounds_toArray, List.set_cons_zero, List.set_cons_succ, List.getElem_toArray, List.getElem_cons_zero, List.getElem_cons_succ]
      refine wpAnyH_done (by kernel_rfl) ?_ _
      clear TB_0 TB_f0 TB_1 TB_f1 TB_2 TB_f2
      replace m5 := m5.put TB b5 A5 q5.length c5 x5
      replace TB := Dbx.put TB b5 A5 q5.length c5 x5
      have TB_0 := Blk.cell TB 0 rfl
      have TB_f0 := Blk.free TB 0
      have TB_1 := Blk.cell TB 1 rfl
      have TB_f1 := Blk.free TB 1
      have TB_2 := Blk.cell TB 2 rfl
      have TB_f2 := Blk.free TB 2
      go_wp2_with fail
      with_reducible refine (signOf_bel b5 A5 q5.length c5 _ ((sgn_dn hd5 m5.lim).trans HS.out)).mono ?_
      rintro e w9 ⟨rfl, hb⟩
      go_wp2_with fail
      go_ret2
      exact ⟨rfl, dy_end (by go_grown) hb⟩
  · go_simp
    refine hK.out _ _ (by go_grown) (fun hHeld => ?_)
    clear hK K
    try simp only [Act.put, List.setIfInBounds_toArray, List.set_cons_zero, List.set_cons_succ, List.getElem_toArray, List.getElem_cons_zero, List.getElem_cons_succ]
    have TB := Blk.new (w3.drew) [.bool false, .slice none 0 0, .int .i64 0] 40
    simp only [World.size_drew] at TB
    refine wpAnyH_ready (rs := [2]) (by kernel_rfl) (by simp) ?_
    refine (AllReadyH.cons rfl (fun K hK => ?_) AllReadyH.nil)
    go_simp
    with_reducible refine (dturned_any b2 A2 n2 c2 x2 _).mono ?_
    rintro e wz0 ⟨rfl, hb⟩
    have hr0 := dy_end hHeld hb
    have hz0 := hr0.size
    replace TB := Blk.on TB hb
    refine hK.out _ _ (dy_end hHeld hb) (fun hHeld => ?_)
    clear hK K
    try simp only [Act.put, List.setIfInBounds_toArray, List.set_cons_zero, List.set_cons_succ, List.getElem_toArray, List.getElem_cons_zero, List.getElem_cons_succ]
    clear hb
    refine wpAnyH_ready (rs := [3]) (by kernel_rfl) (by simp) ?_
    refine (AllReadyH.cons rfl (fun K hK => ?_) AllReadyH.nil)
    go_simp
    with_reducible refine (pp _ (dy_end bw hHeld)).mono ?_
    rintro e wz1 ⟨rfl, hb⟩
    have hr1 := dy_end hHeld hb
    have hz1 := hr1.size
    replace TB := Blk.on TB hb
    refine hK.out _ _ (dy_end hHeld hb) (fun hHeld => ?_)
    clear hK K
    try simp only [Act.put, List.setIfInBounds_toArray, List.set_cons_zero, List.set_cons_succ, List.getElem_toArray, List.getElem_cons_zero, List.getElem_cons_succ]
    clear hb
    refine wpAnyH_ready (rs := [4]) (by kernel_rfl) (by simp) ?_
    refine (AllReadyH.cons rfl (fun K hK => ?_) AllReadyH.nil)
    go_simp
    with_reducible refine (pt _ (dy_end bw hHeld)).mono ?_
    rintro e wz2 ⟨b5, q5, A5, c5, x5, rfl, hd5, m5, hb⟩
    have hr2 := dy_end hHeld hb
    have hz2 := hr2.size
    replace TB := Blk.on TB hb
    replace bw : Below w.heap.size w wz2 := dy_end bw hr2
    have hzw := bw.size
    refine hK.out _ _ (dy_end hHeld hb) (fun hHeld => ?_)
    clear hK K
    try simp only [Act.put, List.setIfInBounds_toArray, List.set_cons_zero, List.set_cons_succ, List.getElem_toArray, List.getElem_cons_zero, List.getElem_cons_succ]
    clear hb
    refine wpAnyH_take (i := 5) (v := ?v5_33) rfl (by kernel_rfl) (by kernel_rfl) (by kernel_rfl) (fun _ _ _ h => h) (Or.inl ⟨by rfl, ?hy5_33⟩) (by assumption) ?rest5_33
    case hy5_33 => (intro w9 hSw;  clear hSw; go_simp; try with_reducible rfl)
    simp only [Act.put, List.setIfInBounds_toArray, List.set_cons_zero, List.set_cons_succ, List.getElem_toArray, List.getElem_cons_zero, List.getElem_cons_succ]
    refine wpAnyH_take (i := 6) (v := ?v6_34) rfl (by kernel_rfl) (by kernel_rfl) (by kernel_rfl) (fun _ _ _ h => h) (Or.inl ⟨by rfl, ?hy6_34⟩) (by assumption) ?rest6_34
    case hy6_34 => (intro w9 hSw;  clear hSw; go_simp; try with_reducible rfl)
    simp only [Act.put, List.setIfInBounds_toArray, List.set_cons_zero, List.set_cons_succ, List.getElem_toArray, List.getElem_cons_zero, List.getElem_cons_succ]
    refine wpAnyH_take (i := 7) (v := ?v7_35) rfl (by kernel_rfl) (by kernel_rfl) (by kernel_rfl) (fun _ _ _ h => h) (Or.inl ⟨by rfl, ?hy7_35⟩) (by assumption) ?rest7_35
    case hy7_35 => (intro w9 hSw;  clear hSw; go_simp; try with_reducible rfl)
    simp only [Act.put, List.setIfInBounds_toArray, List.set_cons_zero, List.set_cons_succ, List.getElem_toArray, List.getElem_cons_zero, List.getElem_cons_succ]
    refine wpAnyH_ready (rs := [9]) (by kernel_rfl) (by simp) ?_
    refine AllReadyH.cons rfl (fun K hK => ?_) AllReadyH.nil
    have TB_0 := Blk.cell TB 0 rfl
    have TB_f0 := Blk.free TB 0
    have TB_1 := Blk.cell TB 1 rfl
    have TB_f1 := Blk.free TB 1
    have TB_2 := Blk.cell TB 2 rfl
    have TB_f2 := Blk.free TB 2
    go_simp
    refine hK.out _ _ (by go_grown) (fun hHeld => ?_)
    clear hK K
    try simp only [Act.put, List.setIfInBounds_toArray, List.set_cons_zero, List.set_cons_succ, List.getElem_toArray, List.getElem_cons_zero, List.getElem_cons_succ]
    refine wpAnyH_take (i := 10) (v := ?v10_36) rfl (by kernel_rfl) (by kernel_rfl) (by kernel_rfl) (fun _ _ _ h => h) (Or.inl ⟨by rfl, ?hy10_36⟩) (by assumption) ?rest10_36
    case hy10_36 => (intro w9 hSw;  clear hSw; go_simp; try with_reducible rfl)
    simp only [Act.put, List.setIfInBounds_toArray, List.set_cons_zero, List.set_cons_succ, List.getElem_toArray, List.getElem_cons_zero, List.getElem_cons_succ]
    refine wpAnyH_done (by kernel_rfl) ?_ _
    clear TB_0 TB_f0 TB_1 TB_f1 TB_2 TB_f2
    replace m5 := m5.put TB b5 A5 q5.length c5 x5
    replace TB := Dbx.put TB b5 A5 q5.length c5 x5
    have TB_0 := Blk.cell TB 0 rfl
    have TB_f0 := Blk.free TB 0
    have TB_1 := Blk.cell TB 1 rfl
    have TB_f1 := Blk.free TB 1
    have TB_2 := Blk.cell TB 2 rfl
    have TB_f2 := Blk.free TB 2
    go_wp2_with fail
    with_reducible refine (signOf_bel b5 A5 q5.length c5 _ ((sgn_dn hd5 m5.lim).trans HS.out)).mono ?_
    rintro e w9 ⟨rfl, hb⟩
    go_wp2_with fail
    go_ret2
    exact ⟨rfl, dy_end (by go_grown) hb⟩

end
end Go.Proofs.YtcdbjlmegkcaiaaGreatDoor
namespace Go.Proofs.YtcdbjlmegkcaiaaGreatDoor
open Go Go.RowKit Go.Bw
set_option linter.unusedVariables false
set_option linter.unusedSimpArgs false

def sgI (s : Int) : Int := if s = 0 then 0 else if s < 0 then -1 else 1
theorem sgn_nf (s e : Int) : sgn (nf s e) = sgI s := by
  unfold sgI
  by_cases h : s = 0
  · subst h; rw [nf_zero, if_pos rfl]; rfl
  · rw [nf_pos h, if_neg h]
    have ho := (odd_is (n := s.natAbs) (by omega)).1
    unfold sgn
    rw [if_neg (show ¬ odd s.natAbs = 0 by omega)]
    by_cases h2 : s < 0
    · rw [if_pos h2]; simp [h2]
    · rw [if_neg h2]; simp [h2]
theorem sgn_is (d : Nf) : sgn d = sgI d.num := by
  unfold sgn sgI Nf.num
  cases d.neg <;> by_cases h : d.man = 0 <;> simp [h] <;> omega
theorem diff_nf {d d2 : Nf} (hd : d.Ok) (hd2 : d2.Ok) : sumN d (negN d2) = nf (d.num * 2 ^ (d.exp - min d.exp d2.exp).toNat + -d2.num * 2 ^ (d2.exp - min d.exp d2.exp).toNat) (min d.exp d2.exp) := by
  have h := sumN_of (s := d.num) (e := d.exp) (t := -d2.num) (f := d2.exp) (p := min d.exp d2.exp) (by omega) (by omega)
  rw [nf_self hd] at h
  exact h.symm
theorem mul_sg {u X : Int} (hX : 0 < X) : sgI (u * X) = sgI u := by
  unfold sgI
  rcases Int.lt_trichotomy u 0 with h | h | h
  · have := Int.mul_neg_of_neg_of_pos h hX
    rw [if_neg (by omega), if_pos (by omega), if_neg (by omega), if_pos h]
  · subst h; simp
  · have := Int.mul_pos h hX
    rw [if_neg (by omega), if_neg (by omega), if_neg (by omega), if_neg (by omega)]
theorem sg_diff {u v : Int} (h : sgI u ≠ sgI v ∨ sgI u = 0) : sgI (u + -v) = cmpS (sgI u) (sgI v) := by
  unfold sgI at *
  unfold cmpS
  repeat' split at h
  all_goals (repeat' split)
  all_goals omega
theorem sgn_diff {d d2 : Nf} (hd : d.Ok) (hd2 : d2.Ok) (h : sgn d ≠ sgn d2 ∨ sgn d = 0) : sgn (sumN d (negN d2)) = cmpS (sgn d) (sgn d2) := by
  rw [diff_nf hd hd2, sgn_nf]
  rw [sgn_is, sgn_is] at h ⊢
  have hX : (0 : Int) < 2 ^ (d.exp - min d.exp d2.exp).toNat := Int.pow_pos (by omega)
  have hY : (0 : Int) < 2 ^ (d2.exp - min d.exp d2.exp).toNat := Int.pow_pos (by omega)
  have e1 := mul_sg (u := d.num) hX
  have e2 := mul_sg (u := d2.num) hY
  rw [← e1, ← e2] at h ⊢
  rw [Int.neg_mul]
  exact sg_diff h
/-- of one sign: by the sizes at one place -/
theorem sgn_sizes {d d2 : Nf} (hd : d.Ok) (hd2 : d2.Ok) (h : sgn d = sgn d2) (h0 : sgn d ≠ 0) (hlt : (d.man : Int) * 2 ^ (d.exp - min d.exp d2.exp).toNat < (d2.man : Int) * 2 ^ (d2.exp - min d.exp d2.exp).toNat) :
    sgn (sumN d (negN d2)) = -sgn d ∧ sgn (sumN d2 (negN d)) = sgn d := by
  rw [diff_nf hd hd2, diff_nf hd2 hd, sgn_nf, sgn_nf, Int.min_comm d2.exp d.exp]
  generalize (2 : Int) ^ (d.exp - min d.exp d2.exp).toNat = X at *
  generalize (2 : Int) ^ (d2.exp - min d.exp d2.exp).toNat = Y at *
  have g1 : d.man ≠ 0 := fun e => h0 (by unfold sgn; rw [if_pos e])
  have g2 : d2.man ≠ 0 := fun e => h0 (by rw [h]; unfold sgn; rw [if_pos e])
  unfold sgn at h ⊢
  rw [if_neg g1, if_neg g2] at h
  rw [if_neg g1]
  unfold Nf.num
  cases e1 : d.neg <;> cases e2 : d2.neg <;> rw [e1, e2] at h <;> simp at h <;> simp only [Bool.false_eq_true, if_false, if_true] <;> unfold sgI
  · constructor
    · rw [if_neg (by rw [Int.neg_mul]; omega), if_pos (by rw [Int.neg_mul]; omega)]
    · rw [if_neg (by rw [Int.neg_mul]; omega), if_neg (by rw [Int.neg_mul]; omega)]
  · constructor
    · rw [if_neg (by rw [Int.neg_neg, Int.neg_mul]; omega), if_neg (by rw [Int.neg_neg, Int.neg_mul]; omega)]; rfl
    · rw [if_neg (by rw [Int.neg_neg, Int.neg_mul]; omega), if_pos (by rw [Int.neg_neg, Int.neg_mul]; omega)]
theorem size_bits {m m2 k k2 : Nat} {x x2 : Int} (hk : IsBits (m : Int) k) (hk2 : IsBits (m2 : Int) k2) (h2 : m2 ≠ 0) (hlt : x + (k : Int) < x2 + (k2 : Int)) : (m : Int) * 2 ^ (x - min x x2).toNat < (m2 : Int) * 2 ^ (x2 - min x x2).toNat := by
  have a1 := hk.2.1
  have hk20 : 0 < k2 := by
    rcases Nat.eq_zero_or_pos k2 with g | g
    · subst g
      have := hk2.2.1
      simp at this
      omega
    · exact g
  have a2 := hk2.2.2 hk20
  have hX : (0 : Int) < 2 ^ (x - min x x2).toNat := Int.pow_pos (by omega)
  have hY : (0 : Int) < 2 ^ (x2 - min x x2).toNat := Int.pow_pos (by omega)
  have b1 := Int.mul_lt_mul_of_pos_right a1 hX
  have b2 := Int.mul_le_mul_of_nonneg_right a2 (Int.le_of_lt hY)
  rw [← Int.pow_add] at b1 b2
  have b3 := pw_mono (show k + (x - min x x2).toNat ≤ k2 - 1 + (x2 - min x x2).toNat by omega)
  omega
/-- what order answers, of numbers within bounds -/
theorem ord_near {d d2 : Nf} {P Q : Int} (i1 : d.In P Q) (i2 : d2.In P Q) (ok1 : d.Ok) (ok2 : d2.Ok) (hPQ : P ≤ Q) (hw : Q - P ≤ 262143) : OrdC d d2 (sgn (sumN d (negN d2))) 0 := by
  have hfar := far_near i1 i2 (by omega)
  intro b b2 A A2 c c2 x x2 l l2 w hd h hd2 h2 hT x0 x1 y0 y1
  by_cases hs : sgn d ≠ sgn d2 ∨ sgn d = 0
  · rw [sgn_diff ok1 ok2 hs]
    exact ord_signs hs (fun _ _ => hfar) hd h hd2 h2 hT x0 x1 y0 y1
  · have h0 : sgn d ≠ 0 := fun e => hs (.inr e)
    have he : sgn d = sgn d2 := Classical.byContradiction fun e => hs (.inl e)
    have m1 : d.man ≠ 0 := fun e => h0 (by unfold sgn; rw [if_pos e])
    have m2 : d2.man ≠ 0 := fun e => h0 (by rw [he]; unfold sgn; rw [if_pos e])
    have g1 := sgn_dn hd h.lim
    have g2 := sgn_dn hd2 h2.lim
    rw [← he] at g2
    have hf : x - x2 ≤ 262144 ∧ x2 - x ≤ 262144 := by
      unfold farN farB at hfar
      rw [hd.exp, hd2.exp] at hfar
      simp [m1, m2] at hfar
      omega
    obtain ⟨k, hk⟩ := exists_bits _ (lim_val h.lim)
    obtain ⟨k2, hk2⟩ := exists_bits _ (lim_val h2.lim)
    have hkm := hk
    have hkm2 := hk2
    rw [← hd.man h.lim] at hkm
    rw [← hd2.man h2.lim] at hkm2
    have r1 : sgn d = -1 ∨ sgn d = 1 := by
      have : sgn d = -1 ∨ sgn d = 0 ∨ sgn d = 1 := by unfold sgn; repeat' split <;> simp
      omega
    rcases Int.lt_trichotomy (x + (k : Int)) (x2 + (k2 : Int)) with g | g | g
    · have hsz := size_bits hkm hkm2 m2 g
      rw [← hd.exp, ← hd2.exp] at hsz
      rw [(sgn_sizes ok1 ok2 he h0 hsz).1]
      rcases r1 with r | r <;> rw [r] at g1 g2 ⊢
      · exact order_lt_n h hd.2.1 h2 hd2.2.1 g1 g2 x0 x1 y0 y1 hf hk hk2 rfl rfl g
      · exact order_lt_p h hd.2.1 h2 hd2.2.1 g1 g2 x0 x1 y0 y1 hf hk hk2 rfl rfl g
    · have hN : Near d (negN d2) := ⟨P, Q, i1, negN_in ok2 i2, hPQ, hw⟩
      have m3 : (negN d2).man ≠ 0 := by
        rcases neg_man d2 with ⟨e, _⟩ | e
        · rw [e]; exact m2
        · exact absurd ok2 e
      rcases r1 with r | r <;> rw [r] at g1 g2
      · exact order_eq_n h hd.2.1 h2 hd2.2.1 g1 g2 x0 x1 y0 y1 hf hk hk2 rfl rfl g hT hd (hd2.turnN h2.lim m2) m1 m3 hN (Lib.hid rfl)
      · exact order_eq_p h hd.2.1 h2 hd2.2.1 g1 g2 x0 x1 y0 y1 hf hk hk2 rfl rfl g hT hd (hd2.turnN h2.lim m2) m1 m3 hN (Lib.hid rfl)
    · have hsz := size_bits hkm2 hkm m1 g
      rw [← hd.exp, ← hd2.exp] at hsz
      rw [(sgn_sizes ok2 ok1 he.symm (by rw [← he]; exact h0) hsz).2, ← he]
      rcases r1 with r | r <;> rw [r] at g1 g2 ⊢
      · exact order_gt_n h hd.2.1 h2 hd2.2.1 g1 g2 x0 x1 y0 y1 hf hk hk2 rfl rfl g
      · exact order_gt_p h hd.2.1 h2 hd2.2.1 g1 g2 x0 x1 y0 y1 hf hk hk2 rfl rfl g
/-! ### what undoes what -/
theorem sumN_neg (b : Nf) (hb : b.Ok) : sumN b (negN b) = zeroN := by
  rw [diff_nf hb hb, Int.neg_mul, Int.add_right_neg, nf_zero]
  rfl
theorem sumN_back {a b : Nf} (ha : a.Ok) (hb : b.Ok) : sumN (sumN a b) (negN b) = a := by
  rw [sumN_assoc ha hb (negN_ok b), sumN_neg b hb, sumN_zero_right ha]
theorem mulN_neg (b c : Nf) (hb : b.Ok) (hc : c.Ok) : mulN (negN b) c = negN (mulN b c) := by
  have h1 := mulN_of (-b.num) b.exp c.num c.exp
  have h2 := negN_of (b.num * c.num) (b.exp + c.exp)
  have e1 : nf (-b.num) b.exp = negN b := rfl
  have e2 : nf (b.num * c.num) (b.exp + c.exp) = mulN b c := rfl
  rw [nf_self hc, e1] at h1
  rw [e2] at h2
  rw [← h1, Int.neg_mul, h2]
theorem squares {a b : Nf} (ha : a.Ok) (hb : b.Ok) : mulN (sumN a b) (sumN a (negN b)) = sumN (mulN a a) (negN (mulN b b)) := by
  have hs := sumN_ok a (negN b)
  rw [mulN_sum ha hb hs, mulN_comm a (sumN a (negN b)), mulN_comm b (sumN a (negN b)), mulN_sum ha (negN_ok b) ha, mulN_sum ha (negN_ok b) hb, mulN_neg b a hb ha, mulN_neg b b hb hb, mulN_comm b a]
  have o1 := mulN_ok a a
  have o2 := mulN_ok a b
  have o3 := negN_ok (mulN b b)
  rw [sumN_assoc o1 (negN_ok _) (sumN_ok _ _), ← sumN_assoc (negN_ok _) o2 o3, sumN_comm (negN (mulN a b)), sumN_neg _ o2, sumN_zero_left o3]
end Go.Proofs.YtcdbjlmegkcaiaaGreatDoor
namespace Go.Proofs.YtcdbjlmegkcaiaaGreatDoor
open Go.RowKit Go.Sort Go.Bw
set_option linter.unusedVariables false
set_option linter.unusedSimpArgs false

section
variable {b : Bool} {A : Option Addr} {n c : Nat} {x : Int} {l : List Int} {w : World}
variable {b2 : Bool} {A2 : Option Addr} {n2 c2 : Nat} {x2 : Int} {l2 : List Int} {d d2 R : Nf}

/-- a number as it stands in memory, within bounds -/
def Nst (b : Bool) (l : List Int) (x : Int) (d : Nf) : Prop := l.length ≤ 4096 ∧ okE x = true ∧ val 18446744073709551616 l < 2 ^ 131072 ∧ nfl b (val 18446744073709551616 l) x = d ∧ d.Ok
theorem Nst.of (hd : Dn b l x d) (hl : Lim 18446744073709551616 l) (i : d.In (-9000) 9000) : Nst b l x d := by
  refine ⟨hd.2.1, by rw [← hd.exp]; exact in_okE hd.2.2.2 i (by omega) (by omega), ?_, hd.is hl, hd.2.2.2⟩
  rw [← hd.man hl]
  exact Int.lt_of_lt_of_le (i.lt (by omega)) (pw_mono (by omega))
theorem nSub (h : Lv w A l.length c l) (s1 : Nst b l x d) (h2 : Lv w A2 l2.length c2 l2) (s2 : Nst b2 l2 x2 d2) (hT : Tab w) (i1 : d.In (-9000) 9000) (i2 : d2.In (-9000) 9000) (e : sumN d (negN d2) = R) :
    Calls Tryz.prog 9 #[dyV b A l.length c x, dyV b2 A2 l2.length c2 x2] w (DyK R 0 w) := by
  obtain ⟨k1, o1, v1, e1, y1⟩ := s1
  obtain ⟨k2, o2, v2, e2, y2⟩ := s2
  have i3 := negN_in y2 i2
  have := dSub_any (b := b) (b2 := b2) (x := x) (x2 := x2) h k1 h2 k2 hT (by rw [e1, e2]; exact fun _ => .inr ⟨-9000, 9000, i1, i3, by omega, by omega⟩)
  rw [e1, e2] at this
  have q : addQ x x2 d (negN d2) = (R, 0) := by
    unfold addQ may2
    rw [o1, o2, if_pos (show (true && true) = true from rfl), addR_near i1 i3 (by omega), doneR_near (sumN_ok _ _) (sumN_in y1 (negN_ok _) i1 i3 (by omega)) (by omega) (by omega), e]
  rw [q] at this
  exact this
theorem mul_bnd {u v : Int} (p1 : 0 ≤ u) (p2 : 0 ≤ v) (a1 : u < 2 ^ 131072) (a2 : v < 2 ^ 131072) : u * v < 18446744073709551616 ^ 4096 := by
  rw [pow64, show 64 * 4096 = 131072 + 131072 from rfl, Int.pow_add]
  have h0 : (0 : Int) < 2 ^ 131072 := Int.pow_pos (by omega)
  generalize (2 : Int) ^ 131072 = R at *
  calc u * v ≤ u * R := Int.mul_le_mul_of_nonneg_left (by omega) p1
    _ < R * R := Int.mul_lt_mul_of_pos_right a1 h0
theorem nMul (h : Lv w A l.length c l) (s1 : Nst b l x d) (h2 : Lv w A2 l2.length c2 l2) (s2 : Nst b2 l2 x2 d2) (hT : Tab w) (i1 : d.In (-9000) 9000) (i2 : d2.In (-9000) 9000) (e : mulN d d2 = R) :
    Calls Tryz.prog 13 #[dyV b A l.length c x, dyV b2 A2 l2.length c2 x2] w (DyK R 0 w) := by
  obtain ⟨k1, o1, v1, e1, y1⟩ := s1
  obtain ⟨k2, o2, v2, e2, y2⟩ := s2
  have := dMul_any (b := b) (b2 := b2) (x := x) (x2 := x2) h k1 h2 k2 hT (fun _ => mul_bnd (lim_val h.lim) (lim_val h2.lim) v1 v2)
  rw [e1, e2] at this
  have q : mulQ x x2 d d2 = (R, 0) := by
    unfold mulQ may2 mulR
    rw [o1, o2, if_pos (show (true && true) = true from rfl), doneR_near (mulN_ok _ _) (mulN_in i1 i2) (by omega) (by omega), e]
  rw [q] at this
  exact this
theorem nCmp (h : Lv w A l.length c l) (s1 : Nst b l x d) (h2 : Lv w A2 l2.length c2 l2) (s2 : Nst b2 l2 x2 d2) (hT : Tab w) (i1 : d.In (-9000) 9000) (i2 : d2.In (-9000) 9000) {s : Int} (e : sgn (sumN d (negN d2)) = s) :
    Calls Tryz.prog 14 #[dyV b A l.length c x, dyV b2 A2 l2.length c2 x2] w fun e w' => e = .returned (.tuple #[.int .i64 s, .int .i64 0]) ∧ Below w.heap.size w w' := by
  obtain ⟨k1, o1, v1, e1, y1⟩ := s1
  obtain ⟨k2, o2, v2, e2, y2⟩ := s2
  have hc : OrdC d d2 (sgn (sumN d (negN d2))) 0 := @ord_near d d2 (-9000) 9000 i1 i2 y1 y2 (by omega) (by omega)
  rw [e, ← e1, ← e2] at hc
  exact dCmp_yes (b := b) (b2 := b2) (x := x) (x2 := x2) h k1 h2 k2 hT o1 o2 hc
end
end Go.Proofs.YtcdbjlmegkcaiaaGreatDoor
