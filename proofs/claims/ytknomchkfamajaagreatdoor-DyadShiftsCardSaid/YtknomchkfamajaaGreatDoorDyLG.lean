/-
  Layer 3, the laws: the law of shifts. (Written by a script of wip/tools.)
-/
import Derived.Test.YtknomchkfamajaaGreatDoorDyLZ
import Derived.Test.YtknomchkfamajaaGreatDoorDyLC
namespace Go.Proofs.YtknomchkfamajaaGreatDoor
open Go.RowKit Go.Sort Go.Bw
set_option linter.unusedVariables false
set_option linter.unusedSimpArgs false

section
variable {b : Bool} {A : Option Addr} {n c : Nat} {x : Int} {l : List Int} {w : World}

theorem rShift_yes (h : Lv w A n c l) (hn : n ≤ 4096) (ho : okE x = true) (k : Int) (k0 : -9223372036854775808 ≤ k) (k1 : k ≤ 9223372036854775807) : Calls Tryz.prog 45 #[dyV b A n c x, .int .i64 k] w (DyK (shR (nfl b (val 18446744073709551616 l) x) k).1 (shR (nfl b (val 18446744073709551616 l) x) k).2 w) := by
  by_cases hv : val 18446744073709551616 l = 0
  · have e : shR (nfl b (val 18446744073709551616 l) x) k = (zeroN, 0) := by rw [hv, nfl_zero]; rfl
    rw [e]; exact rShift_zero h hn ho hv k
  · exact rShift_pos h hn ho k hv k0 k1
set_option maxRecDepth 100000 in
set_option maxHeartbeats 8000000 in
theorem shifts_long (b : Bool) (A : Option Addr) (c : Nat) (x k : Int) (hn : 40 < n) (hT : Tab w) (hP : PowT w) :
    Calls Tryz.prog 9 #[dyV b A n c x, .int .i64 k] w fun e w' => e = .returned (.bool true) ∧ Below w.heap.size w w' := by
  have PB := Blk.new w [.bool b, .slice A n c, .int .i64 x] 24
  have bw : Below w.heap.size w (w.alloc (.cells #[.bool b, .slice A n c, .int .i64 x] 24)) := by go_grown
  have PB_0 := Blk.cell PB 0 rfl
  have PB_1 := Blk.cell PB 1 rfl
  have PB_2 := Blk.cell PB 2 rfl
  have PB_f0 := Blk.free PB 0
  have PB_f1 := Blk.free PB 1
  have PB_f2 := Blk.free PB 2
  go_enter Tryz.func9, Tryz.ntmps9
  go_wp2_with fail
  with_reducible refine (llong_true b A c x _ hn).mono ?_
  rintro e w1 ⟨rfl, hb⟩
  clear PB_0 PB_1 PB_2 PB_f0 PB_f1 PB_f2
  have hs1 := hb.size
  try simp only [World.size_alloc, World.size_setCell] at hs1
  replace bw : Below w.heap.size w w1 := dy_end (by go_grown) hb
  replace PB := Blk.on PB hb
  clear hb
  have PB_0 := Blk.cell PB 0 rfl
  have PB_1 := Blk.cell PB 1 rfl
  have PB_2 := Blk.cell PB 2 rfl
  have PB_f0 := Blk.free PB 0
  have PB_f1 := Blk.free PB 1
  have PB_f2 := Blk.free PB 2
  go_wp2_with fail
  with_reducible refine (dknown_any _ (hT.onD (by go_grown)) (hP.on (by go_grown))).mono ?_
  rintro e w2 ⟨rfl, hb⟩
  clear PB_0 PB_1 PB_2 PB_f0 PB_f1 PB_f2
  have hs2 := hb.size
  try simp only [World.size_alloc, World.size_setCell] at hs2
  replace bw : Below w.heap.size w w2 := dy_end (by go_grown) hb
  replace PB := Blk.on PB hb
  clear hb
  have PB_0 := Blk.cell PB 0 rfl
  have PB_1 := Blk.cell PB 1 rfl
  have PB_2 := Blk.cell PB 2 rfl
  have PB_f0 := Blk.free PB 0
  have PB_f1 := Blk.free PB 1
  have PB_f2 := Blk.free PB 2
  go_wp2_with fail
  go_ret
  exact ⟨rfl, by go_grown⟩

set_option maxRecDepth 100000 in
set_option maxHeartbeats 8000000 in
theorem shifts_no (h : Lv w A n c l) (hn : n ≤ 40) (ho : okE x = false) (k : Int) (k0 : -9223372036854775808 ≤ k) (k1 : k ≤ 9223372036854775807) (hT : Tab w) (hP : PowT w) :
    Calls Tryz.prog 9 #[dyV b A n c x, .int .i64 k] w fun e w' => e = .returned (.bool true) ∧ Below w.heap.size w w' := by
  have PB := Blk.new w [.bool b, .slice A n c, .int .i64 x] 24
  have bw : Below w.heap.size w (w.alloc (.cells #[.bool b, .slice A n c, .int .i64 x] 24)) := by go_grown
  have PB_0 := Blk.cell PB 0 rfl
  have PB_1 := Blk.cell PB 1 rfl
  have PB_2 := Blk.cell PB 2 rfl
  have PB_f0 := Blk.free PB 0
  have PB_f1 := Blk.free PB 1
  have PB_f2 := Blk.free PB 2
  have hn9 : n ≤ 4096 := by omega
  replace h := Lv.alloc h (.cells #[.bool b, .slice A n c, .int .i64 x] 24)
  go_enter Tryz.func9, Tryz.ntmps9
  go_wp2_with fail
  with_reducible refine (llong_false b A c x _ hn).mono ?_
  rintro e w1 ⟨rfl, hb⟩
  clear PB_0 PB_1 PB_2 PB_f0 PB_f1 PB_f2
  have hs1 := hb.size
  try simp only [World.size_alloc, World.size_setCell] at hs1
  replace bw : Below w.heap.size w w1 := dy_end (by go_grown) hb
  replace h := Lv.on h hb
  replace PB := Blk.on PB hb
  clear hb
  have PB_0 := Blk.cell PB 0 rfl
  have PB_1 := Blk.cell PB 1 rfl
  have PB_2 := Blk.cell PB 2 rfl
  have PB_f0 := Blk.free PB 0
  have PB_f1 := Blk.free PB 1
  have PB_f2 := Blk.free PB 2
  go_wp2_with fail
  with_reducible refine ((dShift_no (b := b) (x := x) h hn9 ho k).mono (fun _ _ => DyK.zero)).mono ?_
  rintro e w2 ⟨A2, c2, rfl, m2, hb⟩
  clear PB_0 PB_1 PB_2 PB_f0 PB_f1 PB_f2
  have hs2 := hb.size
  try simp only [World.size_alloc, World.size_setCell] at hs2
  replace bw : Below w.heap.size w w2 := dy_end (by go_grown) hb
  replace h := Lv.on h hb
  replace PB := Blk.on PB hb
  clear hb
  have PB_0 := Blk.cell PB 0 rfl
  have PB_1 := Blk.cell PB 1 rfl
  have PB_2 := Blk.cell PB 2 rfl
  have PB_f0 := Blk.free PB 0
  have PB_f1 := Blk.free PB 1
  have PB_f2 := Blk.free PB 2
  replace h := Lv.alloc h (.cells #[.bool false, .slice A2 0 c2, .int .i64 0] 24)
  replace m2 := Lv.alloc m2 (.cells #[.bool false, .slice A2 0 c2, .int .i64 0] 24)
  replace PB := Blk.alloc PB (.cells #[.bool false, .slice A2 0 c2, .int .i64 0] 24)
  have HB := Blk.new w2 [.bool false, .slice A2 0 c2, .int .i64 0] 24
  have PB_v0_0 := Blk.cell PB 0 rfl
  have PB_v0_1 := Blk.cell PB 1 rfl
  have PB_v0_2 := Blk.cell PB 2 rfl
  have PB_v0_f0 := Blk.free PB 0
  have PB_v0_f1 := Blk.free PB 1
  have PB_v0_f2 := Blk.free PB 2
  have HB_0 := Blk.cell HB 0 rfl
  have HB_1 := Blk.cell HB 1 rfl
  have HB_2 := Blk.cell HB 2 rfl
  have HB_f0 := Blk.free HB 0
  have HB_f1 := Blk.free HB 1
  have HB_f2 := Blk.free HB 2
  go_wp2_with fail
  with_reducible refine ((rShift_no (b := b) (x := x) h hn9 ho k).mono (fun _ _ => DyK.zero)).mono ?_
  rintro e w3 ⟨A3, c3, rfl, m3, hb⟩
  clear PB_0 PB_1 PB_2 PB_f0 PB_f1 PB_f2 PB_v0_0 PB_v0_1 PB_v0_2 PB_v0_f0 PB_v0_f1 PB_v0_f2
  clear HB_0 HB_1 HB_2 HB_f0 HB_f1 HB_f2
  have hs3 := hb.size
  try simp only [World.size_alloc, World.size_setCell] at hs3
  replace bw : Below w.heap.size w w3 := dy_end (by go_grown) hb
  replace h := Lv.on h hb
  replace m2 := Lv.on m2 hb
  replace PB := Blk.on PB hb
  replace HB := Blk.on HB hb
  clear hb
  have PB_0 := Blk.cell PB 0 rfl
  have PB_1 := Blk.cell PB 1 rfl
  have PB_2 := Blk.cell PB 2 rfl
  have PB_f0 := Blk.free PB 0
  have PB_f1 := Blk.free PB 1
  have PB_f2 := Blk.free PB 2
  have HB_0 := Blk.cell HB 0 rfl
  have HB_1 := Blk.cell HB 1 rfl
  have HB_2 := Blk.cell HB 2 rfl
  have HB_f0 := Blk.free HB 0
  have HB_f1 := Blk.free HB 1
  have HB_f2 := Blk.free HB 2
  replace h := Lv.alloc h (.cells #[.bool false, .slice A3 0 c3, .int .i64 0] 24)
  replace m2 := Lv.alloc m2 (.cells #[.bool false, .slice A3 0 c3, .int .i64 0] 24)
  replace m3 := Lv.alloc m3 (.cells #[.bool false, .slice A3 0 c3, .int .i64 0] 24)
  replace PB := Blk.alloc PB (.cells #[.bool false, .slice A3 0 c3, .int .i64 0] 24)
  replace HB := Blk.alloc HB (.cells #[.bool false, .slice A3 0 c3, .int .i64 0] 24)
  have IB := Blk.new w3 [.bool false, .slice A3 0 c3, .int .i64 0] 24
  have PB_v1_0 := Blk.cell PB 0 rfl
  have PB_v1_1 := Blk.cell PB 1 rfl
  have PB_v1_2 := Blk.cell PB 2 rfl
  have PB_v1_f0 := Blk.free PB 0
  have PB_v1_f1 := Blk.free PB 1
  have PB_v1_f2 := Blk.free PB 2
  have HB_v2_0 := Blk.cell HB 0 rfl
  have HB_v2_1 := Blk.cell HB 1 rfl
  have HB_v2_2 := Blk.cell HB 2 rfl
  have HB_v2_f0 := Blk.free HB 0
  have HB_v2_f1 := Blk.free HB 1
  have HB_v2_f2 := Blk.free HB 2
  have IB_0 := Blk.cell IB 0 rfl
  have IB_1 := Blk.cell IB 1 rfl
  have IB_2 := Blk.cell IB 2 rfl
  have IB_f0 := Blk.free IB 0
  have IB_f1 := Blk.free IB 1
  have IB_f2 := Blk.free IB 2
  go_wp2_with fail
  with_reducible refine (rSame_any (b := false) (x := 0) m2 m3).mono ?_
  rintro e w4 ⟨rfl, hb⟩
  clear PB_0 PB_1 PB_2 PB_f0 PB_f1 PB_f2 PB_v1_0 PB_v1_1 PB_v1_2 PB_v1_f0 PB_v1_f1 PB_v1_f2
  clear HB_0 HB_1 HB_2 HB_f0 HB_f1 HB_f2 HB_v2_0 HB_v2_1 HB_v2_2 HB_v2_f0 HB_v2_f1 HB_v2_f2
  clear IB_0 IB_1 IB_2 IB_f0 IB_f1 IB_f2
  have hs4 := hb.size
  try simp only [World.size_alloc, World.size_setCell] at hs4
  replace bw : Below w.heap.size w w4 := dy_end (by go_grown) hb
  replace h := Lv.on h hb
  replace m2 := Lv.on m2 hb
  replace m3 := Lv.on m3 hb
  replace PB := Blk.on PB hb
  replace HB := Blk.on HB hb
  replace IB := Blk.on IB hb
  clear hb
  have PB_0 := Blk.cell PB 0 rfl
  have PB_1 := Blk.cell PB 1 rfl
  have PB_2 := Blk.cell PB 2 rfl
  have PB_f0 := Blk.free PB 0
  have PB_f1 := Blk.free PB 1
  have PB_f2 := Blk.free PB 2
  have HB_0 := Blk.cell HB 0 rfl
  have HB_1 := Blk.cell HB 1 rfl
  have HB_2 := Blk.cell HB 2 rfl
  have HB_f0 := Blk.free HB 0
  have HB_f1 := Blk.free HB 1
  have HB_f2 := Blk.free HB 2
  have IB_0 := Blk.cell IB 0 rfl
  have IB_1 := Blk.cell IB 1 rfl
  have IB_2 := Blk.cell IB 2 rfl
  have IB_f0 := Blk.free IB 0
  have IB_f1 := Blk.free IB 1
  have IB_f2 := Blk.free IB 2
  go_wp2_with fail
  with_reducible refine (lnum_any (2) _).mono ?_
  rintro e v5 ⟨rfl, rfl⟩
  go_wp2_with fail
  with_reducible refine (dknown_any _ (hT.onD (by go_grown)) (hP.on (by go_grown))).mono ?_
  rintro e w6 ⟨rfl, hb⟩
  clear PB_0 PB_1 PB_2 PB_f0 PB_f1 PB_f2
  clear HB_0 HB_1 HB_2 HB_f0 HB_f1 HB_f2
  clear IB_0 IB_1 IB_2 IB_f0 IB_f1 IB_f2
  have hs6 := hb.size
  try simp only [World.size_alloc, World.size_setCell] at hs6
  replace bw : Below w.heap.size w w6 := dy_end (by go_grown) hb
  replace h := Lv.on h hb
  replace m2 := Lv.on m2 hb
  replace m3 := Lv.on m3 hb
  replace PB := Blk.on PB hb
  replace HB := Blk.on HB hb
  replace IB := Blk.on IB hb
  clear hb
  have PB_0 := Blk.cell PB 0 rfl
  have PB_1 := Blk.cell PB 1 rfl
  have PB_2 := Blk.cell PB 2 rfl
  have PB_f0 := Blk.free PB 0
  have PB_f1 := Blk.free PB 1
  have PB_f2 := Blk.free PB 2
  have HB_0 := Blk.cell HB 0 rfl
  have HB_1 := Blk.cell HB 1 rfl
  have HB_2 := Blk.cell HB 2 rfl
  have HB_f0 := Blk.free HB 0
  have HB_f1 := Blk.free HB 1
  have HB_f2 := Blk.free HB 2
  have IB_0 := Blk.cell IB 0 rfl
  have IB_1 := Blk.cell IB 1 rfl
  have IB_2 := Blk.cell IB 2 rfl
  have IB_f0 := Blk.free IB 0
  have IB_f1 := Blk.free IB 1
  have IB_f2 := Blk.free IB 2
  go_wp2_with fail
  go_ret
  exact ⟨rfl, by go_grown⟩

set_option maxRecDepth 100000 in
set_option maxHeartbeats 8000000 in
theorem shifts_yes (h : Lv w A n c l) (hn : n ≤ 40) (ho : okE x = true) (k : Int) (k0 : -9223372036854775808 ≤ k) (k1 : k ≤ 9223372036854775807) (hT : Tab w) (hP : PowT w) :
    Calls Tryz.prog 9 #[dyV b A n c x, .int .i64 k] w fun e w' => e = .returned (.bool true) ∧ Below w.heap.size w w' := by
  have PB := Blk.new w [.bool b, .slice A n c, .int .i64 x] 24
  have bw : Below w.heap.size w (w.alloc (.cells #[.bool b, .slice A n c, .int .i64 x] 24)) := by go_grown
  have PB_0 := Blk.cell PB 0 rfl
  have PB_1 := Blk.cell PB 1 rfl
  have PB_2 := Blk.cell PB 2 rfl
  have PB_f0 := Blk.free PB 0
  have PB_f1 := Blk.free PB 1
  have PB_f2 := Blk.free PB 2
  have hn9 : n ≤ 4096 := by omega
  replace h := Lv.alloc h (.cells #[.bool b, .slice A n c, .int .i64 x] 24)
  obtain ⟨K0, hK0⟩ : ∃ z, (shR (nfl b (val 18446744073709551616 l) x) k).2 = z := ⟨_, rfl⟩
  have p2 := fun W (mm : Lv W A n c l) (tt : Tab W) => dShift_yes (b := b) (x := x) mm hn9 tt ho k k0 k1
  have p3 := fun W (mm : Lv W A n c l) => rShift_yes (b := b) (x := x) mm hn9 ho k k0 k1
  rw [hK0] at p2 p3
  clear hK0
  go_enter Tryz.func9, Tryz.ntmps9
  go_wp2_with fail
  with_reducible refine (llong_false b A c x _ hn).mono ?_
  rintro e w1 ⟨rfl, hb⟩
  clear PB_0 PB_1 PB_2 PB_f0 PB_f1 PB_f2
  have hs1 := hb.size
  try simp only [World.size_alloc, World.size_setCell] at hs1
  replace bw : Below w.heap.size w w1 := dy_end (by go_grown) hb
  replace h := Lv.on h hb
  replace PB := Blk.on PB hb
  clear hb
  have PB_0 := Blk.cell PB 0 rfl
  have PB_1 := Blk.cell PB 1 rfl
  have PB_2 := Blk.cell PB 2 rfl
  have PB_f0 := Blk.free PB 0
  have PB_f1 := Blk.free PB 1
  have PB_f2 := Blk.free PB 2
  go_wp2_with fail
  with_reducible refine (p2 _ h (hT.onD (by go_grown))).mono ?_
  rintro e w2 ⟨b2, q2, A2, c2, x2, rfl, hd2, m2, hb⟩
  clear PB_0 PB_1 PB_2 PB_f0 PB_f1 PB_f2
  have hs2 := hb.size
  try simp only [World.size_alloc, World.size_setCell] at hs2
  replace bw : Below w.heap.size w w2 := dy_end (by go_grown) hb
  replace h := Lv.on h hb
  replace PB := Blk.on PB hb
  clear hb
  have PB_0 := Blk.cell PB 0 rfl
  have PB_1 := Blk.cell PB 1 rfl
  have PB_2 := Blk.cell PB 2 rfl
  have PB_f0 := Blk.free PB 0
  have PB_f1 := Blk.free PB 1
  have PB_f2 := Blk.free PB 2
  replace h := Lv.alloc h (.cells #[.bool b2, .slice A2 q2.length c2, .int .i64 x2] 24)
  replace m2 := Lv.alloc m2 (.cells #[.bool b2, .slice A2 q2.length c2, .int .i64 x2] 24)
  replace PB := Blk.alloc PB (.cells #[.bool b2, .slice A2 q2.length c2, .int .i64 x2] 24)
  have HB := Blk.new w2 [.bool b2, .slice A2 q2.length c2, .int .i64 x2] 24
  have PB_v0_0 := Blk.cell PB 0 rfl
  have PB_v0_1 := Blk.cell PB 1 rfl
  have PB_v0_2 := Blk.cell PB 2 rfl
  have PB_v0_f0 := Blk.free PB 0
  have PB_v0_f1 := Blk.free PB 1
  have PB_v0_f2 := Blk.free PB 2
  have HB_0 := Blk.cell HB 0 rfl
  have HB_1 := Blk.cell HB 1 rfl
  have HB_2 := Blk.cell HB 2 rfl
  have HB_f0 := Blk.free HB 0
  have HB_f1 := Blk.free HB 1
  have HB_f2 := Blk.free HB 2
  go_wp2_with fail
  with_reducible refine (p3 _ h).mono ?_
  rintro e w3 ⟨b3, q3, A3, c3, x3, rfl, hd3, m3, hb⟩
  clear PB_0 PB_1 PB_2 PB_f0 PB_f1 PB_f2 PB_v0_0 PB_v0_1 PB_v0_2 PB_v0_f0 PB_v0_f1 PB_v0_f2
  clear HB_0 HB_1 HB_2 HB_f0 HB_f1 HB_f2
  have hs3 := hb.size
  try simp only [World.size_alloc, World.size_setCell] at hs3
  replace bw : Below w.heap.size w w3 := dy_end (by go_grown) hb
  replace h := Lv.on h hb
  replace m2 := Lv.on m2 hb
  replace PB := Blk.on PB hb
  replace HB := Blk.on HB hb
  clear hb
  have PB_0 := Blk.cell PB 0 rfl
  have PB_1 := Blk.cell PB 1 rfl
  have PB_2 := Blk.cell PB 2 rfl
  have PB_f0 := Blk.free PB 0
  have PB_f1 := Blk.free PB 1
  have PB_f2 := Blk.free PB 2
  have HB_0 := Blk.cell HB 0 rfl
  have HB_1 := Blk.cell HB 1 rfl
  have HB_2 := Blk.cell HB 2 rfl
  have HB_f0 := Blk.free HB 0
  have HB_f1 := Blk.free HB 1
  have HB_f2 := Blk.free HB 2
  replace h := Lv.alloc h (.cells #[.bool b3, .slice A3 q3.length c3, .int .i64 x3] 24)
  replace m2 := Lv.alloc m2 (.cells #[.bool b3, .slice A3 q3.length c3, .int .i64 x3] 24)
  replace m3 := Lv.alloc m3 (.cells #[.bool b3, .slice A3 q3.length c3, .int .i64 x3] 24)
  replace PB := Blk.alloc PB (.cells #[.bool b3, .slice A3 q3.length c3, .int .i64 x3] 24)
  replace HB := Blk.alloc HB (.cells #[.bool b3, .slice A3 q3.length c3, .int .i64 x3] 24)
  have IB := Blk.new w3 [.bool b3, .slice A3 q3.length c3, .int .i64 x3] 24
  have PB_v1_0 := Blk.cell PB 0 rfl
  have PB_v1_1 := Blk.cell PB 1 rfl
  have PB_v1_2 := Blk.cell PB 2 rfl
  have PB_v1_f0 := Blk.free PB 0
  have PB_v1_f1 := Blk.free PB 1
  have PB_v1_f2 := Blk.free PB 2
  have HB_v2_0 := Blk.cell HB 0 rfl
  have HB_v2_1 := Blk.cell HB 1 rfl
  have HB_v2_2 := Blk.cell HB 2 rfl
  have HB_v2_f0 := Blk.free HB 0
  have HB_v2_f1 := Blk.free HB 1
  have HB_v2_f2 := Blk.free HB 2
  have IB_0 := Blk.cell IB 0 rfl
  have IB_1 := Blk.cell IB 1 rfl
  have IB_2 := Blk.cell IB 2 rfl
  have IB_f0 := Blk.free IB 0
  have IB_f1 := Blk.free IB 1
  have IB_f2 := Blk.free IB 2
  go_wp2_with fail
  obtain ⟨z1, z2, z3⟩ := Dn.uniq hd3 hd2 m3.lim m2.lim
  subst z1 z2 z3
  go_wp2_with fail
  with_reducible refine (rSame_any m2 m3).mono ?_
  rintro e w5 ⟨rfl, hb⟩
  clear PB_0 PB_1 PB_2 PB_f0 PB_f1 PB_f2 PB_v1_0 PB_v1_1 PB_v1_2 PB_v1_f0 PB_v1_f1 PB_v1_f2
  clear HB_0 HB_1 HB_2 HB_f0 HB_f1 HB_f2 HB_v2_0 HB_v2_1 HB_v2_2 HB_v2_f0 HB_v2_f1 HB_v2_f2
  clear IB_0 IB_1 IB_2 IB_f0 IB_f1 IB_f2
  have hs5 := hb.size
  try simp only [World.size_alloc, World.size_setCell] at hs5
  replace bw : Below w.heap.size w w5 := dy_end (by go_grown) hb
  replace h := Lv.on h hb
  replace m2 := Lv.on m2 hb
  replace m3 := Lv.on m3 hb
  replace PB := Blk.on PB hb
  replace HB := Blk.on HB hb
  replace IB := Blk.on IB hb
  clear hb
  have PB_0 := Blk.cell PB 0 rfl
  have PB_1 := Blk.cell PB 1 rfl
  have PB_2 := Blk.cell PB 2 rfl
  have PB_f0 := Blk.free PB 0
  have PB_f1 := Blk.free PB 1
  have PB_f2 := Blk.free PB 2
  have HB_0 := Blk.cell HB 0 rfl
  have HB_1 := Blk.cell HB 1 rfl
  have HB_2 := Blk.cell HB 2 rfl
  have HB_f0 := Blk.free HB 0
  have HB_f1 := Blk.free HB 1
  have HB_f2 := Blk.free HB 2
  have IB_0 := Blk.cell IB 0 rfl
  have IB_1 := Blk.cell IB 1 rfl
  have IB_2 := Blk.cell IB 2 rfl
  have IB_f0 := Blk.free IB 0
  have IB_f1 := Blk.free IB 1
  have IB_f2 := Blk.free IB 2
  go_wp2_with fail
  with_reducible refine (lnum_any (K0) _).mono ?_
  rintro e v6 ⟨rfl, rfl⟩
  go_wp2_with fail
  with_reducible refine (dknown_any _ (hT.onD (by go_grown)) (hP.on (by go_grown))).mono ?_
  rintro e w7 ⟨rfl, hb⟩
  clear PB_0 PB_1 PB_2 PB_f0 PB_f1 PB_f2
  clear HB_0 HB_1 HB_2 HB_f0 HB_f1 HB_f2
  clear IB_0 IB_1 IB_2 IB_f0 IB_f1 IB_f2
  have hs7 := hb.size
  try simp only [World.size_alloc, World.size_setCell] at hs7
  replace bw : Below w.heap.size w w7 := dy_end (by go_grown) hb
  replace h := Lv.on h hb
  replace m2 := Lv.on m2 hb
  replace m3 := Lv.on m3 hb
  replace PB := Blk.on PB hb
  replace HB := Blk.on HB hb
  replace IB := Blk.on IB hb
  clear hb
  have PB_0 := Blk.cell PB 0 rfl
  have PB_1 := Blk.cell PB 1 rfl
  have PB_2 := Blk.cell PB 2 rfl
  have PB_f0 := Blk.free PB 0
  have PB_f1 := Blk.free PB 1
  have PB_f2 := Blk.free PB 2
  have HB_0 := Blk.cell HB 0 rfl
  have HB_1 := Blk.cell HB 1 rfl
  have HB_2 := Blk.cell HB 2 rfl
  have HB_f0 := Blk.free HB 0
  have HB_f1 := Blk.free HB 1
  have HB_f2 := Blk.free HB 2
  have IB_0 := Blk.cell IB 0 rfl
  have IB_1 := Blk.cell IB 1 rfl
  have IB_2 := Blk.cell IB 2 rfl
  have IB_f0 := Blk.free IB 0
  have IB_f1 := Blk.free IB 1
  have IB_f2 := Blk.free IB 2
  go_wp2_with fail
  go_ret
  exact ⟨rfl, by go_grown⟩


theorem shifts_law (b : Bool) (A : Option Addr) (n c : Nat) (x : Int) (z : List Int) (k : Int) (w : World) (g : IsRow .u64 w A n c z) (x0 : -9223372036854775808 ≤ x) (x1 : x ≤ 9223372036854775807) (k0 : -9223372036854775808 ≤ k) (k1 : k ≤ 9223372036854775807) (hT : Tab w) (hP : PowT w) :
    Calls Tryz.prog 9 #[.agg #[.bool b, .slice A n c, .int .i64 x], .int .i64 k] w fun e w' => e = .returned (.bool true) ∧ Below w.heap.size w w' := by
  obtain ⟨l, h⟩ := g.lv
  rcases Nat.lt_or_ge 40 n with hn | hn
  · exact shifts_long b A c x k hn hT hP
  · cases ho : okE x
    · exact shifts_no h hn ho k k0 k1 hT hP
    · exact shifts_yes h hn ho k k0 k1 hT hP
end
end Go.Proofs.YtknomchkfamajaaGreatDoor
