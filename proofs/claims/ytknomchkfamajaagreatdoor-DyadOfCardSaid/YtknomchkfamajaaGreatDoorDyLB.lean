/-
  Layer 3, the laws: which numbers may be. (Written by a script of wip/tools.)
-/
import Derived.Test.YtknomchkfamajaaGreatDoorDyLA
namespace Go.Proofs.YtknomchkfamajaaGreatDoor
open Go.RowKit Go.Sort Go.Bw
set_option linter.unusedVariables false
set_option linter.unusedSimpArgs false

section
variable {b : Bool} {A : Option Addr} {n c : Nat} {x : Int} {l : List Int} {w : World}
theorem lnumB (k : Int) (w : World) : Calls Tryz.prog 23 #[.int .i64 k] w fun e w' => e = .returned (.int .i64 k) ∧ Below w.heap.size w w' := (lnum_any k w).mono (by rintro e w' ⟨rfl, rfl⟩; exact ⟨rfl, Below.refl _ _⟩)
theorem rSame_nil {w : World} (h : Lv w A ([] : List Int).length c []) : Calls Tryz.prog 22 #[dyV false A ([] : List Int).length c 0, dyV false none 0 0 0] w fun e w' => e = .returned (.bool true) ∧ Below w.heap.size w w' := rSame_any h (lv_nil _)
theorem DyK.zero {k : Int} {w : World} {e : Ending} {w' : World} (h : DyK zeroN k w e w') : ∃ A c, e = .returned (.tuple #[dyV false A 0 c 0, .int .i64 k]) ∧ Lv w' A 0 c [] ∧ Below w.heap.size w w' := by
  obtain ⟨b, l, A, c, x, rfl, hd, m, hb⟩ := h
  obtain ⟨z1, z2, z3⟩ := Dn.uniq Dn.zero hd (fun _ hy => nomatch hy) m.lim
  subst z1 z2 z3
  exact ⟨A, c, rfl, m, hb⟩
set_option maxRecDepth 100000 in
set_option maxHeartbeats 8000000 in
theorem llong_true (b : Bool) (A : Option Addr) (c : Nat) (x : Int) (w : World) (hn : 40 < n) :
    Calls Tryz.prog 14 #[dyV b A n c x] w fun e w' => e = .returned (.bool true) ∧ Below w.heap.size w w' := by
  have PB := Blk.new w [.bool b, .slice A n c, .int .i64 x] 24
  have bw : Below w.heap.size w (w.alloc (.cells #[.bool b, .slice A n c, .int .i64 x] 24)) := by go_grown
  have PB_0 := Blk.cell PB 0 rfl
  have PB_1 := Blk.cell PB 1 rfl
  have PB_2 := Blk.cell PB 2 rfl
  have PB_f0 := Blk.free PB 0
  have PB_f1 := Blk.free PB 1
  have PB_f2 := Blk.free PB 2
  have k9 : decide ((40 : Int) < (n : Int)) = true := by simp; omega
  go_enter Tryz.func14, Tryz.ntmps14
  go_wp2_with fail
  go_ret
  exact ⟨rfl, by go_grown⟩

set_option maxRecDepth 100000 in
set_option maxHeartbeats 8000000 in
theorem llong_false (b : Bool) (A : Option Addr) (c : Nat) (x : Int) (w : World) (hn : n ≤ 40) :
    Calls Tryz.prog 14 #[dyV b A n c x] w fun e w' => e = .returned (.bool false) ∧ Below w.heap.size w w' := by
  have PB := Blk.new w [.bool b, .slice A n c, .int .i64 x] 24
  have bw : Below w.heap.size w (w.alloc (.cells #[.bool b, .slice A n c, .int .i64 x] 24)) := by go_grown
  have PB_0 := Blk.cell PB 0 rfl
  have PB_1 := Blk.cell PB 1 rfl
  have PB_2 := Blk.cell PB 2 rfl
  have PB_f0 := Blk.free PB 0
  have PB_f1 := Blk.free PB 1
  have PB_f2 := Blk.free PB 2
  have k9 : decide ((40 : Int) < (n : Int)) = false := by simp; omega
  go_enter Tryz.func14, Tryz.ntmps14
  go_wp2_with fail
  go_ret
  exact ⟨rfl, by go_grown⟩

set_option maxRecDepth 100000 in
set_option maxHeartbeats 8000000 in
theorem may_long (b : Bool) (A : Option Addr) (c : Nat) (x : Int) (hn : 40 < n) (w : World) (hT : Tab w) (hP : PowT w) :
    Calls Tryz.prog 3 #[dyV b A n c x] w fun e w' => e = .returned (.bool true) ∧ Below w.heap.size w w' := by
  have PB := Blk.new w [.bool b, .slice A n c, .int .i64 x] 24
  have bw : Below w.heap.size w (w.alloc (.cells #[.bool b, .slice A n c, .int .i64 x] 24)) := by go_grown
  have PB_0 := Blk.cell PB 0 rfl
  have PB_1 := Blk.cell PB 1 rfl
  have PB_2 := Blk.cell PB 2 rfl
  have PB_f0 := Blk.free PB 0
  have PB_f1 := Blk.free PB 1
  have PB_f2 := Blk.free PB 2
  go_enter Tryz.func3, Tryz.ntmps3
  go_wp2_with fail
  with_reducible refine (llong_true b A c x _ hn).mono ?_
  rintro e w1 ⟨rfl, hb⟩
  clear PB_0 PB_1 PB_2 PB_f0 PB_f1 PB_f2
  have hs1 := hb.size
  try simp only [World.size_alloc, World.size_setCell] at hs1
  replace bw : Below w.heap.size w w1 := dy_end (by go_grown) hb
  replace PB := Blk.on PB hb
  clear hb
  have PB_0 := Blk.cell PB 0 rfl
  have PB_1 := Blk.cell PB 1 rfl
  have PB_2 := Blk.cell PB 2 rfl
  have PB_f0 := Blk.free PB 0
  have PB_f1 := Blk.free PB 1
  have PB_f2 := Blk.free PB 2
  go_wp2_with fail
  with_reducible refine (dknown_any _ (hT.onD (by go_grown)) (hP.on (by go_grown))).mono ?_
  rintro e w2 ⟨rfl, hb⟩
  clear PB_0 PB_1 PB_2 PB_f0 PB_f1 PB_f2
  have hs2 := hb.size
  try simp only [World.size_alloc, World.size_setCell] at hs2
  replace bw : Below w.heap.size w w2 := dy_end (by go_grown) hb
  replace PB := Blk.on PB hb
  clear hb
  have PB_0 := Blk.cell PB 0 rfl
  have PB_1 := Blk.cell PB 1 rfl
  have PB_2 := Blk.cell PB 2 rfl
  have PB_f0 := Blk.free PB 0
  have PB_f1 := Blk.free PB 1
  have PB_f2 := Blk.free PB 2
  go_wp2_with fail
  go_ret
  exact ⟨rfl, by go_grown⟩

set_option maxRecDepth 100000 in
set_option maxHeartbeats 8000000 in
theorem may_no (h : Lv w A n c l) (hn : n ≤ 40) (ho : okE x = false) (hT : Tab w) (hP : PowT w) :
    Calls Tryz.prog 3 #[dyV b A n c x] w fun e w' => e = .returned (.bool true) ∧ Below w.heap.size w w' := by
  have PB := Blk.new w [.bool b, .slice A n c, .int .i64 x] 24
  have bw : Below w.heap.size w (w.alloc (.cells #[.bool b, .slice A n c, .int .i64 x] 24)) := by go_grown
  have PB_0 := Blk.cell PB 0 rfl
  have PB_1 := Blk.cell PB 1 rfl
  have PB_2 := Blk.cell PB 2 rfl
  have PB_f0 := Blk.free PB 0
  have PB_f1 := Blk.free PB 1
  have PB_f2 := Blk.free PB 2
  have hn9 : n ≤ 4096 := by omega
  replace h := Lv.alloc h (.cells #[.bool b, .slice A n c, .int .i64 x] 24)
  go_enter Tryz.func3, Tryz.ntmps3
  go_wp2_with fail
  with_reducible refine (llong_false b A c x _ hn).mono ?_
  rintro e w1 ⟨rfl, hb⟩
  clear PB_0 PB_1 PB_2 PB_f0 PB_f1 PB_f2
  have hs1 := hb.size
  try simp only [World.size_alloc, World.size_setCell] at hs1
  replace bw : Below w.heap.size w w1 := dy_end (by go_grown) hb
  replace h := Lv.on h hb
  replace PB := Blk.on PB hb
  clear hb
  have PB_0 := Blk.cell PB 0 rfl
  have PB_1 := Blk.cell PB 1 rfl
  have PB_2 := Blk.cell PB 2 rfl
  have PB_f0 := Blk.free PB 0
  have PB_f1 := Blk.free PB 1
  have PB_f2 := Blk.free PB 2
  go_wp2_with fail
  with_reducible refine ((dNorm_no (b := b) (x := x) h hn9 ho).mono (fun _ _ => DyK.zero)).mono ?_
  rintro e w2 ⟨A2, c2, rfl, m2, hb⟩
  clear PB_0 PB_1 PB_2 PB_f0 PB_f1 PB_f2
  have hs2 := hb.size
  try simp only [World.size_alloc, World.size_setCell] at hs2
  replace bw : Below w.heap.size w w2 := dy_end (by go_grown) hb
  replace h := Lv.on h hb
  replace PB := Blk.on PB hb
  clear hb
  have PB_0 := Blk.cell PB 0 rfl
  have PB_1 := Blk.cell PB 1 rfl
  have PB_2 := Blk.cell PB 2 rfl
  have PB_f0 := Blk.free PB 0
  have PB_f1 := Blk.free PB 1
  have PB_f2 := Blk.free PB 2
  replace h := Lv.alloc h (.cells #[.bool false, .slice A2 0 c2, .int .i64 0] 24)
  replace m2 := Lv.alloc m2 (.cells #[.bool false, .slice A2 0 c2, .int .i64 0] 24)
  replace PB := Blk.alloc PB (.cells #[.bool false, .slice A2 0 c2, .int .i64 0] 24)
  have HB := Blk.new w2 [.bool false, .slice A2 0 c2, .int .i64 0] 24
  have PB_v0_0 := Blk.cell PB 0 rfl
  have PB_v0_1 := Blk.cell PB 1 rfl
  have PB_v0_2 := Blk.cell PB 2 rfl
  have PB_v0_f0 := Blk.free PB 0
  have PB_v0_f1 := Blk.free PB 1
  have PB_v0_f2 := Blk.free PB 2
  have HB_0 := Blk.cell HB 0 rfl
  have HB_1 := Blk.cell HB 1 rfl
  have HB_2 := Blk.cell HB 2 rfl
  have HB_f0 := Blk.free HB 0
  have HB_f1 := Blk.free HB 1
  have HB_f2 := Blk.free HB 2
  go_wp2_with fail
  with_reducible refine ((dNeg_no (b := b) (x := x) h hn9 ho).mono (fun _ _ => DyK.zero)).mono ?_
  rintro e w3 ⟨A3, c3, rfl, m3, hb⟩
  clear PB_0 PB_1 PB_2 PB_f0 PB_f1 PB_f2 PB_v0_0 PB_v0_1 PB_v0_2 PB_v0_f0 PB_v0_f1 PB_v0_f2
  clear HB_0 HB_1 HB_2 HB_f0 HB_f1 HB_f2
  have hs3 := hb.size
  try simp only [World.size_alloc, World.size_setCell] at hs3
  replace bw : Below w.heap.size w w3 := dy_end (by go_grown) hb
  replace h := Lv.on h hb
  replace m2 := Lv.on m2 hb
  replace PB := Blk.on PB hb
  replace HB := Blk.on HB hb
  clear hb
  have PB_0 := Blk.cell PB 0 rfl
  have PB_1 := Blk.cell PB 1 rfl
  have PB_2 := Blk.cell PB 2 rfl
  have PB_f0 := Blk.free PB 0
  have PB_f1 := Blk.free PB 1
  have PB_f2 := Blk.free PB 2
  have HB_0 := Blk.cell HB 0 rfl
  have HB_1 := Blk.cell HB 1 rfl
  have HB_2 := Blk.cell HB 2 rfl
  have HB_f0 := Blk.free HB 0
  have HB_f1 := Blk.free HB 1
  have HB_f2 := Blk.free HB 2
  replace h := Lv.alloc h (.cells #[.bool false, .slice A3 0 c3, .int .i64 0] 24)
  replace m2 := Lv.alloc m2 (.cells #[.bool false, .slice A3 0 c3, .int .i64 0] 24)
  replace m3 := Lv.alloc m3 (.cells #[.bool false, .slice A3 0 c3, .int .i64 0] 24)
  replace PB := Blk.alloc PB (.cells #[.bool false, .slice A3 0 c3, .int .i64 0] 24)
  replace HB := Blk.alloc HB (.cells #[.bool false, .slice A3 0 c3, .int .i64 0] 24)
  have IB := Blk.new w3 [.bool false, .slice A3 0 c3, .int .i64 0] 24
  have PB_v1_0 := Blk.cell PB 0 rfl
  have PB_v1_1 := Blk.cell PB 1 rfl
  have PB_v1_2 := Blk.cell PB 2 rfl
  have PB_v1_f0 := Blk.free PB 0
  have PB_v1_f1 := Blk.free PB 1
  have PB_v1_f2 := Blk.free PB 2
  have HB_v2_0 := Blk.cell HB 0 rfl
  have HB_v2_1 := Blk.cell HB 1 rfl
  have HB_v2_2 := Blk.cell HB 2 rfl
  have HB_v2_f0 := Blk.free HB 0
  have HB_v2_f1 := Blk.free HB 1
  have HB_v2_f2 := Blk.free HB 2
  have IB_0 := Blk.cell IB 0 rfl
  have IB_1 := Blk.cell IB 1 rfl
  have IB_2 := Blk.cell IB 2 rfl
  have IB_f0 := Blk.free IB 0
  have IB_f1 := Blk.free IB 1
  have IB_f2 := Blk.free IB 2
  go_wp2_with fail
  with_reducible refine ((dAbs_no (b := b) (x := x) h hn9 ho).mono (fun _ _ => DyK.zero)).mono ?_
  rintro e w4 ⟨A4, c4, rfl, m4, hb⟩
  clear PB_0 PB_1 PB_2 PB_f0 PB_f1 PB_f2 PB_v1_0 PB_v1_1 PB_v1_2 PB_v1_f0 PB_v1_f1 PB_v1_f2
  clear HB_0 HB_1 HB_2 HB_f0 HB_f1 HB_f2 HB_v2_0 HB_v2_1 HB_v2_2 HB_v2_f0 HB_v2_f1 HB_v2_f2
  clear IB_0 IB_1 IB_2 IB_f0 IB_f1 IB_f2
  have hs4 := hb.size
  try simp only [World.size_alloc, World.size_setCell] at hs4
  replace bw : Below w.heap.size w w4 := dy_end (by go_grown) hb
  replace h := Lv.on h hb
  replace m2 := Lv.on m2 hb
  replace m3 := Lv.on m3 hb
  replace PB := Blk.on PB hb
  replace HB := Blk.on HB hb
  replace IB := Blk.on IB hb
  clear hb
  have PB_0 := Blk.cell PB 0 rfl
  have PB_1 := Blk.cell PB 1 rfl
  have PB_2 := Blk.cell PB 2 rfl
  have PB_f0 := Blk.free PB 0
  have PB_f1 := Blk.free PB 1
  have PB_f2 := Blk.free PB 2
  have HB_0 := Blk.cell HB 0 rfl
  have HB_1 := Blk.cell HB 1 rfl
  have HB_2 := Blk.cell HB 2 rfl
  have HB_f0 := Blk.free HB 0
  have HB_f1 := Blk.free HB 1
  have HB_f2 := Blk.free HB 2
  have IB_0 := Blk.cell IB 0 rfl
  have IB_1 := Blk.cell IB 1 rfl
  have IB_2 := Blk.cell IB 2 rfl
  have IB_f0 := Blk.free IB 0
  have IB_f1 := Blk.free IB 1
  have IB_f2 := Blk.free IB 2
  replace h := Lv.alloc h (.cells #[.bool false, .slice A4 0 c4, .int .i64 0] 24)
  replace m2 := Lv.alloc m2 (.cells #[.bool false, .slice A4 0 c4, .int .i64 0] 24)
  replace m3 := Lv.alloc m3 (.cells #[.bool false, .slice A4 0 c4, .int .i64 0] 24)
  replace m4 := Lv.alloc m4 (.cells #[.bool false, .slice A4 0 c4, .int .i64 0] 24)
  replace PB := Blk.alloc PB (.cells #[.bool false, .slice A4 0 c4, .int .i64 0] 24)
  replace HB := Blk.alloc HB (.cells #[.bool false, .slice A4 0 c4, .int .i64 0] 24)
  replace IB := Blk.alloc IB (.cells #[.bool false, .slice A4 0 c4, .int .i64 0] 24)
  have JB := Blk.new w4 [.bool false, .slice A4 0 c4, .int .i64 0] 24
  have PB_v3_0 := Blk.cell PB 0 rfl
  have PB_v3_1 := Blk.cell PB 1 rfl
  have PB_v3_2 := Blk.cell PB 2 rfl
  have PB_v3_f0 := Blk.free PB 0
  have PB_v3_f1 := Blk.free PB 1
  have PB_v3_f2 := Blk.free PB 2
  have HB_v4_0 := Blk.cell HB 0 rfl
  have HB_v4_1 := Blk.cell HB 1 rfl
  have HB_v4_2 := Blk.cell HB 2 rfl
  have HB_v4_f0 := Blk.free HB 0
  have HB_v4_f1 := Blk.free HB 1
  have HB_v4_f2 := Blk.free HB 2
  have IB_v5_0 := Blk.cell IB 0 rfl
  have IB_v5_1 := Blk.cell IB 1 rfl
  have IB_v5_2 := Blk.cell IB 2 rfl
  have IB_v5_f0 := Blk.free IB 0
  have IB_v5_f1 := Blk.free IB 1
  have IB_v5_f2 := Blk.free IB 2
  have JB_0 := Blk.cell JB 0 rfl
  have JB_1 := Blk.cell JB 1 rfl
  have JB_2 := Blk.cell JB 2 rfl
  have JB_f0 := Blk.free JB 0
  have JB_f1 := Blk.free JB 1
  have JB_f2 := Blk.free JB 2
  go_wp2_with fail
  with_reducible refine (rMay_no (b := b) (x := x) h hn9 ho).mono ?_
  rintro e w5 ⟨rfl, hb⟩
  clear PB_0 PB_1 PB_2 PB_f0 PB_f1 PB_f2 PB_v3_0 PB_v3_1 PB_v3_2 PB_v3_f0 PB_v3_f1 PB_v3_f2
  clear HB_0 HB_1 HB_2 HB_f0 HB_f1 HB_f2 HB_v4_0 HB_v4_1 HB_v4_2 HB_v4_f0 HB_v4_f1 HB_v4_f2
  clear IB_0 IB_1 IB_2 IB_f0 IB_f1 IB_f2 IB_v5_0 IB_v5_1 IB_v5_2 IB_v5_f0 IB_v5_f1 IB_v5_f2
  clear JB_0 JB_1 JB_2 JB_f0 JB_f1 JB_f2
  have hs5 := hb.size
  try simp only [World.size_alloc, World.size_setCell] at hs5
  replace bw : Below w.heap.size w w5 := dy_end (by go_grown) hb
  replace h := Lv.on h hb
  replace m2 := Lv.on m2 hb
  replace m3 := Lv.on m3 hb
  replace m4 := Lv.on m4 hb
  replace PB := Blk.on PB hb
  replace HB := Blk.on HB hb
  replace IB := Blk.on IB hb
  replace JB := Blk.on JB hb
  clear hb
  have PB_0 := Blk.cell PB 0 rfl
  have PB_1 := Blk.cell PB 1 rfl
  have PB_2 := Blk.cell PB 2 rfl
  have PB_f0 := Blk.free PB 0
  have PB_f1 := Blk.free PB 1
  have PB_f2 := Blk.free PB 2
  have HB_0 := Blk.cell HB 0 rfl
  have HB_1 := Blk.cell HB 1 rfl
  have HB_2 := Blk.cell HB 2 rfl
  have HB_f0 := Blk.free HB 0
  have HB_f1 := Blk.free HB 1
  have HB_f2 := Blk.free HB 2
  have IB_0 := Blk.cell IB 0 rfl
  have IB_1 := Blk.cell IB 1 rfl
  have IB_2 := Blk.cell IB 2 rfl
  have IB_f0 := Blk.free IB 0
  have IB_f1 := Blk.free IB 1
  have IB_f2 := Blk.free IB 2
  have JB_0 := Blk.cell JB 0 rfl
  have JB_1 := Blk.cell JB 1 rfl
  have JB_2 := Blk.cell JB 2 rfl
  have JB_f0 := Blk.free JB 0
  have JB_f1 := Blk.free JB 1
  have JB_f2 := Blk.free JB 2
  go_wp2_with fail
  with_reducible refine (dyMay_no (b := b) (x := x) h hn9 ho).mono ?_
  rintro e w6 ⟨rfl, hb⟩
  clear PB_0 PB_1 PB_2 PB_f0 PB_f1 PB_f2
  clear HB_0 HB_1 HB_2 HB_f0 HB_f1 HB_f2
  clear IB_0 IB_1 IB_2 IB_f0 IB_f1 IB_f2
  clear JB_0 JB_1 JB_2 JB_f0 JB_f1 JB_f2
  have hs6 := hb.size
  try simp only [World.size_alloc, World.size_setCell] at hs6
  replace bw : Below w.heap.size w w6 := dy_end (by go_grown) hb
  replace h := Lv.on h hb
  replace m2 := Lv.on m2 hb
  replace m3 := Lv.on m3 hb
  replace m4 := Lv.on m4 hb
  replace PB := Blk.on PB hb
  replace HB := Blk.on HB hb
  replace IB := Blk.on IB hb
  replace JB := Blk.on JB hb
  clear hb
  have PB_0 := Blk.cell PB 0 rfl
  have PB_1 := Blk.cell PB 1 rfl
  have PB_2 := Blk.cell PB 2 rfl
  have PB_f0 := Blk.free PB 0
  have PB_f1 := Blk.free PB 1
  have PB_f2 := Blk.free PB 2
  have HB_0 := Blk.cell HB 0 rfl
  have HB_1 := Blk.cell HB 1 rfl
  have HB_2 := Blk.cell HB 2 rfl
  have HB_f0 := Blk.free HB 0
  have HB_f1 := Blk.free HB 1
  have HB_f2 := Blk.free HB 2
  have IB_0 := Blk.cell IB 0 rfl
  have IB_1 := Blk.cell IB 1 rfl
  have IB_2 := Blk.cell IB 2 rfl
  have IB_f0 := Blk.free IB 0
  have IB_f1 := Blk.free IB 1
  have IB_f2 := Blk.free IB 2
  have JB_0 := Blk.cell JB 0 rfl
  have JB_1 := Blk.cell JB 1 rfl
  have JB_2 := Blk.cell JB 2 rfl
  have JB_f0 := Blk.free JB 0
  have JB_f1 := Blk.free JB 1
  have JB_f2 := Blk.free JB 2
  go_wp2_with fail
  with_reducible refine (dSign_no (b := b) (x := x) h hn9 (hT.onD (by go_grown)) ho).mono ?_
  rintro e w7 ⟨rfl, hb⟩
  clear PB_0 PB_1 PB_2 PB_f0 PB_f1 PB_f2
  clear HB_0 HB_1 HB_2 HB_f0 HB_f1 HB_f2
  clear IB_0 IB_1 IB_2 IB_f0 IB_f1 IB_f2
  clear JB_0 JB_1 JB_2 JB_f0 JB_f1 JB_f2
  have hs7 := hb.size
  try simp only [World.size_alloc, World.size_setCell] at hs7
  replace bw : Below w.heap.size w w7 := dy_end (by go_grown) hb
  replace h := Lv.on h hb
  replace m2 := Lv.on m2 hb
  replace m3 := Lv.on m3 hb
  replace m4 := Lv.on m4 hb
  replace PB := Blk.on PB hb
  replace HB := Blk.on HB hb
  replace IB := Blk.on IB hb
  replace JB := Blk.on JB hb
  clear hb
  have PB_0 := Blk.cell PB 0 rfl
  have PB_1 := Blk.cell PB 1 rfl
  have PB_2 := Blk.cell PB 2 rfl
  have PB_f0 := Blk.free PB 0
  have PB_f1 := Blk.free PB 1
  have PB_f2 := Blk.free PB 2
  have HB_0 := Blk.cell HB 0 rfl
  have HB_1 := Blk.cell HB 1 rfl
  have HB_2 := Blk.cell HB 2 rfl
  have HB_f0 := Blk.free HB 0
  have HB_f1 := Blk.free HB 1
  have HB_f2 := Blk.free HB 2
  have IB_0 := Blk.cell IB 0 rfl
  have IB_1 := Blk.cell IB 1 rfl
  have IB_2 := Blk.cell IB 2 rfl
  have IB_f0 := Blk.free IB 0
  have IB_f1 := Blk.free IB 1
  have IB_f2 := Blk.free IB 2
  have JB_0 := Blk.cell JB 0 rfl
  have JB_1 := Blk.cell JB 1 rfl
  have JB_2 := Blk.cell JB 2 rfl
  have JB_f0 := Blk.free JB 0
  have JB_f1 := Blk.free JB 1
  have JB_f2 := Blk.free JB 2
  go_wp2_with fail
  go_wp2_with fail
  with_reducible refine (rSame_any (b := false) (x := 0) m2 (lv_nil _)).mono ?_
  rintro e w8 ⟨rfl, hb⟩
  clear PB_0 PB_1 PB_2 PB_f0 PB_f1 PB_f2
  clear HB_0 HB_1 HB_2 HB_f0 HB_f1 HB_f2
  clear IB_0 IB_1 IB_2 IB_f0 IB_f1 IB_f2
  clear JB_0 JB_1 JB_2 JB_f0 JB_f1 JB_f2
  have hs8 := hb.size
  try simp only [World.size_alloc, World.size_setCell] at hs8
  replace bw : Below w.heap.size w w8 := dy_end (by go_grown) hb
  replace h := Lv.on h hb
  replace m2 := Lv.on m2 hb
  replace m3 := Lv.on m3 hb
  replace m4 := Lv.on m4 hb
  replace PB := Blk.on PB hb
  replace HB := Blk.on HB hb
  replace IB := Blk.on IB hb
  replace JB := Blk.on JB hb
  clear hb
  have PB_0 := Blk.cell PB 0 rfl
  have PB_1 := Blk.cell PB 1 rfl
  have PB_2 := Blk.cell PB 2 rfl
  have PB_f0 := Blk.free PB 0
  have PB_f1 := Blk.free PB 1
  have PB_f2 := Blk.free PB 2
  have HB_0 := Blk.cell HB 0 rfl
  have HB_1 := Blk.cell HB 1 rfl
  have HB_2 := Blk.cell HB 2 rfl
  have HB_f0 := Blk.free HB 0
  have HB_f1 := Blk.free HB 1
  have HB_f2 := Blk.free HB 2
  have IB_0 := Blk.cell IB 0 rfl
  have IB_1 := Blk.cell IB 1 rfl
  have IB_2 := Blk.cell IB 2 rfl
  have IB_f0 := Blk.free IB 0
  have IB_f1 := Blk.free IB 1
  have IB_f2 := Blk.free IB 2
  have JB_0 := Blk.cell JB 0 rfl
  have JB_1 := Blk.cell JB 1 rfl
  have JB_2 := Blk.cell JB 2 rfl
  have JB_f0 := Blk.free JB 0
  have JB_f1 := Blk.free JB 1
  have JB_f2 := Blk.free JB 2
  go_wp2_with fail
  with_reducible refine (rSame_any (b := false) (x := 0) m3 m2).mono ?_
  rintro e w9 ⟨rfl, hb⟩
  clear PB_0 PB_1 PB_2 PB_f0 PB_f1 PB_f2
  clear HB_0 HB_1 HB_2 HB_f0 HB_f1 HB_f2
  clear IB_0 IB_1 IB_2 IB_f0 IB_f1 IB_f2
  clear JB_0 JB_1 JB_2 JB_f0 JB_f1 JB_f2
  have hs9 := hb.size
  try simp only [World.size_alloc, World.size_setCell] at hs9
  replace bw : Below w.heap.size w w9 := dy_end (by go_grown) hb
  replace h := Lv.on h hb
  replace m2 := Lv.on m2 hb
  replace m3 := Lv.on m3 hb
  replace m4 := Lv.on m4 hb
  replace PB := Blk.on PB hb
  replace HB := Blk.on HB hb
  replace IB := Blk.on IB hb
  replace JB := Blk.on JB hb
  clear hb
  have PB_0 := Blk.cell PB 0 rfl
  have PB_1 := Blk.cell PB 1 rfl
  have PB_2 := Blk.cell PB 2 rfl
  have PB_f0 := Blk.free PB 0
  have PB_f1 := Blk.free PB 1
  have PB_f2 := Blk.free PB 2
  have HB_0 := Blk.cell HB 0 rfl
  have HB_1 := Blk.cell HB 1 rfl
  have HB_2 := Blk.cell HB 2 rfl
  have HB_f0 := Blk.free HB 0
  have HB_f1 := Blk.free HB 1
  have HB_f2 := Blk.free HB 2
  have IB_0 := Blk.cell IB 0 rfl
  have IB_1 := Blk.cell IB 1 rfl
  have IB_2 := Blk.cell IB 2 rfl
  have IB_f0 := Blk.free IB 0
  have IB_f1 := Blk.free IB 1
  have IB_f2 := Blk.free IB 2
  have JB_0 := Blk.cell JB 0 rfl
  have JB_1 := Blk.cell JB 1 rfl
  have JB_2 := Blk.cell JB 2 rfl
  have JB_f0 := Blk.free JB 0
  have JB_f1 := Blk.free JB 1
  have JB_f2 := Blk.free JB 2
  go_wp2_with fail
  with_reducible refine (rSame_any (b := false) (x := 0) m4 m2).mono ?_
  rintro e w10 ⟨rfl, hb⟩
  clear PB_0 PB_1 PB_2 PB_f0 PB_f1 PB_f2
  clear HB_0 HB_1 HB_2 HB_f0 HB_f1 HB_f2
  clear IB_0 IB_1 IB_2 IB_f0 IB_f1 IB_f2
  clear JB_0 JB_1 JB_2 JB_f0 JB_f1 JB_f2
  have hs10 := hb.size
  try simp only [World.size_alloc, World.size_setCell] at hs10
  replace bw : Below w.heap.size w w10 := dy_end (by go_grown) hb
  replace h := Lv.on h hb
  replace m2 := Lv.on m2 hb
  replace m3 := Lv.on m3 hb
  replace m4 := Lv.on m4 hb
  replace PB := Blk.on PB hb
  replace HB := Blk.on HB hb
  replace IB := Blk.on IB hb
  replace JB := Blk.on JB hb
  clear hb
  have PB_0 := Blk.cell PB 0 rfl
  have PB_1 := Blk.cell PB 1 rfl
  have PB_2 := Blk.cell PB 2 rfl
  have PB_f0 := Blk.free PB 0
  have PB_f1 := Blk.free PB 1
  have PB_f2 := Blk.free PB 2
  have HB_0 := Blk.cell HB 0 rfl
  have HB_1 := Blk.cell HB 1 rfl
  have HB_2 := Blk.cell HB 2 rfl
  have HB_f0 := Blk.free HB 0
  have HB_f1 := Blk.free HB 1
  have HB_f2 := Blk.free HB 2
  have IB_0 := Blk.cell IB 0 rfl
  have IB_1 := Blk.cell IB 1 rfl
  have IB_2 := Blk.cell IB 2 rfl
  have IB_f0 := Blk.free IB 0
  have IB_f1 := Blk.free IB 1
  have IB_f2 := Blk.free IB 2
  have JB_0 := Blk.cell JB 0 rfl
  have JB_1 := Blk.cell JB 1 rfl
  have JB_2 := Blk.cell JB 2 rfl
  have JB_f0 := Blk.free JB 0
  have JB_f1 := Blk.free JB 1
  have JB_f2 := Blk.free JB 2
  go_wp2_with fail
  with_reducible refine (lnum_any (2) _).mono ?_
  rintro e v11 ⟨rfl, rfl⟩
  go_wp2_with fail
  with_reducible refine (lnum_any (2) _).mono ?_
  rintro e v12 ⟨rfl, rfl⟩
  go_wp2_with fail
  with_reducible refine (lnum_any (2) _).mono ?_
  rintro e v13 ⟨rfl, rfl⟩
  go_wp2_with fail
  with_reducible refine (dknown_any _ (hT.onD (by go_grown)) (hP.on (by go_grown))).mono ?_
  rintro e w14 ⟨rfl, hb⟩
  clear PB_0 PB_1 PB_2 PB_f0 PB_f1 PB_f2
  clear HB_0 HB_1 HB_2 HB_f0 HB_f1 HB_f2
  clear IB_0 IB_1 IB_2 IB_f0 IB_f1 IB_f2
  clear JB_0 JB_1 JB_2 JB_f0 JB_f1 JB_f2
  have hs14 := hb.size
  try simp only [World.size_alloc, World.size_setCell] at hs14
  replace bw : Below w.heap.size w w14 := dy_end (by go_grown) hb
  replace h := Lv.on h hb
  replace m2 := Lv.on m2 hb
  replace m3 := Lv.on m3 hb
  replace m4 := Lv.on m4 hb
  replace PB := Blk.on PB hb
  replace HB := Blk.on HB hb
  replace IB := Blk.on IB hb
  replace JB := Blk.on JB hb
  clear hb
  have PB_0 := Blk.cell PB 0 rfl
  have PB_1 := Blk.cell PB 1 rfl
  have PB_2 := Blk.cell PB 2 rfl
  have PB_f0 := Blk.free PB 0
  have PB_f1 := Blk.free PB 1
  have PB_f2 := Blk.free PB 2
  have HB_0 := Blk.cell HB 0 rfl
  have HB_1 := Blk.cell HB 1 rfl
  have HB_2 := Blk.cell HB 2 rfl
  have HB_f0 := Blk.free HB 0
  have HB_f1 := Blk.free HB 1
  have HB_f2 := Blk.free HB 2
  have IB_0 := Blk.cell IB 0 rfl
  have IB_1 := Blk.cell IB 1 rfl
  have IB_2 := Blk.cell IB 2 rfl
  have IB_f0 := Blk.free IB 0
  have IB_f1 := Blk.free IB 1
  have IB_f2 := Blk.free IB 2
  have JB_0 := Blk.cell JB 0 rfl
  have JB_1 := Blk.cell JB 1 rfl
  have JB_2 := Blk.cell JB 2 rfl
  have JB_f0 := Blk.free JB 0
  have JB_f1 := Blk.free JB 1
  have JB_f2 := Blk.free JB 2
  go_wp2_with fail
  go_ret
  exact ⟨rfl, by go_grown⟩

set_option maxRecDepth 100000 in
set_option maxHeartbeats 8000000 in
theorem may_yes (h : Lv w A n c l) (hn : n ≤ 40) (ho : okE x = true) (hT : Tab w) (hP : PowT w) :
    Calls Tryz.prog 3 #[dyV b A n c x] w fun e w' => e = .returned (.bool true) ∧ Below w.heap.size w w' := by
  have PB := Blk.new w [.bool b, .slice A n c, .int .i64 x] 24
  have bw : Below w.heap.size w (w.alloc (.cells #[.bool b, .slice A n c, .int .i64 x] 24)) := by go_grown
  have PB_0 := Blk.cell PB 0 rfl
  have PB_1 := Blk.cell PB 1 rfl
  have PB_2 := Blk.cell PB 2 rfl
  have PB_f0 := Blk.free PB 0
  have PB_f1 := Blk.free PB 1
  have PB_f2 := Blk.free PB 2
  have hn9 : n ≤ 4096 := by omega
  replace h := Lv.alloc h (.cells #[.bool b, .slice A n c, .int .i64 x] 24)
  have e1 : negN (nfl b (val 18446744073709551616 l) x) = nfl (!b) (val 18446744073709551616 l) x := (nfl_neg _ _ _).symm
  have e2 : absN (nfl b (val 18446744073709551616 l) x) = nfl false (val 18446744073709551616 l) x := (nfl_abs h.nonneg).symm
  have p3 := fun W (mm : Lv W A n c l) (tt : Tab W) => dNeg_yes (b := b) (x := x) mm hn9 tt ho
  have p4 := fun W (mm : Lv W A n c l) (tt : Tab W) => dAbs_yes (b := b) (x := x) mm hn9 tt ho
  rw [e1] at p3
  rw [e2] at p4
  clear e1 e2
  have hx := (okE_iff x).1 ho
  obtain ⟨SG, hSG⟩ : ∃ z, sgn (nfl b (val 18446744073709551616 l) x) = z := ⟨_, rfl⟩
  have p6 := fun W (mm : Lv W A n c l) (tt : Tab W) => dSign_yes (b := b) (x := x) mm hn9 tt ho
  have p7 := fun W (mm : Lv W A n c l) => rSign_any (b := b) (x := x) mm hn9 ho
  rw [hSG] at p6 p7
  clear hSG
  obtain ⟨K0, hK0⟩ : ∃ z, (doneR (nfl b (val 18446744073709551616 l) x)).2 = z := ⟨_, rfl⟩
  obtain ⟨K1, hK1⟩ : ∃ z, (doneR (nfl (!b) (val 18446744073709551616 l) x)).2 = z := ⟨_, rfl⟩
  obtain ⟨K2, hK2⟩ : ∃ z, (doneR (nfl false (val 18446744073709551616 l) x)).2 = z := ⟨_, rfl⟩
  have p2 := fun W (mm : Lv W A n c l) (tt : Tab W) => dNorm_yes (b := b) (x := x) mm hn9 tt ho
  have r2 := fun W (mm : Lv W A n c l) => rDone_any (b := b) (x := x) mm hn9 (by omega) (by omega)
  have r3 := fun W (mm : Lv W A n c l) => rNeg_yes (b := b) (x := x) mm hn9 ho
  have r4 := fun W (mm : Lv W A n c l) => rAbs_yes (b := b) (x := x) mm hn9 ho
  rw [hK0] at p2 r2
  rw [hK1] at p3 r3
  rw [hK2] at p4 r4
  clear hK0 hK1 hK2
  go_enter Tryz.func3, Tryz.ntmps3
  go_wp2_with fail
  with_reducible refine (llong_false b A c x _ hn).mono ?_
  rintro e w1 ⟨rfl, hb⟩
  clear PB_0 PB_1 PB_2 PB_f0 PB_f1 PB_f2
  have hs1 := hb.size
  try simp only [World.size_alloc, World.size_setCell] at hs1
  replace bw : Below w.heap.size w w1 := dy_end (by go_grown) hb
  replace h := Lv.on h hb
  replace PB := Blk.on PB hb
  clear hb
  have PB_0 := Blk.cell PB 0 rfl
  have PB_1 := Blk.cell PB 1 rfl
  have PB_2 := Blk.cell PB 2 rfl
  have PB_f0 := Blk.free PB 0
  have PB_f1 := Blk.free PB 1
  have PB_f2 := Blk.free PB 2
  go_wp2_with fail
  with_reducible refine (p2 _ h (hT.onD (by go_grown))).mono ?_
  rintro e w2 ⟨b2, q2, A2, c2, x2, rfl, hd2, m2, hb⟩
  clear PB_0 PB_1 PB_2 PB_f0 PB_f1 PB_f2
  have hs2 := hb.size
  try simp only [World.size_alloc, World.size_setCell] at hs2
  replace bw : Below w.heap.size w w2 := dy_end (by go_grown) hb
  replace h := Lv.on h hb
  replace PB := Blk.on PB hb
  clear hb
  have PB_0 := Blk.cell PB 0 rfl
  have PB_1 := Blk.cell PB 1 rfl
  have PB_2 := Blk.cell PB 2 rfl
  have PB_f0 := Blk.free PB 0
  have PB_f1 := Blk.free PB 1
  have PB_f2 := Blk.free PB 2
  replace h := Lv.alloc h (.cells #[.bool b2, .slice A2 q2.length c2, .int .i64 x2] 24)
  replace m2 := Lv.alloc m2 (.cells #[.bool b2, .slice A2 q2.length c2, .int .i64 x2] 24)
  replace PB := Blk.alloc PB (.cells #[.bool b2, .slice A2 q2.length c2, .int .i64 x2] 24)
  have HB := Blk.new w2 [.bool b2, .slice A2 q2.length c2, .int .i64 x2] 24
  have PB_v0_0 := Blk.cell PB 0 rfl
  have PB_v0_1 := Blk.cell PB 1 rfl
  have PB_v0_2 := Blk.cell PB 2 rfl
  have PB_v0_f0 := Blk.free PB 0
  have PB_v0_f1 := Blk.free PB 1
  have PB_v0_f2 := Blk.free PB 2
  have HB_0 := Blk.cell HB 0 rfl
  have HB_1 := Blk.cell HB 1 rfl
  have HB_2 := Blk.cell HB 2 rfl
  have HB_f0 := Blk.free HB 0
  have HB_f1 := Blk.free HB 1
  have HB_f2 := Blk.free HB 2
  go_wp2_with fail
  with_reducible refine (p3 _ h (hT.onD (by go_grown))).mono ?_
  rintro e w3 ⟨b3, q3, A3, c3, x3, rfl, hd3, m3, hb⟩
  clear PB_0 PB_1 PB_2 PB_f0 PB_f1 PB_f2 PB_v0_0 PB_v0_1 PB_v0_2 PB_v0_f0 PB_v0_f1 PB_v0_f2
  clear HB_0 HB_1 HB_2 HB_f0 HB_f1 HB_f2
  have hs3 := hb.size
  try simp only [World.size_alloc, World.size_setCell] at hs3
  replace bw : Below w.heap.size w w3 := dy_end (by go_grown) hb
  replace h := Lv.on h hb
  replace m2 := Lv.on m2 hb
  replace PB := Blk.on PB hb
  replace HB := Blk.on HB hb
  clear hb
  have PB_0 := Blk.cell PB 0 rfl
  have PB_1 := Blk.cell PB 1 rfl
  have PB_2 := Blk.cell PB 2 rfl
  have PB_f0 := Blk.free PB 0
  have PB_f1 := Blk.free PB 1
  have PB_f2 := Blk.free PB 2
  have HB_0 := Blk.cell HB 0 rfl
  have HB_1 := Blk.cell HB 1 rfl
  have HB_2 := Blk.cell HB 2 rfl
  have HB_f0 := Blk.free HB 0
  have HB_f1 := Blk.free HB 1
  have HB_f2 := Blk.free HB 2
  replace h := Lv.alloc h (.cells #[.bool b3, .slice A3 q3.length c3, .int .i64 x3] 24)
  replace m2 := Lv.alloc m2 (.cells #[.bool b3, .slice A3 q3.length c3, .int .i64 x3] 24)
  replace m3 := Lv.alloc m3 (.cells #[.bool b3, .slice A3 q3.length c3, .int .i64 x3] 24)
  replace PB := Blk.alloc PB (.cells #[.bool b3, .slice A3 q3.length c3, .int .i64 x3] 24)
  replace HB := Blk.alloc HB (.cells #[.bool b3, .slice A3 q3.length c3, .int .i64 x3] 24)
  have IB := Blk.new w3 [.bool b3, .slice A3 q3.length c3, .int .i64 x3] 24
  have PB_v1_0 := Blk.cell PB 0 rfl
  have PB_v1_1 := Blk.cell PB 1 rfl
  have PB_v1_2 := Blk.cell PB 2 rfl
  have PB_v1_f0 := Blk.free PB 0
  have PB_v1_f1 := Blk.free PB 1
  have PB_v1_f2 := Blk.free PB 2
  have HB_v2_0 := Blk.cell HB 0 rfl
  have HB_v2_1 := Blk.cell HB 1 rfl
  have HB_v2_2 := Blk.cell HB 2 rfl
  have HB_v2_f0 := Blk.free HB 0
  have HB_v2_f1 := Blk.free HB 1
  have HB_v2_f2 := Blk.free HB 2
  have IB_0 := Blk.cell IB 0 rfl
  have IB_1 := Blk.cell IB 1 rfl
  have IB_2 := Blk.cell IB 2 rfl
  have IB_f0 := Blk.free IB 0
  have IB_f1 := Blk.free IB 1
  have IB_f2 := Blk.free IB 2
  go_wp2_with fail
  with_reducible refine (p4 _ h (hT.onD (by go_grown))).mono ?_
  rintro e w4 ⟨b4, q4, A4, c4, x4, rfl, hd4, m4, hb⟩
  clear PB_0 PB_1 PB_2 PB_f0 PB_f1 PB_f2 PB_v1_0 PB_v1_1 PB_v1_2 PB_v1_f0 PB_v1_f1 PB_v1_f2
  clear HB_0 HB_1 HB_2 HB_f0 HB_f1 HB_f2 HB_v2_0 HB_v2_1 HB_v2_2 HB_v2_f0 HB_v2_f1 HB_v2_f2
  clear IB_0 IB_1 IB_2 IB_f0 IB_f1 IB_f2
  have hs4 := hb.size
  try simp only [World.size_alloc, World.size_setCell] at hs4
  replace bw : Below w.heap.size w w4 := dy_end (by go_grown) hb
  replace h := Lv.on h hb
  replace m2 := Lv.on m2 hb
  replace m3 := Lv.on m3 hb
  replace PB := Blk.on PB hb
  replace HB := Blk.on HB hb
  replace IB := Blk.on IB hb
  clear hb
  have PB_0 := Blk.cell PB 0 rfl
  have PB_1 := Blk.cell PB 1 rfl
  have PB_2 := Blk.cell PB 2 rfl
  have PB_f0 := Blk.free PB 0
  have PB_f1 := Blk.free PB 1
  have PB_f2 := Blk.free PB 2
  have HB_0 := Blk.cell HB 0 rfl
  have HB_1 := Blk.cell HB 1 rfl
  have HB_2 := Blk.cell HB 2 rfl
  have HB_f0 := Blk.free HB 0
  have HB_f1 := Blk.free HB 1
  have HB_f2 := Blk.free HB 2
  have IB_0 := Blk.cell IB 0 rfl
  have IB_1 := Blk.cell IB 1 rfl
  have IB_2 := Blk.cell IB 2 rfl
  have IB_f0 := Blk.free IB 0
  have IB_f1 := Blk.free IB 1
  have IB_f2 := Blk.free IB 2
  replace h := Lv.alloc h (.cells #[.bool b4, .slice A4 q4.length c4, .int .i64 x4] 24)
  replace m2 := Lv.alloc m2 (.cells #[.bool b4, .slice A4 q4.length c4, .int .i64 x4] 24)
  replace m3 := Lv.alloc m3 (.cells #[.bool b4, .slice A4 q4.length c4, .int .i64 x4] 24)
  replace m4 := Lv.alloc m4 (.cells #[.bool b4, .slice A4 q4.length c4, .int .i64 x4] 24)
  replace PB := Blk.alloc PB (.cells #[.bool b4, .slice A4 q4.length c4, .int .i64 x4] 24)
  replace HB := Blk.alloc HB (.cells #[.bool b4, .slice A4 q4.length c4, .int .i64 x4] 24)
  replace IB := Blk.alloc IB (.cells #[.bool b4, .slice A4 q4.length c4, .int .i64 x4] 24)
  have JB := Blk.new w4 [.bool b4, .slice A4 q4.length c4, .int .i64 x4] 24
  have PB_v3_0 := Blk.cell PB 0 rfl
  have PB_v3_1 := Blk.cell PB 1 rfl
  have PB_v3_2 := Blk.cell PB 2 rfl
  have PB_v3_f0 := Blk.free PB 0
  have PB_v3_f1 := Blk.free PB 1
  have PB_v3_f2 := Blk.free PB 2
  have HB_v4_0 := Blk.cell HB 0 rfl
  have HB_v4_1 := Blk.cell HB 1 rfl
  have HB_v4_2 := Blk.cell HB 2 rfl
  have HB_v4_f0 := Blk.free HB 0
  have HB_v4_f1 := Blk.free HB 1
  have HB_v4_f2 := Blk.free HB 2
  have IB_v5_0 := Blk.cell IB 0 rfl
  have IB_v5_1 := Blk.cell IB 1 rfl
  have IB_v5_2 := Blk.cell IB 2 rfl
  have IB_v5_f0 := Blk.free IB 0
  have IB_v5_f1 := Blk.free IB 1
  have IB_v5_f2 := Blk.free IB 2
  have JB_0 := Blk.cell JB 0 rfl
  have JB_1 := Blk.cell JB 1 rfl
  have JB_2 := Blk.cell JB 2 rfl
  have JB_f0 := Blk.free JB 0
  have JB_f1 := Blk.free JB 1
  have JB_f2 := Blk.free JB 2
  go_wp2_with fail
  with_reducible refine (rMay_yes (b := b) (x := x) h hn9 ho).mono ?_
  rintro e w5 ⟨rfl, hb⟩
  clear PB_0 PB_1 PB_2 PB_f0 PB_f1 PB_f2 PB_v3_0 PB_v3_1 PB_v3_2 PB_v3_f0 PB_v3_f1 PB_v3_f2
  clear HB_0 HB_1 HB_2 HB_f0 HB_f1 HB_f2 HB_v4_0 HB_v4_1 HB_v4_2 HB_v4_f0 HB_v4_f1 HB_v4_f2
  clear IB_0 IB_1 IB_2 IB_f0 IB_f1 IB_f2 IB_v5_0 IB_v5_1 IB_v5_2 IB_v5_f0 IB_v5_f1 IB_v5_f2
  clear JB_0 JB_1 JB_2 JB_f0 JB_f1 JB_f2
  have hs5 := hb.size
  try simp only [World.size_alloc, World.size_setCell] at hs5
  replace bw : Below w.heap.size w w5 := dy_end (by go_grown) hb
  replace h := Lv.on h hb
  replace m2 := Lv.on m2 hb
  replace m3 := Lv.on m3 hb
  replace m4 := Lv.on m4 hb
  replace PB := Blk.on PB hb
  replace HB := Blk.on HB hb
  replace IB := Blk.on IB hb
  replace JB := Blk.on JB hb
  clear hb
  have PB_0 := Blk.cell PB 0 rfl
  have PB_1 := Blk.cell PB 1 rfl
  have PB_2 := Blk.cell PB 2 rfl
  have PB_f0 := Blk.free PB 0
  have PB_f1 := Blk.free PB 1
  have PB_f2 := Blk.free PB 2
  have HB_0 := Blk.cell HB 0 rfl
  have HB_1 := Blk.cell HB 1 rfl
  have HB_2 := Blk.cell HB 2 rfl
  have HB_f0 := Blk.free HB 0
  have HB_f1 := Blk.free HB 1
  have HB_f2 := Blk.free HB 2
  have IB_0 := Blk.cell IB 0 rfl
  have IB_1 := Blk.cell IB 1 rfl
  have IB_2 := Blk.cell IB 2 rfl
  have IB_f0 := Blk.free IB 0
  have IB_f1 := Blk.free IB 1
  have IB_f2 := Blk.free IB 2
  have JB_0 := Blk.cell JB 0 rfl
  have JB_1 := Blk.cell JB 1 rfl
  have JB_2 := Blk.cell JB 2 rfl
  have JB_f0 := Blk.free JB 0
  have JB_f1 := Blk.free JB 1
  have JB_f2 := Blk.free JB 2
  go_wp2_with fail
  with_reducible refine (r2 _ h).mono ?_
  rintro e w11 ⟨b11, q11, A11, c11, x11, rfl, hd11, m11, hb⟩
  clear PB_0 PB_1 PB_2 PB_f0 PB_f1 PB_f2
  clear HB_0 HB_1 HB_2 HB_f0 HB_f1 HB_f2
  clear IB_0 IB_1 IB_2 IB_f0 IB_f1 IB_f2
  clear JB_0 JB_1 JB_2 JB_f0 JB_f1 JB_f2
  have hs11 := hb.size
  try simp only [World.size_alloc, World.size_setCell] at hs11
  replace bw : Below w.heap.size w w11 := dy_end (by go_grown) hb
  replace h := Lv.on h hb
  replace m2 := Lv.on m2 hb
  replace m3 := Lv.on m3 hb
  replace m4 := Lv.on m4 hb
  replace PB := Blk.on PB hb
  replace HB := Blk.on HB hb
  replace IB := Blk.on IB hb
  replace JB := Blk.on JB hb
  clear hb
  have PB_0 := Blk.cell PB 0 rfl
  have PB_1 := Blk.cell PB 1 rfl
  have PB_2 := Blk.cell PB 2 rfl
  have PB_f0 := Blk.free PB 0
  have PB_f1 := Blk.free PB 1
  have PB_f2 := Blk.free PB 2
  have HB_0 := Blk.cell HB 0 rfl
  have HB_1 := Blk.cell HB 1 rfl
  have HB_2 := Blk.cell HB 2 rfl
  have HB_f0 := Blk.free HB 0
  have HB_f1 := Blk.free HB 1
  have HB_f2 := Blk.free HB 2
  have IB_0 := Blk.cell IB 0 rfl
  have IB_1 := Blk.cell IB 1 rfl
  have IB_2 := Blk.cell IB 2 rfl
  have IB_f0 := Blk.free IB 0
  have IB_f1 := Blk.free IB 1
  have IB_f2 := Blk.free IB 2
  have JB_0 := Blk.cell JB 0 rfl
  have JB_1 := Blk.cell JB 1 rfl
  have JB_2 := Blk.cell JB 2 rfl
  have JB_f0 := Blk.free JB 0
  have JB_f1 := Blk.free JB 1
  have JB_f2 := Blk.free JB 2
  replace h := Lv.alloc h (.cells #[.bool b11, .slice A11 q11.length c11, .int .i64 x11] 24)
  replace m2 := Lv.alloc m2 (.cells #[.bool b11, .slice A11 q11.length c11, .int .i64 x11] 24)
  replace m3 := Lv.alloc m3 (.cells #[.bool b11, .slice A11 q11.length c11, .int .i64 x11] 24)
  replace m4 := Lv.alloc m4 (.cells #[.bool b11, .slice A11 q11.length c11, .int .i64 x11] 24)
  replace m11 := Lv.alloc m11 (.cells #[.bool b11, .slice A11 q11.length c11, .int .i64 x11] 24)
  replace PB := Blk.alloc PB (.cells #[.bool b11, .slice A11 q11.length c11, .int .i64 x11] 24)
  replace HB := Blk.alloc HB (.cells #[.bool b11, .slice A11 q11.length c11, .int .i64 x11] 24)
  replace IB := Blk.alloc IB (.cells #[.bool b11, .slice A11 q11.length c11, .int .i64 x11] 24)
  replace JB := Blk.alloc JB (.cells #[.bool b11, .slice A11 q11.length c11, .int .i64 x11] 24)
  have HC := Blk.new w11 [.bool b11, .slice A11 q11.length c11, .int .i64 x11] 24
  have PB_v6_0 := Blk.cell PB 0 rfl
  have PB_v6_1 := Blk.cell PB 1 rfl
  have PB_v6_2 := Blk.cell PB 2 rfl
  have PB_v6_f0 := Blk.free PB 0
  have PB_v6_f1 := Blk.free PB 1
  have PB_v6_f2 := Blk.free PB 2
  have HB_v7_0 := Blk.cell HB 0 rfl
  have HB_v7_1 := Blk.cell HB 1 rfl
  have HB_v7_2 := Blk.cell HB 2 rfl
  have HB_v7_f0 := Blk.free HB 0
  have HB_v7_f1 := Blk.free HB 1
  have HB_v7_f2 := Blk.free HB 2
  have IB_v8_0 := Blk.cell IB 0 rfl
  have IB_v8_1 := Blk.cell IB 1 rfl
  have IB_v8_2 := Blk.cell IB 2 rfl
  have IB_v8_f0 := Blk.free IB 0
  have IB_v8_f1 := Blk.free IB 1
  have IB_v8_f2 := Blk.free IB 2
  have JB_v9_0 := Blk.cell JB 0 rfl
  have JB_v9_1 := Blk.cell JB 1 rfl
  have JB_v9_2 := Blk.cell JB 2 rfl
  have JB_v9_f0 := Blk.free JB 0
  have JB_v9_f1 := Blk.free JB 1
  have JB_v9_f2 := Blk.free JB 2
  have HC_0 := Blk.cell HC 0 rfl
  have HC_1 := Blk.cell HC 1 rfl
  have HC_2 := Blk.cell HC 2 rfl
  have HC_f0 := Blk.free HC 0
  have HC_f1 := Blk.free HC 1
  have HC_f2 := Blk.free HC 2
  go_wp2_with fail
  with_reducible refine (r3 _ h).mono ?_
  rintro e w12 ⟨b12, q12, A12, c12, x12, rfl, hd12, m12, hb⟩
  clear PB_0 PB_1 PB_2 PB_f0 PB_f1 PB_f2 PB_v6_0 PB_v6_1 PB_v6_2 PB_v6_f0 PB_v6_f1 PB_v6_f2
  clear HB_0 HB_1 HB_2 HB_f0 HB_f1 HB_f2 HB_v7_0 HB_v7_1 HB_v7_2 HB_v7_f0 HB_v7_f1 HB_v7_f2
  clear IB_0 IB_1 IB_2 IB_f0 IB_f1 IB_f2 IB_v8_0 IB_v8_1 IB_v8_2 IB_v8_f0 IB_v8_f1 IB_v8_f2
  clear JB_0 JB_1 JB_2 JB_f0 JB_f1 JB_f2 JB_v9_0 JB_v9_1 JB_v9_2 JB_v9_f0 JB_v9_f1 JB_v9_f2
  clear HC_0 HC_1 HC_2 HC_f0 HC_f1 HC_f2
  have hs12 := hb.size
  try simp only [World.size_alloc, World.size_setCell] at hs12
  replace bw : Below w.heap.size w w12 := dy_end (by go_grown) hb
  replace h := Lv.on h hb
  replace m2 := Lv.on m2 hb
  replace m3 := Lv.on m3 hb
  replace m4 := Lv.on m4 hb
  replace m11 := Lv.on m11 hb
  replace PB := Blk.on PB hb
  replace HB := Blk.on HB hb
  replace IB := Blk.on IB hb
  replace JB := Blk.on JB hb
  replace HC := Blk.on HC hb
  clear hb
  have PB_0 := Blk.cell PB 0 rfl
  have PB_1 := Blk.cell PB 1 rfl
  have PB_2 := Blk.cell PB 2 rfl
  have PB_f0 := Blk.free PB 0
  have PB_f1 := Blk.free PB 1
  have PB_f2 := Blk.free PB 2
  have HB_0 := Blk.cell HB 0 rfl
  have HB_1 := Blk.cell HB 1 rfl
  have HB_2 := Blk.cell HB 2 rfl
  have HB_f0 := Blk.free HB 0
  have HB_f1 := Blk.free HB 1
  have HB_f2 := Blk.free HB 2
  have IB_0 := Blk.cell IB 0 rfl
  have IB_1 := Blk.cell IB 1 rfl
  have IB_2 := Blk.cell IB 2 rfl
  have IB_f0 := Blk.free IB 0
  have IB_f1 := Blk.free IB 1
  have IB_f2 := Blk.free IB 2
  have JB_0 := Blk.cell JB 0 rfl
  have JB_1 := Blk.cell JB 1 rfl
  have JB_2 := Blk.cell JB 2 rfl
  have JB_f0 := Blk.free JB 0
  have JB_f1 := Blk.free JB 1
  have JB_f2 := Blk.free JB 2
  have HC_0 := Blk.cell HC 0 rfl
  have HC_1 := Blk.cell HC 1 rfl
  have HC_2 := Blk.cell HC 2 rfl
  have HC_f0 := Blk.free HC 0
  have HC_f1 := Blk.free HC 1
  have HC_f2 := Blk.free HC 2
  replace h := Lv.alloc h (.cells #[.bool b12, .slice A12 q12.length c12, .int .i64 x12] 24)
  replace m2 := Lv.alloc m2 (.cells #[.bool b12, .slice A12 q12.length c12, .int .i64 x12] 24)
  replace m3 := Lv.alloc m3 (.cells #[.bool b12, .slice A12 q12.length c12, .int .i64 x12] 24)
  replace m4 := Lv.alloc m4 (.cells #[.bool b12, .slice A12 q12.length c12, .int .i64 x12] 24)
  replace m11 := Lv.alloc m11 (.cells #[.bool b12, .slice A12 q12.length c12, .int .i64 x12] 24)
  replace m12 := Lv.alloc m12 (.cells #[.bool b12, .slice A12 q12.length c12, .int .i64 x12] 24)
  replace PB := Blk.alloc PB (.cells #[.bool b12, .slice A12 q12.length c12, .int .i64 x12] 24)
  replace HB := Blk.alloc HB (.cells #[.bool b12, .slice A12 q12.length c12, .int .i64 x12] 24)
  replace IB := Blk.alloc IB (.cells #[.bool b12, .slice A12 q12.length c12, .int .i64 x12] 24)
  replace JB := Blk.alloc JB (.cells #[.bool b12, .slice A12 q12.length c12, .int .i64 x12] 24)
  replace HC := Blk.alloc HC (.cells #[.bool b12, .slice A12 q12.length c12, .int .i64 x12] 24)
  have IC := Blk.new w12 [.bool b12, .slice A12 q12.length c12, .int .i64 x12] 24
  have PB_v10_0 := Blk.cell PB 0 rfl
  have PB_v10_1 := Blk.cell PB 1 rfl
  have PB_v10_2 := Blk.cell PB 2 rfl
  have PB_v10_f0 := Blk.free PB 0
  have PB_v10_f1 := Blk.free PB 1
  have PB_v10_f2 := Blk.free PB 2
  have HB_v11_0 := Blk.cell HB 0 rfl
  have HB_v11_1 := Blk.cell HB 1 rfl
  have HB_v11_2 := Blk.cell HB 2 rfl
  have HB_v11_f0 := Blk.free HB 0
  have HB_v11_f1 := Blk.free HB 1
  have HB_v11_f2 := Blk.free HB 2
  have IB_v12_0 := Blk.cell IB 0 rfl
  have IB_v12_1 := Blk.cell IB 1 rfl
  have IB_v12_2 := Blk.cell IB 2 rfl
  have IB_v12_f0 := Blk.free IB 0
  have IB_v12_f1 := Blk.free IB 1
  have IB_v12_f2 := Blk.free IB 2
  have JB_v13_0 := Blk.cell JB 0 rfl
  have JB_v13_1 := Blk.cell JB 1 rfl
  have JB_v13_2 := Blk.cell JB 2 rfl
  have JB_v13_f0 := Blk.free JB 0
  have JB_v13_f1 := Blk.free JB 1
  have JB_v13_f2 := Blk.free JB 2
  have HC_v14_0 := Blk.cell HC 0 rfl
  have HC_v14_1 := Blk.cell HC 1 rfl
  have HC_v14_2 := Blk.cell HC 2 rfl
  have HC_v14_f0 := Blk.free HC 0
  have HC_v14_f1 := Blk.free HC 1
  have HC_v14_f2 := Blk.free HC 2
  have IC_0 := Blk.cell IC 0 rfl
  have IC_1 := Blk.cell IC 1 rfl
  have IC_2 := Blk.cell IC 2 rfl
  have IC_f0 := Blk.free IC 0
  have IC_f1 := Blk.free IC 1
  have IC_f2 := Blk.free IC 2
  go_wp2_with fail
  with_reducible refine (r4 _ h).mono ?_
  rintro e w13 ⟨b13, q13, A13, c13, x13, rfl, hd13, m13, hb⟩
  clear PB_0 PB_1 PB_2 PB_f0 PB_f1 PB_f2 PB_v10_0 PB_v10_1 PB_v10_2 PB_v10_f0 PB_v10_f1 PB_v10_f2
  clear HB_0 HB_1 HB_2 HB_f0 HB_f1 HB_f2 HB_v11_0 HB_v11_1 HB_v11_2 HB_v11_f0 HB_v11_f1 HB_v11_f2
  clear IB_0 IB_1 IB_2 IB_f0 IB_f1 IB_f2 IB_v12_0 IB_v12_1 IB_v12_2 IB_v12_f0 IB_v12_f1 IB_v12_f2
  clear JB_0 JB_1 JB_2 JB_f0 JB_f1 JB_f2 JB_v13_0 JB_v13_1 JB_v13_2 JB_v13_f0 JB_v13_f1 JB_v13_f2
  clear HC_0 HC_1 HC_2 HC_f0 HC_f1 HC_f2 HC_v14_0 HC_v14_1 HC_v14_2 HC_v14_f0 HC_v14_f1 HC_v14_f2
  clear IC_0 IC_1 IC_2 IC_f0 IC_f1 IC_f2
  have hs13 := hb.size
  try simp only [World.size_alloc, World.size_setCell] at hs13
  replace bw : Below w.heap.size w w13 := dy_end (by go_grown) hb
  replace h := Lv.on h hb
  replace m2 := Lv.on m2 hb
  replace m3 := Lv.on m3 hb
  replace m4 := Lv.on m4 hb
  replace m11 := Lv.on m11 hb
  replace m12 := Lv.on m12 hb
  replace PB := Blk.on PB hb
  replace HB := Blk.on HB hb
  replace IB := Blk.on IB hb
  replace JB := Blk.on JB hb
  replace HC := Blk.on HC hb
  replace IC := Blk.on IC hb
  clear hb
  have PB_0 := Blk.cell PB 0 rfl
  have PB_1 := Blk.cell PB 1 rfl
  have PB_2 := Blk.cell PB 2 rfl
  have PB_f0 := Blk.free PB 0
  have PB_f1 := Blk.free PB 1
  have PB_f2 := Blk.free PB 2
  have HB_0 := Blk.cell HB 0 rfl
  have HB_1 := Blk.cell HB 1 rfl
  have HB_2 := Blk.cell HB 2 rfl
  have HB_f0 := Blk.free HB 0
  have HB_f1 := Blk.free HB 1
  have HB_f2 := Blk.free HB 2
  have IB_0 := Blk.cell IB 0 rfl
  have IB_1 := Blk.cell IB 1 rfl
  have IB_2 := Blk.cell IB 2 rfl
  have IB_f0 := Blk.free IB 0
  have IB_f1 := Blk.free IB 1
  have IB_f2 := Blk.free IB 2
  have JB_0 := Blk.cell JB 0 rfl
  have JB_1 := Blk.cell JB 1 rfl
  have JB_2 := Blk.cell JB 2 rfl
  have JB_f0 := Blk.free JB 0
  have JB_f1 := Blk.free JB 1
  have JB_f2 := Blk.free JB 2
  have HC_0 := Blk.cell HC 0 rfl
  have HC_1 := Blk.cell HC 1 rfl
  have HC_2 := Blk.cell HC 2 rfl
  have HC_f0 := Blk.free HC 0
  have HC_f1 := Blk.free HC 1
  have HC_f2 := Blk.free HC 2
  have IC_0 := Blk.cell IC 0 rfl
  have IC_1 := Blk.cell IC 1 rfl
  have IC_2 := Blk.cell IC 2 rfl
  have IC_f0 := Blk.free IC 0
  have IC_f1 := Blk.free IC 1
  have IC_f2 := Blk.free IC 2
  replace h := Lv.alloc h (.cells #[.bool b13, .slice A13 q13.length c13, .int .i64 x13] 24)
  replace m2 := Lv.alloc m2 (.cells #[.bool b13, .slice A13 q13.length c13, .int .i64 x13] 24)
  replace m3 := Lv.alloc m3 (.cells #[.bool b13, .slice A13 q13.length c13, .int .i64 x13] 24)
  replace m4 := Lv.alloc m4 (.cells #[.bool b13, .slice A13 q13.length c13, .int .i64 x13] 24)
  replace m11 := Lv.alloc m11 (.cells #[.bool b13, .slice A13 q13.length c13, .int .i64 x13] 24)
  replace m12 := Lv.alloc m12 (.cells #[.bool b13, .slice A13 q13.length c13, .int .i64 x13] 24)
  replace m13 := Lv.alloc m13 (.cells #[.bool b13, .slice A13 q13.length c13, .int .i64 x13] 24)
  replace PB := Blk.alloc PB (.cells #[.bool b13, .slice A13 q13.length c13, .int .i64 x13] 24)
  replace HB := Blk.alloc HB (.cells #[.bool b13, .slice A13 q13.length c13, .int .i64 x13] 24)
  replace IB := Blk.alloc IB (.cells #[.bool b13, .slice A13 q13.length c13, .int .i64 x13] 24)
  replace JB := Blk.alloc JB (.cells #[.bool b13, .slice A13 q13.length c13, .int .i64 x13] 24)
  replace HC := Blk.alloc HC (.cells #[.bool b13, .slice A13 q13.length c13, .int .i64 x13] 24)
  replace IC := Blk.alloc IC (.cells #[.bool b13, .slice A13 q13.length c13, .int .i64 x13] 24)
  have JC := Blk.new w13 [.bool b13, .slice A13 q13.length c13, .int .i64 x13] 24
  have PB_v15_0 := Blk.cell PB 0 rfl
  have PB_v15_1 := Blk.cell PB 1 rfl
  have PB_v15_2 := Blk.cell PB 2 rfl
  have PB_v15_f0 := Blk.free PB 0
  have PB_v15_f1 := Blk.free PB 1
  have PB_v15_f2 := Blk.free PB 2
  have HB_v16_0 := Blk.cell HB 0 rfl
  have HB_v16_1 := Blk.cell HB 1 rfl
  have HB_v16_2 := Blk.cell HB 2 rfl
  have HB_v16_f0 := Blk.free HB 0
  have HB_v16_f1 := Blk.free HB 1
  have HB_v16_f2 := Blk.free HB 2
  have IB_v17_0 := Blk.cell IB 0 rfl
  have IB_v17_1 := Blk.cell IB 1 rfl
  have IB_v17_2 := Blk.cell IB 2 rfl
  have IB_v17_f0 := Blk.free IB 0
  have IB_v17_f1 := Blk.free IB 1
  have IB_v17_f2 := Blk.free IB 2
  have JB_v18_0 := Blk.cell JB 0 rfl
  have JB_v18_1 := Blk.cell JB 1 rfl
  have JB_v18_2 := Blk.cell JB 2 rfl
  have JB_v18_f0 := Blk.free JB 0
  have JB_v18_f1 := Blk.free JB 1
  have JB_v18_f2 := Blk.free JB 2
  have HC_v19_0 := Blk.cell HC 0 rfl
  have HC_v19_1 := Blk.cell HC 1 rfl
  have HC_v19_2 := Blk.cell HC 2 rfl
  have HC_v19_f0 := Blk.free HC 0
  have HC_v19_f1 := Blk.free HC 1
  have HC_v19_f2 := Blk.free HC 2
  have IC_v20_0 := Blk.cell IC 0 rfl
  have IC_v20_1 := Blk.cell IC 1 rfl
  have IC_v20_2 := Blk.cell IC 2 rfl
  have IC_v20_f0 := Blk.free IC 0
  have IC_v20_f1 := Blk.free IC 1
  have IC_v20_f2 := Blk.free IC 2
  have JC_0 := Blk.cell JC 0 rfl
  have JC_1 := Blk.cell JC 1 rfl
  have JC_2 := Blk.cell JC 2 rfl
  have JC_f0 := Blk.free JC 0
  have JC_f1 := Blk.free JC 1
  have JC_f2 := Blk.free JC 2
  go_wp2_with fail
  obtain ⟨z1, z2, z3⟩ := Dn.uniq hd11 hd2 m11.lim m2.lim
  subst z1 z2 z3
  obtain ⟨z1, z2, z3⟩ := Dn.uniq hd12 hd3 m12.lim m3.lim
  subst z1 z2 z3
  obtain ⟨z1, z2, z3⟩ := Dn.uniq hd13 hd4 m13.lim m4.lim
  subst z1 z2 z3
  have bwR : Below w.heap.size w (w13.alloc (.cells #[.bool b4, .slice A13 q4.length c13, .int .i64 x4] 24)) := by go_grown
  clear PB_0 PB_1 PB_2 PB_f0 PB_f1 PB_f2 PB_v15_0 PB_v15_1 PB_v15_2 PB_v15_f0 PB_v15_f1 PB_v15_f2
  clear HB_0 HB_1 HB_2 HB_f0 HB_f1 HB_f2 HB_v16_0 HB_v16_1 HB_v16_2 HB_v16_f0 HB_v16_f1 HB_v16_f2
  clear IB_0 IB_1 IB_2 IB_f0 IB_f1 IB_f2 IB_v17_0 IB_v17_1 IB_v17_2 IB_v17_f0 IB_v17_f1 IB_v17_f2
  clear JB_0 JB_1 JB_2 JB_f0 JB_f1 JB_f2 JB_v18_0 JB_v18_1 JB_v18_2 JB_v18_f0 JB_v18_f1 JB_v18_f2
  clear HC_0 HC_1 HC_2 HC_f0 HC_f1 HC_f2 HC_v19_0 HC_v19_1 HC_v19_2 HC_v19_f0 HC_v19_f1 HC_v19_f2
  clear IC_0 IC_1 IC_2 IC_f0 IC_f1 IC_f2 IC_v20_0 IC_v20_1 IC_v20_2 IC_v20_f0 IC_v20_f1 IC_v20_f2
  clear JC_0 JC_1 JC_2 JC_f0 JC_f1 JC_f2
  have PB_0 := Blk.cell PB 0 rfl
  have PB_1 := Blk.cell PB 1 rfl
  have PB_2 := Blk.cell PB 2 rfl
  have PB_f0 := Blk.free PB 0
  have PB_f1 := Blk.free PB 1
  have PB_f2 := Blk.free PB 2
  have HB_0 := Blk.cell HB 0 rfl
  have HB_1 := Blk.cell HB 1 rfl
  have HB_2 := Blk.cell HB 2 rfl
  have HB_f0 := Blk.free HB 0
  have HB_f1 := Blk.free HB 1
  have HB_f2 := Blk.free HB 2
  have IB_0 := Blk.cell IB 0 rfl
  have IB_1 := Blk.cell IB 1 rfl
  have IB_2 := Blk.cell IB 2 rfl
  have IB_f0 := Blk.free IB 0
  have IB_f1 := Blk.free IB 1
  have IB_f2 := Blk.free IB 2
  have JB_0 := Blk.cell JB 0 rfl
  have JB_1 := Blk.cell JB 1 rfl
  have JB_2 := Blk.cell JB 2 rfl
  have JB_f0 := Blk.free JB 0
  have JB_f1 := Blk.free JB 1
  have JB_f2 := Blk.free JB 2
  have HC_0 := Blk.cell HC 0 rfl
  have HC_1 := Blk.cell HC 1 rfl
  have HC_2 := Blk.cell HC 2 rfl
  have HC_f0 := Blk.free HC 0
  have HC_f1 := Blk.free HC 1
  have HC_f2 := Blk.free HC 2
  have IC_0 := Blk.cell IC 0 rfl
  have IC_1 := Blk.cell IC 1 rfl
  have IC_2 := Blk.cell IC 2 rfl
  have IC_f0 := Blk.free IC 0
  have IC_f1 := Blk.free IC 1
  have IC_f2 := Blk.free IC 2
  have JC_0 := Blk.cell JC 0 rfl
  have JC_1 := Blk.cell JC 1 rfl
  have JC_2 := Blk.cell JC 2 rfl
  have JC_f0 := Blk.free JC 0
  have JC_f1 := Blk.free JC 1
  have JC_f2 := Blk.free JC 2
  have cq1 := fun d os => Calls.regrown_of (w := (w13.alloc (.cells #[.bool b4, .slice A13 q4.length c13, .int .i64 x4] 24))) (d := d) (os := os) (dyMay_yes (b := b) (x := x) (h.on (below_regrown _ d os)) hn9 ho)
  have cq2 := fun d os => Calls.regrown_of (w := (w13.alloc (.cells #[.bool b4, .slice A13 q4.length c13, .int .i64 x4] 24))) (d := d) (os := os) (p6 _ (h.on (below_regrown _ d os)) (hT.onD (dy_end bwR (below_regrown _ d os))))
  have cq3 := fun d os => Calls.regrown_of (w := (w13.alloc (.cells #[.bool b4, .slice A13 q4.length c13, .int .i64 x4] 24))) (d := d) (os := os) (p7 _ (h.on (below_regrown _ d os)))
  have cq4 := fun d os => Calls.regrown_of (w := (w13.alloc (.cells #[.bool b4, .slice A13 q4.length c13, .int .i64 x4] 24))) (d := d) (os := os) (rSame_any (b := b2) (x := x2) (m2.on (below_regrown _ d os)) (m11.on (below_regrown _ d os)))
  have cq5 := fun d os => Calls.regrown_of (w := (w13.alloc (.cells #[.bool b4, .slice A13 q4.length c13, .int .i64 x4] 24))) (d := d) (os := os) (rSame_any (b := b3) (x := x3) (m3.on (below_regrown _ d os)) (m12.on (below_regrown _ d os)))
  have cq6 := fun d os => Calls.regrown_of (w := (w13.alloc (.cells #[.bool b4, .slice A13 q4.length c13, .int .i64 x4] 24))) (d := d) (os := os) (rSame_any (b := b4) (x := x4) (m4.on (below_regrown _ d os)) (m13.on (below_regrown _ d os)))
  have cq7 := fun d os => Calls.regrown_of (w := (w13.alloc (.cells #[.bool b4, .slice A13 q4.length c13, .int .i64 x4] 24))) (d := d) (os := os) (lnumB K0 _)
  have cq8 := fun d os => Calls.regrown_of (w := (w13.alloc (.cells #[.bool b4, .slice A13 q4.length c13, .int .i64 x4] 24))) (d := d) (os := os) (lnumB K1 _)
  have cq9 := fun d os => Calls.regrown_of (w := (w13.alloc (.cells #[.bool b4, .slice A13 q4.length c13, .int .i64 x4] 24))) (d := d) (os := os) (lnumB K2 _)
  have cq10 := fun d os => Calls.regrown_of (w := (w13.alloc (.cells #[.bool b4, .slice A13 q4.length c13, .int .i64 x4] 24))) (d := d) (os := os) (dknown_any _ (hT.onD (dy_end bwR (below_regrown _ d os))) (hP.on (dy_end bwR (below_regrown _ d os))))
  have PB_r0 := cell_regrown PB_0
  have PB_r1 := cell_regrown PB_1
  have PB_r2 := cell_regrown PB_2
  have HB_r0 := cell_regrown HB_0
  have HB_r1 := cell_regrown HB_1
  have HB_r2 := cell_regrown HB_2
  have IB_r0 := cell_regrown IB_0
  have IB_r1 := cell_regrown IB_1
  have IB_r2 := cell_regrown IB_2
  have JB_r0 := cell_regrown JB_0
  have JB_r1 := cell_regrown JB_1
  have JB_r2 := cell_regrown JB_2
  have HC_r0 := cell_regrown HC_0
  have HC_r1 := cell_regrown HC_1
  have HC_r2 := cell_regrown HC_2
  have IC_r0 := cell_regrown IC_0
  have IC_r1 := cell_regrown IC_1
  have IC_r2 := cell_regrown IC_2
  have JC_r0 := cell_regrown JC_0
  have JC_r1 := cell_regrown JC_1
  have JC_r2 := cell_regrown JC_2
  refine wp_region_quiet_below mixed (by kernel_rfl) ?_
  repeat (quiet_step (first | (with_reducible exact cq1 _ _) | (with_reducible exact cq2 _ _) | (with_reducible exact cq3 _ _) | (with_reducible exact cq4 _ _) | (with_reducible exact cq5 _ _) | (with_reducible exact cq6 _ _) | (with_reducible exact cq7 _ _) | (with_reducible exact cq8 _ _) | (with_reducible exact cq9 _ _) | (with_reducible exact cq10 _ _)))
  refine wpQuiet_nil ?_
  intro _ hw'
  obtain ⟨⟨dq, osq⟩, hw''⟩ := hw'
  subst hw''
  have hb := below_regrown (w13.alloc (.cells #[.bool b4, .slice A13 q4.length c13, .int .i64 x4] 24)) dq osq
  clear PB_r0 PB_r1 PB_r2 HB_r0 HB_r1 HB_r2 IB_r0 IB_r1 IB_r2 JB_r0 JB_r1 JB_r2 HC_r0 HC_r1 HC_r2 IC_r0 IC_r1 IC_r2 JC_r0 JC_r1 JC_r2 cq1 cq2 cq3 cq4 cq5 cq6 cq7 cq8 cq9 cq10
  generalize grow (redrawn (w13.alloc (.cells #[.bool b4, .slice A13 q4.length c13, .int .i64 x4] 24)) dq) osq = w14 at hb ⊢
  clear PB_0 PB_1 PB_2 PB_f0 PB_f1 PB_f2
  clear HB_0 HB_1 HB_2 HB_f0 HB_f1 HB_f2
  clear IB_0 IB_1 IB_2 IB_f0 IB_f1 IB_f2
  clear JB_0 JB_1 JB_2 JB_f0 JB_f1 JB_f2
  clear HC_0 HC_1 HC_2 HC_f0 HC_f1 HC_f2
  clear IC_0 IC_1 IC_2 IC_f0 IC_f1 IC_f2
  clear JC_0 JC_1 JC_2 JC_f0 JC_f1 JC_f2
  replace bw : Below w.heap.size w w14 := dy_end (by go_grown) hb
  replace PB := Blk.on PB hb
  replace HB := Blk.on HB hb
  replace IB := Blk.on IB hb
  replace JB := Blk.on JB hb
  replace HC := Blk.on HC hb
  replace IC := Blk.on IC hb
  replace JC := Blk.on JC hb
  have hs14 := hb.size
  try simp only [World.size_alloc] at hs14
  clear hb
  have PB_0 := Blk.cell PB 0 rfl
  have PB_1 := Blk.cell PB 1 rfl
  have PB_2 := Blk.cell PB 2 rfl
  have PB_f0 := Blk.free PB 0
  have PB_f1 := Blk.free PB 1
  have PB_f2 := Blk.free PB 2
  have HB_0 := Blk.cell HB 0 rfl
  have HB_1 := Blk.cell HB 1 rfl
  have HB_2 := Blk.cell HB 2 rfl
  have HB_f0 := Blk.free HB 0
  have HB_f1 := Blk.free HB 1
  have HB_f2 := Blk.free HB 2
  have IB_0 := Blk.cell IB 0 rfl
  have IB_1 := Blk.cell IB 1 rfl
  have IB_2 := Blk.cell IB 2 rfl
  have IB_f0 := Blk.free IB 0
  have IB_f1 := Blk.free IB 1
  have IB_f2 := Blk.free IB 2
  have JB_0 := Blk.cell JB 0 rfl
  have JB_1 := Blk.cell JB 1 rfl
  have JB_2 := Blk.cell JB 2 rfl
  have JB_f0 := Blk.free JB 0
  have JB_f1 := Blk.free JB 1
  have JB_f2 := Blk.free JB 2
  have HC_0 := Blk.cell HC 0 rfl
  have HC_1 := Blk.cell HC 1 rfl
  have HC_2 := Blk.cell HC 2 rfl
  have HC_f0 := Blk.free HC 0
  have HC_f1 := Blk.free HC 1
  have HC_f2 := Blk.free HC 2
  have IC_0 := Blk.cell IC 0 rfl
  have IC_1 := Blk.cell IC 1 rfl
  have IC_2 := Blk.cell IC 2 rfl
  have IC_f0 := Blk.free IC 0
  have IC_f1 := Blk.free IC 1
  have IC_f2 := Blk.free IC 2
  have JC_0 := Blk.cell JC 0 rfl
  have JC_1 := Blk.cell JC 1 rfl
  have JC_2 := Blk.cell JC 2 rfl
  have JC_f0 := Blk.free JC 0
  have JC_f1 := Blk.free JC 1
  have JC_f2 := Blk.free JC 2
  go_wp2_with fail
  go_ret
  exact ⟨rfl, by go_grown⟩

end
end Go.Proofs.YtknomchkfamajaaGreatDoor
