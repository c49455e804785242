/-
  Layer 3, the laws: the machine: sums, differences, products of floats. (Written by a script of wip/tools.)
-/
import Derived.Test.YtknomchkfamajaaGreatDoorDyNA
import Derived.Test.YtknomchkfamajaaGreatDoorDyNB
import Derived.Test.YtknomchkfamajaaGreatDoorDyLZ
namespace Go.Proofs.YtknomchkfamajaaGreatDoor
open Go.RowKit Go.Sort Go.Bw
set_option linter.unusedVariables false
set_option linter.unusedSimpArgs false

section
variable {w : World}
set_option maxRecDepth 100000 in
set_option maxHeartbeats 8000000 in
theorem mach_noa (y : Nat) (hn : y ≤ 18446744073709551615) (z : Nat) (hn2 : z ≤ 18446744073709551615) (hc : 3 < cls (y : Int)) (hT : Tab w) (hP : PowT w) :
    Calls Tryz.prog 11 #[.int .u64 (y : Int), .int .u64 (z : Int)] w fun e w' => e = .returned (.bool true) ∧ Below w.heap.size w w' := by
  have f1 : ∀ W : World, Calls Tryz.prog 30 #[.int .u64 (y : Int)] W fun e w' => e = .returned (.bool false) ∧ W = w' := fun W => by
    have := rfinite_any (y : Int) (by omega) (by omega) W
    rwa [decide_eq_false (by omega)] at this
  have bw : Below w.heap.size w w := Below.refl _ _
  go_enter Tryz.func11, Tryz.ntmps11
  go_wp2_with fail
  with_reducible refine (f1 _).mono ?_
  rintro e v0 ⟨rfl, rfl⟩
  go_wp2_with fail
  with_reducible refine (dknown_any _ (hT.onD (by go_grown)) (hP.on (by go_grown))).mono ?_
  rintro e w1 ⟨rfl, hb⟩
  have hs1 := hb.size
  try simp only [World.size_alloc, World.size_setCell] at hs1
  replace bw : Below w.heap.size w w1 := dy_end (by go_grown) hb
  clear hb
  go_wp2_with fail
  go_ret
  exact ⟨rfl, by go_grown⟩

set_option maxRecDepth 100000 in
set_option maxHeartbeats 8000000 in
theorem mach_nob (y : Nat) (hn : y ≤ 18446744073709551615) (z : Nat) (hn2 : z ≤ 18446744073709551615) (hc : cls (y : Int) ≤ 3) (hc2 : 3 < cls (z : Int)) (hT : Tab w) (hP : PowT w) :
    Calls Tryz.prog 11 #[.int .u64 (y : Int), .int .u64 (z : Int)] w fun e w' => e = .returned (.bool true) ∧ Below w.heap.size w w' := by
  have f1 : ∀ W : World, Calls Tryz.prog 30 #[.int .u64 (y : Int)] W fun e w' => e = .returned (.bool true) ∧ W = w' := fun W => by
    have := rfinite_any (y : Int) (by omega) (by omega) W
    rwa [decide_eq_true (by omega)] at this
  have f2 : ∀ W : World, Calls Tryz.prog 30 #[.int .u64 (z : Int)] W fun e w' => e = .returned (.bool false) ∧ W = w' := fun W => by
    have := rfinite_any (z : Int) (by omega) (by omega) W
    rwa [decide_eq_false (by omega)] at this
  have bw : Below w.heap.size w w := Below.refl _ _
  go_enter Tryz.func11, Tryz.ntmps11
  go_wp2_with fail
  with_reducible refine (f1 _).mono ?_
  rintro e v0 ⟨rfl, rfl⟩
  go_wp2_with fail
  with_reducible refine (f2 _).mono ?_
  rintro e v0 ⟨rfl, rfl⟩
  go_wp2_with fail
  with_reducible refine (dknown_any _ (hT.onD (by go_grown)) (hP.on (by go_grown))).mono ?_
  rintro e w1 ⟨rfl, hb⟩
  have hs1 := hb.size
  try simp only [World.size_alloc, World.size_setCell] at hs1
  replace bw : Below w.heap.size w w1 := dy_end (by go_grown) hb
  clear hb
  go_wp2_with fail
  go_ret
  exact ⟨rfl, by go_grown⟩

set_option maxRecDepth 100000 in
set_option maxHeartbeats 8000000 in
theorem mach_yes (y : Nat) (hn : y ≤ 18446744073709551615) (z : Nat) (hn2 : z ≤ 18446744073709551615) (hc : cls (y : Int) ≤ 3) (hc2 : cls (z : Int) ≤ 3) (hT : Tab w) (hP : PowT w) :
    Calls Tryz.prog 11 #[.int .u64 (y : Int), .int .u64 (z : Int)] w fun e w' => e = .returned (.bool true) ∧ Below w.heap.size w w' := by
  have f1 : ∀ W : World, Calls Tryz.prog 30 #[.int .u64 (y : Int)] W fun e w' => e = .returned (.bool true) ∧ W = w' := fun W => by
    have := rfinite_any (y : Int) (by omega) (by omega) W
    rwa [decide_eq_true (by omega)] at this
  have f2 : ∀ W : World, Calls Tryz.prog 30 #[.int .u64 (z : Int)] W fun e w' => e = .returned (.bool true) ∧ W = w' := fun W => by
    have := rfinite_any (z : Int) (by omega) (by omega) W
    rwa [decide_eq_true (by omega)] at this
  have hx : ∀ W : World, (callFunc 28 #[.int .u64 (y : Int)]).run Tryz.prog W = .ok (.value (.float .f64 y)) W := fun W => by have := run_float64frombits (y : Int) W; rwa [Int.toNat_natCast] at this
  have hz : ∀ W : World, (callFunc 28 #[.int .u64 (z : Int)]).run Tryz.prog W = .ok (.value (.float .f64 z)) W := fun W => by have := run_float64frombits (z : Int) W; rwa [Int.toNat_natCast] at this
  obtain ⟨ra, ha, qa⟩ := mach_add y z hn hc hn2 hc2
  obtain ⟨rs, hs, qs⟩ := mach_sub y z hn hc hn2 hc2
  obtain ⟨rm, hm, qm⟩ := mach_mul y z hn hc hn2 hc2
  have Rra : ∀ W : World, (binOp .add 36 (.float .f64 y) (.float .f64 z)).run Tryz.prog W = .ok (.float .f64 ra) W := fun W => run_float_arith W .add _ .f64 y z ra ha
  have Rrs : ∀ W : World, (binOp .sub 36 (.float .f64 y) (.float .f64 z)).run Tryz.prog W = .ok (.float .f64 rs) W := fun W => run_float_arith W .sub _ .f64 y z rs hs
  have Rrm : ∀ W : World, (binOp .mul 36 (.float .f64 y) (.float .f64 z)).run Tryz.prog W = .ok (.float .f64 rm) W := fun W => run_float_arith W .mul _ .f64 y z rm hm
  clear ha hs hm
  have p1 := fun W (tt : Tab W) => lof_yes y hn hc tt
  have p2 := fun W (tt : Tab W) => lof_yes z hn2 hc2 tt
  change ∀ W (tt : Tab W), Calls _ _ _ _ (DyP (wN y) _) at p1
  change ∀ W (tt : Tab W), Calls _ _ _ _ (DyP (wN z) _) at p2
  have i1 := wN_in y hc
  have i2 := wN_in z hc2
  have o1 := wN_ok y
  have o2 := wN_ok z
  generalize wN y = d1 at p1 i1 o1 qa qs qm
  generalize wN z = d2 at p2 i2 o2 qa qs qm
  have i3 := sumN_in o1 o2 i1 i2 (by omega)
  have i4 := sumN_in o1 (negN_ok d2) i1 (negN_in o2 i2) (by omega)
  have i5 := mulN_in i1 i2
  have e3 : okE (sumN d1 d2).exp = true := in_okE (sumN_ok _ _) i3 (by omega) (by omega)
  obtain ⟨F3, G3⟩ : ∃ F, fw (sumN d1 d2) = F := ⟨_, rfl⟩
  have e4 : okE (sumN d1 (negN d2)).exp = true := in_okE (sumN_ok _ _) i4 (by omega) (by omega)
  obtain ⟨F4, G4⟩ : ∃ F, fw (sumN d1 (negN d2)) = F := ⟨_, rfl⟩
  have e5 : okE (mulN d1 d2).exp = true := in_okE (mulN_ok _ _) i5 (by omega) (by omega)
  obtain ⟨F5, G5⟩ : ∃ F, fw (mulN d1 d2) = F := ⟨_, rfl⟩
  rw [G3] at qa
  rw [G4] at qs
  rw [G5] at qm
  have bw : Below w.heap.size w w := Below.refl _ _
  go_enter Tryz.func11, Tryz.ntmps11
  go_wp2_with fail
  with_reducible refine (f1 _).mono ?_
  rintro e v0 ⟨rfl, rfl⟩
  go_wp2_with fail
  with_reducible refine (f2 _).mono ?_
  rintro e v0 ⟨rfl, rfl⟩
  go_wp2_with fail
  with_reducible refine (p1 _ (hT.onD (by go_grown))).mono ?_
  rintro e w1 ⟨b1, q1, A1, c1, x1, rfl, hd1, m1, hb⟩
  have hs1 := hb.size
  try simp only [World.size_alloc, World.size_setCell] at hs1
  replace bw : Below w.heap.size w w1 := dy_end (by go_grown) hb
  clear hb
  go_wp2_with fail
  with_reducible refine (p2 _ (hT.onD (by go_grown))).mono ?_
  rintro e w2 ⟨b2, q2, A2, c2, x2, rfl, hd2, m2, hb⟩
  have hs2 := hb.size
  try simp only [World.size_alloc, World.size_setCell] at hs2
  replace bw : Below w.heap.size w w2 := dy_end (by go_grown) hb
  replace m1 := Lv.on m1 hb
  clear hb
  replace m1 := Lv.alloc m1 (.cells #[.bool b1, .slice A1 q1.length c1, .int .i64 x1] 24)
  replace m2 := Lv.alloc m2 (.cells #[.bool b1, .slice A1 q1.length c1, .int .i64 x1] 24)
  have HB := Blk.new w2 [.bool b1, .slice A1 q1.length c1, .int .i64 x1] 24
  have HB_0 := Blk.cell HB 0 rfl
  have HB_1 := Blk.cell HB 1 rfl
  have HB_2 := Blk.cell HB 2 rfl
  have HB_f0 := Blk.free HB 0
  have HB_f1 := Blk.free HB 1
  have HB_f2 := Blk.free HB 2
  replace m1 := Lv.alloc m1 (.cells #[.bool b2, .slice A2 q2.length c2, .int .i64 x2] 24)
  replace m2 := Lv.alloc m2 (.cells #[.bool b2, .slice A2 q2.length c2, .int .i64 x2] 24)
  clear HB_0 HB_1 HB_2 HB_f0 HB_f1 HB_f2
  replace HB := Blk.alloc HB (.cells #[.bool b2, .slice A2 q2.length c2, .int .i64 x2] 24)
  have IB := Blk.new (w2.alloc (.cells #[.bool b1, .slice A1 q1.length c1, .int .i64 x1] 24)) [.bool b2, .slice A2 q2.length c2, .int .i64 x2] 24
  simp only [World.size_alloc] at IB
  have HB_0 := Blk.cell HB 0 rfl
  have HB_1 := Blk.cell HB 1 rfl
  have HB_2 := Blk.cell HB 2 rfl
  have HB_f0 := Blk.free HB 0
  have HB_f1 := Blk.free HB 1
  have HB_f2 := Blk.free HB 2
  have IB_0 := Blk.cell IB 0 rfl
  have IB_1 := Blk.cell IB 1 rfl
  have IB_2 := Blk.cell IB 2 rfl
  have IB_f0 := Blk.free IB 0
  have IB_f1 := Blk.free IB 1
  have IB_f2 := Blk.free IB 2
  go_wp2_with fail
  with_reducible refine (dAdd_in m1 hd1 m2 hd2 (hT.onD (by go_grown)) i1 i2 (by omega) (by omega) (by omega) (by omega)).mono ?_
  rintro e w3 ⟨b3, q3, A3, c3, x3, rfl, hd3, m3, hb⟩
  clear HB_0 HB_1 HB_2 HB_f0 HB_f1 HB_f2
  clear IB_0 IB_1 IB_2 IB_f0 IB_f1 IB_f2
  have hs3 := hb.size
  try simp only [World.size_alloc, World.size_setCell] at hs3
  replace bw : Below w.heap.size w w3 := dy_end (by go_grown) hb
  replace m1 := Lv.on m1 hb
  replace m2 := Lv.on m2 hb
  replace HB := Blk.on HB hb
  replace IB := Blk.on IB hb
  clear hb
  have HB_0 := Blk.cell HB 0 rfl
  have HB_1 := Blk.cell HB 1 rfl
  have HB_2 := Blk.cell HB 2 rfl
  have HB_f0 := Blk.free HB 0
  have HB_f1 := Blk.free HB 1
  have HB_f2 := Blk.free HB 2
  have IB_0 := Blk.cell IB 0 rfl
  have IB_1 := Blk.cell IB 1 rfl
  have IB_2 := Blk.cell IB 2 rfl
  have IB_f0 := Blk.free IB 0
  have IB_f1 := Blk.free IB 1
  have IB_f2 := Blk.free IB 2
  replace m1 := Lv.alloc m1 (.cells #[.bool b3, .slice A3 q3.length c3, .int .i64 x3] 24)
  replace m2 := Lv.alloc m2 (.cells #[.bool b3, .slice A3 q3.length c3, .int .i64 x3] 24)
  replace m3 := Lv.alloc m3 (.cells #[.bool b3, .slice A3 q3.length c3, .int .i64 x3] 24)
  replace HB := Blk.alloc HB (.cells #[.bool b3, .slice A3 q3.length c3, .int .i64 x3] 24)
  replace IB := Blk.alloc IB (.cells #[.bool b3, .slice A3 q3.length c3, .int .i64 x3] 24)
  have JB := Blk.new w3 [.bool b3, .slice A3 q3.length c3, .int .i64 x3] 24
  have HB_v0_0 := Blk.cell HB 0 rfl
  have HB_v0_1 := Blk.cell HB 1 rfl
  have HB_v0_2 := Blk.cell HB 2 rfl
  have HB_v0_f0 := Blk.free HB 0
  have HB_v0_f1 := Blk.free HB 1
  have HB_v0_f2 := Blk.free HB 2
  have IB_v1_0 := Blk.cell IB 0 rfl
  have IB_v1_1 := Blk.cell IB 1 rfl
  have IB_v1_2 := Blk.cell IB 2 rfl
  have IB_v1_f0 := Blk.free IB 0
  have IB_v1_f1 := Blk.free IB 1
  have IB_v1_f2 := Blk.free IB 2
  have JB_0 := Blk.cell JB 0 rfl
  have JB_1 := Blk.cell JB 1 rfl
  have JB_2 := Blk.cell JB 2 rfl
  have JB_f0 := Blk.free JB 0
  have JB_f1 := Blk.free JB 1
  have JB_f2 := Blk.free JB 2
  go_wp2_with fail
  with_reducible refine (dSub_in m1 hd1 m2 hd2 (hT.onD (by go_grown)) i1 i2 (by omega) (by omega) (by omega) (by omega)).mono ?_
  rintro e w4 ⟨b4, q4, A4, c4, x4, rfl, hd4, m4, hb⟩
  clear HB_0 HB_1 HB_2 HB_f0 HB_f1 HB_f2 HB_v0_0 HB_v0_1 HB_v0_2 HB_v0_f0 HB_v0_f1 HB_v0_f2
  clear IB_0 IB_1 IB_2 IB_f0 IB_f1 IB_f2 IB_v1_0 IB_v1_1 IB_v1_2 IB_v1_f0 IB_v1_f1 IB_v1_f2
  clear JB_0 JB_1 JB_2 JB_f0 JB_f1 JB_f2
  have hs4 := hb.size
  try simp only [World.size_alloc, World.size_setCell] at hs4
  replace bw : Below w.heap.size w w4 := dy_end (by go_grown) hb
  replace m1 := Lv.on m1 hb
  replace m2 := Lv.on m2 hb
  replace m3 := Lv.on m3 hb
  replace HB := Blk.on HB hb
  replace IB := Blk.on IB hb
  replace JB := Blk.on JB hb
  clear hb
  have HB_0 := Blk.cell HB 0 rfl
  have HB_1 := Blk.cell HB 1 rfl
  have HB_2 := Blk.cell HB 2 rfl
  have HB_f0 := Blk.free HB 0
  have HB_f1 := Blk.free HB 1
  have HB_f2 := Blk.free HB 2
  have IB_0 := Blk.cell IB 0 rfl
  have IB_1 := Blk.cell IB 1 rfl
  have IB_2 := Blk.cell IB 2 rfl
  have IB_f0 := Blk.free IB 0
  have IB_f1 := Blk.free IB 1
  have IB_f2 := Blk.free IB 2
  have JB_0 := Blk.cell JB 0 rfl
  have JB_1 := Blk.cell JB 1 rfl
  have JB_2 := Blk.cell JB 2 rfl
  have JB_f0 := Blk.free JB 0
  have JB_f1 := Blk.free JB 1
  have JB_f2 := Blk.free JB 2
  replace m1 := Lv.alloc m1 (.cells #[.bool b4, .slice A4 q4.length c4, .int .i64 x4] 24)
  replace m2 := Lv.alloc m2 (.cells #[.bool b4, .slice A4 q4.length c4, .int .i64 x4] 24)
  replace m3 := Lv.alloc m3 (.cells #[.bool b4, .slice A4 q4.length c4, .int .i64 x4] 24)
  replace m4 := Lv.alloc m4 (.cells #[.bool b4, .slice A4 q4.length c4, .int .i64 x4] 24)
  replace HB := Blk.alloc HB (.cells #[.bool b4, .slice A4 q4.length c4, .int .i64 x4] 24)
  replace IB := Blk.alloc IB (.cells #[.bool b4, .slice A4 q4.length c4, .int .i64 x4] 24)
  replace JB := Blk.alloc JB (.cells #[.bool b4, .slice A4 q4.length c4, .int .i64 x4] 24)
  have KB := Blk.new w4 [.bool b4, .slice A4 q4.length c4, .int .i64 x4] 24
  have HB_v2_0 := Blk.cell HB 0 rfl
  have HB_v2_1 := Blk.cell HB 1 rfl
  have HB_v2_2 := Blk.cell HB 2 rfl
  have HB_v2_f0 := Blk.free HB 0
  have HB_v2_f1 := Blk.free HB 1
  have HB_v2_f2 := Blk.free HB 2
  have IB_v3_0 := Blk.cell IB 0 rfl
  have IB_v3_1 := Blk.cell IB 1 rfl
  have IB_v3_2 := Blk.cell IB 2 rfl
  have IB_v3_f0 := Blk.free IB 0
  have IB_v3_f1 := Blk.free IB 1
  have IB_v3_f2 := Blk.free IB 2
  have JB_v4_0 := Blk.cell JB 0 rfl
  have JB_v4_1 := Blk.cell JB 1 rfl
  have JB_v4_2 := Blk.cell JB 2 rfl
  have JB_v4_f0 := Blk.free JB 0
  have JB_v4_f1 := Blk.free JB 1
  have JB_v4_f2 := Blk.free JB 2
  have KB_0 := Blk.cell KB 0 rfl
  have KB_1 := Blk.cell KB 1 rfl
  have KB_2 := Blk.cell KB 2 rfl
  have KB_f0 := Blk.free KB 0
  have KB_f1 := Blk.free KB 1
  have KB_f2 := Blk.free KB 2
  go_wp2_with fail
  with_reducible refine (dMul_in m1 hd1 m2 hd2 (hT.onD (by go_grown)) i1 i2 (by omega) (by omega) (by omega) (by omega) (by omega) (by omega) (by omega) (by omega)).mono ?_
  rintro e w5 ⟨b5, q5, A5, c5, x5, rfl, hd5, m5, hb⟩
  clear HB_0 HB_1 HB_2 HB_f0 HB_f1 HB_f2 HB_v2_0 HB_v2_1 HB_v2_2 HB_v2_f0 HB_v2_f1 HB_v2_f2
  clear IB_0 IB_1 IB_2 IB_f0 IB_f1 IB_f2 IB_v3_0 IB_v3_1 IB_v3_2 IB_v3_f0 IB_v3_f1 IB_v3_f2
  clear JB_0 JB_1 JB_2 JB_f0 JB_f1 JB_f2 JB_v4_0 JB_v4_1 JB_v4_2 JB_v4_f0 JB_v4_f1 JB_v4_f2
  clear KB_0 KB_1 KB_2 KB_f0 KB_f1 KB_f2
  have hs5 := hb.size
  try simp only [World.size_alloc, World.size_setCell] at hs5
  replace bw : Below w.heap.size w w5 := dy_end (by go_grown) hb
  replace m1 := Lv.on m1 hb
  replace m2 := Lv.on m2 hb
  replace m3 := Lv.on m3 hb
  replace m4 := Lv.on m4 hb
  replace HB := Blk.on HB hb
  replace IB := Blk.on IB hb
  replace JB := Blk.on JB hb
  replace KB := Blk.on KB hb
  clear hb
  have HB_0 := Blk.cell HB 0 rfl
  have HB_1 := Blk.cell HB 1 rfl
  have HB_2 := Blk.cell HB 2 rfl
  have HB_f0 := Blk.free HB 0
  have HB_f1 := Blk.free HB 1
  have HB_f2 := Blk.free HB 2
  have IB_0 := Blk.cell IB 0 rfl
  have IB_1 := Blk.cell IB 1 rfl
  have IB_2 := Blk.cell IB 2 rfl
  have IB_f0 := Blk.free IB 0
  have IB_f1 := Blk.free IB 1
  have IB_f2 := Blk.free IB 2
  have JB_0 := Blk.cell JB 0 rfl
  have JB_1 := Blk.cell JB 1 rfl
  have JB_2 := Blk.cell JB 2 rfl
  have JB_f0 := Blk.free JB 0
  have JB_f1 := Blk.free JB 1
  have JB_f2 := Blk.free JB 2
  have KB_0 := Blk.cell KB 0 rfl
  have KB_1 := Blk.cell KB 1 rfl
  have KB_2 := Blk.cell KB 2 rfl
  have KB_f0 := Blk.free KB 0
  have KB_f1 := Blk.free KB 1
  have KB_f2 := Blk.free KB 2
  replace m1 := Lv.alloc m1 (.cells #[.bool b5, .slice A5 q5.length c5, .int .i64 x5] 24)
  replace m2 := Lv.alloc m2 (.cells #[.bool b5, .slice A5 q5.length c5, .int .i64 x5] 24)
  replace m3 := Lv.alloc m3 (.cells #[.bool b5, .slice A5 q5.length c5, .int .i64 x5] 24)
  replace m4 := Lv.alloc m4 (.cells #[.bool b5, .slice A5 q5.length c5, .int .i64 x5] 24)
  replace m5 := Lv.alloc m5 (.cells #[.bool b5, .slice A5 q5.length c5, .int .i64 x5] 24)
  replace HB := Blk.alloc HB (.cells #[.bool b5, .slice A5 q5.length c5, .int .i64 x5] 24)
  replace IB := Blk.alloc IB (.cells #[.bool b5, .slice A5 q5.length c5, .int .i64 x5] 24)
  replace JB := Blk.alloc JB (.cells #[.bool b5, .slice A5 q5.length c5, .int .i64 x5] 24)
  replace KB := Blk.alloc KB (.cells #[.bool b5, .slice A5 q5.length c5, .int .i64 x5] 24)
  have MB := Blk.new w5 [.bool b5, .slice A5 q5.length c5, .int .i64 x5] 24
  have HB_v5_0 := Blk.cell HB 0 rfl
  have HB_v5_1 := Blk.cell HB 1 rfl
  have HB_v5_2 := Blk.cell HB 2 rfl
  have HB_v5_f0 := Blk.free HB 0
  have HB_v5_f1 := Blk.free HB 1
  have HB_v5_f2 := Blk.free HB 2
  have IB_v6_0 := Blk.cell IB 0 rfl
  have IB_v6_1 := Blk.cell IB 1 rfl
  have IB_v6_2 := Blk.cell IB 2 rfl
  have IB_v6_f0 := Blk.free IB 0
  have IB_v6_f1 := Blk.free IB 1
  have IB_v6_f2 := Blk.free IB 2
  have JB_v7_0 := Blk.cell JB 0 rfl
  have JB_v7_1 := Blk.cell JB 1 rfl
  have JB_v7_2 := Blk.cell JB 2 rfl
  have JB_v7_f0 := Blk.free JB 0
  have JB_v7_f1 := Blk.free JB 1
  have JB_v7_f2 := Blk.free JB 2
  have KB_v8_0 := Blk.cell KB 0 rfl
  have KB_v8_1 := Blk.cell KB 1 rfl
  have KB_v8_2 := Blk.cell KB 2 rfl
  have KB_v8_f0 := Blk.free KB 0
  have KB_v8_f1 := Blk.free KB 1
  have KB_v8_f2 := Blk.free KB 2
  have MB_0 := Blk.cell MB 0 rfl
  have MB_1 := Blk.cell MB 1 rfl
  have MB_2 := Blk.cell MB 2 rfl
  have MB_f0 := Blk.free MB 0
  have MB_f1 := Blk.free MB 1
  have MB_f2 := Blk.free MB 2
  go_wp2_with fail
  have pf := dFloat_dn hd3 m3 (hT.onD (by go_grown)) (by rw [← hd3.exp]; exact e3)
  rw [G3] at pf
  with_reducible refine (pf).mono ?_
  rintro e w6 ⟨rfl, hb⟩
  clear HB_0 HB_1 HB_2 HB_f0 HB_f1 HB_f2 HB_v5_0 HB_v5_1 HB_v5_2 HB_v5_f0 HB_v5_f1 HB_v5_f2
  clear IB_0 IB_1 IB_2 IB_f0 IB_f1 IB_f2 IB_v6_0 IB_v6_1 IB_v6_2 IB_v6_f0 IB_v6_f1 IB_v6_f2
  clear JB_0 JB_1 JB_2 JB_f0 JB_f1 JB_f2 JB_v7_0 JB_v7_1 JB_v7_2 JB_v7_f0 JB_v7_f1 JB_v7_f2
  clear KB_0 KB_1 KB_2 KB_f0 KB_f1 KB_f2 KB_v8_0 KB_v8_1 KB_v8_2 KB_v8_f0 KB_v8_f1 KB_v8_f2
  clear MB_0 MB_1 MB_2 MB_f0 MB_f1 MB_f2
  have hs6 := hb.size
  try simp only [World.size_alloc, World.size_setCell] at hs6
  replace bw : Below w.heap.size w w6 := dy_end (by go_grown) hb
  replace m1 := Lv.on m1 hb
  replace m2 := Lv.on m2 hb
  replace m3 := Lv.on m3 hb
  replace m4 := Lv.on m4 hb
  replace m5 := Lv.on m5 hb
  replace HB := Blk.on HB hb
  replace IB := Blk.on IB hb
  replace JB := Blk.on JB hb
  replace KB := Blk.on KB hb
  replace MB := Blk.on MB hb
  clear hb
  have HB_0 := Blk.cell HB 0 rfl
  have HB_1 := Blk.cell HB 1 rfl
  have HB_2 := Blk.cell HB 2 rfl
  have HB_f0 := Blk.free HB 0
  have HB_f1 := Blk.free HB 1
  have HB_f2 := Blk.free HB 2
  have IB_0 := Blk.cell IB 0 rfl
  have IB_1 := Blk.cell IB 1 rfl
  have IB_2 := Blk.cell IB 2 rfl
  have IB_f0 := Blk.free IB 0
  have IB_f1 := Blk.free IB 1
  have IB_f2 := Blk.free IB 2
  have JB_0 := Blk.cell JB 0 rfl
  have JB_1 := Blk.cell JB 1 rfl
  have JB_2 := Blk.cell JB 2 rfl
  have JB_f0 := Blk.free JB 0
  have JB_f1 := Blk.free JB 1
  have JB_f2 := Blk.free JB 2
  have KB_0 := Blk.cell KB 0 rfl
  have KB_1 := Blk.cell KB 1 rfl
  have KB_2 := Blk.cell KB 2 rfl
  have KB_f0 := Blk.free KB 0
  have KB_f1 := Blk.free KB 1
  have KB_f2 := Blk.free KB 2
  have MB_0 := Blk.cell MB 0 rfl
  have MB_1 := Blk.cell MB 1 rfl
  have MB_2 := Blk.cell MB 2 rfl
  have MB_f0 := Blk.free MB 0
  have MB_f1 := Blk.free MB 1
  have MB_f2 := Blk.free MB 2
  clear pf
  go_wp2_with fail
  have pf := dFloat_dn hd4 m4 (hT.onD (by go_grown)) (by rw [← hd4.exp]; exact e4)
  rw [G4] at pf
  with_reducible refine (pf).mono ?_
  rintro e w7 ⟨rfl, hb⟩
  clear HB_0 HB_1 HB_2 HB_f0 HB_f1 HB_f2
  clear IB_0 IB_1 IB_2 IB_f0 IB_f1 IB_f2
  clear JB_0 JB_1 JB_2 JB_f0 JB_f1 JB_f2
  clear KB_0 KB_1 KB_2 KB_f0 KB_f1 KB_f2
  clear MB_0 MB_1 MB_2 MB_f0 MB_f1 MB_f2
  have hs7 := hb.size
  try simp only [World.size_alloc, World.size_setCell] at hs7
  replace bw : Below w.heap.size w w7 := dy_end (by go_grown) hb
  replace m1 := Lv.on m1 hb
  replace m2 := Lv.on m2 hb
  replace m3 := Lv.on m3 hb
  replace m4 := Lv.on m4 hb
  replace m5 := Lv.on m5 hb
  replace HB := Blk.on HB hb
  replace IB := Blk.on IB hb
  replace JB := Blk.on JB hb
  replace KB := Blk.on KB hb
  replace MB := Blk.on MB hb
  clear hb
  have HB_0 := Blk.cell HB 0 rfl
  have HB_1 := Blk.cell HB 1 rfl
  have HB_2 := Blk.cell HB 2 rfl
  have HB_f0 := Blk.free HB 0
  have HB_f1 := Blk.free HB 1
  have HB_f2 := Blk.free HB 2
  have IB_0 := Blk.cell IB 0 rfl
  have IB_1 := Blk.cell IB 1 rfl
  have IB_2 := Blk.cell IB 2 rfl
  have IB_f0 := Blk.free IB 0
  have IB_f1 := Blk.free IB 1
  have IB_f2 := Blk.free IB 2
  have JB_0 := Blk.cell JB 0 rfl
  have JB_1 := Blk.cell JB 1 rfl
  have JB_2 := Blk.cell JB 2 rfl
  have JB_f0 := Blk.free JB 0
  have JB_f1 := Blk.free JB 1
  have JB_f2 := Blk.free JB 2
  have KB_0 := Blk.cell KB 0 rfl
  have KB_1 := Blk.cell KB 1 rfl
  have KB_2 := Blk.cell KB 2 rfl
  have KB_f0 := Blk.free KB 0
  have KB_f1 := Blk.free KB 1
  have KB_f2 := Blk.free KB 2
  have MB_0 := Blk.cell MB 0 rfl
  have MB_1 := Blk.cell MB 1 rfl
  have MB_2 := Blk.cell MB 2 rfl
  have MB_f0 := Blk.free MB 0
  have MB_f1 := Blk.free MB 1
  have MB_f2 := Blk.free MB 2
  clear pf
  go_wp2_with fail
  have pf := dFloat_dn hd5 m5 (hT.onD (by go_grown)) (by rw [← hd5.exp]; exact e5)
  rw [G5] at pf
  with_reducible refine (pf).mono ?_
  rintro e w8 ⟨rfl, hb⟩
  clear HB_0 HB_1 HB_2 HB_f0 HB_f1 HB_f2
  clear IB_0 IB_1 IB_2 IB_f0 IB_f1 IB_f2
  clear JB_0 JB_1 JB_2 JB_f0 JB_f1 JB_f2
  clear KB_0 KB_1 KB_2 KB_f0 KB_f1 KB_f2
  clear MB_0 MB_1 MB_2 MB_f0 MB_f1 MB_f2
  have hs8 := hb.size
  try simp only [World.size_alloc, World.size_setCell] at hs8
  replace bw : Below w.heap.size w w8 := dy_end (by go_grown) hb
  replace m1 := Lv.on m1 hb
  replace m2 := Lv.on m2 hb
  replace m3 := Lv.on m3 hb
  replace m4 := Lv.on m4 hb
  replace m5 := Lv.on m5 hb
  replace HB := Blk.on HB hb
  replace IB := Blk.on IB hb
  replace JB := Blk.on JB hb
  replace KB := Blk.on KB hb
  replace MB := Blk.on MB hb
  clear hb
  have HB_0 := Blk.cell HB 0 rfl
  have HB_1 := Blk.cell HB 1 rfl
  have HB_2 := Blk.cell HB 2 rfl
  have HB_f0 := Blk.free HB 0
  have HB_f1 := Blk.free HB 1
  have HB_f2 := Blk.free HB 2
  have IB_0 := Blk.cell IB 0 rfl
  have IB_1 := Blk.cell IB 1 rfl
  have IB_2 := Blk.cell IB 2 rfl
  have IB_f0 := Blk.free IB 0
  have IB_f1 := Blk.free IB 1
  have IB_f2 := Blk.free IB 2
  have JB_0 := Blk.cell JB 0 rfl
  have JB_1 := Blk.cell JB 1 rfl
  have JB_2 := Blk.cell JB 2 rfl
  have JB_f0 := Blk.free JB 0
  have JB_f1 := Blk.free JB 1
  have JB_f2 := Blk.free JB 2
  have KB_0 := Blk.cell KB 0 rfl
  have KB_1 := Blk.cell KB 1 rfl
  have KB_2 := Blk.cell KB 2 rfl
  have KB_f0 := Blk.free KB 0
  have KB_f1 := Blk.free KB 1
  have KB_f2 := Blk.free KB 2
  have MB_0 := Blk.cell MB 0 rfl
  have MB_1 := Blk.cell MB 1 rfl
  have MB_2 := Blk.cell MB 2 rfl
  have MB_f0 := Blk.free MB 0
  have MB_f1 := Blk.free MB 1
  have MB_f2 := Blk.free MB 2
  clear pf
  clear G3 G4 G5
  have w00 : IntKind.i64.wrap 0 = 0 := by rfl
  go_wp2_with fail
  with_reducible refine (lnum_any (0) _).mono ?_
  rintro e v9 ⟨rfl, rfl⟩
  go_wp2_with fail
  with_reducible refine (lnum_any (0) _).mono ?_
  rintro e v10 ⟨rfl, rfl⟩
  go_wp2_with fail
  with_reducible refine (lnum_any (0) _).mono ?_
  rintro e v11 ⟨rfl, rfl⟩
  go_wp2_with fail
  with_reducible refine (lnum_any (0) _).mono ?_
  rintro e v12 ⟨rfl, rfl⟩
  go_wp2_with fail
  with_reducible refine (lnum_any (0) _).mono ?_
  rintro e v13 ⟨rfl, rfl⟩
  go_wp2_with fail
  with_reducible refine (lnum_any (0) _).mono ?_
  rintro e v14 ⟨rfl, rfl⟩
  go_wp2_with fail
  with_reducible refine (dknown_any _ (hT.onD (by go_grown)) (hP.on (by go_grown))).mono ?_
  rintro e w15 ⟨rfl, hb⟩
  clear HB_0 HB_1 HB_2 HB_f0 HB_f1 HB_f2
  clear IB_0 IB_1 IB_2 IB_f0 IB_f1 IB_f2
  clear JB_0 JB_1 JB_2 JB_f0 JB_f1 JB_f2
  clear KB_0 KB_1 KB_2 KB_f0 KB_f1 KB_f2
  clear MB_0 MB_1 MB_2 MB_f0 MB_f1 MB_f2
  have hs15 := hb.size
  try simp only [World.size_alloc, World.size_setCell] at hs15
  replace bw : Below w.heap.size w w15 := dy_end (by go_grown) hb
  replace m1 := Lv.on m1 hb
  replace m2 := Lv.on m2 hb
  replace m3 := Lv.on m3 hb
  replace m4 := Lv.on m4 hb
  replace m5 := Lv.on m5 hb
  replace HB := Blk.on HB hb
  replace IB := Blk.on IB hb
  replace JB := Blk.on JB hb
  replace KB := Blk.on KB hb
  replace MB := Blk.on MB hb
  clear hb
  have HB_0 := Blk.cell HB 0 rfl
  have HB_1 := Blk.cell HB 1 rfl
  have HB_2 := Blk.cell HB 2 rfl
  have HB_f0 := Blk.free HB 0
  have HB_f1 := Blk.free HB 1
  have HB_f2 := Blk.free HB 2
  have IB_0 := Blk.cell IB 0 rfl
  have IB_1 := Blk.cell IB 1 rfl
  have IB_2 := Blk.cell IB 2 rfl
  have IB_f0 := Blk.free IB 0
  have IB_f1 := Blk.free IB 1
  have IB_f2 := Blk.free IB 2
  have JB_0 := Blk.cell JB 0 rfl
  have JB_1 := Blk.cell JB 1 rfl
  have JB_2 := Blk.cell JB 2 rfl
  have JB_f0 := Blk.free JB 0
  have JB_f1 := Blk.free JB 1
  have JB_f2 := Blk.free JB 2
  have KB_0 := Blk.cell KB 0 rfl
  have KB_1 := Blk.cell KB 1 rfl
  have KB_2 := Blk.cell KB 2 rfl
  have KB_f0 := Blk.free KB 0
  have KB_f1 := Blk.free KB 1
  have KB_f2 := Blk.free KB 2
  have MB_0 := Blk.cell MB 0 rfl
  have MB_1 := Blk.cell MB 1 rfl
  have MB_2 := Blk.cell MB 2 rfl
  have MB_f0 := Blk.free MB 0
  have MB_f1 := Blk.free MB 1
  have MB_f2 := Blk.free MB 2
  go_wp2_with fail
  go_ret
  exact ⟨rfl, by go_grown⟩


theorem mach_law (a0 a1 : Int) (w : World) (h0 : 0 ≤ a0) (h1 : a0 ≤ 18446744073709551615) (h2 : 0 ≤ a1) (h3 : a1 ≤ 18446744073709551615) (hT : Tab w) (hP : PowT w) :
    Calls Tryz.prog 11 #[.int .u64 a0, .int .u64 a1] w fun e w' => e = .returned (.bool true) ∧ Below w.heap.size w w' := by
  obtain ⟨y, rfl⟩ := Int.eq_ofNat_of_zero_le h0
  obtain ⟨z, rfl⟩ := Int.eq_ofNat_of_zero_le h2
  rcases Int.lt_or_le 3 (cls (y : Int)) with hc | hc
  · exact mach_noa y (by omega) z (by omega) hc hT hP
  · rcases Int.lt_or_le 3 (cls (z : Int)) with hc2 | hc2
    · exact mach_nob y (by omega) z (by omega) hc hc2 hT hP
    · exact mach_yes y (by omega) z (by omega) hc hc2 hT hP
end
end Go.Proofs.YtknomchkfamajaaGreatDoor
