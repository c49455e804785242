/-
  Layer 3, the laws: the law of whole numbers. (Written by a script of wip/tools.)
-/
import Derived.Test.YtknomchkfamajaaGreatDoorDyTab
import Derived.Test.YtknomchkfamajaaGreatDoorDyV
import Derived.Test.YtknomchkfamajaaGreatDoorDyX
namespace Go.Proofs.YtknomchkfamajaaGreatDoor
open Go.RowKit Go.Bw
set_option linter.unusedVariables false
set_option linter.unusedSimpArgs false

section
set_option maxRecDepth 100000 in
set_option maxHeartbeats 8000000 in
theorem wholes_law (n k : Int) (n0 : -9223372036854775808 ≤ n) (n1 : n ≤ 9223372036854775807) (w : World) (hT : Tab w) (hP : PowT w) :
    Calls Tryz.prog 5 #[.int .i64 n, .int .i64 k] w fun e w' => e = .returned (.bool true) ∧ Below w.heap.size w w' := by
  have bw : Below w.heap.size w w := Below.refl _ _
  go_enter Tryz.func5, Tryz.ntmps5
  go_wp2_with fail
  with_reducible refine (dHalf_any k _).mono ?_
  rintro e w1 ⟨b1, q1, A1, c1, x1, rfl, hd1, m1, hb⟩
  have hs1 := hb.size
  try simp only [World.size_alloc, World.size_setCell] at hs1
  replace bw : Below w.heap.size w w1 := dy_end (by go_grown) hb
  clear hb
  replace m1 := Lv.alloc m1 (.cells #[.bool b1, .slice A1 q1.length c1, .int .i64 x1] 24)
  have HB := Blk.new w1 [.bool b1, .slice A1 q1.length c1, .int .i64 x1] 24
  have HB_0 := Blk.cell HB 0 rfl
  have HB_1 := Blk.cell HB 1 rfl
  have HB_2 := Blk.cell HB 2 rfl
  have HB_f0 := Blk.free HB 0
  have HB_f1 := Blk.free HB 1
  have HB_f2 := Blk.free HB 2
  go_wp2_with fail
  with_reducible refine (rHalf_any k _).mono ?_
  rintro e w2 ⟨b2, q2, A2, c2, x2, rfl, hd2, m2, hb⟩
  clear HB_0 HB_1 HB_2 HB_f0 HB_f1 HB_f2
  have hs2 := hb.size
  try simp only [World.size_alloc, World.size_setCell] at hs2
  replace bw : Below w.heap.size w w2 := dy_end (by go_grown) hb
  replace m1 := Lv.on m1 hb
  replace HB := Blk.on HB hb
  clear hb
  have HB_0 := Blk.cell HB 0 rfl
  have HB_1 := Blk.cell HB 1 rfl
  have HB_2 := Blk.cell HB 2 rfl
  have HB_f0 := Blk.free HB 0
  have HB_f1 := Blk.free HB 1
  have HB_f2 := Blk.free HB 2
  replace m1 := Lv.alloc m1 (.cells #[.bool b2, .slice A2 q2.length c2, .int .i64 x2] 24)
  replace m2 := Lv.alloc m2 (.cells #[.bool b2, .slice A2 q2.length c2, .int .i64 x2] 24)
  replace HB := Blk.alloc HB (.cells #[.bool b2, .slice A2 q2.length c2, .int .i64 x2] 24)
  have IB := Blk.new w2 [.bool b2, .slice A2 q2.length c2, .int .i64 x2] 24
  have HB_v0_0 := Blk.cell HB 0 rfl
  have HB_v0_1 := Blk.cell HB 1 rfl
  have HB_v0_2 := Blk.cell HB 2 rfl
  have HB_v0_f0 := Blk.free HB 0
  have HB_v0_f1 := Blk.free HB 1
  have HB_v0_f2 := Blk.free HB 2
  have IB_0 := Blk.cell IB 0 rfl
  have IB_1 := Blk.cell IB 1 rfl
  have IB_2 := Blk.cell IB 2 rfl
  have IB_f0 := Blk.free IB 0
  have IB_f1 := Blk.free IB 1
  have IB_f2 := Blk.free IB 2
  go_wp2_with fail
  with_reducible refine (dWhole_any n (hT.onD (by go_grown)) n0 n1).mono ?_
  rintro e w3 ⟨b3, q3, A3, c3, x3, rfl, hd3, m3, hb⟩
  clear HB_0 HB_1 HB_2 HB_f0 HB_f1 HB_f2 HB_v0_0 HB_v0_1 HB_v0_2 HB_v0_f0 HB_v0_f1 HB_v0_f2
  clear IB_0 IB_1 IB_2 IB_f0 IB_f1 IB_f2
  have hs3 := hb.size
  try simp only [World.size_alloc, World.size_setCell] at hs3
  replace bw : Below w.heap.size w w3 := dy_end (by go_grown) hb
  replace m1 := Lv.on m1 hb
  replace m2 := Lv.on m2 hb
  replace HB := Blk.on HB hb
  replace IB := Blk.on IB hb
  clear hb
  have HB_0 := Blk.cell HB 0 rfl
  have HB_1 := Blk.cell HB 1 rfl
  have HB_2 := Blk.cell HB 2 rfl
  have HB_f0 := Blk.free HB 0
  have HB_f1 := Blk.free HB 1
  have HB_f2 := Blk.free HB 2
  have IB_0 := Blk.cell IB 0 rfl
  have IB_1 := Blk.cell IB 1 rfl
  have IB_2 := Blk.cell IB 2 rfl
  have IB_f0 := Blk.free IB 0
  have IB_f1 := Blk.free IB 1
  have IB_f2 := Blk.free IB 2
  go_wp2_with fail
  with_reducible refine (rWhole_any n _ n0 n1).mono ?_
  rintro e w4 ⟨b4, q4, A4, c4, x4, rfl, hd4, m4, hb⟩
  clear HB_0 HB_1 HB_2 HB_f0 HB_f1 HB_f2
  clear IB_0 IB_1 IB_2 IB_f0 IB_f1 IB_f2
  have hs4 := hb.size
  try simp only [World.size_alloc, World.size_setCell] at hs4
  replace bw : Below w.heap.size w w4 := dy_end (by go_grown) hb
  replace m1 := Lv.on m1 hb
  replace m2 := Lv.on m2 hb
  replace m3 := Lv.on m3 hb
  replace HB := Blk.on HB hb
  replace IB := Blk.on IB hb
  clear hb
  have HB_0 := Blk.cell HB 0 rfl
  have HB_1 := Blk.cell HB 1 rfl
  have HB_2 := Blk.cell HB 2 rfl
  have HB_f0 := Blk.free HB 0
  have HB_f1 := Blk.free HB 1
  have HB_f2 := Blk.free HB 2
  have IB_0 := Blk.cell IB 0 rfl
  have IB_1 := Blk.cell IB 1 rfl
  have IB_2 := Blk.cell IB 2 rfl
  have IB_f0 := Blk.free IB 0
  have IB_f1 := Blk.free IB 1
  have IB_f2 := Blk.free IB 2
  go_wp2_with fail
  obtain ⟨z1, z2, z3⟩ := Dn.uniq hd4 hd3 m4.lim m3.lim
  subst z1 z2 z3
  go_wp2_with fail
  with_reducible refine (rSame_any m3 m4).mono ?_
  rintro e w6 ⟨rfl, hb⟩
  clear HB_0 HB_1 HB_2 HB_f0 HB_f1 HB_f2
  clear IB_0 IB_1 IB_2 IB_f0 IB_f1 IB_f2
  have hs6 := hb.size
  try simp only [World.size_alloc, World.size_setCell] at hs6
  replace bw : Below w.heap.size w w6 := dy_end (by go_grown) hb
  replace m1 := Lv.on m1 hb
  replace m2 := Lv.on m2 hb
  replace m3 := Lv.on m3 hb
  replace m4 := Lv.on m4 hb
  replace HB := Blk.on HB hb
  replace IB := Blk.on IB hb
  clear hb
  have HB_0 := Blk.cell HB 0 rfl
  have HB_1 := Blk.cell HB 1 rfl
  have HB_2 := Blk.cell HB 2 rfl
  have HB_f0 := Blk.free HB 0
  have HB_f1 := Blk.free HB 1
  have HB_f2 := Blk.free HB 2
  have IB_0 := Blk.cell IB 0 rfl
  have IB_1 := Blk.cell IB 1 rfl
  have IB_2 := Blk.cell IB 2 rfl
  have IB_f0 := Blk.free IB 0
  have IB_f1 := Blk.free IB 1
  have IB_f2 := Blk.free IB 2
  go_wp2_with fail
  obtain ⟨z1, z2, z3⟩ := Dn.uniq hd2 hd1 m2.lim m1.lim
  subst z1 z2 z3
  go_wp2_with fail
  with_reducible refine (rSame_any m1 m2).mono ?_
  rintro e w8 ⟨rfl, hb⟩
  clear HB_0 HB_1 HB_2 HB_f0 HB_f1 HB_f2
  clear IB_0 IB_1 IB_2 IB_f0 IB_f1 IB_f2
  have hs8 := hb.size
  try simp only [World.size_alloc, World.size_setCell] at hs8
  replace bw : Below w.heap.size w w8 := dy_end (by go_grown) hb
  replace m1 := Lv.on m1 hb
  replace m2 := Lv.on m2 hb
  replace m3 := Lv.on m3 hb
  replace m4 := Lv.on m4 hb
  replace HB := Blk.on HB hb
  replace IB := Blk.on IB hb
  clear hb
  have HB_0 := Blk.cell HB 0 rfl
  have HB_1 := Blk.cell HB 1 rfl
  have HB_2 := Blk.cell HB 2 rfl
  have HB_f0 := Blk.free HB 0
  have HB_f1 := Blk.free HB 1
  have HB_f2 := Blk.free HB 2
  have IB_0 := Blk.cell IB 0 rfl
  have IB_1 := Blk.cell IB 1 rfl
  have IB_2 := Blk.cell IB 2 rfl
  have IB_f0 := Blk.free IB 0
  have IB_f1 := Blk.free IB 1
  have IB_f2 := Blk.free IB 2
  go_wp2_with fail
  with_reducible refine (lnum_any ((ansR false 1 k).2) _).mono ?_
  rintro e v9 ⟨rfl, rfl⟩
  go_wp2_with fail
  with_reducible refine (dknown_any _ (hT.onD (by go_grown)) (hP.on (by go_grown))).mono ?_
  rintro e w10 ⟨rfl, hb⟩
  clear HB_0 HB_1 HB_2 HB_f0 HB_f1 HB_f2
  clear IB_0 IB_1 IB_2 IB_f0 IB_f1 IB_f2
  have hs10 := hb.size
  try simp only [World.size_alloc, World.size_setCell] at hs10
  replace bw : Below w.heap.size w w10 := dy_end (by go_grown) hb
  replace m1 := Lv.on m1 hb
  replace m2 := Lv.on m2 hb
  replace m3 := Lv.on m3 hb
  replace m4 := Lv.on m4 hb
  replace HB := Blk.on HB hb
  replace IB := Blk.on IB hb
  clear hb
  have HB_0 := Blk.cell HB 0 rfl
  have HB_1 := Blk.cell HB 1 rfl
  have HB_2 := Blk.cell HB 2 rfl
  have HB_f0 := Blk.free HB 0
  have HB_f1 := Blk.free HB 1
  have HB_f2 := Blk.free HB 2
  have IB_0 := Blk.cell IB 0 rfl
  have IB_1 := Blk.cell IB 1 rfl
  have IB_2 := Blk.cell IB 2 rfl
  have IB_f0 := Blk.free IB 0
  have IB_f1 := Blk.free IB 1
  have IB_f2 := Blk.free IB 2
  go_wp2_with fail
  go_ret
  exact ⟨rfl, by go_grown⟩

end
end Go.Proofs.YtknomchkfamajaaGreatDoor
