/-
  Layer 4, walks, part seven: sums and products of numbers.
-/
import Derived.Test.YtfjellhbcjnjkaaGreatDoorSgG
import Derived.Test.YtfjellhbcjnjkaaGreatDoorSDyNB
import Derived.Deep.RegionHeld
namespace Go.Proofs.YtfjellhbcjnjkaaGreatDoor
open Go.RowKit Go.Sort Go.Bw
set_option linter.unusedVariables false
set_option linter.unusedSimpArgs false

section
variable {b1 : Bool} {A1 : Option Addr} {c1 : Nat} {x1 : Int} {l1 : List Int} {w : World} {d1 : Nf}
variable {b2 : Bool} {A2 : Option Addr} {c2 : Nat} {x2 : Int} {l2 : List Int} {d2 : Nf}
variable {k1 k2 : Int} {s1 s2 : Bool}
theorem sumT_bd (x y : Int) : 0 ≤ sumT x y ∧ sumT x y ≤ 7 := by unfold sumT; repeat' split <;> omega
theorem proT_bd (x y : Int) : 0 ≤ proT x y ∧ proT x y ≤ 7 := by unfold proT; repeat' split <;> omega
theorem quoT_bd (x y : Int) : 0 ≤ quoT x y ∧ quoT x y ≤ 7 := by unfold quoT; repeat' split <;> omega
set_option maxRecDepth 100000 in
set_option maxHeartbeats 4000000 in
theorem sumOne_any (hd1 : Dn b1 l1 x1 d1) (h1 : Lv w A1 l1.length c1 l1) (hd2 : Dn b2 l2 x2 d2) (h2 : Lv w A2 l2.length c2 l2) (hT : Tab w) (i1 : d1.In (-2148) 2048) (i2 : d2.In (-2148) 2048) :
    Calls Tryz.prog 69 #[dyV b1 A1 l1.length c1 x1, dyV b2 A2 l2.length c2 x2] w (NuP (nuN (sumN d1 d2)) w) := by
  have PB := Blk.new w [.bool b1, .slice A1 l1.length c1, .int .i64 x1] 35
  have QB := Blk.new (w.alloc (.cells #[.bool b1, .slice A1 l1.length c1, .int .i64 x1] 35)) [.bool b2, .slice A2 l2.length c2, .int .i64 x2] 35
  simp only [World.size_alloc] at QB
  replace PB := Blk.alloc PB (.cells #[.bool b2, .slice A2 l2.length c2, .int .i64 x2] 35)
  have RB := Blk.new ((w.alloc (.cells #[.bool b1, .slice A1 l1.length c1, .int .i64 x1] 35)).alloc (.cells #[.bool b2, .slice A2 l2.length c2, .int .i64 x2] 35)) [.int .i64 0, .bool false, .bool false, .slice none 0 0, .int .i64 0] 52
  simp only [World.size_alloc] at RB
  replace PB := Blk.alloc PB (.cells #[.int .i64 0, .bool false, .bool false, .slice none 0 0, .int .i64 0] 52)
  replace QB := Blk.alloc QB (.cells #[.int .i64 0, .bool false, .bool false, .slice none 0 0, .int .i64 0] 52)
  have bw : Below w.heap.size w (((w.alloc (.cells #[.bool b1, .slice A1 l1.length c1, .int .i64 x1] 35)).alloc (.cells #[.bool b2, .slice A2 l2.length c2, .int .i64 x2] 35)).alloc (.cells #[.int .i64 0, .bool false, .bool false, .slice none 0 0, .int .i64 0] 52)) := by go_grown
  have PB_0 := Blk.cell PB 0 rfl
  have PB_1 := Blk.cell PB 1 rfl
  have PB_2 := Blk.cell PB 2 rfl
  have PB_f0 := Blk.free PB 0
  have PB_f1 := Blk.free PB 1
  have PB_f2 := Blk.free PB 2
  have QB_0 := Blk.cell QB 0 rfl
  have QB_1 := Blk.cell QB 1 rfl
  have QB_2 := Blk.cell QB 2 rfl
  have QB_f0 := Blk.free QB 0
  have QB_f1 := Blk.free QB 1
  have QB_f2 := Blk.free QB 2
  have RB_0 := Blk.cell RB 0 rfl
  have RB_1 := Blk.cell RB 1 rfl
  have RB_2 := Blk.cell RB 2 rfl
  have RB_3 := Blk.cell RB 3 rfl
  have RB_4 := Blk.cell RB 4 rfl
  have RB_f0 := Blk.free RB 0
  have RB_f1 := Blk.free RB 1
  have RB_f2 := Blk.free RB 2
  have RB_f3 := Blk.free RB 3
  have RB_f4 := Blk.free RB 4
  replace h1 := h1.on bw
  replace h2 := h2.on bw
  go_enter Tryz.func69, Tryz.ntmps69
  go_wp2_with fail
  with_reducible refine (dAdd_in h1 hd1 h2 hd2 (hT.onD (by go_grown)) i1 i2 (by omega) (by omega) (by omega) (by omega)).mono ?_
  rintro e w1 ⟨b3, l3, A3, c3, x3, rfl, hd3, m3, hb⟩
  clear PB_0 PB_1 PB_2 PB_f0 PB_f1 PB_f2
  clear QB_0 QB_1 QB_2 QB_f0 QB_f1 QB_f2
  clear RB_0 RB_1 RB_2 RB_3 RB_4 RB_f0 RB_f1 RB_f2 RB_f3 RB_f4
  have hs1 := hb.size
  try simp only [World.size_alloc, World.size_setCell] at hs1
  replace bw : Below w.heap.size w w1 := dy_end (by go_grown) hb
  replace h1 := Lv.on h1 hb
  replace h2 := Lv.on h2 hb
  replace PB := Blk.on PB hb
  replace QB := Blk.on QB hb
  replace RB := Blk.on RB hb
  clear hb
  have PB_0 := Blk.cell PB 0 rfl
  have PB_1 := Blk.cell PB 1 rfl
  have PB_2 := Blk.cell PB 2 rfl
  have PB_f0 := Blk.free PB 0
  have PB_f1 := Blk.free PB 1
  have PB_f2 := Blk.free PB 2
  have QB_0 := Blk.cell QB 0 rfl
  have QB_1 := Blk.cell QB 1 rfl
  have QB_2 := Blk.cell QB 2 rfl
  have QB_f0 := Blk.free QB 0
  have QB_f1 := Blk.free QB 1
  have QB_f2 := Blk.free QB 2
  have RB_0 := Blk.cell RB 0 rfl
  have RB_1 := Blk.cell RB 1 rfl
  have RB_2 := Blk.cell RB 2 rfl
  have RB_3 := Blk.cell RB 3 rfl
  have RB_4 := Blk.cell RB 4 rfl
  have RB_f0 := Blk.free RB 0
  have RB_f1 := Blk.free RB 1
  have RB_f2 := Blk.free RB 2
  have RB_f3 := Blk.free RB 3
  have RB_f4 := Blk.free RB 4
  have o3 : okE x3 = true := by rw [← hd3.exp]; exact in_okE (sumN_ok _ _) (sumN_in hd1.2.2.2 hd2.2.2.2 i1 i2 (by omega)) (by omega) (by omega)
  replace h1 := Lv.alloc h1 (.cells #[.bool b3, .slice A3 l3.length c3, .int .i64 x3] 35)
  replace h2 := Lv.alloc h2 (.cells #[.bool b3, .slice A3 l3.length c3, .int .i64 x3] 35)
  replace m3 := Lv.alloc m3 (.cells #[.bool b3, .slice A3 l3.length c3, .int .i64 x3] 35)
  clear PB_0 PB_1 PB_2 PB_f0 PB_f1 PB_f2
  replace PB := Blk.alloc PB (.cells #[.bool b3, .slice A3 l3.length c3, .int .i64 x3] 35)
  clear QB_0 QB_1 QB_2 QB_f0 QB_f1 QB_f2
  replace QB := Blk.alloc QB (.cells #[.bool b3, .slice A3 l3.length c3, .int .i64 x3] 35)
  clear RB_0 RB_1 RB_2 RB_3 RB_4 RB_f0 RB_f1 RB_f2 RB_f3 RB_f4
  replace RB := Blk.alloc RB (.cells #[.bool b3, .slice A3 l3.length c3, .int .i64 x3] 35)
  have DB := Blk.new w1 [.bool b3, .slice A3 l3.length c3, .int .i64 x3] 35
  try simp only [World.size_alloc] at DB
  have PB_0 := Blk.cell PB 0 rfl
  have PB_1 := Blk.cell PB 1 rfl
  have PB_2 := Blk.cell PB 2 rfl
  have PB_f0 := Blk.free PB 0
  have PB_f1 := Blk.free PB 1
  have PB_f2 := Blk.free PB 2
  have QB_0 := Blk.cell QB 0 rfl
  have QB_1 := Blk.cell QB 1 rfl
  have QB_2 := Blk.cell QB 2 rfl
  have QB_f0 := Blk.free QB 0
  have QB_f1 := Blk.free QB 1
  have QB_f2 := Blk.free QB 2
  have RB_0 := Blk.cell RB 0 rfl
  have RB_1 := Blk.cell RB 1 rfl
  have RB_2 := Blk.cell RB 2 rfl
  have RB_3 := Blk.cell RB 3 rfl
  have RB_4 := Blk.cell RB 4 rfl
  have RB_f0 := Blk.free RB 0
  have RB_f1 := Blk.free RB 1
  have RB_f2 := Blk.free RB 2
  have RB_f3 := Blk.free RB 3
  have RB_f4 := Blk.free RB 4
  have DB_0 := Blk.cell DB 0 rfl
  have DB_1 := Blk.cell DB 1 rfl
  have DB_2 := Blk.cell DB 2 rfl
  have DB_f0 := Blk.free DB 0
  have DB_f1 := Blk.free DB 1
  have DB_f2 := Blk.free DB 2
  go_wp2_with fail
  with_reducible refine (exactly_any hd3 m3 (hT.onD (by go_grown)) o3).mono ?_
  rintro e w2 ⟨b4, l4, A4, c4, x4, rfl, hd4, m4, hb⟩
  clear PB_0 PB_1 PB_2 PB_f0 PB_f1 PB_f2
  clear QB_0 QB_1 QB_2 QB_f0 QB_f1 QB_f2
  clear RB_0 RB_1 RB_2 RB_3 RB_4 RB_f0 RB_f1 RB_f2 RB_f3 RB_f4
  clear DB_0 DB_1 DB_2 DB_f0 DB_f1 DB_f2
  have hs2 := hb.size
  try simp only [World.size_alloc, World.size_setCell] at hs2
  replace bw : Below w.heap.size w w2 := dy_end (by go_grown) hb
  replace h1 := Lv.on h1 hb
  replace h2 := Lv.on h2 hb
  replace m3 := Lv.on m3 hb
  replace PB := Blk.on PB hb
  replace QB := Blk.on QB hb
  replace RB := Blk.on RB hb
  replace DB := Blk.on DB hb
  clear hb
  have PB_0 := Blk.cell PB 0 rfl
  have PB_1 := Blk.cell PB 1 rfl
  have PB_2 := Blk.cell PB 2 rfl
  have PB_f0 := Blk.free PB 0
  have PB_f1 := Blk.free PB 1
  have PB_f2 := Blk.free PB 2
  have QB_0 := Blk.cell QB 0 rfl
  have QB_1 := Blk.cell QB 1 rfl
  have QB_2 := Blk.cell QB 2 rfl
  have QB_f0 := Blk.free QB 0
  have QB_f1 := Blk.free QB 1
  have QB_f2 := Blk.free QB 2
  have RB_0 := Blk.cell RB 0 rfl
  have RB_1 := Blk.cell RB 1 rfl
  have RB_2 := Blk.cell RB 2 rfl
  have RB_3 := Blk.cell RB 3 rfl
  have RB_4 := Blk.cell RB 4 rfl
  have RB_f0 := Blk.free RB 0
  have RB_f1 := Blk.free RB 1
  have RB_f2 := Blk.free RB 2
  have RB_f3 := Blk.free RB 3
  have RB_f4 := Blk.free RB 4
  have DB_0 := Blk.cell DB 0 rfl
  have DB_1 := Blk.cell DB 1 rfl
  have DB_2 := Blk.cell DB 2 rfl
  have DB_f0 := Blk.free DB 0
  have DB_f1 := Blk.free DB 1
  have DB_f2 := Blk.free DB 2
  go_wp2_with fail
  refine bodyPost_ret (v := nuV (nuN (sumN d1 d2)).c (nuN (sumN d1 d2)).neg b4 A4 l4.length c4 x4) (by simp [results, Tryz.results69, go_sem, PB_0, PB_1, PB_2, PB_f0, PB_f1, PB_f2, QB_0, QB_1, QB_2, QB_f0, QB_f1, QB_f2, RB_0, RB_1, RB_2, RB_3, RB_4, RB_f0, RB_f1, RB_f2, RB_f3, RB_f4, DB_0, DB_1, DB_2, DB_f0, DB_f1, DB_f2]) rfl ?_
  exact ⟨b4, l4, A4, c4, x4, rfl, hd4, m4.put5 RB _ _ _ _ _ _ _, by go_grown⟩

set_option maxRecDepth 100000 in
set_option maxHeartbeats 4000000 in
theorem proOne_any (hd1 : Dn b1 l1 x1 d1) (h1 : Lv w A1 l1.length c1 l1) (hd2 : Dn b2 l2 x2 d2) (h2 : Lv w A2 l2.length c2 l2) (hT : Tab w) (i1 : d1.In (-1074) 1024) (i2 : d2.In (-1074) 1024) :
    Calls Tryz.prog 77 #[dyV b1 A1 l1.length c1 x1, dyV b2 A2 l2.length c2 x2] w (NuP (nuN (mulN d1 d2)) w) := by
  have PB := Blk.new w [.bool b1, .slice A1 l1.length c1, .int .i64 x1] 35
  have QB := Blk.new (w.alloc (.cells #[.bool b1, .slice A1 l1.length c1, .int .i64 x1] 35)) [.bool b2, .slice A2 l2.length c2, .int .i64 x2] 35
  simp only [World.size_alloc] at QB
  replace PB := Blk.alloc PB (.cells #[.bool b2, .slice A2 l2.length c2, .int .i64 x2] 35)
  have RB := Blk.new ((w.alloc (.cells #[.bool b1, .slice A1 l1.length c1, .int .i64 x1] 35)).alloc (.cells #[.bool b2, .slice A2 l2.length c2, .int .i64 x2] 35)) [.int .i64 0, .bool false, .bool false, .slice none 0 0, .int .i64 0] 52
  simp only [World.size_alloc] at RB
  replace PB := Blk.alloc PB (.cells #[.int .i64 0, .bool false, .bool false, .slice none 0 0, .int .i64 0] 52)
  replace QB := Blk.alloc QB (.cells #[.int .i64 0, .bool false, .bool false, .slice none 0 0, .int .i64 0] 52)
  have bw : Below w.heap.size w (((w.alloc (.cells #[.bool b1, .slice A1 l1.length c1, .int .i64 x1] 35)).alloc (.cells #[.bool b2, .slice A2 l2.length c2, .int .i64 x2] 35)).alloc (.cells #[.int .i64 0, .bool false, .bool false, .slice none 0 0, .int .i64 0] 52)) := by go_grown
  have PB_0 := Blk.cell PB 0 rfl
  have PB_1 := Blk.cell PB 1 rfl
  have PB_2 := Blk.cell PB 2 rfl
  have PB_f0 := Blk.free PB 0
  have PB_f1 := Blk.free PB 1
  have PB_f2 := Blk.free PB 2
  have QB_0 := Blk.cell QB 0 rfl
  have QB_1 := Blk.cell QB 1 rfl
  have QB_2 := Blk.cell QB 2 rfl
  have QB_f0 := Blk.free QB 0
  have QB_f1 := Blk.free QB 1
  have QB_f2 := Blk.free QB 2
  have RB_0 := Blk.cell RB 0 rfl
  have RB_1 := Blk.cell RB 1 rfl
  have RB_2 := Blk.cell RB 2 rfl
  have RB_3 := Blk.cell RB 3 rfl
  have RB_4 := Blk.cell RB 4 rfl
  have RB_f0 := Blk.free RB 0
  have RB_f1 := Blk.free RB 1
  have RB_f2 := Blk.free RB 2
  have RB_f3 := Blk.free RB 3
  have RB_f4 := Blk.free RB 4
  replace h1 := h1.on bw
  replace h2 := h2.on bw
  go_enter Tryz.func77, Tryz.ntmps77
  go_wp2_with fail
  with_reducible refine (dMul_in h1 hd1 h2 hd2 (hT.onD (by go_grown)) i1 i2 (by omega) (by omega) (by omega) (by omega) (by omega) (by omega) (by omega) (by omega)).mono ?_
  rintro e w1 ⟨b3, l3, A3, c3, x3, rfl, hd3, m3, hb⟩
  clear PB_0 PB_1 PB_2 PB_f0 PB_f1 PB_f2
  clear QB_0 QB_1 QB_2 QB_f0 QB_f1 QB_f2
  clear RB_0 RB_1 RB_2 RB_3 RB_4 RB_f0 RB_f1 RB_f2 RB_f3 RB_f4
  have hs1 := hb.size
  try simp only [World.size_alloc, World.size_setCell] at hs1
  replace bw : Below w.heap.size w w1 := dy_end (by go_grown) hb
  replace h1 := Lv.on h1 hb
  replace h2 := Lv.on h2 hb
  replace PB := Blk.on PB hb
  replace QB := Blk.on QB hb
  replace RB := Blk.on RB hb
  clear hb
  have PB_0 := Blk.cell PB 0 rfl
  have PB_1 := Blk.cell PB 1 rfl
  have PB_2 := Blk.cell PB 2 rfl
  have PB_f0 := Blk.free PB 0
  have PB_f1 := Blk.free PB 1
  have PB_f2 := Blk.free PB 2
  have QB_0 := Blk.cell QB 0 rfl
  have QB_1 := Blk.cell QB 1 rfl
  have QB_2 := Blk.cell QB 2 rfl
  have QB_f0 := Blk.free QB 0
  have QB_f1 := Blk.free QB 1
  have QB_f2 := Blk.free QB 2
  have RB_0 := Blk.cell RB 0 rfl
  have RB_1 := Blk.cell RB 1 rfl
  have RB_2 := Blk.cell RB 2 rfl
  have RB_3 := Blk.cell RB 3 rfl
  have RB_4 := Blk.cell RB 4 rfl
  have RB_f0 := Blk.free RB 0
  have RB_f1 := Blk.free RB 1
  have RB_f2 := Blk.free RB 2
  have RB_f3 := Blk.free RB 3
  have RB_f4 := Blk.free RB 4
  have o3 : okE x3 = true := by rw [← hd3.exp]; exact in_okE (mulN_ok _ _) (mulN_in i1 i2) (by omega) (by omega)
  replace h1 := Lv.alloc h1 (.cells #[.bool b3, .slice A3 l3.length c3, .int .i64 x3] 35)
  replace h2 := Lv.alloc h2 (.cells #[.bool b3, .slice A3 l3.length c3, .int .i64 x3] 35)
  replace m3 := Lv.alloc m3 (.cells #[.bool b3, .slice A3 l3.length c3, .int .i64 x3] 35)
  clear PB_0 PB_1 PB_2 PB_f0 PB_f1 PB_f2
  replace PB := Blk.alloc PB (.cells #[.bool b3, .slice A3 l3.length c3, .int .i64 x3] 35)
  clear QB_0 QB_1 QB_2 QB_f0 QB_f1 QB_f2
  replace QB := Blk.alloc QB (.cells #[.bool b3, .slice A3 l3.length c3, .int .i64 x3] 35)
  clear RB_0 RB_1 RB_2 RB_3 RB_4 RB_f0 RB_f1 RB_f2 RB_f3 RB_f4
  replace RB := Blk.alloc RB (.cells #[.bool b3, .slice A3 l3.length c3, .int .i64 x3] 35)
  have DB := Blk.new w1 [.bool b3, .slice A3 l3.length c3, .int .i64 x3] 35
  try simp only [World.size_alloc] at DB
  have PB_0 := Blk.cell PB 0 rfl
  have PB_1 := Blk.cell PB 1 rfl
  have PB_2 := Blk.cell PB 2 rfl
  have PB_f0 := Blk.free PB 0
  have PB_f1 := Blk.free PB 1
  have PB_f2 := Blk.free PB 2
  have QB_0 := Blk.cell QB 0 rfl
  have QB_1 := Blk.cell QB 1 rfl
  have QB_2 := Blk.cell QB 2 rfl
  have QB_f0 := Blk.free QB 0
  have QB_f1 := Blk.free QB 1
  have QB_f2 := Blk.free QB 2
  have RB_0 := Blk.cell RB 0 rfl
  have RB_1 := Blk.cell RB 1 rfl
  have RB_2 := Blk.cell RB 2 rfl
  have RB_3 := Blk.cell RB 3 rfl
  have RB_4 := Blk.cell RB 4 rfl
  have RB_f0 := Blk.free RB 0
  have RB_f1 := Blk.free RB 1
  have RB_f2 := Blk.free RB 2
  have RB_f3 := Blk.free RB 3
  have RB_f4 := Blk.free RB 4
  have DB_0 := Blk.cell DB 0 rfl
  have DB_1 := Blk.cell DB 1 rfl
  have DB_2 := Blk.cell DB 2 rfl
  have DB_f0 := Blk.free DB 0
  have DB_f1 := Blk.free DB 1
  have DB_f2 := Blk.free DB 2
  go_wp2_with fail
  with_reducible refine (exactly_any hd3 m3 (hT.onD (by go_grown)) o3).mono ?_
  rintro e w2 ⟨b4, l4, A4, c4, x4, rfl, hd4, m4, hb⟩
  clear PB_0 PB_1 PB_2 PB_f0 PB_f1 PB_f2
  clear QB_0 QB_1 QB_2 QB_f0 QB_f1 QB_f2
  clear RB_0 RB_1 RB_2 RB_3 RB_4 RB_f0 RB_f1 RB_f2 RB_f3 RB_f4
  clear DB_0 DB_1 DB_2 DB_f0 DB_f1 DB_f2
  have hs2 := hb.size
  try simp only [World.size_alloc, World.size_setCell] at hs2
  replace bw : Below w.heap.size w w2 := dy_end (by go_grown) hb
  replace h1 := Lv.on h1 hb
  replace h2 := Lv.on h2 hb
  replace m3 := Lv.on m3 hb
  replace PB := Blk.on PB hb
  replace QB := Blk.on QB hb
  replace RB := Blk.on RB hb
  replace DB := Blk.on DB hb
  clear hb
  have PB_0 := Blk.cell PB 0 rfl
  have PB_1 := Blk.cell PB 1 rfl
  have PB_2 := Blk.cell PB 2 rfl
  have PB_f0 := Blk.free PB 0
  have PB_f1 := Blk.free PB 1
  have PB_f2 := Blk.free PB 2
  have QB_0 := Blk.cell QB 0 rfl
  have QB_1 := Blk.cell QB 1 rfl
  have QB_2 := Blk.cell QB 2 rfl
  have QB_f0 := Blk.free QB 0
  have QB_f1 := Blk.free QB 1
  have QB_f2 := Blk.free QB 2
  have RB_0 := Blk.cell RB 0 rfl
  have RB_1 := Blk.cell RB 1 rfl
  have RB_2 := Blk.cell RB 2 rfl
  have RB_3 := Blk.cell RB 3 rfl
  have RB_4 := Blk.cell RB 4 rfl
  have RB_f0 := Blk.free RB 0
  have RB_f1 := Blk.free RB 1
  have RB_f2 := Blk.free RB 2
  have RB_f3 := Blk.free RB 3
  have RB_f4 := Blk.free RB 4
  have DB_0 := Blk.cell DB 0 rfl
  have DB_1 := Blk.cell DB 1 rfl
  have DB_2 := Blk.cell DB 2 rfl
  have DB_f0 := Blk.free DB 0
  have DB_f1 := Blk.free DB 1
  have DB_f2 := Blk.free DB 2
  go_wp2_with fail
  refine bodyPost_ret (v := nuV (nuN (mulN d1 d2)).c (nuN (mulN d1 d2)).neg b4 A4 l4.length c4 x4) (by simp [results, Tryz.results77, go_sem, PB_0, PB_1, PB_2, PB_f0, PB_f1, PB_f2, QB_0, QB_1, QB_2, QB_f0, QB_f1, QB_f2, RB_0, RB_1, RB_2, RB_3, RB_4, RB_f0, RB_f1, RB_f2, RB_f3, RB_f4, DB_0, DB_1, DB_2, DB_f0, DB_f1, DB_f2]) rfl ?_
  exact ⟨b4, l4, A4, c4, x4, rfl, hd4, m4.put5 RB _ _ _ _ _ _ _, by go_grown⟩

set_option maxRecDepth 100000 in
set_option maxHeartbeats 4000000 in
theorem nsum_any (rx : rng k1) (ry : rng k2) (hd1 : Dn b1 l1 x1 d1) (h1 : Lv w A1 l1.length c1 l1) (hd2 : Dn b2 l2 x2 d2) (h2 : Lv w A2 l2.length c2 l2) (hT : Tab w) (i1 : d1.In (-2148) 2048) (i2 : d2.In (-2148) 2048) :
    Calls Tryz.prog 34 #[nuV k1 s1 b1 A1 l1.length c1 x1, nuV k2 s2 b2 A2 l2.length c2 x2] w (NuP (nuSum ⟨k1, s1, d1⟩ ⟨k2, s2, d2⟩) w) := by
  have PB := Blk.new w [.int .i64 (k1), .bool (s1), .bool b1, .slice A1 l1.length c1, .int .i64 x1] 52
  have QB := Blk.new (w.alloc (.cells #[.int .i64 (k1), .bool (s1), .bool b1, .slice A1 l1.length c1, .int .i64 x1] 52)) [.int .i64 (k2), .bool (s2), .bool b2, .slice A2 l2.length c2, .int .i64 x2] 52
  simp only [World.size_alloc] at QB
  replace PB := Blk.alloc PB (.cells #[.int .i64 (k2), .bool (s2), .bool b2, .slice A2 l2.length c2, .int .i64 x2] 52)
  have RB := Blk.new ((w.alloc (.cells #[.int .i64 (k1), .bool (s1), .bool b1, .slice A1 l1.length c1, .int .i64 x1] 52)).alloc (.cells #[.int .i64 (k2), .bool (s2), .bool b2, .slice A2 l2.length c2, .int .i64 x2] 52)) [.int .i64 0, .bool false, .bool false, .slice none 0 0, .int .i64 0] 52
  simp only [World.size_alloc] at RB
  replace PB := Blk.alloc PB (.cells #[.int .i64 0, .bool false, .bool false, .slice none 0 0, .int .i64 0] 52)
  replace QB := Blk.alloc QB (.cells #[.int .i64 0, .bool false, .bool false, .slice none 0 0, .int .i64 0] 52)
  have bw : Below w.heap.size w (((w.alloc (.cells #[.int .i64 (k1), .bool (s1), .bool b1, .slice A1 l1.length c1, .int .i64 x1] 52)).alloc (.cells #[.int .i64 (k2), .bool (s2), .bool b2, .slice A2 l2.length c2, .int .i64 x2] 52)).alloc (.cells #[.int .i64 0, .bool false, .bool false, .slice none 0 0, .int .i64 0] 52)) := by go_grown
  have PB_0 := Blk.cell PB 0 rfl
  have PB_1 := Blk.cell PB 1 rfl
  have PB_2 := Blk.cell PB 2 rfl
  have PB_3 := Blk.cell PB 3 rfl
  have PB_4 := Blk.cell PB 4 rfl
  have PB_f0 := Blk.free PB 0
  have PB_f1 := Blk.free PB 1
  have PB_f2 := Blk.free PB 2
  have PB_f3 := Blk.free PB 3
  have PB_f4 := Blk.free PB 4
  have QB_0 := Blk.cell QB 0 rfl
  have QB_1 := Blk.cell QB 1 rfl
  have QB_2 := Blk.cell QB 2 rfl
  have QB_3 := Blk.cell QB 3 rfl
  have QB_4 := Blk.cell QB 4 rfl
  have QB_f0 := Blk.free QB 0
  have QB_f1 := Blk.free QB 1
  have QB_f2 := Blk.free QB 2
  have QB_f3 := Blk.free QB 3
  have QB_f4 := Blk.free QB 4
  have RB_0 := Blk.cell RB 0 rfl
  have RB_1 := Blk.cell RB 1 rfl
  have RB_2 := Blk.cell RB 2 rfl
  have RB_3 := Blk.cell RB 3 rfl
  have RB_4 := Blk.cell RB 4 rfl
  have RB_f0 := Blk.free RB 0
  have RB_f1 := Blk.free RB 1
  have RB_f2 := Blk.free RB 2
  have RB_f3 := Blk.free RB 3
  have RB_f4 := Blk.free RB 4
  replace h1 := h1.on bw
  replace h2 := h2.on bw
  go_enter Tryz.func34, Tryz.ntmps34
  go_wp2_with fail
  have hb : Below (((w.alloc (.cells #[.int .i64 (k1), .bool (s1), .bool b1, .slice A1 l1.length c1, .int .i64 x1] 52)).alloc (.cells #[.int .i64 (k2), .bool (s2), .bool b2, .slice A2 l2.length c2, .int .i64 x2] 52)).alloc (.cells #[.int .i64 0, .bool false, .bool false, .slice none 0 0, .int .i64 0] 52)).heap.size (((w.alloc (.cells #[.int .i64 (k1), .bool (s1), .bool b1, .slice A1 l1.length c1, .int .i64 x1] 52)).alloc (.cells #[.int .i64 (k2), .bool (s2), .bool b2, .slice A2 l2.length c2, .int .i64 x2] 52)).alloc (.cells #[.int .i64 0, .bool false, .bool false, .slice none 0 0, .int .i64 0] 52)) (((w.alloc (.cells #[.int .i64 (k1), .bool (s1), .bool b1, .slice A1 l1.length c1, .int .i64 x1] 52)).alloc (.cells #[.int .i64 (k2), .bool (s2), .bool b2, .slice A2 l2.length c2, .int .i64 x2] 52)).alloc (.cells #[.int .i64 0, .bool false, .bool false, .slice none 0 0, .int .i64 0] 52)).drew := (Below.refl _ _).drew
  clear PB_0 PB_1 PB_2 PB_3 PB_4 PB_f0 PB_f1 PB_f2 PB_f3 PB_f4
  clear QB_0 QB_1 QB_2 QB_3 QB_4 QB_f0 QB_f1 QB_f2 QB_f3 QB_f4
  clear RB_0 RB_1 RB_2 RB_3 RB_4 RB_f0 RB_f1 RB_f2 RB_f3 RB_f4
  replace h1 := Lv.on h1 hb
  replace h2 := Lv.on h2 hb
  replace PB := Blk.on PB hb
  replace QB := Blk.on QB hb
  replace RB := Blk.on RB hb
  replace bw := dy_end bw hb
  clear hb
  have PB_0 := Blk.cell PB 0 rfl
  have PB_1 := Blk.cell PB 1 rfl
  have PB_2 := Blk.cell PB 2 rfl
  have PB_3 := Blk.cell PB 3 rfl
  have PB_4 := Blk.cell PB 4 rfl
  have PB_f0 := Blk.free PB 0
  have PB_f1 := Blk.free PB 1
  have PB_f2 := Blk.free PB 2
  have PB_f3 := Blk.free PB 3
  have PB_f4 := Blk.free PB 4
  have QB_0 := Blk.cell QB 0 rfl
  have QB_1 := Blk.cell QB 1 rfl
  have QB_2 := Blk.cell QB 2 rfl
  have QB_3 := Blk.cell QB 3 rfl
  have QB_4 := Blk.cell QB 4 rfl
  have QB_f0 := Blk.free QB 0
  have QB_f1 := Blk.free QB 1
  have QB_f2 := Blk.free QB 2
  have QB_f3 := Blk.free QB 3
  have QB_f4 := Blk.free QB 4
  have RB_0 := Blk.cell RB 0 rfl
  have RB_1 := Blk.cell RB 1 rfl
  have RB_2 := Blk.cell RB 2 rfl
  have RB_3 := Blk.cell RB 3 rfl
  have RB_4 := Blk.cell RB 4 rfl
  have RB_f0 := Blk.free RB 0
  have RB_f1 := Blk.free RB 1
  have RB_f2 := Blk.free RB 2
  have RB_f3 := Blk.free RB 3
  have RB_f4 := Blk.free RB 4
  refine wp_region_held_drew (S := fun _ => True) (by kernel_rfl) trivial (fun _ => ?_)
  refine wpAnyH_ready (rs := [0, 1, 2]) (by kernel_rfl) (by simp) ?_
  refine (AllReadyH.cons rfl (fun K hK => ?_) (AllReadyH.cons rfl (fun K hK => ?_) (AllReadyH.cons rfl (fun K hK => ?_) AllReadyH.nil)))
  · go_simp
    refine hK.out _ _ trivial (fun _ => ?_)
    clear hK K
    try simp only [Act.put, List.setIfInBounds_toArray, List.set_cons_zero, List.set_cons_succ, List.getElem_toArray, List.getElem_cons_zero, List.getElem_cons_succ]
    refine wpAnyH_ready (rs := [1, 2]) (by kernel_rfl) (by simp) ?_
    refine (AllReadyH.cons rfl (fun K hK => ?_) (AllReadyH.cons rfl (fun K hK => ?_) AllReadyH.nil))
    · go_simp
      refine hK.out _ _ trivial (fun _ => ?_)
      clear hK K
      try simp only [Act.put, List.setIfInBounds_toArray, List.set_cons_zero, List.set_cons_succ, List.getElem_toArray, List.getElem_cons_zero, List.getElem_cons_succ]
      refine wpAnyH_ready (rs := [2]) (by kernel_rfl) (by simp) ?_
      refine (AllReadyH.cons rfl (fun K hK => ?_) AllReadyH.nil)
      go_simp
      with_reducible refine (tab_sums _).mono ?_
      rintro e w100 ⟨B, rfl, hM, hBB, hb⟩
      clear PB_0 PB_1 PB_2 PB_3 PB_4 PB_f0 PB_f1 PB_f2 PB_f3 PB_f4
      clear QB_0 QB_1 QB_2 QB_3 QB_4 QB_f0 QB_f1 QB_f2 QB_f3 QB_f4
      clear RB_0 RB_1 RB_2 RB_3 RB_4 RB_f0 RB_f1 RB_f2 RB_f3 RB_f4
      replace bw : Below w.heap.size w w100 := dy_end bw hb
      have hs100 := bw.size
      replace h1 := Lv.on h1 hb
      replace h2 := Lv.on h2 hb
      replace PB := Blk.on PB hb
      replace QB := Blk.on QB hb
      replace RB := Blk.on RB hb
      clear hb
      have PB_0 := Blk.cell PB 0 rfl
      have PB_1 := Blk.cell PB 1 rfl
      have PB_2 := Blk.cell PB 2 rfl
      have PB_3 := Blk.cell PB 3 rfl
      have PB_4 := Blk.cell PB 4 rfl
      have PB_f0 := Blk.free PB 0
      have PB_f1 := Blk.free PB 1
      have PB_f2 := Blk.free PB 2
      have PB_f3 := Blk.free PB 3
      have PB_f4 := Blk.free PB 4
      have QB_0 := Blk.cell QB 0 rfl
      have QB_1 := Blk.cell QB 1 rfl
      have QB_2 := Blk.cell QB 2 rfl
      have QB_3 := Blk.cell QB 3 rfl
      have QB_4 := Blk.cell QB 4 rfl
      have QB_f0 := Blk.free QB 0
      have QB_f1 := Blk.free QB 1
      have QB_f2 := Blk.free QB 2
      have QB_f3 := Blk.free QB 3
      have QB_f4 := Blk.free QB 4
      have RB_0 := Blk.cell RB 0 rfl
      have RB_1 := Blk.cell RB 1 rfl
      have RB_2 := Blk.cell RB 2 rfl
      have RB_3 := Blk.cell RB 3 rfl
      have RB_4 := Blk.cell RB 4 rfl
      have RB_f0 := Blk.free RB 0
      have RB_f1 := Blk.free RB 1
      have RB_f2 := Blk.free RB 2
      have RB_f3 := Blk.free RB 3
      have RB_f4 := Blk.free RB 4
      refine hK.out _ _ trivial (fun _ => ?_)
      clear hK K
      try simp only [Act.put, List.setIfInBounds_toArray, List.set_cons_zero, List.set_cons_succ, List.getElem_toArray, List.getElem_cons_zero, List.getElem_cons_succ]
      refine wpAnyH_ready (rs := [3]) (by kernel_rfl) (by simp) ?_
      refine (AllReadyH.cons rfl (fun K hK => ?_) AllReadyH.nil)
      go_simp
      have HC := Lib.hid (fun W (hb : Below w100.heap.size w100 W) (m1 : Lv W A1 l1.length c1 l1) (m2 : Lv W A2 l2.length c2 l2) => sumOne_any hd1 m1 hd2 m2 (hT.onD (dy_end bw hb)) i1 i2)
      with_reducible refine (comb_any_s (r := fun d e => nuN (sumN d e)) hM (sumT_bd k1 k2) rx ry hd1 h1 hd2 h2 (fun _ => HC)).mono ?_
      rintro e w200 ⟨b4, l4, A4, c4, x4, rfl, hd4, m4, hb⟩
      clear PB_0 PB_1 PB_2 PB_3 PB_4 PB_f0 PB_f1 PB_f2 PB_f3 PB_f4
      clear QB_0 QB_1 QB_2 QB_3 QB_4 QB_f0 QB_f1 QB_f2 QB_f3 QB_f4
      clear RB_0 RB_1 RB_2 RB_3 RB_4 RB_f0 RB_f1 RB_f2 RB_f3 RB_f4
      replace bw : Below w.heap.size w w200 := dy_end bw hb
      replace PB := Blk.on PB hb
      replace QB := Blk.on QB hb
      replace RB := Blk.on RB hb
      clear hb HC h1 h2
      have PB_0 := Blk.cell PB 0 rfl
      have PB_1 := Blk.cell PB 1 rfl
      have PB_2 := Blk.cell PB 2 rfl
      have PB_3 := Blk.cell PB 3 rfl
      have PB_4 := Blk.cell PB 4 rfl
      have PB_f0 := Blk.free PB 0
      have PB_f1 := Blk.free PB 1
      have PB_f2 := Blk.free PB 2
      have PB_f3 := Blk.free PB 3
      have PB_f4 := Blk.free PB 4
      have QB_0 := Blk.cell QB 0 rfl
      have QB_1 := Blk.cell QB 1 rfl
      have QB_2 := Blk.cell QB 2 rfl
      have QB_3 := Blk.cell QB 3 rfl
      have QB_4 := Blk.cell QB 4 rfl
      have QB_f0 := Blk.free QB 0
      have QB_f1 := Blk.free QB 1
      have QB_f2 := Blk.free QB 2
      have QB_f3 := Blk.free QB 3
      have QB_f4 := Blk.free QB 4
      have RB_0 := Blk.cell RB 0 rfl
      have RB_1 := Blk.cell RB 1 rfl
      have RB_2 := Blk.cell RB 2 rfl
      have RB_3 := Blk.cell RB 3 rfl
      have RB_4 := Blk.cell RB 4 rfl
      have RB_f0 := Blk.free RB 0
      have RB_f1 := Blk.free RB 1
      have RB_f2 := Blk.free RB 2
      have RB_f3 := Blk.free RB 3
      have RB_f4 := Blk.free RB 4
      refine hK.out _ _ trivial (fun _ => ?_)
      clear hK K
      try simp only [Act.put, List.setIfInBounds_toArray, List.set_cons_zero, List.set_cons_succ, List.getElem_toArray, List.getElem_cons_zero, List.getElem_cons_succ]
      refine wpAnyH_ready (rs := [4]) (by kernel_rfl) (by simp) ?_
      refine (AllReadyH.cons rfl (fun K hK => ?_) AllReadyH.nil)
      go_simp
      refine hK.out _ _ trivial (fun _ => ?_)
      clear hK K
      try simp only [Act.put, List.setIfInBounds_toArray, List.set_cons_zero, List.set_cons_succ, List.getElem_toArray, List.getElem_cons_zero, List.getElem_cons_succ]
      refine wpAnyH_done (by kernel_rfl) ?_ _
      go_wp2_with fail
      refine bodyPost_ret (v := nuV (nuC sumT (fun d e => nuN (sumN d e)) ⟨k1, s1, d1⟩ ⟨k2, s2, d2⟩).c (nuC sumT (fun d e => nuN (sumN d e)) ⟨k1, s1, d1⟩ ⟨k2, s2, d2⟩).neg b4 A4 l4.length c4 x4) (by simp [results, Tryz.results34, go_sem, PB_0, PB_1, PB_2, PB_3, PB_4, PB_f0, PB_f1, PB_f2, PB_f3, PB_f4, QB_0, QB_1, QB_2, QB_3, QB_4, QB_f0, QB_f1, QB_f2, QB_f3, QB_f4, RB_0, RB_1, RB_2, RB_3, RB_4, RB_f0, RB_f1, RB_f2, RB_f3, RB_f4]) rfl ?_
      exact ⟨b4, l4, A4, c4, x4, rfl, hd4, m4.put5 RB _ _ _ _ _ _ _, by go_grown⟩
    · go_simp
      with_reducible refine (tab_sums _).mono ?_
      rintro e w300 ⟨B, rfl, hM, hBB, hb⟩
      clear PB_0 PB_1 PB_2 PB_3 PB_4 PB_f0 PB_f1 PB_f2 PB_f3 PB_f4
      clear QB_0 QB_1 QB_2 QB_3 QB_4 QB_f0 QB_f1 QB_f2 QB_f3 QB_f4
      clear RB_0 RB_1 RB_2 RB_3 RB_4 RB_f0 RB_f1 RB_f2 RB_f3 RB_f4
      replace bw : Below w.heap.size w w300 := dy_end bw hb
      have hs300 := bw.size
      replace h1 := Lv.on h1 hb
      replace h2 := Lv.on h2 hb
      replace PB := Blk.on PB hb
      replace QB := Blk.on QB hb
      replace RB := Blk.on RB hb
      clear hb
      have PB_0 := Blk.cell PB 0 rfl
      have PB_1 := Blk.cell PB 1 rfl
      have PB_2 := Blk.cell PB 2 rfl
      have PB_3 := Blk.cell PB 3 rfl
      have PB_4 := Blk.cell PB 4 rfl
      have PB_f0 := Blk.free PB 0
      have PB_f1 := Blk.free PB 1
      have PB_f2 := Blk.free PB 2
      have PB_f3 := Blk.free PB 3
      have PB_f4 := Blk.free PB 4
      have QB_0 := Blk.cell QB 0 rfl
      have QB_1 := Blk.cell QB 1 rfl
      have QB_2 := Blk.cell QB 2 rfl
      have QB_3 := Blk.cell QB 3 rfl
      have QB_4 := Blk.cell QB 4 rfl
      have QB_f0 := Blk.free QB 0
      have QB_f1 := Blk.free QB 1
      have QB_f2 := Blk.free QB 2
      have QB_f3 := Blk.free QB 3
      have QB_f4 := Blk.free QB 4
      have RB_0 := Blk.cell RB 0 rfl
      have RB_1 := Blk.cell RB 1 rfl
      have RB_2 := Blk.cell RB 2 rfl
      have RB_3 := Blk.cell RB 3 rfl
      have RB_4 := Blk.cell RB 4 rfl
      have RB_f0 := Blk.free RB 0
      have RB_f1 := Blk.free RB 1
      have RB_f2 := Blk.free RB 2
      have RB_f3 := Blk.free RB 3
      have RB_f4 := Blk.free RB 4
      refine hK.out _ _ trivial (fun _ => ?_)
      clear hK K
      try simp only [Act.put, List.setIfInBounds_toArray, List.set_cons_zero, List.set_cons_succ, List.getElem_toArray, List.getElem_cons_zero, List.getElem_cons_succ]
      refine wpAnyH_ready (rs := [1]) (by kernel_rfl) (by simp) ?_
      refine (AllReadyH.cons rfl (fun K hK => ?_) AllReadyH.nil)
      go_simp
      refine hK.out _ _ trivial (fun _ => ?_)
      clear hK K
      try simp only [Act.put, List.setIfInBounds_toArray, List.set_cons_zero, List.set_cons_succ, List.getElem_toArray, List.getElem_cons_zero, List.getElem_cons_succ]
      refine wpAnyH_ready (rs := [3]) (by kernel_rfl) (by simp) ?_
      refine (AllReadyH.cons rfl (fun K hK => ?_) AllReadyH.nil)
      go_simp
      have HC := Lib.hid (fun W (hb : Below w300.heap.size w300 W) (m1 : Lv W A1 l1.length c1 l1) (m2 : Lv W A2 l2.length c2 l2) => sumOne_any hd1 m1 hd2 m2 (hT.onD (dy_end bw hb)) i1 i2)
      with_reducible refine (comb_any_s (r := fun d e => nuN (sumN d e)) hM (sumT_bd k1 k2) rx ry hd1 h1 hd2 h2 (fun _ => HC)).mono ?_
      rintro e w400 ⟨b4, l4, A4, c4, x4, rfl, hd4, m4, hb⟩
      clear PB_0 PB_1 PB_2 PB_3 PB_4 PB_f0 PB_f1 PB_f2 PB_f3 PB_f4
      clear QB_0 QB_1 QB_2 QB_3 QB_4 QB_f0 QB_f1 QB_f2 QB_f3 QB_f4
      clear RB_0 RB_1 RB_2 RB_3 RB_4 RB_f0 RB_f1 RB_f2 RB_f3 RB_f4
      replace bw : Below w.heap.size w w400 := dy_end bw hb
      replace PB := Blk.on PB hb
      replace QB := Blk.on QB hb
      replace RB := Blk.on RB hb
      clear hb HC h1 h2
      have PB_0 := Blk.cell PB 0 rfl
      have PB_1 := Blk.cell PB 1 rfl
      have PB_2 := Blk.cell PB 2 rfl
      have PB_3 := Blk.cell PB 3 rfl
      have PB_4 := Blk.cell PB 4 rfl
      have PB_f0 := Blk.free PB 0
      have PB_f1 := Blk.free PB 1
      have PB_f2 := Blk.free PB 2
      have PB_f3 := Blk.free PB 3
      have PB_f4 := Blk.free PB 4
      have QB_0 := Blk.cell QB 0 rfl
      have QB_1 := Blk.cell QB 1 rfl
      have QB_2 := Blk.cell QB 2 rfl
      have QB_3 := Blk.cell QB 3 rfl
      have QB_4 := Blk.cell QB 4 rfl
      have QB_f0 := Blk.free QB 0
      have QB_f1 := Blk.free QB 1
      have QB_f2 := Blk.free QB 2
      have QB_f3 := Blk.free QB 3
      have QB_f4 := Blk.free QB 4
      have RB_0 := Blk.cell RB 0 rfl
      have RB_1 := Blk.cell RB 1 rfl
      have RB_2 := Blk.cell RB 2 rfl
      have RB_3 := Blk.cell RB 3 rfl
      have RB_4 := Blk.cell RB 4 rfl
      have RB_f0 := Blk.free RB 0
      have RB_f1 := Blk.free RB 1
      have RB_f2 := Blk.free RB 2
      have RB_f3 := Blk.free RB 3
      have RB_f4 := Blk.free RB 4
      refine hK.out _ _ trivial (fun _ => ?_)
      clear hK K
      try simp only [Act.put, List.setIfInBounds_toArray, List.set_cons_zero, List.set_cons_succ, List.getElem_toArray, List.getElem_cons_zero, List.getElem_cons_succ]
      refine wpAnyH_ready (rs := [4]) (by kernel_rfl) (by simp) ?_
      refine (AllReadyH.cons rfl (fun K hK => ?_) AllReadyH.nil)
      go_simp
      refine hK.out _ _ trivial (fun _ => ?_)
      clear hK K
      try simp only [Act.put, List.setIfInBounds_toArray, List.set_cons_zero, List.set_cons_succ, List.getElem_toArray, List.getElem_cons_zero, List.getElem_cons_succ]
      refine wpAnyH_done (by kernel_rfl) ?_ _
      go_wp2_with fail
      refine bodyPost_ret (v := nuV (nuC sumT (fun d e => nuN (sumN d e)) ⟨k1, s1, d1⟩ ⟨k2, s2, d2⟩).c (nuC sumT (fun d e => nuN (sumN d e)) ⟨k1, s1, d1⟩ ⟨k2, s2, d2⟩).neg b4 A4 l4.length c4 x4) (by simp [results, Tryz.results34, go_sem, PB_0, PB_1, PB_2, PB_3, PB_4, PB_f0, PB_f1, PB_f2, PB_f3, PB_f4, QB_0, QB_1, QB_2, QB_3, QB_4, QB_f0, QB_f1, QB_f2, QB_f3, QB_f4, RB_0, RB_1, RB_2, RB_3, RB_4, RB_f0, RB_f1, RB_f2, RB_f3, RB_f4]) rfl ?_
      exact ⟨b4, l4, A4, c4, x4, rfl, hd4, m4.put5 RB _ _ _ _ _ _ _, by go_grown⟩
  · go_simp
    refine hK.out _ _ trivial (fun _ => ?_)
    clear hK K
    try simp only [Act.put, List.setIfInBounds_toArray, List.set_cons_zero, List.set_cons_succ, List.getElem_toArray, List.getElem_cons_zero, List.getElem_cons_succ]
    refine wpAnyH_ready (rs := [0, 2]) (by kernel_rfl) (by simp) ?_
    refine (AllReadyH.cons rfl (fun K hK => ?_) (AllReadyH.cons rfl (fun K hK => ?_) AllReadyH.nil))
    · go_simp
      refine hK.out _ _ trivial (fun _ => ?_)
      clear hK K
      try simp only [Act.put, List.setIfInBounds_toArray, List.set_cons_zero, List.set_cons_succ, List.getElem_toArray, List.getElem_cons_zero, List.getElem_cons_succ]
      refine wpAnyH_ready (rs := [2]) (by kernel_rfl) (by simp) ?_
      refine (AllReadyH.cons rfl (fun K hK => ?_) AllReadyH.nil)
      go_simp
      with_reducible refine (tab_sums _).mono ?_
      rintro e w500 ⟨B, rfl, hM, hBB, hb⟩
      clear PB_0 PB_1 PB_2 PB_3 PB_4 PB_f0 PB_f1 PB_f2 PB_f3 PB_f4
      clear QB_0 QB_1 QB_2 QB_3 QB_4 QB_f0 QB_f1 QB_f2 QB_f3 QB_f4
      clear RB_0 RB_1 RB_2 RB_3 RB_4 RB_f0 RB_f1 RB_f2 RB_f3 RB_f4
      replace bw : Below w.heap.size w w500 := dy_end bw hb
      have hs500 := bw.size
      replace h1 := Lv.on h1 hb
      replace h2 := Lv.on h2 hb
      replace PB := Blk.on PB hb
      replace QB := Blk.on QB hb
      replace RB := Blk.on RB hb
      clear hb
      have PB_0 := Blk.cell PB 0 rfl
      have PB_1 := Blk.cell PB 1 rfl
      have PB_2 := Blk.cell PB 2 rfl
      have PB_3 := Blk.cell PB 3 rfl
      have PB_4 := Blk.cell PB 4 rfl
      have PB_f0 := Blk.free PB 0
      have PB_f1 := Blk.free PB 1
      have PB_f2 := Blk.free PB 2
      have PB_f3 := Blk.free PB 3
      have PB_f4 := Blk.free PB 4
      have QB_0 := Blk.cell QB 0 rfl
      have QB_1 := Blk.cell QB 1 rfl
      have QB_2 := Blk.cell QB 2 rfl
      have QB_3 := Blk.cell QB 3 rfl
      have QB_4 := Blk.cell QB 4 rfl
      have QB_f0 := Blk.free QB 0
      have QB_f1 := Blk.free QB 1
      have QB_f2 := Blk.free QB 2
      have QB_f3 := Blk.free QB 3
      have QB_f4 := Blk.free QB 4
      have RB_0 := Blk.cell RB 0 rfl
      have RB_1 := Blk.cell RB 1 rfl
      have RB_2 := Blk.cell RB 2 rfl
      have RB_3 := Blk.cell RB 3 rfl
      have RB_4 := Blk.cell RB 4 rfl
      have RB_f0 := Blk.free RB 0
      have RB_f1 := Blk.free RB 1
      have RB_f2 := Blk.free RB 2
      have RB_f3 := Blk.free RB 3
      have RB_f4 := Blk.free RB 4
      refine hK.out _ _ trivial (fun _ => ?_)
      clear hK K
      try simp only [Act.put, List.setIfInBounds_toArray, List.set_cons_zero, List.set_cons_succ, List.getElem_toArray, List.getElem_cons_zero, List.getElem_cons_succ]
      refine wpAnyH_ready (rs := [3]) (by kernel_rfl) (by simp) ?_
      refine (AllReadyH.cons rfl (fun K hK => ?_) AllReadyH.nil)
      go_simp
      have HC := Lib.hid (fun W (hb : Below w500.heap.size w500 W) (m1 : Lv W A1 l1.length c1 l1) (m2 : Lv W A2 l2.length c2 l2) => sumOne_any hd1 m1 hd2 m2 (hT.onD (dy_end bw hb)) i1 i2)
      with_reducible refine (comb_any_s (r := fun d e => nuN (sumN d e)) hM (sumT_bd k1 k2) rx ry hd1 h1 hd2 h2 (fun _ => HC)).mono ?_
      rintro e w600 ⟨b4, l4, A4, c4, x4, rfl, hd4, m4, hb⟩
      clear PB_0 PB_1 PB_2 PB_3 PB_4 PB_f0 PB_f1 PB_f2 PB_f3 PB_f4
      clear QB_0 QB_1 QB_2 QB_3 QB_4 QB_f0 QB_f1 QB_f2 QB_f3 QB_f4
      clear RB_0 RB_1 RB_2 RB_3 RB_4 RB_f0 RB_f1 RB_f2 RB_f3 RB_f4
      replace bw : Below w.heap.size w w600 := dy_end bw hb
      replace PB := Blk.on PB hb
      replace QB := Blk.on QB hb
      replace RB := Blk.on RB hb
      clear hb HC h1 h2
      have PB_0 := Blk.cell PB 0 rfl
      have PB_1 := Blk.cell PB 1 rfl
      have PB_2 := Blk.cell PB 2 rfl
      have PB_3 := Blk.cell PB 3 rfl
      have PB_4 := Blk.cell PB 4 rfl
      have PB_f0 := Blk.free PB 0
      have PB_f1 := Blk.free PB 1
      have PB_f2 := Blk.free PB 2
      have PB_f3 := Blk.free PB 3
      have PB_f4 := Blk.free PB 4
      have QB_0 := Blk.cell QB 0 rfl
      have QB_1 := Blk.cell QB 1 rfl
      have QB_2 := Blk.cell QB 2 rfl
      have QB_3 := Blk.cell QB 3 rfl
      have QB_4 := Blk.cell QB 4 rfl
      have QB_f0 := Blk.free QB 0
      have QB_f1 := Blk.free QB 1
      have QB_f2 := Blk.free QB 2
      have QB_f3 := Blk.free QB 3
      have QB_f4 := Blk.free QB 4
      have RB_0 := Blk.cell RB 0 rfl
      have RB_1 := Blk.cell RB 1 rfl
      have RB_2 := Blk.cell RB 2 rfl
      have RB_3 := Blk.cell RB 3 rfl
      have RB_4 := Blk.cell RB 4 rfl
      have RB_f0 := Blk.free RB 0
      have RB_f1 := Blk.free RB 1
      have RB_f2 := Blk.free RB 2
      have RB_f3 := Blk.free RB 3
      have RB_f4 := Blk.free RB 4
      refine hK.out _ _ trivial (fun _ => ?_)
      clear hK K
      try simp only [Act.put, List.setIfInBounds_toArray, List.set_cons_zero, List.set_cons_succ, List.getElem_toArray, List.getElem_cons_zero, List.getElem_cons_succ]
      refine wpAnyH_ready (rs := [4]) (by kernel_rfl) (by simp) ?_
      refine (AllReadyH.cons rfl (fun K hK => ?_) AllReadyH.nil)
      go_simp
      refine hK.out _ _ trivial (fun _ => ?_)
      clear hK K
      try simp only [Act.put, List.setIfInBounds_toArray, List.set_cons_zero, List.set_cons_succ, List.getElem_toArray, List.getElem_cons_zero, List.getElem_cons_succ]
      refine wpAnyH_done (by kernel_rfl) ?_ _
      go_wp2_with fail
      refine bodyPost_ret (v := nuV (nuC sumT (fun d e => nuN (sumN d e)) ⟨k1, s1, d1⟩ ⟨k2, s2, d2⟩).c (nuC sumT (fun d e => nuN (sumN d e)) ⟨k1, s1, d1⟩ ⟨k2, s2, d2⟩).neg b4 A4 l4.length c4 x4) (by simp [results, Tryz.results34, go_sem, PB_0, PB_1, PB_2, PB_3, PB_4, PB_f0, PB_f1, PB_f2, PB_f3, PB_f4, QB_0, QB_1, QB_2, QB_3, QB_4, QB_f0, QB_f1, QB_f2, QB_f3, QB_f4, RB_0, RB_1, RB_2, RB_3, RB_4, RB_f0, RB_f1, RB_f2, RB_f3, RB_f4]) rfl ?_
      exact ⟨b4, l4, A4, c4, x4, rfl, hd4, m4.put5 RB _ _ _ _ _ _ _, by go_grown⟩
    · go_simp
      with_reducible refine (tab_sums _).mono ?_
      rintro e w700 ⟨B, rfl, hM, hBB, hb⟩
      clear PB_0 PB_1 PB_2 PB_3 PB_4 PB_f0 PB_f1 PB_f2 PB_f3 PB_f4
      clear QB_0 QB_1 QB_2 QB_3 QB_4 QB_f0 QB_f1 QB_f2 QB_f3 QB_f4
      clear RB_0 RB_1 RB_2 RB_3 RB_4 RB_f0 RB_f1 RB_f2 RB_f3 RB_f4
      replace bw : Below w.heap.size w w700 := dy_end bw hb
      have hs700 := bw.size
      replace h1 := Lv.on h1 hb
      replace h2 := Lv.on h2 hb
      replace PB := Blk.on PB hb
      replace QB := Blk.on QB hb
      replace RB := Blk.on RB hb
      clear hb
      have PB_0 := Blk.cell PB 0 rfl
      have PB_1 := Blk.cell PB 1 rfl
      have PB_2 := Blk.cell PB 2 rfl
      have PB_3 := Blk.cell PB 3 rfl
      have PB_4 := Blk.cell PB 4 rfl
      have PB_f0 := Blk.free PB 0
      have PB_f1 := Blk.free PB 1
      have PB_f2 := Blk.free PB 2
      have PB_f3 := Blk.free PB 3
      have PB_f4 := Blk.free PB 4
      have QB_0 := Blk.cell QB 0 rfl
      have QB_1 := Blk.cell QB 1 rfl
      have QB_2 := Blk.cell QB 2 rfl
      have QB_3 := Blk.cell QB 3 rfl
      have QB_4 := Blk.cell QB 4 rfl
      have QB_f0 := Blk.free QB 0
      have QB_f1 := Blk.free QB 1
      have QB_f2 := Blk.free QB 2
      have QB_f3 := Blk.free QB 3
      have QB_f4 := Blk.free QB 4
      have RB_0 := Blk.cell RB 0 rfl
      have RB_1 := Blk.cell RB 1 rfl
      have RB_2 := Blk.cell RB 2 rfl
      have RB_3 := Blk.cell RB 3 rfl
      have RB_4 := Blk.cell RB 4 rfl
      have RB_f0 := Blk.free RB 0
      have RB_f1 := Blk.free RB 1
      have RB_f2 := Blk.free RB 2
      have RB_f3 := Blk.free RB 3
      have RB_f4 := Blk.free RB 4
      refine hK.out _ _ trivial (fun _ => ?_)
      clear hK K
      try simp only [Act.put, List.setIfInBounds_toArray, List.set_cons_zero, List.set_cons_succ, List.getElem_toArray, List.getElem_cons_zero, List.getElem_cons_succ]
      refine wpAnyH_ready (rs := [0]) (by kernel_rfl) (by simp) ?_
      refine (AllReadyH.cons rfl (fun K hK => ?_) AllReadyH.nil)
      go_simp
      refine hK.out _ _ trivial (fun _ => ?_)
      clear hK K
      try simp only [Act.put, List.setIfInBounds_toArray, List.set_cons_zero, List.set_cons_succ, List.getElem_toArray, List.getElem_cons_zero, List.getElem_cons_succ]
      refine wpAnyH_ready (rs := [3]) (by kernel_rfl) (by simp) ?_
      refine (AllReadyH.cons rfl (fun K hK => ?_) AllReadyH.nil)
      go_simp
      have HC := Lib.hid (fun W (hb : Below w700.heap.size w700 W) (m1 : Lv W A1 l1.length c1 l1) (m2 : Lv W A2 l2.length c2 l2) => sumOne_any hd1 m1 hd2 m2 (hT.onD (dy_end bw hb)) i1 i2)
      with_reducible refine (comb_any_s (r := fun d e => nuN (sumN d e)) hM (sumT_bd k1 k2) rx ry hd1 h1 hd2 h2 (fun _ => HC)).mono ?_
      rintro e w800 ⟨b4, l4, A4, c4, x4, rfl, hd4, m4, hb⟩
      clear PB_0 PB_1 PB_2 PB_3 PB_4 PB_f0 PB_f1 PB_f2 PB_f3 PB_f4
      clear QB_0 QB_1 QB_2 QB_3 QB_4 QB_f0 QB_f1 QB_f2 QB_f3 QB_f4
      clear RB_0 RB_1 RB_2 RB_3 RB_4 RB_f0 RB_f1 RB_f2 RB_f3 RB_f4
      replace bw : Below w.heap.size w w800 := dy_end bw hb
      replace PB := Blk.on PB hb
      replace QB := Blk.on QB hb
      replace RB := Blk.on RB hb
      clear hb HC h1 h2
      have PB_0 := Blk.cell PB 0 rfl
      have PB_1 := Blk.cell PB 1 rfl
      have PB_2 := Blk.cell PB 2 rfl
      have PB_3 := Blk.cell PB 3 rfl
      have PB_4 := Blk.cell PB 4 rfl
      have PB_f0 := Blk.free PB 0
      have PB_f1 := Blk.free PB 1
      have PB_f2 := Blk.free PB 2
      have PB_f3 := Blk.free PB 3
      have PB_f4 := Blk.free PB 4
      have QB_0 := Blk.cell QB 0 rfl
      have QB_1 := Blk.cell QB 1 rfl
      have QB_2 := Blk.cell QB 2 rfl
      have QB_3 := Blk.cell QB 3 rfl
      have QB_4 := Blk.cell QB 4 rfl
      have QB_f0 := Blk.free QB 0
      have QB_f1 := Blk.free QB 1
      have QB_f2 := Blk.free QB 2
      have QB_f3 := Blk.free QB 3
      have QB_f4 := Blk.free QB 4
      have RB_0 := Blk.cell RB 0 rfl
      have RB_1 := Blk.cell RB 1 rfl
      have RB_2 := Blk.cell RB 2 rfl
      have RB_3 := Blk.cell RB 3 rfl
      have RB_4 := Blk.cell RB 4 rfl
      have RB_f0 := Blk.free RB 0
      have RB_f1 := Blk.free RB 1
      have RB_f2 := Blk.free RB 2
      have RB_f3 := Blk.free RB 3
      have RB_f4 := Blk.free RB 4
      refine hK.out _ _ trivial (fun _ => ?_)
      clear hK K
      try simp only [Act.put, List.setIfInBounds_toArray, List.set_cons_zero, List.set_cons_succ, List.getElem_toArray, List.getElem_cons_zero, List.getElem_cons_succ]
      refine wpAnyH_ready (rs := [4]) (by kernel_rfl) (by simp) ?_
      refine (AllReadyH.cons rfl (fun K hK => ?_) AllReadyH.nil)
      go_simp
      refine hK.out _ _ trivial (fun _ => ?_)
      clear hK K
      try simp only [Act.put, List.setIfInBounds_toArray, List.set_cons_zero, List.set_cons_succ, List.getElem_toArray, List.getElem_cons_zero, List.getElem_cons_succ]
      refine wpAnyH_done (by kernel_rfl) ?_ _
      go_wp2_with fail
      refine bodyPost_ret (v := nuV (nuC sumT (fun d e => nuN (sumN d e)) ⟨k1, s1, d1⟩ ⟨k2, s2, d2⟩).c (nuC sumT (fun d e => nuN (sumN d e)) ⟨k1, s1, d1⟩ ⟨k2, s2, d2⟩).neg b4 A4 l4.length c4 x4) (by simp [results, Tryz.results34, go_sem, PB_0, PB_1, PB_2, PB_3, PB_4, PB_f0, PB_f1, PB_f2, PB_f3, PB_f4, QB_0, QB_1, QB_2, QB_3, QB_4, QB_f0, QB_f1, QB_f2, QB_f3, QB_f4, RB_0, RB_1, RB_2, RB_3, RB_4, RB_f0, RB_f1, RB_f2, RB_f3, RB_f4]) rfl ?_
      exact ⟨b4, l4, A4, c4, x4, rfl, hd4, m4.put5 RB _ _ _ _ _ _ _, by go_grown⟩
  · go_simp
    with_reducible refine (tab_sums _).mono ?_
    rintro e w900 ⟨B, rfl, hM, hBB, hb⟩
    clear PB_0 PB_1 PB_2 PB_3 PB_4 PB_f0 PB_f1 PB_f2 PB_f3 PB_f4
    clear QB_0 QB_1 QB_2 QB_3 QB_4 QB_f0 QB_f1 QB_f2 QB_f3 QB_f4
    clear RB_0 RB_1 RB_2 RB_3 RB_4 RB_f0 RB_f1 RB_f2 RB_f3 RB_f4
    replace bw : Below w.heap.size w w900 := dy_end bw hb
    have hs900 := bw.size
    replace h1 := Lv.on h1 hb
    replace h2 := Lv.on h2 hb
    replace PB := Blk.on PB hb
    replace QB := Blk.on QB hb
    replace RB := Blk.on RB hb
    clear hb
    have PB_0 := Blk.cell PB 0 rfl
    have PB_1 := Blk.cell PB 1 rfl
    have PB_2 := Blk.cell PB 2 rfl
    have PB_3 := Blk.cell PB 3 rfl
    have PB_4 := Blk.cell PB 4 rfl
    have PB_f0 := Blk.free PB 0
    have PB_f1 := Blk.free PB 1
    have PB_f2 := Blk.free PB 2
    have PB_f3 := Blk.free PB 3
    have PB_f4 := Blk.free PB 4
    have QB_0 := Blk.cell QB 0 rfl
    have QB_1 := Blk.cell QB 1 rfl
    have QB_2 := Blk.cell QB 2 rfl
    have QB_3 := Blk.cell QB 3 rfl
    have QB_4 := Blk.cell QB 4 rfl
    have QB_f0 := Blk.free QB 0
    have QB_f1 := Blk.free QB 1
    have QB_f2 := Blk.free QB 2
    have QB_f3 := Blk.free QB 3
    have QB_f4 := Blk.free QB 4
    have RB_0 := Blk.cell RB 0 rfl
    have RB_1 := Blk.cell RB 1 rfl
    have RB_2 := Blk.cell RB 2 rfl
    have RB_3 := Blk.cell RB 3 rfl
    have RB_4 := Blk.cell RB 4 rfl
    have RB_f0 := Blk.free RB 0
    have RB_f1 := Blk.free RB 1
    have RB_f2 := Blk.free RB 2
    have RB_f3 := Blk.free RB 3
    have RB_f4 := Blk.free RB 4
    refine hK.out _ _ trivial (fun _ => ?_)
    clear hK K
    try simp only [Act.put, List.setIfInBounds_toArray, List.set_cons_zero, List.set_cons_succ, List.getElem_toArray, List.getElem_cons_zero, List.getElem_cons_succ]
    refine wpAnyH_ready (rs := [0, 1]) (by kernel_rfl) (by simp) ?_
    refine (AllReadyH.cons rfl (fun K hK => ?_) (AllReadyH.cons rfl (fun K hK => ?_) AllReadyH.nil))
    · go_simp
      refine hK.out _ _ trivial (fun _ => ?_)
      clear hK K
      try simp only [Act.put, List.setIfInBounds_toArray, List.set_cons_zero, List.set_cons_succ, List.getElem_toArray, List.getElem_cons_zero, List.getElem_cons_succ]
      refine wpAnyH_ready (rs := [1]) (by kernel_rfl) (by simp) ?_
      refine (AllReadyH.cons rfl (fun K hK => ?_) AllReadyH.nil)
      go_simp
      refine hK.out _ _ trivial (fun _ => ?_)
      clear hK K
      try simp only [Act.put, List.setIfInBounds_toArray, List.set_cons_zero, List.set_cons_succ, List.getElem_toArray, List.getElem_cons_zero, List.getElem_cons_succ]
      refine wpAnyH_ready (rs := [3]) (by kernel_rfl) (by simp) ?_
      refine (AllReadyH.cons rfl (fun K hK => ?_) AllReadyH.nil)
      go_simp
      have HC := Lib.hid (fun W (hb : Below w900.heap.size w900 W) (m1 : Lv W A1 l1.length c1 l1) (m2 : Lv W A2 l2.length c2 l2) => sumOne_any hd1 m1 hd2 m2 (hT.onD (dy_end bw hb)) i1 i2)
      with_reducible refine (comb_any_s (r := fun d e => nuN (sumN d e)) hM (sumT_bd k1 k2) rx ry hd1 h1 hd2 h2 (fun _ => HC)).mono ?_
      rintro e w1000 ⟨b4, l4, A4, c4, x4, rfl, hd4, m4, hb⟩
      clear PB_0 PB_1 PB_2 PB_3 PB_4 PB_f0 PB_f1 PB_f2 PB_f3 PB_f4
      clear QB_0 QB_1 QB_2 QB_3 QB_4 QB_f0 QB_f1 QB_f2 QB_f3 QB_f4
      clear RB_0 RB_1 RB_2 RB_3 RB_4 RB_f0 RB_f1 RB_f2 RB_f3 RB_f4
      replace bw : Below w.heap.size w w1000 := dy_end bw hb
      replace PB := Blk.on PB hb
      replace QB := Blk.on QB hb
      replace RB := Blk.on RB hb
      clear hb HC h1 h2
      have PB_0 := Blk.cell PB 0 rfl
      have PB_1 := Blk.cell PB 1 rfl
      have PB_2 := Blk.cell PB 2 rfl
      have PB_3 := Blk.cell PB 3 rfl
      have PB_4 := Blk.cell PB 4 rfl
      have PB_f0 := Blk.free PB 0
      have PB_f1 := Blk.free PB 1
      have PB_f2 := Blk.free PB 2
      have PB_f3 := Blk.free PB 3
      have PB_f4 := Blk.free PB 4
      have QB_0 := Blk.cell QB 0 rfl
      have QB_1 := Blk.cell QB 1 rfl
      have QB_2 := Blk.cell QB 2 rfl
      have QB_3 := Blk.cell QB 3 rfl
      have QB_4 := Blk.cell QB 4 rfl
      have QB_f0 := Blk.free QB 0
      have QB_f1 := Blk.free QB 1
      have QB_f2 := Blk.free QB 2
      have QB_f3 := Blk.free QB 3
      have QB_f4 := Blk.free QB 4
      have RB_0 := Blk.cell RB 0 rfl
      have RB_1 := Blk.cell RB 1 rfl
      have RB_2 := Blk.cell RB 2 rfl
      have RB_3 := Blk.cell RB 3 rfl
      have RB_4 := Blk.cell RB 4 rfl
      have RB_f0 := Blk.free RB 0
      have RB_f1 := Blk.free RB 1
      have RB_f2 := Blk.free RB 2
      have RB_f3 := Blk.free RB 3
      have RB_f4 := Blk.free RB 4
      refine hK.out _ _ trivial (fun _ => ?_)
      clear hK K
      try simp only [Act.put, List.setIfInBounds_toArray, List.set_cons_zero, List.set_cons_succ, List.getElem_toArray, List.getElem_cons_zero, List.getElem_cons_succ]
      refine wpAnyH_ready (rs := [4]) (by kernel_rfl) (by simp) ?_
      refine (AllReadyH.cons rfl (fun K hK => ?_) AllReadyH.nil)
      go_simp
      refine hK.out _ _ trivial (fun _ => ?_)
      clear hK K
      try simp only [Act.put, List.setIfInBounds_toArray, List.set_cons_zero, List.set_cons_succ, List.getElem_toArray, List.getElem_cons_zero, List.getElem_cons_succ]
      refine wpAnyH_done (by kernel_rfl) ?_ _
      go_wp2_with fail
      refine bodyPost_ret (v := nuV (nuC sumT (fun d e => nuN (sumN d e)) ⟨k1, s1, d1⟩ ⟨k2, s2, d2⟩).c (nuC sumT (fun d e => nuN (sumN d e)) ⟨k1, s1, d1⟩ ⟨k2, s2, d2⟩).neg b4 A4 l4.length c4 x4) (by simp [results, Tryz.results34, go_sem, PB_0, PB_1, PB_2, PB_3, PB_4, PB_f0, PB_f1, PB_f2, PB_f3, PB_f4, QB_0, QB_1, QB_2, QB_3, QB_4, QB_f0, QB_f1, QB_f2, QB_f3, QB_f4, RB_0, RB_1, RB_2, RB_3, RB_4, RB_f0, RB_f1, RB_f2, RB_f3, RB_f4]) rfl ?_
      exact ⟨b4, l4, A4, c4, x4, rfl, hd4, m4.put5 RB _ _ _ _ _ _ _, by go_grown⟩
    · go_simp
      refine hK.out _ _ trivial (fun _ => ?_)
      clear hK K
      try simp only [Act.put, List.setIfInBounds_toArray, List.set_cons_zero, List.set_cons_succ, List.getElem_toArray, List.getElem_cons_zero, List.getElem_cons_succ]
      refine wpAnyH_ready (rs := [0]) (by kernel_rfl) (by simp) ?_
      refine (AllReadyH.cons rfl (fun K hK => ?_) AllReadyH.nil)
      go_simp
      refine hK.out _ _ trivial (fun _ => ?_)
      clear hK K
      try simp only [Act.put, List.setIfInBounds_toArray, List.set_cons_zero, List.set_cons_succ, List.getElem_toArray, List.getElem_cons_zero, List.getElem_cons_succ]
      refine wpAnyH_ready (rs := [3]) (by kernel_rfl) (by simp) ?_
      refine (AllReadyH.cons rfl (fun K hK => ?_) AllReadyH.nil)
      go_simp
      have HC := Lib.hid (fun W (hb : Below w900.heap.size w900 W) (m1 : Lv W A1 l1.length c1 l1) (m2 : Lv W A2 l2.length c2 l2) => sumOne_any hd1 m1 hd2 m2 (hT.onD (dy_end bw hb)) i1 i2)
      with_reducible refine (comb_any_s (r := fun d e => nuN (sumN d e)) hM (sumT_bd k1 k2) rx ry hd1 h1 hd2 h2 (fun _ => HC)).mono ?_
      rintro e w1100 ⟨b4, l4, A4, c4, x4, rfl, hd4, m4, hb⟩
      clear PB_0 PB_1 PB_2 PB_3 PB_4 PB_f0 PB_f1 PB_f2 PB_f3 PB_f4
      clear QB_0 QB_1 QB_2 QB_3 QB_4 QB_f0 QB_f1 QB_f2 QB_f3 QB_f4
      clear RB_0 RB_1 RB_2 RB_3 RB_4 RB_f0 RB_f1 RB_f2 RB_f3 RB_f4
      replace bw : Below w.heap.size w w1100 := dy_end bw hb
      replace PB := Blk.on PB hb
      replace QB := Blk.on QB hb
      replace RB := Blk.on RB hb
      clear hb HC h1 h2
      have PB_0 := Blk.cell PB 0 rfl
      have PB_1 := Blk.cell PB 1 rfl
      have PB_2 := Blk.cell PB 2 rfl
      have PB_3 := Blk.cell PB 3 rfl
      have PB_4 := Blk.cell PB 4 rfl
      have PB_f0 := Blk.free PB 0
      have PB_f1 := Blk.free PB 1
      have PB_f2 := Blk.free PB 2
      have PB_f3 := Blk.free PB 3
      have PB_f4 := Blk.free PB 4
      have QB_0 := Blk.cell QB 0 rfl
      have QB_1 := Blk.cell QB 1 rfl
      have QB_2 := Blk.cell QB 2 rfl
      have QB_3 := Blk.cell QB 3 rfl
      have QB_4 := Blk.cell QB 4 rfl
      have QB_f0 := Blk.free QB 0
      have QB_f1 := Blk.free QB 1
      have QB_f2 := Blk.free QB 2
      have QB_f3 := Blk.free QB 3
      have QB_f4 := Blk.free QB 4
      have RB_0 := Blk.cell RB 0 rfl
      have RB_1 := Blk.cell RB 1 rfl
      have RB_2 := Blk.cell RB 2 rfl
      have RB_3 := Blk.cell RB 3 rfl
      have RB_4 := Blk.cell RB 4 rfl
      have RB_f0 := Blk.free RB 0
      have RB_f1 := Blk.free RB 1
      have RB_f2 := Blk.free RB 2
      have RB_f3 := Blk.free RB 3
      have RB_f4 := Blk.free RB 4
      refine hK.out _ _ trivial (fun _ => ?_)
      clear hK K
      try simp only [Act.put, List.setIfInBounds_toArray, List.set_cons_zero, List.set_cons_succ, List.getElem_toArray, List.getElem_cons_zero, List.getElem_cons_succ]
      refine wpAnyH_ready (rs := [4]) (by kernel_rfl) (by simp) ?_
      refine (AllReadyH.cons rfl (fun K hK => ?_) AllReadyH.nil)
      go_simp
      refine hK.out _ _ trivial (fun _ => ?_)
      clear hK K
      try simp only [Act.put, List.setIfInBounds_toArray, List.set_cons_zero, List.set_cons_succ, List.getElem_toArray, List.getElem_cons_zero, List.getElem_cons_succ]
      refine wpAnyH_done (by kernel_rfl) ?_ _
      go_wp2_with fail
      refine bodyPost_ret (v := nuV (nuC sumT (fun d e => nuN (sumN d e)) ⟨k1, s1, d1⟩ ⟨k2, s2, d2⟩).c (nuC sumT (fun d e => nuN (sumN d e)) ⟨k1, s1, d1⟩ ⟨k2, s2, d2⟩).neg b4 A4 l4.length c4 x4) (by simp [results, Tryz.results34, go_sem, PB_0, PB_1, PB_2, PB_3, PB_4, PB_f0, PB_f1, PB_f2, PB_f3, PB_f4, QB_0, QB_1, QB_2, QB_3, QB_4, QB_f0, QB_f1, QB_f2, QB_f3, QB_f4, RB_0, RB_1, RB_2, RB_3, RB_4, RB_f0, RB_f1, RB_f2, RB_f3, RB_f4]) rfl ?_
      exact ⟨b4, l4, A4, c4, x4, rfl, hd4, m4.put5 RB _ _ _ _ _ _ _, by go_grown⟩

set_option maxRecDepth 100000 in
set_option maxHeartbeats 4000000 in
theorem npro_any (rx : rng k1) (ry : rng k2) (hd1 : Dn b1 l1 x1 d1) (h1 : Lv w A1 l1.length c1 l1) (hd2 : Dn b2 l2 x2 d2) (h2 : Lv w A2 l2.length c2 l2) (hT : Tab w) (i1 : d1.In (-1074) 1024) (i2 : d2.In (-1074) 1024) :
    Calls Tryz.prog 42 #[nuV k1 s1 b1 A1 l1.length c1 x1, nuV k2 s2 b2 A2 l2.length c2 x2] w (NuP (nuPro ⟨k1, s1, d1⟩ ⟨k2, s2, d2⟩) w) := by
  have PB := Blk.new w [.int .i64 (k1), .bool (s1), .bool b1, .slice A1 l1.length c1, .int .i64 x1] 52
  have QB := Blk.new (w.alloc (.cells #[.int .i64 (k1), .bool (s1), .bool b1, .slice A1 l1.length c1, .int .i64 x1] 52)) [.int .i64 (k2), .bool (s2), .bool b2, .slice A2 l2.length c2, .int .i64 x2] 52
  simp only [World.size_alloc] at QB
  replace PB := Blk.alloc PB (.cells #[.int .i64 (k2), .bool (s2), .bool b2, .slice A2 l2.length c2, .int .i64 x2] 52)
  have RB := Blk.new ((w.alloc (.cells #[.int .i64 (k1), .bool (s1), .bool b1, .slice A1 l1.length c1, .int .i64 x1] 52)).alloc (.cells #[.int .i64 (k2), .bool (s2), .bool b2, .slice A2 l2.length c2, .int .i64 x2] 52)) [.int .i64 0, .bool false, .bool false, .slice none 0 0, .int .i64 0] 52
  simp only [World.size_alloc] at RB
  replace PB := Blk.alloc PB (.cells #[.int .i64 0, .bool false, .bool false, .slice none 0 0, .int .i64 0] 52)
  replace QB := Blk.alloc QB (.cells #[.int .i64 0, .bool false, .bool false, .slice none 0 0, .int .i64 0] 52)
  have bw : Below w.heap.size w (((w.alloc (.cells #[.int .i64 (k1), .bool (s1), .bool b1, .slice A1 l1.length c1, .int .i64 x1] 52)).alloc (.cells #[.int .i64 (k2), .bool (s2), .bool b2, .slice A2 l2.length c2, .int .i64 x2] 52)).alloc (.cells #[.int .i64 0, .bool false, .bool false, .slice none 0 0, .int .i64 0] 52)) := by go_grown
  have PB_0 := Blk.cell PB 0 rfl
  have PB_1 := Blk.cell PB 1 rfl
  have PB_2 := Blk.cell PB 2 rfl
  have PB_3 := Blk.cell PB 3 rfl
  have PB_4 := Blk.cell PB 4 rfl
  have PB_f0 := Blk.free PB 0
  have PB_f1 := Blk.free PB 1
  have PB_f2 := Blk.free PB 2
  have PB_f3 := Blk.free PB 3
  have PB_f4 := Blk.free PB 4
  have QB_0 := Blk.cell QB 0 rfl
  have QB_1 := Blk.cell QB 1 rfl
  have QB_2 := Blk.cell QB 2 rfl
  have QB_3 := Blk.cell QB 3 rfl
  have QB_4 := Blk.cell QB 4 rfl
  have QB_f0 := Blk.free QB 0
  have QB_f1 := Blk.free QB 1
  have QB_f2 := Blk.free QB 2
  have QB_f3 := Blk.free QB 3
  have QB_f4 := Blk.free QB 4
  have RB_0 := Blk.cell RB 0 rfl
  have RB_1 := Blk.cell RB 1 rfl
  have RB_2 := Blk.cell RB 2 rfl
  have RB_3 := Blk.cell RB 3 rfl
  have RB_4 := Blk.cell RB 4 rfl
  have RB_f0 := Blk.free RB 0
  have RB_f1 := Blk.free RB 1
  have RB_f2 := Blk.free RB 2
  have RB_f3 := Blk.free RB 3
  have RB_f4 := Blk.free RB 4
  replace h1 := h1.on bw
  replace h2 := h2.on bw
  go_enter Tryz.func42, Tryz.ntmps42
  go_wp2_with fail
  have hb : Below (((w.alloc (.cells #[.int .i64 (k1), .bool (s1), .bool b1, .slice A1 l1.length c1, .int .i64 x1] 52)).alloc (.cells #[.int .i64 (k2), .bool (s2), .bool b2, .slice A2 l2.length c2, .int .i64 x2] 52)).alloc (.cells #[.int .i64 0, .bool false, .bool false, .slice none 0 0, .int .i64 0] 52)).heap.size (((w.alloc (.cells #[.int .i64 (k1), .bool (s1), .bool b1, .slice A1 l1.length c1, .int .i64 x1] 52)).alloc (.cells #[.int .i64 (k2), .bool (s2), .bool b2, .slice A2 l2.length c2, .int .i64 x2] 52)).alloc (.cells #[.int .i64 0, .bool false, .bool false, .slice none 0 0, .int .i64 0] 52)) (((w.alloc (.cells #[.int .i64 (k1), .bool (s1), .bool b1, .slice A1 l1.length c1, .int .i64 x1] 52)).alloc (.cells #[.int .i64 (k2), .bool (s2), .bool b2, .slice A2 l2.length c2, .int .i64 x2] 52)).alloc (.cells #[.int .i64 0, .bool false, .bool false, .slice none 0 0, .int .i64 0] 52)).drew := (Below.refl _ _).drew
  clear PB_0 PB_1 PB_2 PB_3 PB_4 PB_f0 PB_f1 PB_f2 PB_f3 PB_f4
  clear QB_0 QB_1 QB_2 QB_3 QB_4 QB_f0 QB_f1 QB_f2 QB_f3 QB_f4
  clear RB_0 RB_1 RB_2 RB_3 RB_4 RB_f0 RB_f1 RB_f2 RB_f3 RB_f4
  replace h1 := Lv.on h1 hb
  replace h2 := Lv.on h2 hb
  replace PB := Blk.on PB hb
  replace QB := Blk.on QB hb
  replace RB := Blk.on RB hb
  replace bw := dy_end bw hb
  clear hb
  have PB_0 := Blk.cell PB 0 rfl
  have PB_1 := Blk.cell PB 1 rfl
  have PB_2 := Blk.cell PB 2 rfl
  have PB_3 := Blk.cell PB 3 rfl
  have PB_4 := Blk.cell PB 4 rfl
  have PB_f0 := Blk.free PB 0
  have PB_f1 := Blk.free PB 1
  have PB_f2 := Blk.free PB 2
  have PB_f3 := Blk.free PB 3
  have PB_f4 := Blk.free PB 4
  have QB_0 := Blk.cell QB 0 rfl
  have QB_1 := Blk.cell QB 1 rfl
  have QB_2 := Blk.cell QB 2 rfl
  have QB_3 := Blk.cell QB 3 rfl
  have QB_4 := Blk.cell QB 4 rfl
  have QB_f0 := Blk.free QB 0
  have QB_f1 := Blk.free QB 1
  have QB_f2 := Blk.free QB 2
  have QB_f3 := Blk.free QB 3
  have QB_f4 := Blk.free QB 4
  have RB_0 := Blk.cell RB 0 rfl
  have RB_1 := Blk.cell RB 1 rfl
  have RB_2 := Blk.cell RB 2 rfl
  have RB_3 := Blk.cell RB 3 rfl
  have RB_4 := Blk.cell RB 4 rfl
  have RB_f0 := Blk.free RB 0
  have RB_f1 := Blk.free RB 1
  have RB_f2 := Blk.free RB 2
  have RB_f3 := Blk.free RB 3
  have RB_f4 := Blk.free RB 4
  refine wp_region_held_drew (S := fun _ => True) (by kernel_rfl) trivial (fun _ => ?_)
  refine wpAnyH_ready (rs := [0, 1, 2]) (by kernel_rfl) (by simp) ?_
  refine (AllReadyH.cons rfl (fun K hK => ?_) (AllReadyH.cons rfl (fun K hK => ?_) (AllReadyH.cons rfl (fun K hK => ?_) AllReadyH.nil)))
  · go_simp
    refine hK.out _ _ trivial (fun _ => ?_)
    clear hK K
    try simp only [Act.put, List.setIfInBounds_toArray, List.set_cons_zero, List.set_cons_succ, List.getElem_toArray, List.getElem_cons_zero, List.getElem_cons_succ]
    refine wpAnyH_ready (rs := [1, 2]) (by kernel_rfl) (by simp) ?_
    refine (AllReadyH.cons rfl (fun K hK => ?_) (AllReadyH.cons rfl (fun K hK => ?_) AllReadyH.nil))
    · go_simp
      refine hK.out _ _ trivial (fun _ => ?_)
      clear hK K
      try simp only [Act.put, List.setIfInBounds_toArray, List.set_cons_zero, List.set_cons_succ, List.getElem_toArray, List.getElem_cons_zero, List.getElem_cons_succ]
      refine wpAnyH_ready (rs := [2]) (by kernel_rfl) (by simp) ?_
      refine (AllReadyH.cons rfl (fun K hK => ?_) AllReadyH.nil)
      go_simp
      with_reducible refine (tab_products _).mono ?_
      rintro e w100 ⟨B, rfl, hM, hBB, hb⟩
      clear PB_0 PB_1 PB_2 PB_3 PB_4 PB_f0 PB_f1 PB_f2 PB_f3 PB_f4
      clear QB_0 QB_1 QB_2 QB_3 QB_4 QB_f0 QB_f1 QB_f2 QB_f3 QB_f4
      clear RB_0 RB_1 RB_2 RB_3 RB_4 RB_f0 RB_f1 RB_f2 RB_f3 RB_f4
      replace bw : Below w.heap.size w w100 := dy_end bw hb
      have hs100 := bw.size
      replace h1 := Lv.on h1 hb
      replace h2 := Lv.on h2 hb
      replace PB := Blk.on PB hb
      replace QB := Blk.on QB hb
      replace RB := Blk.on RB hb
      clear hb
      have PB_0 := Blk.cell PB 0 rfl
      have PB_1 := Blk.cell PB 1 rfl
      have PB_2 := Blk.cell PB 2 rfl
      have PB_3 := Blk.cell PB 3 rfl
      have PB_4 := Blk.cell PB 4 rfl
      have PB_f0 := Blk.free PB 0
      have PB_f1 := Blk.free PB 1
      have PB_f2 := Blk.free PB 2
      have PB_f3 := Blk.free PB 3
      have PB_f4 := Blk.free PB 4
      have QB_0 := Blk.cell QB 0 rfl
      have QB_1 := Blk.cell QB 1 rfl
      have QB_2 := Blk.cell QB 2 rfl
      have QB_3 := Blk.cell QB 3 rfl
      have QB_4 := Blk.cell QB 4 rfl
      have QB_f0 := Blk.free QB 0
      have QB_f1 := Blk.free QB 1
      have QB_f2 := Blk.free QB 2
      have QB_f3 := Blk.free QB 3
      have QB_f4 := Blk.free QB 4
      have RB_0 := Blk.cell RB 0 rfl
      have RB_1 := Blk.cell RB 1 rfl
      have RB_2 := Blk.cell RB 2 rfl
      have RB_3 := Blk.cell RB 3 rfl
      have RB_4 := Blk.cell RB 4 rfl
      have RB_f0 := Blk.free RB 0
      have RB_f1 := Blk.free RB 1
      have RB_f2 := Blk.free RB 2
      have RB_f3 := Blk.free RB 3
      have RB_f4 := Blk.free RB 4
      refine hK.out _ _ trivial (fun _ => ?_)
      clear hK K
      try simp only [Act.put, List.setIfInBounds_toArray, List.set_cons_zero, List.set_cons_succ, List.getElem_toArray, List.getElem_cons_zero, List.getElem_cons_succ]
      refine wpAnyH_ready (rs := [3]) (by kernel_rfl) (by simp) ?_
      refine (AllReadyH.cons rfl (fun K hK => ?_) AllReadyH.nil)
      go_simp
      have HC := Lib.hid (fun W (hb : Below w100.heap.size w100 W) (m1 : Lv W A1 l1.length c1 l1) (m2 : Lv W A2 l2.length c2 l2) => proOne_any hd1 m1 hd2 m2 (hT.onD (dy_end bw hb)) i1 i2)
      with_reducible refine (comb_any_p (r := fun d e => nuN (mulN d e)) hM (proT_bd k1 k2) rx ry hd1 h1 hd2 h2 (fun _ => HC)).mono ?_
      rintro e w200 ⟨b4, l4, A4, c4, x4, rfl, hd4, m4, hb⟩
      clear PB_0 PB_1 PB_2 PB_3 PB_4 PB_f0 PB_f1 PB_f2 PB_f3 PB_f4
      clear QB_0 QB_1 QB_2 QB_3 QB_4 QB_f0 QB_f1 QB_f2 QB_f3 QB_f4
      clear RB_0 RB_1 RB_2 RB_3 RB_4 RB_f0 RB_f1 RB_f2 RB_f3 RB_f4
      replace bw : Below w.heap.size w w200 := dy_end bw hb
      replace PB := Blk.on PB hb
      replace QB := Blk.on QB hb
      replace RB := Blk.on RB hb
      clear hb HC h1 h2
      have PB_0 := Blk.cell PB 0 rfl
      have PB_1 := Blk.cell PB 1 rfl
      have PB_2 := Blk.cell PB 2 rfl
      have PB_3 := Blk.cell PB 3 rfl
      have PB_4 := Blk.cell PB 4 rfl
      have PB_f0 := Blk.free PB 0
      have PB_f1 := Blk.free PB 1
      have PB_f2 := Blk.free PB 2
      have PB_f3 := Blk.free PB 3
      have PB_f4 := Blk.free PB 4
      have QB_0 := Blk.cell QB 0 rfl
      have QB_1 := Blk.cell QB 1 rfl
      have QB_2 := Blk.cell QB 2 rfl
      have QB_3 := Blk.cell QB 3 rfl
      have QB_4 := Blk.cell QB 4 rfl
      have QB_f0 := Blk.free QB 0
      have QB_f1 := Blk.free QB 1
      have QB_f2 := Blk.free QB 2
      have QB_f3 := Blk.free QB 3
      have QB_f4 := Blk.free QB 4
      have RB_0 := Blk.cell RB 0 rfl
      have RB_1 := Blk.cell RB 1 rfl
      have RB_2 := Blk.cell RB 2 rfl
      have RB_3 := Blk.cell RB 3 rfl
      have RB_4 := Blk.cell RB 4 rfl
      have RB_f0 := Blk.free RB 0
      have RB_f1 := Blk.free RB 1
      have RB_f2 := Blk.free RB 2
      have RB_f3 := Blk.free RB 3
      have RB_f4 := Blk.free RB 4
      refine hK.out _ _ trivial (fun _ => ?_)
      clear hK K
      try simp only [Act.put, List.setIfInBounds_toArray, List.set_cons_zero, List.set_cons_succ, List.getElem_toArray, List.getElem_cons_zero, List.getElem_cons_succ]
      refine wpAnyH_ready (rs := [4]) (by kernel_rfl) (by simp) ?_
      refine (AllReadyH.cons rfl (fun K hK => ?_) AllReadyH.nil)
      go_simp
      refine hK.out _ _ trivial (fun _ => ?_)
      clear hK K
      try simp only [Act.put, List.setIfInBounds_toArray, List.set_cons_zero, List.set_cons_succ, List.getElem_toArray, List.getElem_cons_zero, List.getElem_cons_succ]
      refine wpAnyH_done (by kernel_rfl) ?_ _
      go_wp2_with fail
      refine bodyPost_ret (v := nuV (nuC proT (fun d e => nuN (mulN d e)) ⟨k1, s1, d1⟩ ⟨k2, s2, d2⟩).c (nuC proT (fun d e => nuN (mulN d e)) ⟨k1, s1, d1⟩ ⟨k2, s2, d2⟩).neg b4 A4 l4.length c4 x4) (by simp [results, Tryz.results42, go_sem, PB_0, PB_1, PB_2, PB_3, PB_4, PB_f0, PB_f1, PB_f2, PB_f3, PB_f4, QB_0, QB_1, QB_2, QB_3, QB_4, QB_f0, QB_f1, QB_f2, QB_f3, QB_f4, RB_0, RB_1, RB_2, RB_3, RB_4, RB_f0, RB_f1, RB_f2, RB_f3, RB_f4]) rfl ?_
      exact ⟨b4, l4, A4, c4, x4, rfl, hd4, m4.put5 RB _ _ _ _ _ _ _, by go_grown⟩
    · go_simp
      with_reducible refine (tab_products _).mono ?_
      rintro e w300 ⟨B, rfl, hM, hBB, hb⟩
      clear PB_0 PB_1 PB_2 PB_3 PB_4 PB_f0 PB_f1 PB_f2 PB_f3 PB_f4
      clear QB_0 QB_1 QB_2 QB_3 QB_4 QB_f0 QB_f1 QB_f2 QB_f3 QB_f4
      clear RB_0 RB_1 RB_2 RB_3 RB_4 RB_f0 RB_f1 RB_f2 RB_f3 RB_f4
      replace bw : Below w.heap.size w w300 := dy_end bw hb
      have hs300 := bw.size
      replace h1 := Lv.on h1 hb
      replace h2 := Lv.on h2 hb
      replace PB := Blk.on PB hb
      replace QB := Blk.on QB hb
      replace RB := Blk.on RB hb
      clear hb
      have PB_0 := Blk.cell PB 0 rfl
      have PB_1 := Blk.cell PB 1 rfl
      have PB_2 := Blk.cell PB 2 rfl
      have PB_3 := Blk.cell PB 3 rfl
      have PB_4 := Blk.cell PB 4 rfl
      have PB_f0 := Blk.free PB 0
      have PB_f1 := Blk.free PB 1
      have PB_f2 := Blk.free PB 2
      have PB_f3 := Blk.free PB 3
      have PB_f4 := Blk.free PB 4
      have QB_0 := Blk.cell QB 0 rfl
      have QB_1 := Blk.cell QB 1 rfl
      have QB_2 := Blk.cell QB 2 rfl
      have QB_3 := Blk.cell QB 3 rfl
      have QB_4 := Blk.cell QB 4 rfl
      have QB_f0 := Blk.free QB 0
      have QB_f1 := Blk.free QB 1
      have QB_f2 := Blk.free QB 2
      have QB_f3 := Blk.free QB 3
      have QB_f4 := Blk.free QB 4
      have RB_0 := Blk.cell RB 0 rfl
      have RB_1 := Blk.cell RB 1 rfl
      have RB_2 := Blk.cell RB 2 rfl
      have RB_3 := Blk.cell RB 3 rfl
      have RB_4 := Blk.cell RB 4 rfl
      have RB_f0 := Blk.free RB 0
      have RB_f1 := Blk.free RB 1
      have RB_f2 := Blk.free RB 2
      have RB_f3 := Blk.free RB 3
      have RB_f4 := Blk.free RB 4
      refine hK.out _ _ trivial (fun _ => ?_)
      clear hK K
      try simp only [Act.put, List.setIfInBounds_toArray, List.set_cons_zero, List.set_cons_succ, List.getElem_toArray, List.getElem_cons_zero, List.getElem_cons_succ]
      refine wpAnyH_ready (rs := [1]) (by kernel_rfl) (by simp) ?_
      refine (AllReadyH.cons rfl (fun K hK => ?_) AllReadyH.nil)
      go_simp
      refine hK.out _ _ trivial (fun _ => ?_)
      clear hK K
      try simp only [Act.put, List.setIfInBounds_toArray, List.set_cons_zero, List.set_cons_succ, List.getElem_toArray, List.getElem_cons_zero, List.getElem_cons_succ]
      refine wpAnyH_ready (rs := [3]) (by kernel_rfl) (by simp) ?_
      refine (AllReadyH.cons rfl (fun K hK => ?_) AllReadyH.nil)
      go_simp
      have HC := Lib.hid (fun W (hb : Below w300.heap.size w300 W) (m1 : Lv W A1 l1.length c1 l1) (m2 : Lv W A2 l2.length c2 l2) => proOne_any hd1 m1 hd2 m2 (hT.onD (dy_end bw hb)) i1 i2)
      with_reducible refine (comb_any_p (r := fun d e => nuN (mulN d e)) hM (proT_bd k1 k2) rx ry hd1 h1 hd2 h2 (fun _ => HC)).mono ?_
      rintro e w400 ⟨b4, l4, A4, c4, x4, rfl, hd4, m4, hb⟩
      clear PB_0 PB_1 PB_2 PB_3 PB_4 PB_f0 PB_f1 PB_f2 PB_f3 PB_f4
      clear QB_0 QB_1 QB_2 QB_3 QB_4 QB_f0 QB_f1 QB_f2 QB_f3 QB_f4
      clear RB_0 RB_1 RB_2 RB_3 RB_4 RB_f0 RB_f1 RB_f2 RB_f3 RB_f4
      replace bw : Below w.heap.size w w400 := dy_end bw hb
      replace PB := Blk.on PB hb
      replace QB := Blk.on QB hb
      replace RB := Blk.on RB hb
      clear hb HC h1 h2
      have PB_0 := Blk.cell PB 0 rfl
      have PB_1 := Blk.cell PB 1 rfl
      have PB_2 := Blk.cell PB 2 rfl
      have PB_3 := Blk.cell PB 3 rfl
      have PB_4 := Blk.cell PB 4 rfl
      have PB_f0 := Blk.free PB 0
      have PB_f1 := Blk.free PB 1
      have PB_f2 := Blk.free PB 2
      have PB_f3 := Blk.free PB 3
      have PB_f4 := Blk.free PB 4
      have QB_0 := Blk.cell QB 0 rfl
      have QB_1 := Blk.cell QB 1 rfl
      have QB_2 := Blk.cell QB 2 rfl
      have QB_3 := Blk.cell QB 3 rfl
      have QB_4 := Blk.cell QB 4 rfl
      have QB_f0 := Blk.free QB 0
      have QB_f1 := Blk.free QB 1
      have QB_f2 := Blk.free QB 2
      have QB_f3 := Blk.free QB 3
      have QB_f4 := Blk.free QB 4
      have RB_0 := Blk.cell RB 0 rfl
      have RB_1 := Blk.cell RB 1 rfl
      have RB_2 := Blk.cell RB 2 rfl
      have RB_3 := Blk.cell RB 3 rfl
      have RB_4 := Blk.cell RB 4 rfl
      have RB_f0 := Blk.free RB 0
      have RB_f1 := Blk.free RB 1
      have RB_f2 := Blk.free RB 2
      have RB_f3 := Blk.free RB 3
      have RB_f4 := Blk.free RB 4
      refine hK.out _ _ trivial (fun _ => ?_)
      clear hK K
      try simp only [Act.put, List.setIfInBounds_toArray, List.set_cons_zero, List.set_cons_succ, List.getElem_toArray, List.getElem_cons_zero, List.getElem_cons_succ]
      refine wpAnyH_ready (rs := [4]) (by kernel_rfl) (by simp) ?_
      refine (AllReadyH.cons rfl (fun K hK => ?_) AllReadyH.nil)
      go_simp
      refine hK.out _ _ trivial (fun _ => ?_)
      clear hK K
      try simp only [Act.put, List.setIfInBounds_toArray, List.set_cons_zero, List.set_cons_succ, List.getElem_toArray, List.getElem_cons_zero, List.getElem_cons_succ]
      refine wpAnyH_done (by kernel_rfl) ?_ _
      go_wp2_with fail
      refine bodyPost_ret (v := nuV (nuC proT (fun d e => nuN (mulN d e)) ⟨k1, s1, d1⟩ ⟨k2, s2, d2⟩).c (nuC proT (fun d e => nuN (mulN d e)) ⟨k1, s1, d1⟩ ⟨k2, s2, d2⟩).neg b4 A4 l4.length c4 x4) (by simp [results, Tryz.results42, go_sem, PB_0, PB_1, PB_2, PB_3, PB_4, PB_f0, PB_f1, PB_f2, PB_f3, PB_f4, QB_0, QB_1, QB_2, QB_3, QB_4, QB_f0, QB_f1, QB_f2, QB_f3, QB_f4, RB_0, RB_1, RB_2, RB_3, RB_4, RB_f0, RB_f1, RB_f2, RB_f3, RB_f4]) rfl ?_
      exact ⟨b4, l4, A4, c4, x4, rfl, hd4, m4.put5 RB _ _ _ _ _ _ _, by go_grown⟩
  · go_simp
    refine hK.out _ _ trivial (fun _ => ?_)
    clear hK K
    try simp only [Act.put, List.setIfInBounds_toArray, List.set_cons_zero, List.set_cons_succ, List.getElem_toArray, List.getElem_cons_zero, List.getElem_cons_succ]
    refine wpAnyH_ready (rs := [0, 2]) (by kernel_rfl) (by simp) ?_
    refine (AllReadyH.cons rfl (fun K hK => ?_) (AllReadyH.cons rfl (fun K hK => ?_) AllReadyH.nil))
    · go_simp
      refine hK.out _ _ trivial (fun _ => ?_)
      clear hK K
      try simp only [Act.put, List.setIfInBounds_toArray, List.set_cons_zero, List.set_cons_succ, List.getElem_toArray, List.getElem_cons_zero, List.getElem_cons_succ]
      refine wpAnyH_ready (rs := [2]) (by kernel_rfl) (by simp) ?_
      refine (AllReadyH.cons rfl (fun K hK => ?_) AllReadyH.nil)
      go_simp
      with_reducible refine (tab_products _).mono ?_
      rintro e w500 ⟨B, rfl, hM, hBB, hb⟩
      clear PB_0 PB_1 PB_2 PB_3 PB_4 PB_f0 PB_f1 PB_f2 PB_f3 PB_f4
      clear QB_0 QB_1 QB_2 QB_3 QB_4 QB_f0 QB_f1 QB_f2 QB_f3 QB_f4
      clear RB_0 RB_1 RB_2 RB_3 RB_4 RB_f0 RB_f1 RB_f2 RB_f3 RB_f4
      replace bw : Below w.heap.size w w500 := dy_end bw hb
      have hs500 := bw.size
      replace h1 := Lv.on h1 hb
      replace h2 := Lv.on h2 hb
      replace PB := Blk.on PB hb
      replace QB := Blk.on QB hb
      replace RB := Blk.on RB hb
      clear hb
      have PB_0 := Blk.cell PB 0 rfl
      have PB_1 := Blk.cell PB 1 rfl
      have PB_2 := Blk.cell PB 2 rfl
      have PB_3 := Blk.cell PB 3 rfl
      have PB_4 := Blk.cell PB 4 rfl
      have PB_f0 := Blk.free PB 0
      have PB_f1 := Blk.free PB 1
      have PB_f2 := Blk.free PB 2
      have PB_f3 := Blk.free PB 3
      have PB_f4 := Blk.free PB 4
      have QB_0 := Blk.cell QB 0 rfl
      have QB_1 := Blk.cell QB 1 rfl
      have QB_2 := Blk.cell QB 2 rfl
      have QB_3 := Blk.cell QB 3 rfl
      have QB_4 := Blk.cell QB 4 rfl
      have QB_f0 := Blk.free QB 0
      have QB_f1 := Blk.free QB 1
      have QB_f2 := Blk.free QB 2
      have QB_f3 := Blk.free QB 3
      have QB_f4 := Blk.free QB 4
      have RB_0 := Blk.cell RB 0 rfl
      have RB_1 := Blk.cell RB 1 rfl
      have RB_2 := Blk.cell RB 2 rfl
      have RB_3 := Blk.cell RB 3 rfl
      have RB_4 := Blk.cell RB 4 rfl
      have RB_f0 := Blk.free RB 0
      have RB_f1 := Blk.free RB 1
      have RB_f2 := Blk.free RB 2
      have RB_f3 := Blk.free RB 3
      have RB_f4 := Blk.free RB 4
      refine hK.out _ _ trivial (fun _ => ?_)
      clear hK K
      try simp only [Act.put, List.setIfInBounds_toArray, List.set_cons_zero, List.set_cons_succ, List.getElem_toArray, List.getElem_cons_zero, List.getElem_cons_succ]
      refine wpAnyH_ready (rs := [3]) (by kernel_rfl) (by simp) ?_
      refine (AllReadyH.cons rfl (fun K hK => ?_) AllReadyH.nil)
      go_simp
      have HC := Lib.hid (fun W (hb : Below w500.heap.size w500 W) (m1 : Lv W A1 l1.length c1 l1) (m2 : Lv W A2 l2.length c2 l2) => proOne_any hd1 m1 hd2 m2 (hT.onD (dy_end bw hb)) i1 i2)
      with_reducible refine (comb_any_p (r := fun d e => nuN (mulN d e)) hM (proT_bd k1 k2) rx ry hd1 h1 hd2 h2 (fun _ => HC)).mono ?_
      rintro e w600 ⟨b4, l4, A4, c4, x4, rfl, hd4, m4, hb⟩
      clear PB_0 PB_1 PB_2 PB_3 PB_4 PB_f0 PB_f1 PB_f2 PB_f3 PB_f4
      clear QB_0 QB_1 QB_2 QB_3 QB_4 QB_f0 QB_f1 QB_f2 QB_f3 QB_f4
      clear RB_0 RB_1 RB_2 RB_3 RB_4 RB_f0 RB_f1 RB_f2 RB_f3 RB_f4
      replace bw : Below w.heap.size w w600 := dy_end bw hb
      replace PB := Blk.on PB hb
      replace QB := Blk.on QB hb
      replace RB := Blk.on RB hb
      clear hb HC h1 h2
      have PB_0 := Blk.cell PB 0 rfl
      have PB_1 := Blk.cell PB 1 rfl
      have PB_2 := Blk.cell PB 2 rfl
      have PB_3 := Blk.cell PB 3 rfl
      have PB_4 := Blk.cell PB 4 rfl
      have PB_f0 := Blk.free PB 0
      have PB_f1 := Blk.free PB 1
      have PB_f2 := Blk.free PB 2
      have PB_f3 := Blk.free PB 3
      have PB_f4 := Blk.free PB 4
      have QB_0 := Blk.cell QB 0 rfl
      have QB_1 := Blk.cell QB 1 rfl
      have QB_2 := Blk.cell QB 2 rfl
      have QB_3 := Blk.cell QB 3 rfl
      have QB_4 := Blk.cell QB 4 rfl
      have QB_f0 := Blk.free QB 0
      have QB_f1 := Blk.free QB 1
      have QB_f2 := Blk.free QB 2
      have QB_f3 := Blk.free QB 3
      have QB_f4 := Blk.free QB 4
      have RB_0 := Blk.cell RB 0 rfl
      have RB_1 := Blk.cell RB 1 rfl
      have RB_2 := Blk.cell RB 2 rfl
      have RB_3 := Blk.cell RB 3 rfl
      have RB_4 := Blk.cell RB 4 rfl
      have RB_f0 := Blk.free RB 0
      have RB_f1 := Blk.free RB 1
      have RB_f2 := Blk.free RB 2
      have RB_f3 := Blk.free RB 3
      have RB_f4 := Blk.free RB 4
      refine hK.out _ _ trivial (fun _ => ?_)
      clear hK K
      try simp only [Act.put, List.setIfInBounds_toArray, List.set_cons_zero, List.set_cons_succ, List.getElem_toArray, List.getElem_cons_zero, List.getElem_cons_succ]
      refine wpAnyH_ready (rs := [4]) (by kernel_rfl) (by simp) ?_
      refine (AllReadyH.cons rfl (fun K hK => ?_) AllReadyH.nil)
      go_simp
      refine hK.out _ _ trivial (fun _ => ?_)
      clear hK K
      try simp only [Act.put, List.setIfInBounds_toArray, List.set_cons_zero, List.set_cons_succ, List.getElem_toArray, List.getElem_cons_zero, List.getElem_cons_succ]
      refine wpAnyH_done (by kernel_rfl) ?_ _
      go_wp2_with fail
      refine bodyPost_ret (v := nuV (nuC proT (fun d e => nuN (mulN d e)) ⟨k1, s1, d1⟩ ⟨k2, s2, d2⟩).c (nuC proT (fun d e => nuN (mulN d e)) ⟨k1, s1, d1⟩ ⟨k2, s2, d2⟩).neg b4 A4 l4.length c4 x4) (by simp [results, Tryz.results42, go_sem, PB_0, PB_1, PB_2, PB_3, PB_4, PB_f0, PB_f1, PB_f2, PB_f3, PB_f4, QB_0, QB_1, QB_2, QB_3, QB_4, QB_f0, QB_f1, QB_f2, QB_f3, QB_f4, RB_0, RB_1, RB_2, RB_3, RB_4, RB_f0, RB_f1, RB_f2, RB_f3, RB_f4]) rfl ?_
      exact ⟨b4, l4, A4, c4, x4, rfl, hd4, m4.put5 RB _ _ _ _ _ _ _, by go_grown⟩
    · go_simp
      with_reducible refine (tab_products _).mono ?_
      rintro e w700 ⟨B, rfl, hM, hBB, hb⟩
      clear PB_0 PB_1 PB_2 PB_3 PB_4 PB_f0 PB_f1 PB_f2 PB_f3 PB_f4
      clear QB_0 QB_1 QB_2 QB_3 QB_4 QB_f0 QB_f1 QB_f2 QB_f3 QB_f4
      clear RB_0 RB_1 RB_2 RB_3 RB_4 RB_f0 RB_f1 RB_f2 RB_f3 RB_f4
      replace bw : Below w.heap.size w w700 := dy_end bw hb
      have hs700 := bw.size
      replace h1 := Lv.on h1 hb
      replace h2 := Lv.on h2 hb
      replace PB := Blk.on PB hb
      replace QB := Blk.on QB hb
      replace RB := Blk.on RB hb
      clear hb
      have PB_0 := Blk.cell PB 0 rfl
      have PB_1 := Blk.cell PB 1 rfl
      have PB_2 := Blk.cell PB 2 rfl
      have PB_3 := Blk.cell PB 3 rfl
      have PB_4 := Blk.cell PB 4 rfl
      have PB_f0 := Blk.free PB 0
      have PB_f1 := Blk.free PB 1
      have PB_f2 := Blk.free PB 2
      have PB_f3 := Blk.free PB 3
      have PB_f4 := Blk.free PB 4
      have QB_0 := Blk.cell QB 0 rfl
      have QB_1 := Blk.cell QB 1 rfl
      have QB_2 := Blk.cell QB 2 rfl
      have QB_3 := Blk.cell QB 3 rfl
      have QB_4 := Blk.cell QB 4 rfl
      have QB_f0 := Blk.free QB 0
      have QB_f1 := Blk.free QB 1
      have QB_f2 := Blk.free QB 2
      have QB_f3 := Blk.free QB 3
      have QB_f4 := Blk.free QB 4
      have RB_0 := Blk.cell RB 0 rfl
      have RB_1 := Blk.cell RB 1 rfl
      have RB_2 := Blk.cell RB 2 rfl
      have RB_3 := Blk.cell RB 3 rfl
      have RB_4 := Blk.cell RB 4 rfl
      have RB_f0 := Blk.free RB 0
      have RB_f1 := Blk.free RB 1
      have RB_f2 := Blk.free RB 2
      have RB_f3 := Blk.free RB 3
      have RB_f4 := Blk.free RB 4
      refine hK.out _ _ trivial (fun _ => ?_)
      clear hK K
      try simp only [Act.put, List.setIfInBounds_toArray, List.set_cons_zero, List.set_cons_succ, List.getElem_toArray, List.getElem_cons_zero, List.getElem_cons_succ]
      refine wpAnyH_ready (rs := [0]) (by kernel_rfl) (by simp) ?_
      refine (AllReadyH.cons rfl (fun K hK => ?_) AllReadyH.nil)
      go_simp
      refine hK.out _ _ trivial (fun _ => ?_)
      clear hK K
      try simp only [Act.put, List.setIfInBounds_toArray, List.set_cons_zero, List.set_cons_succ, List.getElem_toArray, List.getElem_cons_zero, List.getElem_cons_succ]
      refine wpAnyH_ready (rs := [3]) (by kernel_rfl) (by simp) ?_
      refine (AllReadyH.cons rfl (fun K hK => ?_) AllReadyH.nil)
      go_simp
      have HC := Lib.hid (fun W (hb : Below w700.heap.size w700 W) (m1 : Lv W A1 l1.length c1 l1) (m2 : Lv W A2 l2.length c2 l2) => proOne_any hd1 m1 hd2 m2 (hT.onD (dy_end bw hb)) i1 i2)
      with_reducible refine (comb_any_p (r := fun d e => nuN (mulN d e)) hM (proT_bd k1 k2) rx ry hd1 h1 hd2 h2 (fun _ => HC)).mono ?_
      rintro e w800 ⟨b4, l4, A4, c4, x4, rfl, hd4, m4, hb⟩
      clear PB_0 PB_1 PB_2 PB_3 PB_4 PB_f0 PB_f1 PB_f2 PB_f3 PB_f4
      clear QB_0 QB_1 QB_2 QB_3 QB_4 QB_f0 QB_f1 QB_f2 QB_f3 QB_f4
      clear RB_0 RB_1 RB_2 RB_3 RB_4 RB_f0 RB_f1 RB_f2 RB_f3 RB_f4
      replace bw : Below w.heap.size w w800 := dy_end bw hb
      replace PB := Blk.on PB hb
      replace QB := Blk.on QB hb
      replace RB := Blk.on RB hb
      clear hb HC h1 h2
      have PB_0 := Blk.cell PB 0 rfl
      have PB_1 := Blk.cell PB 1 rfl
      have PB_2 := Blk.cell PB 2 rfl
      have PB_3 := Blk.cell PB 3 rfl
      have PB_4 := Blk.cell PB 4 rfl
      have PB_f0 := Blk.free PB 0
      have PB_f1 := Blk.free PB 1
      have PB_f2 := Blk.free PB 2
      have PB_f3 := Blk.free PB 3
      have PB_f4 := Blk.free PB 4
      have QB_0 := Blk.cell QB 0 rfl
      have QB_1 := Blk.cell QB 1 rfl
      have QB_2 := Blk.cell QB 2 rfl
      have QB_3 := Blk.cell QB 3 rfl
      have QB_4 := Blk.cell QB 4 rfl
      have QB_f0 := Blk.free QB 0
      have QB_f1 := Blk.free QB 1
      have QB_f2 := Blk.free QB 2
      have QB_f3 := Blk.free QB 3
      have QB_f4 := Blk.free QB 4
      have RB_0 := Blk.cell RB 0 rfl
      have RB_1 := Blk.cell RB 1 rfl
      have RB_2 := Blk.cell RB 2 rfl
      have RB_3 := Blk.cell RB 3 rfl
      have RB_4 := Blk.cell RB 4 rfl
      have RB_f0 := Blk.free RB 0
      have RB_f1 := Blk.free RB 1
      have RB_f2 := Blk.free RB 2
      have RB_f3 := Blk.free RB 3
      have RB_f4 := Blk.free RB 4
      refine hK.out _ _ trivial (fun _ => ?_)
      clear hK K
      try simp only [Act.put, List.setIfInBounds_toArray, List.set_cons_zero, List.set_cons_succ, List.getElem_toArray, List.getElem_cons_zero, List.getElem_cons_succ]
      refine wpAnyH_ready (rs := [4]) (by kernel_rfl) (by simp) ?_
      refine (AllReadyH.cons rfl (fun K hK => ?_) AllReadyH.nil)
      go_simp
      refine hK.out _ _ trivial (fun _ => ?_)
      clear hK K
      try simp only [Act.put, List.setIfInBounds_toArray, List.set_cons_zero, List.set_cons_succ, List.getElem_toArray, List.getElem_cons_zero, List.getElem_cons_succ]
      refine wpAnyH_done (by kernel_rfl) ?_ _
      go_wp2_with fail
      refine bodyPost_ret (v := nuV (nuC proT (fun d e => nuN (mulN d e)) ⟨k1, s1, d1⟩ ⟨k2, s2, d2⟩).c (nuC proT (fun d e => nuN (mulN d e)) ⟨k1, s1, d1⟩ ⟨k2, s2, d2⟩).neg b4 A4 l4.length c4 x4) (by simp [results, Tryz.results42, go_sem, PB_0, PB_1, PB_2, PB_3, PB_4, PB_f0, PB_f1, PB_f2, PB_f3, PB_f4, QB_0, QB_1, QB_2, QB_3, QB_4, QB_f0, QB_f1, QB_f2, QB_f3, QB_f4, RB_0, RB_1, RB_2, RB_3, RB_4, RB_f0, RB_f1, RB_f2, RB_f3, RB_f4]) rfl ?_
      exact ⟨b4, l4, A4, c4, x4, rfl, hd4, m4.put5 RB _ _ _ _ _ _ _, by go_grown⟩
  · go_simp
    with_reducible refine (tab_products _).mono ?_
    rintro e w900 ⟨B, rfl, hM, hBB, hb⟩
    clear PB_0 PB_1 PB_2 PB_3 PB_4 PB_f0 PB_f1 PB_f2 PB_f3 PB_f4
    clear QB_0 QB_1 QB_2 QB_3 QB_4 QB_f0 QB_f1 QB_f2 QB_f3 QB_f4
    clear RB_0 RB_1 RB_2 RB_3 RB_4 RB_f0 RB_f1 RB_f2 RB_f3 RB_f4
    replace bw : Below w.heap.size w w900 := dy_end bw hb
    have hs900 := bw.size
    replace h1 := Lv.on h1 hb
    replace h2 := Lv.on h2 hb
    replace PB := Blk.on PB hb
    replace QB := Blk.on QB hb
    replace RB := Blk.on RB hb
    clear hb
    have PB_0 := Blk.cell PB 0 rfl
    have PB_1 := Blk.cell PB 1 rfl
    have PB_2 := Blk.cell PB 2 rfl
    have PB_3 := Blk.cell PB 3 rfl
    have PB_4 := Blk.cell PB 4 rfl
    have PB_f0 := Blk.free PB 0
    have PB_f1 := Blk.free PB 1
    have PB_f2 := Blk.free PB 2
    have PB_f3 := Blk.free PB 3
    have PB_f4 := Blk.free PB 4
    have QB_0 := Blk.cell QB 0 rfl
    have QB_1 := Blk.cell QB 1 rfl
    have QB_2 := Blk.cell QB 2 rfl
    have QB_3 := Blk.cell QB 3 rfl
    have QB_4 := Blk.cell QB 4 rfl
    have QB_f0 := Blk.free QB 0
    have QB_f1 := Blk.free QB 1
    have QB_f2 := Blk.free QB 2
    have QB_f3 := Blk.free QB 3
    have QB_f4 := Blk.free QB 4
    have RB_0 := Blk.cell RB 0 rfl
    have RB_1 := Blk.cell RB 1 rfl
    have RB_2 := Blk.cell RB 2 rfl
    have RB_3 := Blk.cell RB 3 rfl
    have RB_4 := Blk.cell RB 4 rfl
    have RB_f0 := Blk.free RB 0
    have RB_f1 := Blk.free RB 1
    have RB_f2 := Blk.free RB 2
    have RB_f3 := Blk.free RB 3
    have RB_f4 := Blk.free RB 4
    refine hK.out _ _ trivial (fun _ => ?_)
    clear hK K
    try simp only [Act.put, List.setIfInBounds_toArray, List.set_cons_zero, List.set_cons_succ, List.getElem_toArray, List.getElem_cons_zero, List.getElem_cons_succ]
    refine wpAnyH_ready (rs := [0, 1]) (by kernel_rfl) (by simp) ?_
    refine (AllReadyH.cons rfl (fun K hK => ?_) (AllReadyH.cons rfl (fun K hK => ?_) AllReadyH.nil))
    · go_simp
      refine hK.out _ _ trivial (fun _ => ?_)
      clear hK K
      try simp only [Act.put, List.setIfInBounds_toArray, List.set_cons_zero, List.set_cons_succ, List.getElem_toArray, List.getElem_cons_zero, List.getElem_cons_succ]
      refine wpAnyH_ready (rs := [1]) (by kernel_rfl) (by simp) ?_
      refine (AllReadyH.cons rfl (fun K hK => ?_) AllReadyH.nil)
      go_simp
      refine hK.out _ _ trivial (fun _ => ?_)
      clear hK K
      try simp only [Act.put, List.setIfInBounds_toArray, List.set_cons_zero, List.set_cons_succ, List.getElem_toArray, List.getElem_cons_zero, List.getElem_cons_succ]
      refine wpAnyH_ready (rs := [3]) (by kernel_rfl) (by simp) ?_
      refine (AllReadyH.cons rfl (fun K hK => ?_) AllReadyH.nil)
      go_simp
      have HC := Lib.hid (fun W (hb : Below w900.heap.size w900 W) (m1 : Lv W A1 l1.length c1 l1) (m2 : Lv W A2 l2.length c2 l2) => proOne_any hd1 m1 hd2 m2 (hT.onD (dy_end bw hb)) i1 i2)
      with_reducible refine (comb_any_p (r := fun d e => nuN (mulN d e)) hM (proT_bd k1 k2) rx ry hd1 h1 hd2 h2 (fun _ => HC)).mono ?_
      rintro e w1000 ⟨b4, l4, A4, c4, x4, rfl, hd4, m4, hb⟩
      clear PB_0 PB_1 PB_2 PB_3 PB_4 PB_f0 PB_f1 PB_f2 PB_f3 PB_f4
      clear QB_0 QB_1 QB_2 QB_3 QB_4 QB_f0 QB_f1 QB_f2 QB_f3 QB_f4
      clear RB_0 RB_1 RB_2 RB_3 RB_4 RB_f0 RB_f1 RB_f2 RB_f3 RB_f4
      replace bw : Below w.heap.size w w1000 := dy_end bw hb
      replace PB := Blk.on PB hb
      replace QB := Blk.on QB hb
      replace RB := Blk.on RB hb
      clear hb HC h1 h2
      have PB_0 := Blk.cell PB 0 rfl
      have PB_1 := Blk.cell PB 1 rfl
      have PB_2 := Blk.cell PB 2 rfl
      have PB_3 := Blk.cell PB 3 rfl
      have PB_4 := Blk.cell PB 4 rfl
      have PB_f0 := Blk.free PB 0
      have PB_f1 := Blk.free PB 1
      have PB_f2 := Blk.free PB 2
      have PB_f3 := Blk.free PB 3
      have PB_f4 := Blk.free PB 4
      have QB_0 := Blk.cell QB 0 rfl
      have QB_1 := Blk.cell QB 1 rfl
      have QB_2 := Blk.cell QB 2 rfl
      have QB_3 := Blk.cell QB 3 rfl
      have QB_4 := Blk.cell QB 4 rfl
      have QB_f0 := Blk.free QB 0
      have QB_f1 := Blk.free QB 1
      have QB_f2 := Blk.free QB 2
      have QB_f3 := Blk.free QB 3
      have QB_f4 := Blk.free QB 4
      have RB_0 := Blk.cell RB 0 rfl
      have RB_1 := Blk.cell RB 1 rfl
      have RB_2 := Blk.cell RB 2 rfl
      have RB_3 := Blk.cell RB 3 rfl
      have RB_4 := Blk.cell RB 4 rfl
      have RB_f0 := Blk.free RB 0
      have RB_f1 := Blk.free RB 1
      have RB_f2 := Blk.free RB 2
      have RB_f3 := Blk.free RB 3
      have RB_f4 := Blk.free RB 4
      refine hK.out _ _ trivial (fun _ => ?_)
      clear hK K
      try simp only [Act.put, List.setIfInBounds_toArray, List.set_cons_zero, List.set_cons_succ, List.getElem_toArray, List.getElem_cons_zero, List.getElem_cons_succ]
      refine wpAnyH_ready (rs := [4]) (by kernel_rfl) (by simp) ?_
      refine (AllReadyH.cons rfl (fun K hK => ?_) AllReadyH.nil)
      go_simp
      refine hK.out _ _ trivial (fun _ => ?_)
      clear hK K
      try simp only [Act.put, List.setIfInBounds_toArray, List.set_cons_zero, List.set_cons_succ, List.getElem_toArray, List.getElem_cons_zero, List.getElem_cons_succ]
      refine wpAnyH_done (by kernel_rfl) ?_ _
      go_wp2_with fail
      refine bodyPost_ret (v := nuV (nuC proT (fun d e => nuN (mulN d e)) ⟨k1, s1, d1⟩ ⟨k2, s2, d2⟩).c (nuC proT (fun d e => nuN (mulN d e)) ⟨k1, s1, d1⟩ ⟨k2, s2, d2⟩).neg b4 A4 l4.length c4 x4) (by simp [results, Tryz.results42, go_sem, PB_0, PB_1, PB_2, PB_3, PB_4, PB_f0, PB_f1, PB_f2, PB_f3, PB_f4, QB_0, QB_1, QB_2, QB_3, QB_4, QB_f0, QB_f1, QB_f2, QB_f3, QB_f4, RB_0, RB_1, RB_2, RB_3, RB_4, RB_f0, RB_f1, RB_f2, RB_f3, RB_f4]) rfl ?_
      exact ⟨b4, l4, A4, c4, x4, rfl, hd4, m4.put5 RB _ _ _ _ _ _ _, by go_grown⟩
    · go_simp
      refine hK.out _ _ trivial (fun _ => ?_)
      clear hK K
      try simp only [Act.put, List.setIfInBounds_toArray, List.set_cons_zero, List.set_cons_succ, List.getElem_toArray, List.getElem_cons_zero, List.getElem_cons_succ]
      refine wpAnyH_ready (rs := [0]) (by kernel_rfl) (by simp) ?_
      refine (AllReadyH.cons rfl (fun K hK => ?_) AllReadyH.nil)
      go_simp
      refine hK.out _ _ trivial (fun _ => ?_)
      clear hK K
      try simp only [Act.put, List.setIfInBounds_toArray, List.set_cons_zero, List.set_cons_succ, List.getElem_toArray, List.getElem_cons_zero, List.getElem_cons_succ]
      refine wpAnyH_ready (rs := [3]) (by kernel_rfl) (by simp) ?_
      refine (AllReadyH.cons rfl (fun K hK => ?_) AllReadyH.nil)
      go_simp
      have HC := Lib.hid (fun W (hb : Below w900.heap.size w900 W) (m1 : Lv W A1 l1.length c1 l1) (m2 : Lv W A2 l2.length c2 l2) => proOne_any hd1 m1 hd2 m2 (hT.onD (dy_end bw hb)) i1 i2)
      with_reducible refine (comb_any_p (r := fun d e => nuN (mulN d e)) hM (proT_bd k1 k2) rx ry hd1 h1 hd2 h2 (fun _ => HC)).mono ?_
      rintro e w1100 ⟨b4, l4, A4, c4, x4, rfl, hd4, m4, hb⟩
      clear PB_0 PB_1 PB_2 PB_3 PB_4 PB_f0 PB_f1 PB_f2 PB_f3 PB_f4
      clear QB_0 QB_1 QB_2 QB_3 QB_4 QB_f0 QB_f1 QB_f2 QB_f3 QB_f4
      clear RB_0 RB_1 RB_2 RB_3 RB_4 RB_f0 RB_f1 RB_f2 RB_f3 RB_f4
      replace bw : Below w.heap.size w w1100 := dy_end bw hb
      replace PB := Blk.on PB hb
      replace QB := Blk.on QB hb
      replace RB := Blk.on RB hb
      clear hb HC h1 h2
      have PB_0 := Blk.cell PB 0 rfl
      have PB_1 := Blk.cell PB 1 rfl
      have PB_2 := Blk.cell PB 2 rfl
      have PB_3 := Blk.cell PB 3 rfl
      have PB_4 := Blk.cell PB 4 rfl
      have PB_f0 := Blk.free PB 0
      have PB_f1 := Blk.free PB 1
      have PB_f2 := Blk.free PB 2
      have PB_f3 := Blk.free PB 3
      have PB_f4 := Blk.free PB 4
      have QB_0 := Blk.cell QB 0 rfl
      have QB_1 := Blk.cell QB 1 rfl
      have QB_2 := Blk.cell QB 2 rfl
      have QB_3 := Blk.cell QB 3 rfl
      have QB_4 := Blk.cell QB 4 rfl
      have QB_f0 := Blk.free QB 0
      have QB_f1 := Blk.free QB 1
      have QB_f2 := Blk.free QB 2
      have QB_f3 := Blk.free QB 3
      have QB_f4 := Blk.free QB 4
      have RB_0 := Blk.cell RB 0 rfl
      have RB_1 := Blk.cell RB 1 rfl
      have RB_2 := Blk.cell RB 2 rfl
      have RB_3 := Blk.cell RB 3 rfl
      have RB_4 := Blk.cell RB 4 rfl
      have RB_f0 := Blk.free RB 0
      have RB_f1 := Blk.free RB 1
      have RB_f2 := Blk.free RB 2
      have RB_f3 := Blk.free RB 3
      have RB_f4 := Blk.free RB 4
      refine hK.out _ _ trivial (fun _ => ?_)
      clear hK K
      try simp only [Act.put, List.setIfInBounds_toArray, List.set_cons_zero, List.set_cons_succ, List.getElem_toArray, List.getElem_cons_zero, List.getElem_cons_succ]
      refine wpAnyH_ready (rs := [4]) (by kernel_rfl) (by simp) ?_
      refine (AllReadyH.cons rfl (fun K hK => ?_) AllReadyH.nil)
      go_simp
      refine hK.out _ _ trivial (fun _ => ?_)
      clear hK K
      try simp only [Act.put, List.setIfInBounds_toArray, List.set_cons_zero, List.set_cons_succ, List.getElem_toArray, List.getElem_cons_zero, List.getElem_cons_succ]
      refine wpAnyH_done (by kernel_rfl) ?_ _
      go_wp2_with fail
      refine bodyPost_ret (v := nuV (nuC proT (fun d e => nuN (mulN d e)) ⟨k1, s1, d1⟩ ⟨k2, s2, d2⟩).c (nuC proT (fun d e => nuN (mulN d e)) ⟨k1, s1, d1⟩ ⟨k2, s2, d2⟩).neg b4 A4 l4.length c4 x4) (by simp [results, Tryz.results42, go_sem, PB_0, PB_1, PB_2, PB_3, PB_4, PB_f0, PB_f1, PB_f2, PB_f3, PB_f4, QB_0, QB_1, QB_2, QB_3, QB_4, QB_f0, QB_f1, QB_f2, QB_f3, QB_f4, RB_0, RB_1, RB_2, RB_3, RB_4, RB_f0, RB_f1, RB_f2, RB_f3, RB_f4]) rfl ?_
      exact ⟨b4, l4, A4, c4, x4, rfl, hd4, m4.put5 RB _ _ _ _ _ _ _, by go_grown⟩

end
end Go.Proofs.YtfjellhbcjnjkaaGreatDoor
