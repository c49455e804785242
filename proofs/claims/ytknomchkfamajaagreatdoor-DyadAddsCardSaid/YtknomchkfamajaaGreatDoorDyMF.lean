/-
  Layer 3, the laws: the law of sums. (Written by a script of wip/tools.)
-/
import Derived.Test.YtknomchkfamajaaGreatDoorDyLZ
import Derived.Test.YtknomchkfamajaaGreatDoorDyME
namespace Go.Proofs.YtknomchkfamajaaGreatDoor
open Go.RowKit Go.Sort Go.Bw
set_option linter.unusedVariables false
set_option linter.unusedSimpArgs false

section
variable {b : Bool} {A : Option Addr} {n c : Nat} {x : Int} {l : List Int} {w : World}
variable {b2 : Bool} {A2 : Option Addr} {n2 c2 : Nat} {x2 : Int} {l2 : List Int}
set_option maxRecDepth 100000 in
set_option maxHeartbeats 8000000 in
theorem adds_long1 (b b2 : Bool) (A A2 : Option Addr) (c c2 : Nat) (x x2 : Int) (hn : 40 < n) (hT : Tab w) (hP : PowT w) :
    Calls Tryz.prog 6 #[dyV b A n c x, dyV b2 A2 n2 c2 x2] w fun e w' => e = .returned (.bool true) ∧ Below w.heap.size w w' := by
  have PB := Blk.new w [.bool b, .slice A n c, .int .i64 x] 24
  have QB := Blk.new (w.alloc (.cells #[.bool b, .slice A n c, .int .i64 x] 24)) [.bool b2, .slice A2 n2 c2, .int .i64 x2] 24
  simp only [World.size_alloc] at QB
  replace PB := Blk.alloc PB (.cells #[.bool b2, .slice A2 n2 c2, .int .i64 x2] 24)
  have bw : Below w.heap.size w ((w.alloc (.cells #[.bool b, .slice A n c, .int .i64 x] 24)).alloc (.cells #[.bool b2, .slice A2 n2 c2, .int .i64 x2] 24)) := by go_grown
  have PB_0 := Blk.cell PB 0 rfl
  have PB_1 := Blk.cell PB 1 rfl
  have PB_2 := Blk.cell PB 2 rfl
  have PB_f0 := Blk.free PB 0
  have PB_f1 := Blk.free PB 1
  have PB_f2 := Blk.free PB 2
  have QB_0 := Blk.cell QB 0 rfl
  have QB_1 := Blk.cell QB 1 rfl
  have QB_2 := Blk.cell QB 2 rfl
  have QB_f0 := Blk.free QB 0
  have QB_f1 := Blk.free QB 1
  have QB_f2 := Blk.free QB 2
  go_enter Tryz.func6, Tryz.ntmps6
  go_wp2_with fail
  with_reducible refine (llong_true b A c x _ hn).mono ?_
  rintro e w1 ⟨rfl, hb⟩
  clear PB_0 PB_1 PB_2 PB_f0 PB_f1 PB_f2
  clear QB_0 QB_1 QB_2 QB_f0 QB_f1 QB_f2
  have hs1 := hb.size
  try simp only [World.size_alloc, World.size_setCell] at hs1
  replace bw : Below w.heap.size w w1 := dy_end (by go_grown) hb
  replace PB := Blk.on PB hb
  replace QB := Blk.on QB hb
  clear hb
  have PB_0 := Blk.cell PB 0 rfl
  have PB_1 := Blk.cell PB 1 rfl
  have PB_2 := Blk.cell PB 2 rfl
  have PB_f0 := Blk.free PB 0
  have PB_f1 := Blk.free PB 1
  have PB_f2 := Blk.free PB 2
  have QB_0 := Blk.cell QB 0 rfl
  have QB_1 := Blk.cell QB 1 rfl
  have QB_2 := Blk.cell QB 2 rfl
  have QB_f0 := Blk.free QB 0
  have QB_f1 := Blk.free QB 1
  have QB_f2 := Blk.free QB 2
  go_wp2_with fail
  with_reducible refine (dknown_any _ (hT.onD (by go_grown)) (hP.on (by go_grown))).mono ?_
  rintro e w2 ⟨rfl, hb⟩
  clear PB_0 PB_1 PB_2 PB_f0 PB_f1 PB_f2
  clear QB_0 QB_1 QB_2 QB_f0 QB_f1 QB_f2
  have hs2 := hb.size
  try simp only [World.size_alloc, World.size_setCell] at hs2
  replace bw : Below w.heap.size w w2 := dy_end (by go_grown) hb
  replace PB := Blk.on PB hb
  replace QB := Blk.on QB hb
  clear hb
  have PB_0 := Blk.cell PB 0 rfl
  have PB_1 := Blk.cell PB 1 rfl
  have PB_2 := Blk.cell PB 2 rfl
  have PB_f0 := Blk.free PB 0
  have PB_f1 := Blk.free PB 1
  have PB_f2 := Blk.free PB 2
  have QB_0 := Blk.cell QB 0 rfl
  have QB_1 := Blk.cell QB 1 rfl
  have QB_2 := Blk.cell QB 2 rfl
  have QB_f0 := Blk.free QB 0
  have QB_f1 := Blk.free QB 1
  have QB_f2 := Blk.free QB 2
  go_wp2_with fail
  go_ret
  exact ⟨rfl, by go_grown⟩

set_option maxRecDepth 100000 in
set_option maxHeartbeats 8000000 in
theorem adds_long2 (b b2 : Bool) (A A2 : Option Addr) (c c2 : Nat) (x x2 : Int) (hn : n ≤ 40) (hn2 : 40 < n2) (hT : Tab w) (hP : PowT w) :
    Calls Tryz.prog 6 #[dyV b A n c x, dyV b2 A2 n2 c2 x2] w fun e w' => e = .returned (.bool true) ∧ Below w.heap.size w w' := by
  have PB := Blk.new w [.bool b, .slice A n c, .int .i64 x] 24
  have QB := Blk.new (w.alloc (.cells #[.bool b, .slice A n c, .int .i64 x] 24)) [.bool b2, .slice A2 n2 c2, .int .i64 x2] 24
  simp only [World.size_alloc] at QB
  replace PB := Blk.alloc PB (.cells #[.bool b2, .slice A2 n2 c2, .int .i64 x2] 24)
  have bw : Below w.heap.size w ((w.alloc (.cells #[.bool b, .slice A n c, .int .i64 x] 24)).alloc (.cells #[.bool b2, .slice A2 n2 c2, .int .i64 x2] 24)) := by go_grown
  have PB_0 := Blk.cell PB 0 rfl
  have PB_1 := Blk.cell PB 1 rfl
  have PB_2 := Blk.cell PB 2 rfl
  have PB_f0 := Blk.free PB 0
  have PB_f1 := Blk.free PB 1
  have PB_f2 := Blk.free PB 2
  have QB_0 := Blk.cell QB 0 rfl
  have QB_1 := Blk.cell QB 1 rfl
  have QB_2 := Blk.cell QB 2 rfl
  have QB_f0 := Blk.free QB 0
  have QB_f1 := Blk.free QB 1
  have QB_f2 := Blk.free QB 2
  go_enter Tryz.func6, Tryz.ntmps6
  go_wp2_with fail
  with_reducible refine (llong_false b A c x _ hn).mono ?_
  rintro e w1 ⟨rfl, hb⟩
  clear PB_0 PB_1 PB_2 PB_f0 PB_f1 PB_f2
  clear QB_0 QB_1 QB_2 QB_f0 QB_f1 QB_f2
  have hs1 := hb.size
  try simp only [World.size_alloc, World.size_setCell] at hs1
  replace bw : Below w.heap.size w w1 := dy_end (by go_grown) hb
  replace PB := Blk.on PB hb
  replace QB := Blk.on QB hb
  clear hb
  have PB_0 := Blk.cell PB 0 rfl
  have PB_1 := Blk.cell PB 1 rfl
  have PB_2 := Blk.cell PB 2 rfl
  have PB_f0 := Blk.free PB 0
  have PB_f1 := Blk.free PB 1
  have PB_f2 := Blk.free PB 2
  have QB_0 := Blk.cell QB 0 rfl
  have QB_1 := Blk.cell QB 1 rfl
  have QB_2 := Blk.cell QB 2 rfl
  have QB_f0 := Blk.free QB 0
  have QB_f1 := Blk.free QB 1
  have QB_f2 := Blk.free QB 2
  go_wp2_with fail
  with_reducible refine (llong_true b2 A2 c2 x2 _ hn2).mono ?_
  rintro e w2 ⟨rfl, hb⟩
  clear PB_0 PB_1 PB_2 PB_f0 PB_f1 PB_f2
  clear QB_0 QB_1 QB_2 QB_f0 QB_f1 QB_f2
  have hs2 := hb.size
  try simp only [World.size_alloc, World.size_setCell] at hs2
  replace bw : Below w.heap.size w w2 := dy_end (by go_grown) hb
  replace PB := Blk.on PB hb
  replace QB := Blk.on QB hb
  clear hb
  have PB_0 := Blk.cell PB 0 rfl
  have PB_1 := Blk.cell PB 1 rfl
  have PB_2 := Blk.cell PB 2 rfl
  have PB_f0 := Blk.free PB 0
  have PB_f1 := Blk.free PB 1
  have PB_f2 := Blk.free PB 2
  have QB_0 := Blk.cell QB 0 rfl
  have QB_1 := Blk.cell QB 1 rfl
  have QB_2 := Blk.cell QB 2 rfl
  have QB_f0 := Blk.free QB 0
  have QB_f1 := Blk.free QB 1
  have QB_f2 := Blk.free QB 2
  go_wp2_with fail
  with_reducible refine (dknown_any _ (hT.onD (by go_grown)) (hP.on (by go_grown))).mono ?_
  rintro e w3 ⟨rfl, hb⟩
  clear PB_0 PB_1 PB_2 PB_f0 PB_f1 PB_f2
  clear QB_0 QB_1 QB_2 QB_f0 QB_f1 QB_f2
  have hs3 := hb.size
  try simp only [World.size_alloc, World.size_setCell] at hs3
  replace bw : Below w.heap.size w w3 := dy_end (by go_grown) hb
  replace PB := Blk.on PB hb
  replace QB := Blk.on QB hb
  clear hb
  have PB_0 := Blk.cell PB 0 rfl
  have PB_1 := Blk.cell PB 1 rfl
  have PB_2 := Blk.cell PB 2 rfl
  have PB_f0 := Blk.free PB 0
  have PB_f1 := Blk.free PB 1
  have PB_f2 := Blk.free PB 2
  have QB_0 := Blk.cell QB 0 rfl
  have QB_1 := Blk.cell QB 1 rfl
  have QB_2 := Blk.cell QB 2 rfl
  have QB_f0 := Blk.free QB 0
  have QB_f1 := Blk.free QB 1
  have QB_f2 := Blk.free QB 2
  go_wp2_with fail
  go_ret
  exact ⟨rfl, by go_grown⟩

set_option maxRecDepth 100000 in
set_option maxHeartbeats 8000000 in
theorem adds_apart (b b2 : Bool) (A A2 : Option Addr) (c c2 : Nat) (x x2 : Int) (hn : n ≤ 40) (hn2 : n2 ≤ 40) (ap : ∀ w : World, Calls Tryz.prog 37 #[dyV b A n c x, dyV b2 A2 n2 c2 x2] w fun e w' => e = .returned (.bool true) ∧ Below w.heap.size w w') (hT : Tab w) (hP : PowT w) :
    Calls Tryz.prog 6 #[dyV b A n c x, dyV b2 A2 n2 c2 x2] w fun e w' => e = .returned (.bool true) ∧ Below w.heap.size w w' := by
  have PB := Blk.new w [.bool b, .slice A n c, .int .i64 x] 24
  have QB := Blk.new (w.alloc (.cells #[.bool b, .slice A n c, .int .i64 x] 24)) [.bool b2, .slice A2 n2 c2, .int .i64 x2] 24
  simp only [World.size_alloc] at QB
  replace PB := Blk.alloc PB (.cells #[.bool b2, .slice A2 n2 c2, .int .i64 x2] 24)
  have bw : Below w.heap.size w ((w.alloc (.cells #[.bool b, .slice A n c, .int .i64 x] 24)).alloc (.cells #[.bool b2, .slice A2 n2 c2, .int .i64 x2] 24)) := by go_grown
  have PB_0 := Blk.cell PB 0 rfl
  have PB_1 := Blk.cell PB 1 rfl
  have PB_2 := Blk.cell PB 2 rfl
  have PB_f0 := Blk.free PB 0
  have PB_f1 := Blk.free PB 1
  have PB_f2 := Blk.free PB 2
  have QB_0 := Blk.cell QB 0 rfl
  have QB_1 := Blk.cell QB 1 rfl
  have QB_2 := Blk.cell QB 2 rfl
  have QB_f0 := Blk.free QB 0
  have QB_f1 := Blk.free QB 1
  have QB_f2 := Blk.free QB 2
  go_enter Tryz.func6, Tryz.ntmps6
  go_wp2_with fail
  with_reducible refine (llong_false b A c x _ hn).mono ?_
  rintro e w1 ⟨rfl, hb⟩
  clear PB_0 PB_1 PB_2 PB_f0 PB_f1 PB_f2
  clear QB_0 QB_1 QB_2 QB_f0 QB_f1 QB_f2
  have hs1 := hb.size
  try simp only [World.size_alloc, World.size_setCell] at hs1
  replace bw : Below w.heap.size w w1 := dy_end (by go_grown) hb
  replace PB := Blk.on PB hb
  replace QB := Blk.on QB hb
  clear hb
  have PB_0 := Blk.cell PB 0 rfl
  have PB_1 := Blk.cell PB 1 rfl
  have PB_2 := Blk.cell PB 2 rfl
  have PB_f0 := Blk.free PB 0
  have PB_f1 := Blk.free PB 1
  have PB_f2 := Blk.free PB 2
  have QB_0 := Blk.cell QB 0 rfl
  have QB_1 := Blk.cell QB 1 rfl
  have QB_2 := Blk.cell QB 2 rfl
  have QB_f0 := Blk.free QB 0
  have QB_f1 := Blk.free QB 1
  have QB_f2 := Blk.free QB 2
  go_wp2_with fail
  with_reducible refine (llong_false b2 A2 c2 x2 _ hn2).mono ?_
  rintro e w2 ⟨rfl, hb⟩
  clear PB_0 PB_1 PB_2 PB_f0 PB_f1 PB_f2
  clear QB_0 QB_1 QB_2 QB_f0 QB_f1 QB_f2
  have hs2 := hb.size
  try simp only [World.size_alloc, World.size_setCell] at hs2
  replace bw : Below w.heap.size w w2 := dy_end (by go_grown) hb
  replace PB := Blk.on PB hb
  replace QB := Blk.on QB hb
  clear hb
  have PB_0 := Blk.cell PB 0 rfl
  have PB_1 := Blk.cell PB 1 rfl
  have PB_2 := Blk.cell PB 2 rfl
  have PB_f0 := Blk.free PB 0
  have PB_f1 := Blk.free PB 1
  have PB_f2 := Blk.free PB 2
  have QB_0 := Blk.cell QB 0 rfl
  have QB_1 := Blk.cell QB 1 rfl
  have QB_2 := Blk.cell QB 2 rfl
  have QB_f0 := Blk.free QB 0
  have QB_f1 := Blk.free QB 1
  have QB_f2 := Blk.free QB 2
  go_wp2_with fail
  with_reducible refine (ap _).mono ?_
  rintro e w3 ⟨rfl, hb⟩
  clear PB_0 PB_1 PB_2 PB_f0 PB_f1 PB_f2
  clear QB_0 QB_1 QB_2 QB_f0 QB_f1 QB_f2
  have hs3 := hb.size
  try simp only [World.size_alloc, World.size_setCell] at hs3
  replace bw : Below w.heap.size w w3 := dy_end (by go_grown) hb
  replace PB := Blk.on PB hb
  replace QB := Blk.on QB hb
  clear hb
  have PB_0 := Blk.cell PB 0 rfl
  have PB_1 := Blk.cell PB 1 rfl
  have PB_2 := Blk.cell PB 2 rfl
  have PB_f0 := Blk.free PB 0
  have PB_f1 := Blk.free PB 1
  have PB_f2 := Blk.free PB 2
  have QB_0 := Blk.cell QB 0 rfl
  have QB_1 := Blk.cell QB 1 rfl
  have QB_2 := Blk.cell QB 2 rfl
  have QB_f0 := Blk.free QB 0
  have QB_f1 := Blk.free QB 1
  have QB_f2 := Blk.free QB 2
  go_wp2_with fail
  with_reducible refine (dknown_any _ (hT.onD (by go_grown)) (hP.on (by go_grown))).mono ?_
  rintro e w4 ⟨rfl, hb⟩
  clear PB_0 PB_1 PB_2 PB_f0 PB_f1 PB_f2
  clear QB_0 QB_1 QB_2 QB_f0 QB_f1 QB_f2
  have hs4 := hb.size
  try simp only [World.size_alloc, World.size_setCell] at hs4
  replace bw : Below w.heap.size w w4 := dy_end (by go_grown) hb
  replace PB := Blk.on PB hb
  replace QB := Blk.on QB hb
  clear hb
  have PB_0 := Blk.cell PB 0 rfl
  have PB_1 := Blk.cell PB 1 rfl
  have PB_2 := Blk.cell PB 2 rfl
  have PB_f0 := Blk.free PB 0
  have PB_f1 := Blk.free PB 1
  have PB_f2 := Blk.free PB 2
  have QB_0 := Blk.cell QB 0 rfl
  have QB_1 := Blk.cell QB 1 rfl
  have QB_2 := Blk.cell QB 2 rfl
  have QB_f0 := Blk.free QB 0
  have QB_f1 := Blk.free QB 1
  have QB_f2 := Blk.free QB 2
  go_wp2_with fail
  go_ret
  exact ⟨rfl, by go_grown⟩

set_option maxRecDepth 100000 in
set_option maxHeartbeats 8000000 in
theorem adds_main (h : Lv w A n c l) (hn : n ≤ 40) (h2 : Lv w A2 n2 c2 l2) (hn2 : n2 ≤ 40) (ap : ∀ w : World, Calls Tryz.prog 37 #[dyV b A n c x, dyV b2 A2 n2 c2 x2] w fun e w' => e = .returned (.bool false) ∧ Below w.heap.size w w') (hf : farN (nfl b (val 18446744073709551616 l) x) (nfl b2 (val 18446744073709551616 l2) x2) = true ∨ Near (nfl b (val 18446744073709551616 l) x) (nfl b2 (val 18446744073709551616 l2) x2)) (hT : Tab w) (hP : PowT w) :
    Calls Tryz.prog 6 #[dyV b A n c x, dyV b2 A2 n2 c2 x2] w fun e w' => e = .returned (.bool true) ∧ Below w.heap.size w w' := by
  have PB := Blk.new w [.bool b, .slice A n c, .int .i64 x] 24
  have QB := Blk.new (w.alloc (.cells #[.bool b, .slice A n c, .int .i64 x] 24)) [.bool b2, .slice A2 n2 c2, .int .i64 x2] 24
  simp only [World.size_alloc] at QB
  replace PB := Blk.alloc PB (.cells #[.bool b2, .slice A2 n2 c2, .int .i64 x2] 24)
  have bw : Below w.heap.size w ((w.alloc (.cells #[.bool b, .slice A n c, .int .i64 x] 24)).alloc (.cells #[.bool b2, .slice A2 n2 c2, .int .i64 x2] 24)) := by go_grown
  have PB_0 := Blk.cell PB 0 rfl
  have PB_1 := Blk.cell PB 1 rfl
  have PB_2 := Blk.cell PB 2 rfl
  have PB_f0 := Blk.free PB 0
  have PB_f1 := Blk.free PB 1
  have PB_f2 := Blk.free PB 2
  have QB_0 := Blk.cell QB 0 rfl
  have QB_1 := Blk.cell QB 1 rfl
  have QB_2 := Blk.cell QB 2 rfl
  have QB_f0 := Blk.free QB 0
  have QB_f1 := Blk.free QB 1
  have QB_f2 := Blk.free QB 2
  have p2 := fun W (mm : Lv W A n c l) (mm2 : Lv W A2 n2 c2 l2) (tt : Tab W) => dAdd_any (b := b) (b2 := b2) (x := x) (x2 := x2) mm (by omega) mm2 (by omega) tt (fun _ => hf)
  have p3 := fun W (mm : Lv W A n c l) (mm2 : Lv W A2 n2 c2 l2) => rAdd_any (b := b) (b2 := b2) (x := x) (x2 := x2) mm (by omega) mm2 (by omega) (fun _ => hf)
  clear hf
  generalize addQ x x2 (nfl b (val 18446744073709551616 l) x) (nfl b2 (val 18446744073709551616 l2) x2) = R at p2 p3
  obtain ⟨R1, R2⟩ := R
  dsimp only at p2 p3
  have h9 := h.on bw
  have h29 := h2.on bw
  clear h h2
  go_enter Tryz.func6, Tryz.ntmps6
  go_wp2_with fail
  with_reducible refine (llong_false b A c x _ hn).mono ?_
  rintro e w1 ⟨rfl, hb⟩
  clear PB_0 PB_1 PB_2 PB_f0 PB_f1 PB_f2
  clear QB_0 QB_1 QB_2 QB_f0 QB_f1 QB_f2
  have hs1 := hb.size
  try simp only [World.size_alloc, World.size_setCell] at hs1
  replace bw : Below w.heap.size w w1 := dy_end (by go_grown) hb
  replace h9 := Lv.on h9 hb
  replace h29 := Lv.on h29 hb
  replace PB := Blk.on PB hb
  replace QB := Blk.on QB hb
  clear hb
  have PB_0 := Blk.cell PB 0 rfl
  have PB_1 := Blk.cell PB 1 rfl
  have PB_2 := Blk.cell PB 2 rfl
  have PB_f0 := Blk.free PB 0
  have PB_f1 := Blk.free PB 1
  have PB_f2 := Blk.free PB 2
  have QB_0 := Blk.cell QB 0 rfl
  have QB_1 := Blk.cell QB 1 rfl
  have QB_2 := Blk.cell QB 2 rfl
  have QB_f0 := Blk.free QB 0
  have QB_f1 := Blk.free QB 1
  have QB_f2 := Blk.free QB 2
  go_wp2_with fail
  with_reducible refine (llong_false b2 A2 c2 x2 _ hn2).mono ?_
  rintro e w2 ⟨rfl, hb⟩
  clear PB_0 PB_1 PB_2 PB_f0 PB_f1 PB_f2
  clear QB_0 QB_1 QB_2 QB_f0 QB_f1 QB_f2
  have hs2 := hb.size
  try simp only [World.size_alloc, World.size_setCell] at hs2
  replace bw : Below w.heap.size w w2 := dy_end (by go_grown) hb
  replace h9 := Lv.on h9 hb
  replace h29 := Lv.on h29 hb
  replace PB := Blk.on PB hb
  replace QB := Blk.on QB hb
  clear hb
  have PB_0 := Blk.cell PB 0 rfl
  have PB_1 := Blk.cell PB 1 rfl
  have PB_2 := Blk.cell PB 2 rfl
  have PB_f0 := Blk.free PB 0
  have PB_f1 := Blk.free PB 1
  have PB_f2 := Blk.free PB 2
  have QB_0 := Blk.cell QB 0 rfl
  have QB_1 := Blk.cell QB 1 rfl
  have QB_2 := Blk.cell QB 2 rfl
  have QB_f0 := Blk.free QB 0
  have QB_f1 := Blk.free QB 1
  have QB_f2 := Blk.free QB 2
  go_wp2_with fail
  with_reducible refine (ap _).mono ?_
  rintro e w3 ⟨rfl, hb⟩
  clear PB_0 PB_1 PB_2 PB_f0 PB_f1 PB_f2
  clear QB_0 QB_1 QB_2 QB_f0 QB_f1 QB_f2
  have hs3 := hb.size
  try simp only [World.size_alloc, World.size_setCell] at hs3
  replace bw : Below w.heap.size w w3 := dy_end (by go_grown) hb
  replace h9 := Lv.on h9 hb
  replace h29 := Lv.on h29 hb
  replace PB := Blk.on PB hb
  replace QB := Blk.on QB hb
  clear hb
  have PB_0 := Blk.cell PB 0 rfl
  have PB_1 := Blk.cell PB 1 rfl
  have PB_2 := Blk.cell PB 2 rfl
  have PB_f0 := Blk.free PB 0
  have PB_f1 := Blk.free PB 1
  have PB_f2 := Blk.free PB 2
  have QB_0 := Blk.cell QB 0 rfl
  have QB_1 := Blk.cell QB 1 rfl
  have QB_2 := Blk.cell QB 2 rfl
  have QB_f0 := Blk.free QB 0
  have QB_f1 := Blk.free QB 1
  have QB_f2 := Blk.free QB 2
  go_wp2_with fail
  with_reducible refine (p2 _ h9 h29 (hT.onD (by go_grown))).mono ?_
  rintro e w4 ⟨b2, q2, A2, c2, x2, rfl, hd2, m2, hb⟩
  clear PB_0 PB_1 PB_2 PB_f0 PB_f1 PB_f2
  clear QB_0 QB_1 QB_2 QB_f0 QB_f1 QB_f2
  have hs4 := hb.size
  try simp only [World.size_alloc, World.size_setCell] at hs4
  replace bw : Below w.heap.size w w4 := dy_end (by go_grown) hb
  replace h9 := Lv.on h9 hb
  replace h29 := Lv.on h29 hb
  replace PB := Blk.on PB hb
  replace QB := Blk.on QB hb
  clear hb
  have PB_0 := Blk.cell PB 0 rfl
  have PB_1 := Blk.cell PB 1 rfl
  have PB_2 := Blk.cell PB 2 rfl
  have PB_f0 := Blk.free PB 0
  have PB_f1 := Blk.free PB 1
  have PB_f2 := Blk.free PB 2
  have QB_0 := Blk.cell QB 0 rfl
  have QB_1 := Blk.cell QB 1 rfl
  have QB_2 := Blk.cell QB 2 rfl
  have QB_f0 := Blk.free QB 0
  have QB_f1 := Blk.free QB 1
  have QB_f2 := Blk.free QB 2
  replace h9 := Lv.alloc h9 (.cells #[.bool b2, .slice A2 q2.length c2, .int .i64 x2] 24)
  replace h29 := Lv.alloc h29 (.cells #[.bool b2, .slice A2 q2.length c2, .int .i64 x2] 24)
  replace m2 := Lv.alloc m2 (.cells #[.bool b2, .slice A2 q2.length c2, .int .i64 x2] 24)
  replace PB := Blk.alloc PB (.cells #[.bool b2, .slice A2 q2.length c2, .int .i64 x2] 24)
  replace QB := Blk.alloc QB (.cells #[.bool b2, .slice A2 q2.length c2, .int .i64 x2] 24)
  have HB := Blk.new w4 [.bool b2, .slice A2 q2.length c2, .int .i64 x2] 24
  have PB_v0_0 := Blk.cell PB 0 rfl
  have PB_v0_1 := Blk.cell PB 1 rfl
  have PB_v0_2 := Blk.cell PB 2 rfl
  have PB_v0_f0 := Blk.free PB 0
  have PB_v0_f1 := Blk.free PB 1
  have PB_v0_f2 := Blk.free PB 2
  have QB_v1_0 := Blk.cell QB 0 rfl
  have QB_v1_1 := Blk.cell QB 1 rfl
  have QB_v1_2 := Blk.cell QB 2 rfl
  have QB_v1_f0 := Blk.free QB 0
  have QB_v1_f1 := Blk.free QB 1
  have QB_v1_f2 := Blk.free QB 2
  have HB_0 := Blk.cell HB 0 rfl
  have HB_1 := Blk.cell HB 1 rfl
  have HB_2 := Blk.cell HB 2 rfl
  have HB_f0 := Blk.free HB 0
  have HB_f1 := Blk.free HB 1
  have HB_f2 := Blk.free HB 2
  go_wp2_with fail
  with_reducible refine (p3 _ h9 h29).mono ?_
  rintro e w5 ⟨b3, q3, A3, c3, x3, rfl, hd3, m3, hb⟩
  clear PB_0 PB_1 PB_2 PB_f0 PB_f1 PB_f2 PB_v0_0 PB_v0_1 PB_v0_2 PB_v0_f0 PB_v0_f1 PB_v0_f2
  clear QB_0 QB_1 QB_2 QB_f0 QB_f1 QB_f2 QB_v1_0 QB_v1_1 QB_v1_2 QB_v1_f0 QB_v1_f1 QB_v1_f2
  clear HB_0 HB_1 HB_2 HB_f0 HB_f1 HB_f2
  have hs5 := hb.size
  try simp only [World.size_alloc, World.size_setCell] at hs5
  replace bw : Below w.heap.size w w5 := dy_end (by go_grown) hb
  replace h9 := Lv.on h9 hb
  replace h29 := Lv.on h29 hb
  replace m2 := Lv.on m2 hb
  replace PB := Blk.on PB hb
  replace QB := Blk.on QB hb
  replace HB := Blk.on HB hb
  clear hb
  have PB_0 := Blk.cell PB 0 rfl
  have PB_1 := Blk.cell PB 1 rfl
  have PB_2 := Blk.cell PB 2 rfl
  have PB_f0 := Blk.free PB 0
  have PB_f1 := Blk.free PB 1
  have PB_f2 := Blk.free PB 2
  have QB_0 := Blk.cell QB 0 rfl
  have QB_1 := Blk.cell QB 1 rfl
  have QB_2 := Blk.cell QB 2 rfl
  have QB_f0 := Blk.free QB 0
  have QB_f1 := Blk.free QB 1
  have QB_f2 := Blk.free QB 2
  have HB_0 := Blk.cell HB 0 rfl
  have HB_1 := Blk.cell HB 1 rfl
  have HB_2 := Blk.cell HB 2 rfl
  have HB_f0 := Blk.free HB 0
  have HB_f1 := Blk.free HB 1
  have HB_f2 := Blk.free HB 2
  replace h9 := Lv.alloc h9 (.cells #[.bool b3, .slice A3 q3.length c3, .int .i64 x3] 24)
  replace h29 := Lv.alloc h29 (.cells #[.bool b3, .slice A3 q3.length c3, .int .i64 x3] 24)
  replace m2 := Lv.alloc m2 (.cells #[.bool b3, .slice A3 q3.length c3, .int .i64 x3] 24)
  replace m3 := Lv.alloc m3 (.cells #[.bool b3, .slice A3 q3.length c3, .int .i64 x3] 24)
  replace PB := Blk.alloc PB (.cells #[.bool b3, .slice A3 q3.length c3, .int .i64 x3] 24)
  replace QB := Blk.alloc QB (.cells #[.bool b3, .slice A3 q3.length c3, .int .i64 x3] 24)
  replace HB := Blk.alloc HB (.cells #[.bool b3, .slice A3 q3.length c3, .int .i64 x3] 24)
  have IB := Blk.new w5 [.bool b3, .slice A3 q3.length c3, .int .i64 x3] 24
  have PB_v2_0 := Blk.cell PB 0 rfl
  have PB_v2_1 := Blk.cell PB 1 rfl
  have PB_v2_2 := Blk.cell PB 2 rfl
  have PB_v2_f0 := Blk.free PB 0
  have PB_v2_f1 := Blk.free PB 1
  have PB_v2_f2 := Blk.free PB 2
  have QB_v3_0 := Blk.cell QB 0 rfl
  have QB_v3_1 := Blk.cell QB 1 rfl
  have QB_v3_2 := Blk.cell QB 2 rfl
  have QB_v3_f0 := Blk.free QB 0
  have QB_v3_f1 := Blk.free QB 1
  have QB_v3_f2 := Blk.free QB 2
  have HB_v4_0 := Blk.cell HB 0 rfl
  have HB_v4_1 := Blk.cell HB 1 rfl
  have HB_v4_2 := Blk.cell HB 2 rfl
  have HB_v4_f0 := Blk.free HB 0
  have HB_v4_f1 := Blk.free HB 1
  have HB_v4_f2 := Blk.free HB 2
  have IB_0 := Blk.cell IB 0 rfl
  have IB_1 := Blk.cell IB 1 rfl
  have IB_2 := Blk.cell IB 2 rfl
  have IB_f0 := Blk.free IB 0
  have IB_f1 := Blk.free IB 1
  have IB_f2 := Blk.free IB 2
  go_wp2_with fail
  obtain ⟨z1, z2, z3⟩ := Dn.uniq hd3 hd2 m3.lim m2.lim
  subst z1 z2 z3
  go_wp2_with fail
  with_reducible refine (rSame_any m2 m3).mono ?_
  rintro e w7 ⟨rfl, hb⟩
  clear PB_0 PB_1 PB_2 PB_f0 PB_f1 PB_f2 PB_v2_0 PB_v2_1 PB_v2_2 PB_v2_f0 PB_v2_f1 PB_v2_f2
  clear QB_0 QB_1 QB_2 QB_f0 QB_f1 QB_f2 QB_v3_0 QB_v3_1 QB_v3_2 QB_v3_f0 QB_v3_f1 QB_v3_f2
  clear HB_0 HB_1 HB_2 HB_f0 HB_f1 HB_f2 HB_v4_0 HB_v4_1 HB_v4_2 HB_v4_f0 HB_v4_f1 HB_v4_f2
  clear IB_0 IB_1 IB_2 IB_f0 IB_f1 IB_f2
  have hs7 := hb.size
  try simp only [World.size_alloc, World.size_setCell] at hs7
  replace bw : Below w.heap.size w w7 := dy_end (by go_grown) hb
  replace h9 := Lv.on h9 hb
  replace h29 := Lv.on h29 hb
  replace m2 := Lv.on m2 hb
  replace m3 := Lv.on m3 hb
  replace PB := Blk.on PB hb
  replace QB := Blk.on QB hb
  replace HB := Blk.on HB hb
  replace IB := Blk.on IB hb
  clear hb
  have PB_0 := Blk.cell PB 0 rfl
  have PB_1 := Blk.cell PB 1 rfl
  have PB_2 := Blk.cell PB 2 rfl
  have PB_f0 := Blk.free PB 0
  have PB_f1 := Blk.free PB 1
  have PB_f2 := Blk.free PB 2
  have QB_0 := Blk.cell QB 0 rfl
  have QB_1 := Blk.cell QB 1 rfl
  have QB_2 := Blk.cell QB 2 rfl
  have QB_f0 := Blk.free QB 0
  have QB_f1 := Blk.free QB 1
  have QB_f2 := Blk.free QB 2
  have HB_0 := Blk.cell HB 0 rfl
  have HB_1 := Blk.cell HB 1 rfl
  have HB_2 := Blk.cell HB 2 rfl
  have HB_f0 := Blk.free HB 0
  have HB_f1 := Blk.free HB 1
  have HB_f2 := Blk.free HB 2
  have IB_0 := Blk.cell IB 0 rfl
  have IB_1 := Blk.cell IB 1 rfl
  have IB_2 := Blk.cell IB 2 rfl
  have IB_f0 := Blk.free IB 0
  have IB_f1 := Blk.free IB 1
  have IB_f2 := Blk.free IB 2
  go_wp2_with fail
  with_reducible refine (lnum_any (R2) _).mono ?_
  rintro e v8 ⟨rfl, rfl⟩
  go_wp2_with fail
  with_reducible refine (dknown_any _ (hT.onD (by go_grown)) (hP.on (by go_grown))).mono ?_
  rintro e w9 ⟨rfl, hb⟩
  clear PB_0 PB_1 PB_2 PB_f0 PB_f1 PB_f2
  clear QB_0 QB_1 QB_2 QB_f0 QB_f1 QB_f2
  clear HB_0 HB_1 HB_2 HB_f0 HB_f1 HB_f2
  clear IB_0 IB_1 IB_2 IB_f0 IB_f1 IB_f2
  have hs9 := hb.size
  try simp only [World.size_alloc, World.size_setCell] at hs9
  replace bw : Below w.heap.size w w9 := dy_end (by go_grown) hb
  replace h9 := Lv.on h9 hb
  replace h29 := Lv.on h29 hb
  replace m2 := Lv.on m2 hb
  replace m3 := Lv.on m3 hb
  replace PB := Blk.on PB hb
  replace QB := Blk.on QB hb
  replace HB := Blk.on HB hb
  replace IB := Blk.on IB hb
  clear hb
  have PB_0 := Blk.cell PB 0 rfl
  have PB_1 := Blk.cell PB 1 rfl
  have PB_2 := Blk.cell PB 2 rfl
  have PB_f0 := Blk.free PB 0
  have PB_f1 := Blk.free PB 1
  have PB_f2 := Blk.free PB 2
  have QB_0 := Blk.cell QB 0 rfl
  have QB_1 := Blk.cell QB 1 rfl
  have QB_2 := Blk.cell QB 2 rfl
  have QB_f0 := Blk.free QB 0
  have QB_f1 := Blk.free QB 1
  have QB_f2 := Blk.free QB 2
  have HB_0 := Blk.cell HB 0 rfl
  have HB_1 := Blk.cell HB 1 rfl
  have HB_2 := Blk.cell HB 2 rfl
  have HB_f0 := Blk.free HB 0
  have HB_f1 := Blk.free HB 1
  have HB_f2 := Blk.free HB 2
  have IB_0 := Blk.cell IB 0 rfl
  have IB_1 := Blk.cell IB 1 rfl
  have IB_2 := Blk.cell IB 2 rfl
  have IB_f0 := Blk.free IB 0
  have IB_f1 := Blk.free IB 1
  have IB_f2 := Blk.free IB 2
  go_wp2_with fail
  go_ret
  exact ⟨rfl, by go_grown⟩


theorem adds_law (b : Bool) (A : Option Addr) (n c : Nat) (x : Int) (z : List Int) (b2 : Bool) (A2 : Option Addr) (n2 c2 : Nat) (x2 : Int) (z2 : List Int) (w : World) (g : IsRow .u64 w A n c z) (x0 : -9223372036854775808 ≤ x) (x1 : x ≤ 9223372036854775807) (g2 : IsRow .u64 w A2 n2 c2 z2) (y0 : -9223372036854775808 ≤ x2) (y1 : x2 ≤ 9223372036854775807) (hT : Tab w) (hP : PowT w) :
    Calls Tryz.prog 6 #[.agg #[.bool b, .slice A n c, .int .i64 x], .agg #[.bool b2, .slice A2 n2 c2, .int .i64 x2]] w fun e w' => e = .returned (.bool true) ∧ Below w.heap.size w w' := by
  obtain ⟨l, h⟩ := g.lv
  obtain ⟨l2, h2⟩ := g2.lv
  rcases Nat.lt_or_ge 40 n with hn | hn
  · exact adds_long1 b b2 A A2 c c2 x x2 hn hT hP
  · rcases Nat.lt_or_ge 40 n2 with hn2 | hn2
    · exact adds_long2 b b2 A A2 c c2 x x2 hn hn2 hT hP
    · rcases lapart_any b b2 A A2 n n2 c c2 x x2 x0 x1 y0 y1 with ap | ⟨hd, ap⟩
      · exact adds_apart b b2 A A2 c c2 x x2 hn hn2 ap hT hP
      · exact adds_main h hn h2 hn2 ap (far_or h hn h2 hn2 hd) hT hP
end
end Go.Proofs.YtknomchkfamajaaGreatDoor
