/-
  Layer 4, walks, part six: what two numbers come to.
-/
import Derived.Test.YtfjellhbcjnjkaaGreatDoorSgD
import Derived.Test.YtfjellhbcjnjkaaGreatDoorSgM
namespace Go.Proofs.YtfjellhbcjnjkaaGreatDoor
open Go.RowKit Go.Sort Go.Bw
set_option linter.unusedVariables false
set_option linter.unusedSimpArgs false

section
variable {b1 : Bool} {A1 : Option Addr} {c1 : Nat} {x1 : Int} {l1 : List Int} {w : World} {d1 : Nf}
variable {b2 : Bool} {A2 : Option Addr} {c2 : Nat} {x2 : Int} {l2 : List Int} {d2 : Nf}
variable {k1 k2 : Int} {s1 s2 : Bool} {f : Int → Int → Int} {r : Nf → Nf → Nu} {B N F : Nat}
set_option maxRecDepth 100000 in
set_option maxHeartbeats 4000000 in
theorem comb_0s (hM : Mp w B N f) (rx : rng k1) (ry : rng k2) (hd1 : Dn b1 l1 x1 d1) (h1 : Lv w A1 l1.length c1 l1) (hd2 : Dn b2 l2 x2 d2) (h2 : Lv w A2 l2.length c2 l2) (HC : Hid (∀ W, Below w.heap.size w W → Lv W A1 l1.length c1 l1 → Lv W A2 l2.length c2 l2 → Calls Tryz.prog 69 #[dyV b1 A1 l1.length c1 x1, dyV b2 A2 l2.length c2 x2] W (NuP (r d1 d2) W))) (ht : f k1 k2 = 0) :
    Calls Tryz.prog 67 #[nuV k1 s1 b1 A1 l1.length c1 x1, nuV k2 s2 b2 A2 l2.length c2 x2, .map (some B), .func (.func 69) #[] #[]] w (NuP (nuC f r ⟨k1, s1, d1⟩ ⟨k2, s2, d2⟩) w) := by
  have PB := Blk.new w [.int .i64 (k1), .bool (s1), .bool b1, .slice A1 l1.length c1, .int .i64 x1] 52
  have QB := Blk.new (w.alloc (.cells #[.int .i64 (k1), .bool (s1), .bool b1, .slice A1 l1.length c1, .int .i64 x1] 52)) [.int .i64 (k2), .bool (s2), .bool b2, .slice A2 l2.length c2, .int .i64 x2] 52
  simp only [World.size_alloc] at QB
  replace PB := Blk.alloc PB (.cells #[.int .i64 (k2), .bool (s2), .bool b2, .slice A2 l2.length c2, .int .i64 x2] 52)
  have RB := Blk.new ((w.alloc (.cells #[.int .i64 (k1), .bool (s1), .bool b1, .slice A1 l1.length c1, .int .i64 x1] 52)).alloc (.cells #[.int .i64 (k2), .bool (s2), .bool b2, .slice A2 l2.length c2, .int .i64 x2] 52)) [.int .i64 0, .bool false, .bool false, .slice none 0 0, .int .i64 0] 52
  simp only [World.size_alloc] at RB
  replace PB := Blk.alloc PB (.cells #[.int .i64 0, .bool false, .bool false, .slice none 0 0, .int .i64 0] 52)
  replace QB := Blk.alloc QB (.cells #[.int .i64 0, .bool false, .bool false, .slice none 0 0, .int .i64 0] 52)
  have bw : Below w.heap.size w (((w.alloc (.cells #[.int .i64 (k1), .bool (s1), .bool b1, .slice A1 l1.length c1, .int .i64 x1] 52)).alloc (.cells #[.int .i64 (k2), .bool (s2), .bool b2, .slice A2 l2.length c2, .int .i64 x2] 52)).alloc (.cells #[.int .i64 0, .bool false, .bool false, .slice none 0 0, .int .i64 0] 52)) := by go_grown
  have PB_0 := Blk.cell PB 0 rfl
  have PB_1 := Blk.cell PB 1 rfl
  have PB_2 := Blk.cell PB 2 rfl
  have PB_3 := Blk.cell PB 3 rfl
  have PB_4 := Blk.cell PB 4 rfl
  have PB_f0 := Blk.free PB 0
  have PB_f1 := Blk.free PB 1
  have PB_f2 := Blk.free PB 2
  have PB_f3 := Blk.free PB 3
  have PB_f4 := Blk.free PB 4
  have QB_0 := Blk.cell QB 0 rfl
  have QB_1 := Blk.cell QB 1 rfl
  have QB_2 := Blk.cell QB 2 rfl
  have QB_3 := Blk.cell QB 3 rfl
  have QB_4 := Blk.cell QB 4 rfl
  have QB_f0 := Blk.free QB 0
  have QB_f1 := Blk.free QB 1
  have QB_f2 := Blk.free QB 2
  have QB_f3 := Blk.free QB 3
  have QB_f4 := Blk.free QB 4
  have RB_0 := Blk.cell RB 0 rfl
  have RB_1 := Blk.cell RB 1 rfl
  have RB_2 := Blk.cell RB 2 rfl
  have RB_3 := Blk.cell RB 3 rfl
  have RB_4 := Blk.cell RB 4 rfl
  have RB_f0 := Blk.free RB 0
  have RB_f1 := Blk.free RB 1
  have RB_f2 := Blk.free RB 2
  have RB_f3 := Blk.free RB 3
  have RB_f4 := Blk.free RB 4
  have bh := bw
  have h1w := h1
  have h2w := h2
  replace h1 := h1.on bw
  replace h2 := h2.on bw
  have hl := (hM.on bw hM.lt).look rx ry
  rw [ht] at hl
  unfold kV at hl
  go_enter Tryz.func67, Tryz.ntmps67
  go_wp2_with fail
  with_reducible refine (HC.out _ bw h1 h2).mono ?_
  rintro e w1 ⟨b3, l3, A3, c3, x3, rfl, hd3, m3, hb⟩
  clear PB_0 PB_1 PB_2 PB_3 PB_4 PB_f0 PB_f1 PB_f2 PB_f3 PB_f4
  clear QB_0 QB_1 QB_2 QB_3 QB_4 QB_f0 QB_f1 QB_f2 QB_f3 QB_f4
  clear RB_0 RB_1 RB_2 RB_3 RB_4 RB_f0 RB_f1 RB_f2 RB_f3 RB_f4
  have hs1 := hb.size
  try simp only [World.size_alloc, World.size_setCell] at hs1
  replace bw : Below w.heap.size w w1 := dy_end (by go_grown) hb
  replace h1 := Lv.on h1 hb
  replace h2 := Lv.on h2 hb
  replace PB := Blk.on PB hb
  replace QB := Blk.on QB hb
  replace RB := Blk.on RB hb
  clear hb
  have PB_0 := Blk.cell PB 0 rfl
  have PB_1 := Blk.cell PB 1 rfl
  have PB_2 := Blk.cell PB 2 rfl
  have PB_3 := Blk.cell PB 3 rfl
  have PB_4 := Blk.cell PB 4 rfl
  have PB_f0 := Blk.free PB 0
  have PB_f1 := Blk.free PB 1
  have PB_f2 := Blk.free PB 2
  have PB_f3 := Blk.free PB 3
  have PB_f4 := Blk.free PB 4
  have QB_0 := Blk.cell QB 0 rfl
  have QB_1 := Blk.cell QB 1 rfl
  have QB_2 := Blk.cell QB 2 rfl
  have QB_3 := Blk.cell QB 3 rfl
  have QB_4 := Blk.cell QB 4 rfl
  have QB_f0 := Blk.free QB 0
  have QB_f1 := Blk.free QB 1
  have QB_f2 := Blk.free QB 2
  have QB_f3 := Blk.free QB 3
  have QB_f4 := Blk.free QB 4
  have RB_0 := Blk.cell RB 0 rfl
  have RB_1 := Blk.cell RB 1 rfl
  have RB_2 := Blk.cell RB 2 rfl
  have RB_3 := Blk.cell RB 3 rfl
  have RB_4 := Blk.cell RB 4 rfl
  have RB_f0 := Blk.free RB 0
  have RB_f1 := Blk.free RB 1
  have RB_f2 := Blk.free RB 2
  have RB_f3 := Blk.free RB 3
  have RB_f4 := Blk.free RB 4
  go_wp2_with fail
  refine bodyPost_ret (v := nuV (r d1 d2).c (r d1 d2).neg b3 A3 l3.length c3 x3) (by simp [results, Tryz.results67, go_sem, PB_0, PB_1, PB_2, PB_3, PB_4, PB_f0, PB_f1, PB_f2, PB_f3, PB_f4, QB_0, QB_1, QB_2, QB_3, QB_4, QB_f0, QB_f1, QB_f2, QB_f3, QB_f4, RB_0, RB_1, RB_2, RB_3, RB_4, RB_f0, RB_f1, RB_f2, RB_f3, RB_f4]) rfl ?_
  have e : nuC f r ⟨k1, s1, d1⟩ ⟨k2, s2, d2⟩ = r d1 d2 := by unfold nuC; simp [ht]
  rw [e]
  exact ⟨b3, l3, A3, c3, x3, rfl, hd3, m3.put5 RB _ _ _ _ _ _ _, by go_grown⟩

set_option maxRecDepth 100000 in
set_option maxHeartbeats 4000000 in
theorem comb_0p (hM : Mp w B N f) (rx : rng k1) (ry : rng k2) (hd1 : Dn b1 l1 x1 d1) (h1 : Lv w A1 l1.length c1 l1) (hd2 : Dn b2 l2 x2 d2) (h2 : Lv w A2 l2.length c2 l2) (HC : Hid (∀ W, Below w.heap.size w W → Lv W A1 l1.length c1 l1 → Lv W A2 l2.length c2 l2 → Calls Tryz.prog 77 #[dyV b1 A1 l1.length c1 x1, dyV b2 A2 l2.length c2 x2] W (NuP (r d1 d2) W))) (ht : f k1 k2 = 0) :
    Calls Tryz.prog 67 #[nuV k1 s1 b1 A1 l1.length c1 x1, nuV k2 s2 b2 A2 l2.length c2 x2, .map (some B), .func (.func 77) #[] #[]] w (NuP (nuC f r ⟨k1, s1, d1⟩ ⟨k2, s2, d2⟩) w) := by
  have PB := Blk.new w [.int .i64 (k1), .bool (s1), .bool b1, .slice A1 l1.length c1, .int .i64 x1] 52
  have QB := Blk.new (w.alloc (.cells #[.int .i64 (k1), .bool (s1), .bool b1, .slice A1 l1.length c1, .int .i64 x1] 52)) [.int .i64 (k2), .bool (s2), .bool b2, .slice A2 l2.length c2, .int .i64 x2] 52
  simp only [World.size_alloc] at QB
  replace PB := Blk.alloc PB (.cells #[.int .i64 (k2), .bool (s2), .bool b2, .slice A2 l2.length c2, .int .i64 x2] 52)
  have RB := Blk.new ((w.alloc (.cells #[.int .i64 (k1), .bool (s1), .bool b1, .slice A1 l1.length c1, .int .i64 x1] 52)).alloc (.cells #[.int .i64 (k2), .bool (s2), .bool b2, .slice A2 l2.length c2, .int .i64 x2] 52)) [.int .i64 0, .bool false, .bool false, .slice none 0 0, .int .i64 0] 52
  simp only [World.size_alloc] at RB
  replace PB := Blk.alloc PB (.cells #[.int .i64 0, .bool false, .bool false, .slice none 0 0, .int .i64 0] 52)
  replace QB := Blk.alloc QB (.cells #[.int .i64 0, .bool false, .bool false, .slice none 0 0, .int .i64 0] 52)
  have bw : Below w.heap.size w (((w.alloc (.cells #[.int .i64 (k1), .bool (s1), .bool b1, .slice A1 l1.length c1, .int .i64 x1] 52)).alloc (.cells #[.int .i64 (k2), .bool (s2), .bool b2, .slice A2 l2.length c2, .int .i64 x2] 52)).alloc (.cells #[.int .i64 0, .bool false, .bool false, .slice none 0 0, .int .i64 0] 52)) := by go_grown
  have PB_0 := Blk.cell PB 0 rfl
  have PB_1 := Blk.cell PB 1 rfl
  have PB_2 := Blk.cell PB 2 rfl
  have PB_3 := Blk.cell PB 3 rfl
  have PB_4 := Blk.cell PB 4 rfl
  have PB_f0 := Blk.free PB 0
  have PB_f1 := Blk.free PB 1
  have PB_f2 := Blk.free PB 2
  have PB_f3 := Blk.free PB 3
  have PB_f4 := Blk.free PB 4
  have QB_0 := Blk.cell QB 0 rfl
  have QB_1 := Blk.cell QB 1 rfl
  have QB_2 := Blk.cell QB 2 rfl
  have QB_3 := Blk.cell QB 3 rfl
  have QB_4 := Blk.cell QB 4 rfl
  have QB_f0 := Blk.free QB 0
  have QB_f1 := Blk.free QB 1
  have QB_f2 := Blk.free QB 2
  have QB_f3 := Blk.free QB 3
  have QB_f4 := Blk.free QB 4
  have RB_0 := Blk.cell RB 0 rfl
  have RB_1 := Blk.cell RB 1 rfl
  have RB_2 := Blk.cell RB 2 rfl
  have RB_3 := Blk.cell RB 3 rfl
  have RB_4 := Blk.cell RB 4 rfl
  have RB_f0 := Blk.free RB 0
  have RB_f1 := Blk.free RB 1
  have RB_f2 := Blk.free RB 2
  have RB_f3 := Blk.free RB 3
  have RB_f4 := Blk.free RB 4
  have bh := bw
  have h1w := h1
  have h2w := h2
  replace h1 := h1.on bw
  replace h2 := h2.on bw
  have hl := (hM.on bw hM.lt).look rx ry
  rw [ht] at hl
  unfold kV at hl
  go_enter Tryz.func67, Tryz.ntmps67
  go_wp2_with fail
  with_reducible refine (HC.out _ bw h1 h2).mono ?_
  rintro e w1 ⟨b3, l3, A3, c3, x3, rfl, hd3, m3, hb⟩
  clear PB_0 PB_1 PB_2 PB_3 PB_4 PB_f0 PB_f1 PB_f2 PB_f3 PB_f4
  clear QB_0 QB_1 QB_2 QB_3 QB_4 QB_f0 QB_f1 QB_f2 QB_f3 QB_f4
  clear RB_0 RB_1 RB_2 RB_3 RB_4 RB_f0 RB_f1 RB_f2 RB_f3 RB_f4
  have hs1 := hb.size
  try simp only [World.size_alloc, World.size_setCell] at hs1
  replace bw : Below w.heap.size w w1 := dy_end (by go_grown) hb
  replace h1 := Lv.on h1 hb
  replace h2 := Lv.on h2 hb
  replace PB := Blk.on PB hb
  replace QB := Blk.on QB hb
  replace RB := Blk.on RB hb
  clear hb
  have PB_0 := Blk.cell PB 0 rfl
  have PB_1 := Blk.cell PB 1 rfl
  have PB_2 := Blk.cell PB 2 rfl
  have PB_3 := Blk.cell PB 3 rfl
  have PB_4 := Blk.cell PB 4 rfl
  have PB_f0 := Blk.free PB 0
  have PB_f1 := Blk.free PB 1
  have PB_f2 := Blk.free PB 2
  have PB_f3 := Blk.free PB 3
  have PB_f4 := Blk.free PB 4
  have QB_0 := Blk.cell QB 0 rfl
  have QB_1 := Blk.cell QB 1 rfl
  have QB_2 := Blk.cell QB 2 rfl
  have QB_3 := Blk.cell QB 3 rfl
  have QB_4 := Blk.cell QB 4 rfl
  have QB_f0 := Blk.free QB 0
  have QB_f1 := Blk.free QB 1
  have QB_f2 := Blk.free QB 2
  have QB_f3 := Blk.free QB 3
  have QB_f4 := Blk.free QB 4
  have RB_0 := Blk.cell RB 0 rfl
  have RB_1 := Blk.cell RB 1 rfl
  have RB_2 := Blk.cell RB 2 rfl
  have RB_3 := Blk.cell RB 3 rfl
  have RB_4 := Blk.cell RB 4 rfl
  have RB_f0 := Blk.free RB 0
  have RB_f1 := Blk.free RB 1
  have RB_f2 := Blk.free RB 2
  have RB_f3 := Blk.free RB 3
  have RB_f4 := Blk.free RB 4
  go_wp2_with fail
  refine bodyPost_ret (v := nuV (r d1 d2).c (r d1 d2).neg b3 A3 l3.length c3 x3) (by simp [results, Tryz.results67, go_sem, PB_0, PB_1, PB_2, PB_3, PB_4, PB_f0, PB_f1, PB_f2, PB_f3, PB_f4, QB_0, QB_1, QB_2, QB_3, QB_4, QB_f0, QB_f1, QB_f2, QB_f3, QB_f4, RB_0, RB_1, RB_2, RB_3, RB_4, RB_f0, RB_f1, RB_f2, RB_f3, RB_f4]) rfl ?_
  have e : nuC f r ⟨k1, s1, d1⟩ ⟨k2, s2, d2⟩ = r d1 d2 := by unfold nuC; simp [ht]
  rw [e]
  exact ⟨b3, l3, A3, c3, x3, rfl, hd3, m3.put5 RB _ _ _ _ _ _ _, by go_grown⟩

set_option maxRecDepth 100000 in
set_option maxHeartbeats 4000000 in
theorem comb_0q (hM : Mp w B N f) (rx : rng k1) (ry : rng k2) (hd1 : Dn b1 l1 x1 d1) (h1 : Lv w A1 l1.length c1 l1) (hd2 : Dn b2 l2 x2 d2) (h2 : Lv w A2 l2.length c2 l2) (HC : Hid (∀ W, Below w.heap.size w W → Lv W A1 l1.length c1 l1 → Lv W A2 l2.length c2 l2 → Calls Tryz.prog 80 #[dyV b1 A1 l1.length c1 x1, dyV b2 A2 l2.length c2 x2] W (NuP (r d1 d2) W))) (ht : f k1 k2 = 0) :
    Calls Tryz.prog 67 #[nuV k1 s1 b1 A1 l1.length c1 x1, nuV k2 s2 b2 A2 l2.length c2 x2, .map (some B), .func (.func 80) #[] #[]] w (NuP (nuC f r ⟨k1, s1, d1⟩ ⟨k2, s2, d2⟩) w) := by
  have PB := Blk.new w [.int .i64 (k1), .bool (s1), .bool b1, .slice A1 l1.length c1, .int .i64 x1] 52
  have QB := Blk.new (w.alloc (.cells #[.int .i64 (k1), .bool (s1), .bool b1, .slice A1 l1.length c1, .int .i64 x1] 52)) [.int .i64 (k2), .bool (s2), .bool b2, .slice A2 l2.length c2, .int .i64 x2] 52
  simp only [World.size_alloc] at QB
  replace PB := Blk.alloc PB (.cells #[.int .i64 (k2), .bool (s2), .bool b2, .slice A2 l2.length c2, .int .i64 x2] 52)
  have RB := Blk.new ((w.alloc (.cells #[.int .i64 (k1), .bool (s1), .bool b1, .slice A1 l1.length c1, .int .i64 x1] 52)).alloc (.cells #[.int .i64 (k2), .bool (s2), .bool b2, .slice A2 l2.length c2, .int .i64 x2] 52)) [.int .i64 0, .bool false, .bool false, .slice none 0 0, .int .i64 0] 52
  simp only [World.size_alloc] at RB
  replace PB := Blk.alloc PB (.cells #[.int .i64 0, .bool false, .bool false, .slice none 0 0, .int .i64 0] 52)
  replace QB := Blk.alloc QB (.cells #[.int .i64 0, .bool false, .bool false, .slice none 0 0, .int .i64 0] 52)
  have bw : Below w.heap.size w (((w.alloc (.cells #[.int .i64 (k1), .bool (s1), .bool b1, .slice A1 l1.length c1, .int .i64 x1] 52)).alloc (.cells #[.int .i64 (k2), .bool (s2), .bool b2, .slice A2 l2.length c2, .int .i64 x2] 52)).alloc (.cells #[.int .i64 0, .bool false, .bool false, .slice none 0 0, .int .i64 0] 52)) := by go_grown
  have PB_0 := Blk.cell PB 0 rfl
  have PB_1 := Blk.cell PB 1 rfl
  have PB_2 := Blk.cell PB 2 rfl
  have PB_3 := Blk.cell PB 3 rfl
  have PB_4 := Blk.cell PB 4 rfl
  have PB_f0 := Blk.free PB 0
  have PB_f1 := Blk.free PB 1
  have PB_f2 := Blk.free PB 2
  have PB_f3 := Blk.free PB 3
  have PB_f4 := Blk.free PB 4
  have QB_0 := Blk.cell QB 0 rfl
  have QB_1 := Blk.cell QB 1 rfl
  have QB_2 := Blk.cell QB 2 rfl
  have QB_3 := Blk.cell QB 3 rfl
  have QB_4 := Blk.cell QB 4 rfl
  have QB_f0 := Blk.free QB 0
  have QB_f1 := Blk.free QB 1
  have QB_f2 := Blk.free QB 2
  have QB_f3 := Blk.free QB 3
  have QB_f4 := Blk.free QB 4
  have RB_0 := Blk.cell RB 0 rfl
  have RB_1 := Blk.cell RB 1 rfl
  have RB_2 := Blk.cell RB 2 rfl
  have RB_3 := Blk.cell RB 3 rfl
  have RB_4 := Blk.cell RB 4 rfl
  have RB_f0 := Blk.free RB 0
  have RB_f1 := Blk.free RB 1
  have RB_f2 := Blk.free RB 2
  have RB_f3 := Blk.free RB 3
  have RB_f4 := Blk.free RB 4
  have bh := bw
  have h1w := h1
  have h2w := h2
  replace h1 := h1.on bw
  replace h2 := h2.on bw
  have hl := (hM.on bw hM.lt).look rx ry
  rw [ht] at hl
  unfold kV at hl
  go_enter Tryz.func67, Tryz.ntmps67
  go_wp2_with fail
  with_reducible refine (HC.out _ bw h1 h2).mono ?_
  rintro e w1 ⟨b3, l3, A3, c3, x3, rfl, hd3, m3, hb⟩
  clear PB_0 PB_1 PB_2 PB_3 PB_4 PB_f0 PB_f1 PB_f2 PB_f3 PB_f4
  clear QB_0 QB_1 QB_2 QB_3 QB_4 QB_f0 QB_f1 QB_f2 QB_f3 QB_f4
  clear RB_0 RB_1 RB_2 RB_3 RB_4 RB_f0 RB_f1 RB_f2 RB_f3 RB_f4
  have hs1 := hb.size
  try simp only [World.size_alloc, World.size_setCell] at hs1
  replace bw : Below w.heap.size w w1 := dy_end (by go_grown) hb
  replace h1 := Lv.on h1 hb
  replace h2 := Lv.on h2 hb
  replace PB := Blk.on PB hb
  replace QB := Blk.on QB hb
  replace RB := Blk.on RB hb
  clear hb
  have PB_0 := Blk.cell PB 0 rfl
  have PB_1 := Blk.cell PB 1 rfl
  have PB_2 := Blk.cell PB 2 rfl
  have PB_3 := Blk.cell PB 3 rfl
  have PB_4 := Blk.cell PB 4 rfl
  have PB_f0 := Blk.free PB 0
  have PB_f1 := Blk.free PB 1
  have PB_f2 := Blk.free PB 2
  have PB_f3 := Blk.free PB 3
  have PB_f4 := Blk.free PB 4
  have QB_0 := Blk.cell QB 0 rfl
  have QB_1 := Blk.cell QB 1 rfl
  have QB_2 := Blk.cell QB 2 rfl
  have QB_3 := Blk.cell QB 3 rfl
  have QB_4 := Blk.cell QB 4 rfl
  have QB_f0 := Blk.free QB 0
  have QB_f1 := Blk.free QB 1
  have QB_f2 := Blk.free QB 2
  have QB_f3 := Blk.free QB 3
  have QB_f4 := Blk.free QB 4
  have RB_0 := Blk.cell RB 0 rfl
  have RB_1 := Blk.cell RB 1 rfl
  have RB_2 := Blk.cell RB 2 rfl
  have RB_3 := Blk.cell RB 3 rfl
  have RB_4 := Blk.cell RB 4 rfl
  have RB_f0 := Blk.free RB 0
  have RB_f1 := Blk.free RB 1
  have RB_f2 := Blk.free RB 2
  have RB_f3 := Blk.free RB 3
  have RB_f4 := Blk.free RB 4
  go_wp2_with fail
  refine bodyPost_ret (v := nuV (r d1 d2).c (r d1 d2).neg b3 A3 l3.length c3 x3) (by simp [results, Tryz.results67, go_sem, PB_0, PB_1, PB_2, PB_3, PB_4, PB_f0, PB_f1, PB_f2, PB_f3, PB_f4, QB_0, QB_1, QB_2, QB_3, QB_4, QB_f0, QB_f1, QB_f2, QB_f3, QB_f4, RB_0, RB_1, RB_2, RB_3, RB_4, RB_f0, RB_f1, RB_f2, RB_f3, RB_f4]) rfl ?_
  have e : nuC f r ⟨k1, s1, d1⟩ ⟨k2, s2, d2⟩ = r d1 d2 := by unfold nuC; simp [ht]
  rw [e]
  exact ⟨b3, l3, A3, c3, x3, rfl, hd3, m3.put5 RB _ _ _ _ _ _ _, by go_grown⟩

set_option maxRecDepth 100000 in
set_option maxHeartbeats 4000000 in
theorem comb_1 (hM : Mp w B N f) (rx : rng k1) (ry : rng k2) (hd1 : Dn b1 l1 x1 d1) (h1 : Lv w A1 l1.length c1 l1) (hd2 : Dn b2 l2 x2 d2) (h2 : Lv w A2 l2.length c2 l2) (ht : f k1 k2 = 1) :
    Calls Tryz.prog 67 #[nuV k1 s1 b1 A1 l1.length c1 x1, nuV k2 s2 b2 A2 l2.length c2 x2, .map (some B), .func (.func F) #[] #[]] w (NuP (nuC f r ⟨k1, s1, d1⟩ ⟨k2, s2, d2⟩) w) := by
  have PB := Blk.new w [.int .i64 (k1), .bool (s1), .bool b1, .slice A1 l1.length c1, .int .i64 x1] 52
  have QB := Blk.new (w.alloc (.cells #[.int .i64 (k1), .bool (s1), .bool b1, .slice A1 l1.length c1, .int .i64 x1] 52)) [.int .i64 (k2), .bool (s2), .bool b2, .slice A2 l2.length c2, .int .i64 x2] 52
  simp only [World.size_alloc] at QB
  replace PB := Blk.alloc PB (.cells #[.int .i64 (k2), .bool (s2), .bool b2, .slice A2 l2.length c2, .int .i64 x2] 52)
  have RB := Blk.new ((w.alloc (.cells #[.int .i64 (k1), .bool (s1), .bool b1, .slice A1 l1.length c1, .int .i64 x1] 52)).alloc (.cells #[.int .i64 (k2), .bool (s2), .bool b2, .slice A2 l2.length c2, .int .i64 x2] 52)) [.int .i64 0, .bool false, .bool false, .slice none 0 0, .int .i64 0] 52
  simp only [World.size_alloc] at RB
  replace PB := Blk.alloc PB (.cells #[.int .i64 0, .bool false, .bool false, .slice none 0 0, .int .i64 0] 52)
  replace QB := Blk.alloc QB (.cells #[.int .i64 0, .bool false, .bool false, .slice none 0 0, .int .i64 0] 52)
  have bw : Below w.heap.size w (((w.alloc (.cells #[.int .i64 (k1), .bool (s1), .bool b1, .slice A1 l1.length c1, .int .i64 x1] 52)).alloc (.cells #[.int .i64 (k2), .bool (s2), .bool b2, .slice A2 l2.length c2, .int .i64 x2] 52)).alloc (.cells #[.int .i64 0, .bool false, .bool false, .slice none 0 0, .int .i64 0] 52)) := by go_grown
  have PB_0 := Blk.cell PB 0 rfl
  have PB_1 := Blk.cell PB 1 rfl
  have PB_2 := Blk.cell PB 2 rfl
  have PB_3 := Blk.cell PB 3 rfl
  have PB_4 := Blk.cell PB 4 rfl
  have PB_f0 := Blk.free PB 0
  have PB_f1 := Blk.free PB 1
  have PB_f2 := Blk.free PB 2
  have PB_f3 := Blk.free PB 3
  have PB_f4 := Blk.free PB 4
  have QB_0 := Blk.cell QB 0 rfl
  have QB_1 := Blk.cell QB 1 rfl
  have QB_2 := Blk.cell QB 2 rfl
  have QB_3 := Blk.cell QB 3 rfl
  have QB_4 := Blk.cell QB 4 rfl
  have QB_f0 := Blk.free QB 0
  have QB_f1 := Blk.free QB 1
  have QB_f2 := Blk.free QB 2
  have QB_f3 := Blk.free QB 3
  have QB_f4 := Blk.free QB 4
  have RB_0 := Blk.cell RB 0 rfl
  have RB_1 := Blk.cell RB 1 rfl
  have RB_2 := Blk.cell RB 2 rfl
  have RB_3 := Blk.cell RB 3 rfl
  have RB_4 := Blk.cell RB 4 rfl
  have RB_f0 := Blk.free RB 0
  have RB_f1 := Blk.free RB 1
  have RB_f2 := Blk.free RB 2
  have RB_f3 := Blk.free RB 3
  have RB_f4 := Blk.free RB 4
  have bh := bw
  have h1w := h1
  have h2w := h2
  replace h1 := h1.on bw
  replace h2 := h2.on bw
  have hl := (hM.on bw hM.lt).look rx ry
  rw [ht] at hl
  unfold kV at hl
  go_enter Tryz.func67, Tryz.ntmps67
  go_wp2_with fail
  refine bodyPost_ret (v := nuV 5 false false none 0 0 0) (by simp [results, Tryz.results67, go_sem]) rfl ?_
  have e : nuC f r ⟨k1, s1, d1⟩ ⟨k2, s2, d2⟩ = ⟨5, false, zeroN⟩ := by unfold nuC; simp [ht]
  rw [e]
  exact ⟨false, [], none, 0, 0, rfl, Dn.zero, lv_nil _, by go_grown⟩

set_option maxRecDepth 100000 in
set_option maxHeartbeats 4000000 in
theorem comb_2 (hM : Mp w B N f) (rx : rng k1) (ry : rng k2) (hd1 : Dn b1 l1 x1 d1) (h1 : Lv w A1 l1.length c1 l1) (hd2 : Dn b2 l2 x2 d2) (h2 : Lv w A2 l2.length c2 l2) (ht : f k1 k2 = 2) :
    Calls Tryz.prog 67 #[nuV k1 s1 b1 A1 l1.length c1 x1, nuV k2 s2 b2 A2 l2.length c2 x2, .map (some B), .func (.func F) #[] #[]] w (NuP (nuC f r ⟨k1, s1, d1⟩ ⟨k2, s2, d2⟩) w) := by
  have PB := Blk.new w [.int .i64 (k1), .bool (s1), .bool b1, .slice A1 l1.length c1, .int .i64 x1] 52
  have QB := Blk.new (w.alloc (.cells #[.int .i64 (k1), .bool (s1), .bool b1, .slice A1 l1.length c1, .int .i64 x1] 52)) [.int .i64 (k2), .bool (s2), .bool b2, .slice A2 l2.length c2, .int .i64 x2] 52
  simp only [World.size_alloc] at QB
  replace PB := Blk.alloc PB (.cells #[.int .i64 (k2), .bool (s2), .bool b2, .slice A2 l2.length c2, .int .i64 x2] 52)
  have RB := Blk.new ((w.alloc (.cells #[.int .i64 (k1), .bool (s1), .bool b1, .slice A1 l1.length c1, .int .i64 x1] 52)).alloc (.cells #[.int .i64 (k2), .bool (s2), .bool b2, .slice A2 l2.length c2, .int .i64 x2] 52)) [.int .i64 0, .bool false, .bool false, .slice none 0 0, .int .i64 0] 52
  simp only [World.size_alloc] at RB
  replace PB := Blk.alloc PB (.cells #[.int .i64 0, .bool false, .bool false, .slice none 0 0, .int .i64 0] 52)
  replace QB := Blk.alloc QB (.cells #[.int .i64 0, .bool false, .bool false, .slice none 0 0, .int .i64 0] 52)
  have bw : Below w.heap.size w (((w.alloc (.cells #[.int .i64 (k1), .bool (s1), .bool b1, .slice A1 l1.length c1, .int .i64 x1] 52)).alloc (.cells #[.int .i64 (k2), .bool (s2), .bool b2, .slice A2 l2.length c2, .int .i64 x2] 52)).alloc (.cells #[.int .i64 0, .bool false, .bool false, .slice none 0 0, .int .i64 0] 52)) := by go_grown
  have PB_0 := Blk.cell PB 0 rfl
  have PB_1 := Blk.cell PB 1 rfl
  have PB_2 := Blk.cell PB 2 rfl
  have PB_3 := Blk.cell PB 3 rfl
  have PB_4 := Blk.cell PB 4 rfl
  have PB_f0 := Blk.free PB 0
  have PB_f1 := Blk.free PB 1
  have PB_f2 := Blk.free PB 2
  have PB_f3 := Blk.free PB 3
  have PB_f4 := Blk.free PB 4
  have QB_0 := Blk.cell QB 0 rfl
  have QB_1 := Blk.cell QB 1 rfl
  have QB_2 := Blk.cell QB 2 rfl
  have QB_3 := Blk.cell QB 3 rfl
  have QB_4 := Blk.cell QB 4 rfl
  have QB_f0 := Blk.free QB 0
  have QB_f1 := Blk.free QB 1
  have QB_f2 := Blk.free QB 2
  have QB_f3 := Blk.free QB 3
  have QB_f4 := Blk.free QB 4
  have RB_0 := Blk.cell RB 0 rfl
  have RB_1 := Blk.cell RB 1 rfl
  have RB_2 := Blk.cell RB 2 rfl
  have RB_3 := Blk.cell RB 3 rfl
  have RB_4 := Blk.cell RB 4 rfl
  have RB_f0 := Blk.free RB 0
  have RB_f1 := Blk.free RB 1
  have RB_f2 := Blk.free RB 2
  have RB_f3 := Blk.free RB 3
  have RB_f4 := Blk.free RB 4
  have bh := bw
  have h1w := h1
  have h2w := h2
  replace h1 := h1.on bw
  replace h2 := h2.on bw
  have hl := (hM.on bw hM.lt).look rx ry
  rw [ht] at hl
  unfold kV at hl
  go_enter Tryz.func67, Tryz.ntmps67
  go_wp2_with fail
  refine bodyPost_ret (v := nuV k1 s1 b1 A1 l1.length c1 x1) (by simp [results, Tryz.results67, go_sem]) rfl ?_
  have e : nuC f r ⟨k1, s1, d1⟩ ⟨k2, s2, d2⟩ = ⟨k1, s1, d1⟩ := by unfold nuC; simp [ht]
  rw [e]
  exact ⟨b1, l1, A1, c1, x1, rfl, hd1, ((h1w.alloc _).alloc _).alloc _, by go_grown⟩

set_option maxRecDepth 100000 in
set_option maxHeartbeats 4000000 in
theorem comb_3 (hM : Mp w B N f) (rx : rng k1) (ry : rng k2) (hd1 : Dn b1 l1 x1 d1) (h1 : Lv w A1 l1.length c1 l1) (hd2 : Dn b2 l2 x2 d2) (h2 : Lv w A2 l2.length c2 l2) (ht : f k1 k2 = 3) :
    Calls Tryz.prog 67 #[nuV k1 s1 b1 A1 l1.length c1 x1, nuV k2 s2 b2 A2 l2.length c2 x2, .map (some B), .func (.func F) #[] #[]] w (NuP (nuC f r ⟨k1, s1, d1⟩ ⟨k2, s2, d2⟩) w) := by
  have PB := Blk.new w [.int .i64 (k1), .bool (s1), .bool b1, .slice A1 l1.length c1, .int .i64 x1] 52
  have QB := Blk.new (w.alloc (.cells #[.int .i64 (k1), .bool (s1), .bool b1, .slice A1 l1.length c1, .int .i64 x1] 52)) [.int .i64 (k2), .bool (s2), .bool b2, .slice A2 l2.length c2, .int .i64 x2] 52
  simp only [World.size_alloc] at QB
  replace PB := Blk.alloc PB (.cells #[.int .i64 (k2), .bool (s2), .bool b2, .slice A2 l2.length c2, .int .i64 x2] 52)
  have RB := Blk.new ((w.alloc (.cells #[.int .i64 (k1), .bool (s1), .bool b1, .slice A1 l1.length c1, .int .i64 x1] 52)).alloc (.cells #[.int .i64 (k2), .bool (s2), .bool b2, .slice A2 l2.length c2, .int .i64 x2] 52)) [.int .i64 0, .bool false, .bool false, .slice none 0 0, .int .i64 0] 52
  simp only [World.size_alloc] at RB
  replace PB := Blk.alloc PB (.cells #[.int .i64 0, .bool false, .bool false, .slice none 0 0, .int .i64 0] 52)
  replace QB := Blk.alloc QB (.cells #[.int .i64 0, .bool false, .bool false, .slice none 0 0, .int .i64 0] 52)
  have bw : Below w.heap.size w (((w.alloc (.cells #[.int .i64 (k1), .bool (s1), .bool b1, .slice A1 l1.length c1, .int .i64 x1] 52)).alloc (.cells #[.int .i64 (k2), .bool (s2), .bool b2, .slice A2 l2.length c2, .int .i64 x2] 52)).alloc (.cells #[.int .i64 0, .bool false, .bool false, .slice none 0 0, .int .i64 0] 52)) := by go_grown
  have PB_0 := Blk.cell PB 0 rfl
  have PB_1 := Blk.cell PB 1 rfl
  have PB_2 := Blk.cell PB 2 rfl
  have PB_3 := Blk.cell PB 3 rfl
  have PB_4 := Blk.cell PB 4 rfl
  have PB_f0 := Blk.free PB 0
  have PB_f1 := Blk.free PB 1
  have PB_f2 := Blk.free PB 2
  have PB_f3 := Blk.free PB 3
  have PB_f4 := Blk.free PB 4
  have QB_0 := Blk.cell QB 0 rfl
  have QB_1 := Blk.cell QB 1 rfl
  have QB_2 := Blk.cell QB 2 rfl
  have QB_3 := Blk.cell QB 3 rfl
  have QB_4 := Blk.cell QB 4 rfl
  have QB_f0 := Blk.free QB 0
  have QB_f1 := Blk.free QB 1
  have QB_f2 := Blk.free QB 2
  have QB_f3 := Blk.free QB 3
  have QB_f4 := Blk.free QB 4
  have RB_0 := Blk.cell RB 0 rfl
  have RB_1 := Blk.cell RB 1 rfl
  have RB_2 := Blk.cell RB 2 rfl
  have RB_3 := Blk.cell RB 3 rfl
  have RB_4 := Blk.cell RB 4 rfl
  have RB_f0 := Blk.free RB 0
  have RB_f1 := Blk.free RB 1
  have RB_f2 := Blk.free RB 2
  have RB_f3 := Blk.free RB 3
  have RB_f4 := Blk.free RB 4
  have bh := bw
  have h1w := h1
  have h2w := h2
  replace h1 := h1.on bw
  replace h2 := h2.on bw
  have hl := (hM.on bw hM.lt).look rx ry
  rw [ht] at hl
  unfold kV at hl
  go_enter Tryz.func67, Tryz.ntmps67
  go_wp2_with fail
  refine bodyPost_ret (v := nuV k2 s2 b2 A2 l2.length c2 x2) (by simp [results, Tryz.results67, go_sem]) rfl ?_
  have e : nuC f r ⟨k1, s1, d1⟩ ⟨k2, s2, d2⟩ = ⟨k2, s2, d2⟩ := by unfold nuC; simp [ht]
  rw [e]
  exact ⟨b2, l2, A2, c2, x2, rfl, hd2, ((h2w.alloc _).alloc _).alloc _, by go_grown⟩

set_option maxRecDepth 100000 in
set_option maxHeartbeats 4000000 in
theorem comb_4t (hM : Mp w B N f) (rx : rng k1) (ry : rng k2) (hd1 : Dn b1 l1 x1 d1) (h1 : Lv w A1 l1.length c1 l1) (hd2 : Dn b2 l2 x2 d2) (h2 : Lv w A2 l2.length c2 l2) (hs1 : s1 = true) (ht : f k1 k2 = 4) :
    Calls Tryz.prog 67 #[nuV k1 s1 b1 A1 l1.length c1 x1, nuV k2 s2 b2 A2 l2.length c2 x2, .map (some B), .func (.func F) #[] #[]] w (NuP (nuC f r ⟨k1, s1, d1⟩ ⟨k2, s2, d2⟩) w) := by
  subst hs1
  have PB := Blk.new w [.int .i64 (k1), .bool (true), .bool b1, .slice A1 l1.length c1, .int .i64 x1] 52
  have QB := Blk.new (w.alloc (.cells #[.int .i64 (k1), .bool (true), .bool b1, .slice A1 l1.length c1, .int .i64 x1] 52)) [.int .i64 (k2), .bool (s2), .bool b2, .slice A2 l2.length c2, .int .i64 x2] 52
  simp only [World.size_alloc] at QB
  replace PB := Blk.alloc PB (.cells #[.int .i64 (k2), .bool (s2), .bool b2, .slice A2 l2.length c2, .int .i64 x2] 52)
  have RB := Blk.new ((w.alloc (.cells #[.int .i64 (k1), .bool (true), .bool b1, .slice A1 l1.length c1, .int .i64 x1] 52)).alloc (.cells #[.int .i64 (k2), .bool (s2), .bool b2, .slice A2 l2.length c2, .int .i64 x2] 52)) [.int .i64 0, .bool false, .bool false, .slice none 0 0, .int .i64 0] 52
  simp only [World.size_alloc] at RB
  replace PB := Blk.alloc PB (.cells #[.int .i64 0, .bool false, .bool false, .slice none 0 0, .int .i64 0] 52)
  replace QB := Blk.alloc QB (.cells #[.int .i64 0, .bool false, .bool false, .slice none 0 0, .int .i64 0] 52)
  have bw : Below w.heap.size w (((w.alloc (.cells #[.int .i64 (k1), .bool (true), .bool b1, .slice A1 l1.length c1, .int .i64 x1] 52)).alloc (.cells #[.int .i64 (k2), .bool (s2), .bool b2, .slice A2 l2.length c2, .int .i64 x2] 52)).alloc (.cells #[.int .i64 0, .bool false, .bool false, .slice none 0 0, .int .i64 0] 52)) := by go_grown
  have PB_0 := Blk.cell PB 0 rfl
  have PB_1 := Blk.cell PB 1 rfl
  have PB_2 := Blk.cell PB 2 rfl
  have PB_3 := Blk.cell PB 3 rfl
  have PB_4 := Blk.cell PB 4 rfl
  have PB_f0 := Blk.free PB 0
  have PB_f1 := Blk.free PB 1
  have PB_f2 := Blk.free PB 2
  have PB_f3 := Blk.free PB 3
  have PB_f4 := Blk.free PB 4
  have QB_0 := Blk.cell QB 0 rfl
  have QB_1 := Blk.cell QB 1 rfl
  have QB_2 := Blk.cell QB 2 rfl
  have QB_3 := Blk.cell QB 3 rfl
  have QB_4 := Blk.cell QB 4 rfl
  have QB_f0 := Blk.free QB 0
  have QB_f1 := Blk.free QB 1
  have QB_f2 := Blk.free QB 2
  have QB_f3 := Blk.free QB 3
  have QB_f4 := Blk.free QB 4
  have RB_0 := Blk.cell RB 0 rfl
  have RB_1 := Blk.cell RB 1 rfl
  have RB_2 := Blk.cell RB 2 rfl
  have RB_3 := Blk.cell RB 3 rfl
  have RB_4 := Blk.cell RB 4 rfl
  have RB_f0 := Blk.free RB 0
  have RB_f1 := Blk.free RB 1
  have RB_f2 := Blk.free RB 2
  have RB_f3 := Blk.free RB 3
  have RB_f4 := Blk.free RB 4
  have bh := bw
  have h1w := h1
  have h2w := h2
  replace h1 := h1.on bw
  replace h2 := h2.on bw
  have hl := (hM.on bw hM.lt).look rx ry
  rw [ht] at hl
  unfold kV at hl
  go_enter Tryz.func67, Tryz.ntmps67
  go_wp2_with fail
  refine bodyPost_ret (v := nuV 1 s2 false none 0 0 0) (by simp [results, Tryz.results67, go_sem]) rfl ?_
  have e : nuC f r ⟨k1, true, d1⟩ ⟨k2, s2, d2⟩ = ⟨1, s2, zeroN⟩ := by unfold nuC; simp [ht]
  rw [e]
  exact ⟨false, [], none, 0, 0, rfl, Dn.zero, lv_nil _, by go_grown⟩

set_option maxRecDepth 100000 in
set_option maxHeartbeats 4000000 in
theorem comb_4f (hM : Mp w B N f) (rx : rng k1) (ry : rng k2) (hd1 : Dn b1 l1 x1 d1) (h1 : Lv w A1 l1.length c1 l1) (hd2 : Dn b2 l2 x2 d2) (h2 : Lv w A2 l2.length c2 l2) (hs1 : s1 = false) (ht : f k1 k2 = 4) :
    Calls Tryz.prog 67 #[nuV k1 s1 b1 A1 l1.length c1 x1, nuV k2 s2 b2 A2 l2.length c2 x2, .map (some B), .func (.func F) #[] #[]] w (NuP (nuC f r ⟨k1, s1, d1⟩ ⟨k2, s2, d2⟩) w) := by
  subst hs1
  have PB := Blk.new w [.int .i64 (k1), .bool (false), .bool b1, .slice A1 l1.length c1, .int .i64 x1] 52
  have QB := Blk.new (w.alloc (.cells #[.int .i64 (k1), .bool (false), .bool b1, .slice A1 l1.length c1, .int .i64 x1] 52)) [.int .i64 (k2), .bool (s2), .bool b2, .slice A2 l2.length c2, .int .i64 x2] 52
  simp only [World.size_alloc] at QB
  replace PB := Blk.alloc PB (.cells #[.int .i64 (k2), .bool (s2), .bool b2, .slice A2 l2.length c2, .int .i64 x2] 52)
  have RB := Blk.new ((w.alloc (.cells #[.int .i64 (k1), .bool (false), .bool b1, .slice A1 l1.length c1, .int .i64 x1] 52)).alloc (.cells #[.int .i64 (k2), .bool (s2), .bool b2, .slice A2 l2.length c2, .int .i64 x2] 52)) [.int .i64 0, .bool false, .bool false, .slice none 0 0, .int .i64 0] 52
  simp only [World.size_alloc] at RB
  replace PB := Blk.alloc PB (.cells #[.int .i64 0, .bool false, .bool false, .slice none 0 0, .int .i64 0] 52)
  replace QB := Blk.alloc QB (.cells #[.int .i64 0, .bool false, .bool false, .slice none 0 0, .int .i64 0] 52)
  have bw : Below w.heap.size w (((w.alloc (.cells #[.int .i64 (k1), .bool (false), .bool b1, .slice A1 l1.length c1, .int .i64 x1] 52)).alloc (.cells #[.int .i64 (k2), .bool (s2), .bool b2, .slice A2 l2.length c2, .int .i64 x2] 52)).alloc (.cells #[.int .i64 0, .bool false, .bool false, .slice none 0 0, .int .i64 0] 52)) := by go_grown
  have PB_0 := Blk.cell PB 0 rfl
  have PB_1 := Blk.cell PB 1 rfl
  have PB_2 := Blk.cell PB 2 rfl
  have PB_3 := Blk.cell PB 3 rfl
  have PB_4 := Blk.cell PB 4 rfl
  have PB_f0 := Blk.free PB 0
  have PB_f1 := Blk.free PB 1
  have PB_f2 := Blk.free PB 2
  have PB_f3 := Blk.free PB 3
  have PB_f4 := Blk.free PB 4
  have QB_0 := Blk.cell QB 0 rfl
  have QB_1 := Blk.cell QB 1 rfl
  have QB_2 := Blk.cell QB 2 rfl
  have QB_3 := Blk.cell QB 3 rfl
  have QB_4 := Blk.cell QB 4 rfl
  have QB_f0 := Blk.free QB 0
  have QB_f1 := Blk.free QB 1
  have QB_f2 := Blk.free QB 2
  have QB_f3 := Blk.free QB 3
  have QB_f4 := Blk.free QB 4
  have RB_0 := Blk.cell RB 0 rfl
  have RB_1 := Blk.cell RB 1 rfl
  have RB_2 := Blk.cell RB 2 rfl
  have RB_3 := Blk.cell RB 3 rfl
  have RB_4 := Blk.cell RB 4 rfl
  have RB_f0 := Blk.free RB 0
  have RB_f1 := Blk.free RB 1
  have RB_f2 := Blk.free RB 2
  have RB_f3 := Blk.free RB 3
  have RB_f4 := Blk.free RB 4
  have bh := bw
  have h1w := h1
  have h2w := h2
  replace h1 := h1.on bw
  replace h2 := h2.on bw
  have hl := (hM.on bw hM.lt).look rx ry
  rw [ht] at hl
  unfold kV at hl
  go_enter Tryz.func67, Tryz.ntmps67
  go_wp2_with fail
  refine bodyPost_ret (v := nuV 1 false false none 0 0 0) (by simp [results, Tryz.results67, go_sem]) rfl ?_
  have e : nuC f r ⟨k1, false, d1⟩ ⟨k2, s2, d2⟩ = ⟨1, false, zeroN⟩ := by unfold nuC; simp [ht]
  rw [e]
  exact ⟨false, [], none, 0, 0, rfl, Dn.zero, lv_nil _, by go_grown⟩

set_option maxRecDepth 100000 in
set_option maxHeartbeats 4000000 in
theorem comb_5tt (hM : Mp w B N f) (rx : rng k1) (ry : rng k2) (hd1 : Dn b1 l1 x1 d1) (h1 : Lv w A1 l1.length c1 l1) (hd2 : Dn b2 l2 x2 d2) (h2 : Lv w A2 l2.length c2 l2) (hs1 : s1 = true) (hs2 : s2 = true) (ht : f k1 k2 = 5) :
    Calls Tryz.prog 67 #[nuV k1 s1 b1 A1 l1.length c1 x1, nuV k2 s2 b2 A2 l2.length c2 x2, .map (some B), .func (.func F) #[] #[]] w (NuP (nuC f r ⟨k1, s1, d1⟩ ⟨k2, s2, d2⟩) w) := by
  subst hs1
  subst hs2
  have PB := Blk.new w [.int .i64 (k1), .bool (true), .bool b1, .slice A1 l1.length c1, .int .i64 x1] 52
  have QB := Blk.new (w.alloc (.cells #[.int .i64 (k1), .bool (true), .bool b1, .slice A1 l1.length c1, .int .i64 x1] 52)) [.int .i64 (k2), .bool (true), .bool b2, .slice A2 l2.length c2, .int .i64 x2] 52
  simp only [World.size_alloc] at QB
  replace PB := Blk.alloc PB (.cells #[.int .i64 (k2), .bool (true), .bool b2, .slice A2 l2.length c2, .int .i64 x2] 52)
  have RB := Blk.new ((w.alloc (.cells #[.int .i64 (k1), .bool (true), .bool b1, .slice A1 l1.length c1, .int .i64 x1] 52)).alloc (.cells #[.int .i64 (k2), .bool (true), .bool b2, .slice A2 l2.length c2, .int .i64 x2] 52)) [.int .i64 0, .bool false, .bool false, .slice none 0 0, .int .i64 0] 52
  simp only [World.size_alloc] at RB
  replace PB := Blk.alloc PB (.cells #[.int .i64 0, .bool false, .bool false, .slice none 0 0, .int .i64 0] 52)
  replace QB := Blk.alloc QB (.cells #[.int .i64 0, .bool false, .bool false, .slice none 0 0, .int .i64 0] 52)
  have bw : Below w.heap.size w (((w.alloc (.cells #[.int .i64 (k1), .bool (true), .bool b1, .slice A1 l1.length c1, .int .i64 x1] 52)).alloc (.cells #[.int .i64 (k2), .bool (true), .bool b2, .slice A2 l2.length c2, .int .i64 x2] 52)).alloc (.cells #[.int .i64 0, .bool false, .bool false, .slice none 0 0, .int .i64 0] 52)) := by go_grown
  have PB_0 := Blk.cell PB 0 rfl
  have PB_1 := Blk.cell PB 1 rfl
  have PB_2 := Blk.cell PB 2 rfl
  have PB_3 := Blk.cell PB 3 rfl
  have PB_4 := Blk.cell PB 4 rfl
  have PB_f0 := Blk.free PB 0
  have PB_f1 := Blk.free PB 1
  have PB_f2 := Blk.free PB 2
  have PB_f3 := Blk.free PB 3
  have PB_f4 := Blk.free PB 4
  have QB_0 := Blk.cell QB 0 rfl
  have QB_1 := Blk.cell QB 1 rfl
  have QB_2 := Blk.cell QB 2 rfl
  have QB_3 := Blk.cell QB 3 rfl
  have QB_4 := Blk.cell QB 4 rfl
  have QB_f0 := Blk.free QB 0
  have QB_f1 := Blk.free QB 1
  have QB_f2 := Blk.free QB 2
  have QB_f3 := Blk.free QB 3
  have QB_f4 := Blk.free QB 4
  have RB_0 := Blk.cell RB 0 rfl
  have RB_1 := Blk.cell RB 1 rfl
  have RB_2 := Blk.cell RB 2 rfl
  have RB_3 := Blk.cell RB 3 rfl
  have RB_4 := Blk.cell RB 4 rfl
  have RB_f0 := Blk.free RB 0
  have RB_f1 := Blk.free RB 1
  have RB_f2 := Blk.free RB 2
  have RB_f3 := Blk.free RB 3
  have RB_f4 := Blk.free RB 4
  have bh := bw
  have h1w := h1
  have h2w := h2
  replace h1 := h1.on bw
  replace h2 := h2.on bw
  have hl := (hM.on bw hM.lt).look rx ry
  rw [ht] at hl
  unfold kV at hl
  go_enter Tryz.func67, Tryz.ntmps67
  go_wp2_with fail
  refine bodyPost_ret (v := nuV k1 true b1 A1 l1.length c1 x1) (by simp [results, Tryz.results67, go_sem]) rfl ?_
  have e : nuC f r ⟨k1, true, d1⟩ ⟨k2, true, d2⟩ = ⟨k1, true, d1⟩ := by unfold nuC; simp [ht]
  rw [e]
  exact ⟨b1, l1, A1, c1, x1, rfl, hd1, ((h1w.alloc _).alloc _).alloc _, by go_grown⟩

set_option maxRecDepth 100000 in
set_option maxHeartbeats 4000000 in
theorem comb_5ff (hM : Mp w B N f) (rx : rng k1) (ry : rng k2) (hd1 : Dn b1 l1 x1 d1) (h1 : Lv w A1 l1.length c1 l1) (hd2 : Dn b2 l2 x2 d2) (h2 : Lv w A2 l2.length c2 l2) (hs1 : s1 = false) (hs2 : s2 = false) (ht : f k1 k2 = 5) :
    Calls Tryz.prog 67 #[nuV k1 s1 b1 A1 l1.length c1 x1, nuV k2 s2 b2 A2 l2.length c2 x2, .map (some B), .func (.func F) #[] #[]] w (NuP (nuC f r ⟨k1, s1, d1⟩ ⟨k2, s2, d2⟩) w) := by
  subst hs1
  subst hs2
  have PB := Blk.new w [.int .i64 (k1), .bool (false), .bool b1, .slice A1 l1.length c1, .int .i64 x1] 52
  have QB := Blk.new (w.alloc (.cells #[.int .i64 (k1), .bool (false), .bool b1, .slice A1 l1.length c1, .int .i64 x1] 52)) [.int .i64 (k2), .bool (false), .bool b2, .slice A2 l2.length c2, .int .i64 x2] 52
  simp only [World.size_alloc] at QB
  replace PB := Blk.alloc PB (.cells #[.int .i64 (k2), .bool (false), .bool b2, .slice A2 l2.length c2, .int .i64 x2] 52)
  have RB := Blk.new ((w.alloc (.cells #[.int .i64 (k1), .bool (false), .bool b1, .slice A1 l1.length c1, .int .i64 x1] 52)).alloc (.cells #[.int .i64 (k2), .bool (false), .bool b2, .slice A2 l2.length c2, .int .i64 x2] 52)) [.int .i64 0, .bool false, .bool false, .slice none 0 0, .int .i64 0] 52
  simp only [World.size_alloc] at RB
  replace PB := Blk.alloc PB (.cells #[.int .i64 0, .bool false, .bool false, .slice none 0 0, .int .i64 0] 52)
  replace QB := Blk.alloc QB (.cells #[.int .i64 0, .bool false, .bool false, .slice none 0 0, .int .i64 0] 52)
  have bw : Below w.heap.size w (((w.alloc (.cells #[.int .i64 (k1), .bool (false), .bool b1, .slice A1 l1.length c1, .int .i64 x1] 52)).alloc (.cells #[.int .i64 (k2), .bool (false), .bool b2, .slice A2 l2.length c2, .int .i64 x2] 52)).alloc (.cells #[.int .i64 0, .bool false, .bool false, .slice none 0 0, .int .i64 0] 52)) := by go_grown
  have PB_0 := Blk.cell PB 0 rfl
  have PB_1 := Blk.cell PB 1 rfl
  have PB_2 := Blk.cell PB 2 rfl
  have PB_3 := Blk.cell PB 3 rfl
  have PB_4 := Blk.cell PB 4 rfl
  have PB_f0 := Blk.free PB 0
  have PB_f1 := Blk.free PB 1
  have PB_f2 := Blk.free PB 2
  have PB_f3 := Blk.free PB 3
  have PB_f4 := Blk.free PB 4
  have QB_0 := Blk.cell QB 0 rfl
  have QB_1 := Blk.cell QB 1 rfl
  have QB_2 := Blk.cell QB 2 rfl
  have QB_3 := Blk.cell QB 3 rfl
  have QB_4 := Blk.cell QB 4 rfl
  have QB_f0 := Blk.free QB 0
  have QB_f1 := Blk.free QB 1
  have QB_f2 := Blk.free QB 2
  have QB_f3 := Blk.free QB 3
  have QB_f4 := Blk.free QB 4
  have RB_0 := Blk.cell RB 0 rfl
  have RB_1 := Blk.cell RB 1 rfl
  have RB_2 := Blk.cell RB 2 rfl
  have RB_3 := Blk.cell RB 3 rfl
  have RB_4 := Blk.cell RB 4 rfl
  have RB_f0 := Blk.free RB 0
  have RB_f1 := Blk.free RB 1
  have RB_f2 := Blk.free RB 2
  have RB_f3 := Blk.free RB 3
  have RB_f4 := Blk.free RB 4
  have bh := bw
  have h1w := h1
  have h2w := h2
  replace h1 := h1.on bw
  replace h2 := h2.on bw
  have hl := (hM.on bw hM.lt).look rx ry
  rw [ht] at hl
  unfold kV at hl
  go_enter Tryz.func67, Tryz.ntmps67
  go_wp2_with fail
  refine bodyPost_ret (v := nuV k1 false b1 A1 l1.length c1 x1) (by simp [results, Tryz.results67, go_sem]) rfl ?_
  have e : nuC f r ⟨k1, false, d1⟩ ⟨k2, false, d2⟩ = ⟨k1, false, d1⟩ := by unfold nuC; simp [ht]
  rw [e]
  exact ⟨b1, l1, A1, c1, x1, rfl, hd1, ((h1w.alloc _).alloc _).alloc _, by go_grown⟩

set_option maxRecDepth 100000 in
set_option maxHeartbeats 4000000 in
theorem comb_5tf (hM : Mp w B N f) (rx : rng k1) (ry : rng k2) (hd1 : Dn b1 l1 x1 d1) (h1 : Lv w A1 l1.length c1 l1) (hd2 : Dn b2 l2 x2 d2) (h2 : Lv w A2 l2.length c2 l2) (hs1 : s1 = true) (hs2 : s2 = false) (ht : f k1 k2 = 5) :
    Calls Tryz.prog 67 #[nuV k1 s1 b1 A1 l1.length c1 x1, nuV k2 s2 b2 A2 l2.length c2 x2, .map (some B), .func (.func F) #[] #[]] w (NuP (nuC f r ⟨k1, s1, d1⟩ ⟨k2, s2, d2⟩) w) := by
  subst hs1
  subst hs2
  have PB := Blk.new w [.int .i64 (k1), .bool (true), .bool b1, .slice A1 l1.length c1, .int .i64 x1] 52
  have QB := Blk.new (w.alloc (.cells #[.int .i64 (k1), .bool (true), .bool b1, .slice A1 l1.length c1, .int .i64 x1] 52)) [.int .i64 (k2), .bool (false), .bool b2, .slice A2 l2.length c2, .int .i64 x2] 52
  simp only [World.size_alloc] at QB
  replace PB := Blk.alloc PB (.cells #[.int .i64 (k2), .bool (false), .bool b2, .slice A2 l2.length c2, .int .i64 x2] 52)
  have RB := Blk.new ((w.alloc (.cells #[.int .i64 (k1), .bool (true), .bool b1, .slice A1 l1.length c1, .int .i64 x1] 52)).alloc (.cells #[.int .i64 (k2), .bool (false), .bool b2, .slice A2 l2.length c2, .int .i64 x2] 52)) [.int .i64 0, .bool false, .bool false, .slice none 0 0, .int .i64 0] 52
  simp only [World.size_alloc] at RB
  replace PB := Blk.alloc PB (.cells #[.int .i64 0, .bool false, .bool false, .slice none 0 0, .int .i64 0] 52)
  replace QB := Blk.alloc QB (.cells #[.int .i64 0, .bool false, .bool false, .slice none 0 0, .int .i64 0] 52)
  have bw : Below w.heap.size w (((w.alloc (.cells #[.int .i64 (k1), .bool (true), .bool b1, .slice A1 l1.length c1, .int .i64 x1] 52)).alloc (.cells #[.int .i64 (k2), .bool (false), .bool b2, .slice A2 l2.length c2, .int .i64 x2] 52)).alloc (.cells #[.int .i64 0, .bool false, .bool false, .slice none 0 0, .int .i64 0] 52)) := by go_grown
  have PB_0 := Blk.cell PB 0 rfl
  have PB_1 := Blk.cell PB 1 rfl
  have PB_2 := Blk.cell PB 2 rfl
  have PB_3 := Blk.cell PB 3 rfl
  have PB_4 := Blk.cell PB 4 rfl
  have PB_f0 := Blk.free PB 0
  have PB_f1 := Blk.free PB 1
  have PB_f2 := Blk.free PB 2
  have PB_f3 := Blk.free PB 3
  have PB_f4 := Blk.free PB 4
  have QB_0 := Blk.cell QB 0 rfl
  have QB_1 := Blk.cell QB 1 rfl
  have QB_2 := Blk.cell QB 2 rfl
  have QB_3 := Blk.cell QB 3 rfl
  have QB_4 := Blk.cell QB 4 rfl
  have QB_f0 := Blk.free QB 0
  have QB_f1 := Blk.free QB 1
  have QB_f2 := Blk.free QB 2
  have QB_f3 := Blk.free QB 3
  have QB_f4 := Blk.free QB 4
  have RB_0 := Blk.cell RB 0 rfl
  have RB_1 := Blk.cell RB 1 rfl
  have RB_2 := Blk.cell RB 2 rfl
  have RB_3 := Blk.cell RB 3 rfl
  have RB_4 := Blk.cell RB 4 rfl
  have RB_f0 := Blk.free RB 0
  have RB_f1 := Blk.free RB 1
  have RB_f2 := Blk.free RB 2
  have RB_f3 := Blk.free RB 3
  have RB_f4 := Blk.free RB 4
  have bh := bw
  have h1w := h1
  have h2w := h2
  replace h1 := h1.on bw
  replace h2 := h2.on bw
  have hl := (hM.on bw hM.lt).look rx ry
  rw [ht] at hl
  unfold kV at hl
  go_enter Tryz.func67, Tryz.ntmps67
  go_wp2_with fail
  refine bodyPost_ret (v := nuV 5 false false none 0 0 0) (by simp [results, Tryz.results67, go_sem]) rfl ?_
  have e : nuC f r ⟨k1, true, d1⟩ ⟨k2, false, d2⟩ = ⟨5, false, zeroN⟩ := by unfold nuC; simp [ht]
  rw [e]
  exact ⟨false, [], none, 0, 0, rfl, Dn.zero, lv_nil _, by go_grown⟩

set_option maxRecDepth 100000 in
set_option maxHeartbeats 4000000 in
theorem comb_5ft (hM : Mp w B N f) (rx : rng k1) (ry : rng k2) (hd1 : Dn b1 l1 x1 d1) (h1 : Lv w A1 l1.length c1 l1) (hd2 : Dn b2 l2 x2 d2) (h2 : Lv w A2 l2.length c2 l2) (hs1 : s1 = false) (hs2 : s2 = true) (ht : f k1 k2 = 5) :
    Calls Tryz.prog 67 #[nuV k1 s1 b1 A1 l1.length c1 x1, nuV k2 s2 b2 A2 l2.length c2 x2, .map (some B), .func (.func F) #[] #[]] w (NuP (nuC f r ⟨k1, s1, d1⟩ ⟨k2, s2, d2⟩) w) := by
  subst hs1
  subst hs2
  have PB := Blk.new w [.int .i64 (k1), .bool (false), .bool b1, .slice A1 l1.length c1, .int .i64 x1] 52
  have QB := Blk.new (w.alloc (.cells #[.int .i64 (k1), .bool (false), .bool b1, .slice A1 l1.length c1, .int .i64 x1] 52)) [.int .i64 (k2), .bool (true), .bool b2, .slice A2 l2.length c2, .int .i64 x2] 52
  simp only [World.size_alloc] at QB
  replace PB := Blk.alloc PB (.cells #[.int .i64 (k2), .bool (true), .bool b2, .slice A2 l2.length c2, .int .i64 x2] 52)
  have RB := Blk.new ((w.alloc (.cells #[.int .i64 (k1), .bool (false), .bool b1, .slice A1 l1.length c1, .int .i64 x1] 52)).alloc (.cells #[.int .i64 (k2), .bool (true), .bool b2, .slice A2 l2.length c2, .int .i64 x2] 52)) [.int .i64 0, .bool false, .bool false, .slice none 0 0, .int .i64 0] 52
  simp only [World.size_alloc] at RB
  replace PB := Blk.alloc PB (.cells #[.int .i64 0, .bool false, .bool false, .slice none 0 0, .int .i64 0] 52)
  replace QB := Blk.alloc QB (.cells #[.int .i64 0, .bool false, .bool false, .slice none 0 0, .int .i64 0] 52)
  have bw : Below w.heap.size w (((w.alloc (.cells #[.int .i64 (k1), .bool (false), .bool b1, .slice A1 l1.length c1, .int .i64 x1] 52)).alloc (.cells #[.int .i64 (k2), .bool (true), .bool b2, .slice A2 l2.length c2, .int .i64 x2] 52)).alloc (.cells #[.int .i64 0, .bool false, .bool false, .slice none 0 0, .int .i64 0] 52)) := by go_grown
  have PB_0 := Blk.cell PB 0 rfl
  have PB_1 := Blk.cell PB 1 rfl
  have PB_2 := Blk.cell PB 2 rfl
  have PB_3 := Blk.cell PB 3 rfl
  have PB_4 := Blk.cell PB 4 rfl
  have PB_f0 := Blk.free PB 0
  have PB_f1 := Blk.free PB 1
  have PB_f2 := Blk.free PB 2
  have PB_f3 := Blk.free PB 3
  have PB_f4 := Blk.free PB 4
  have QB_0 := Blk.cell QB 0 rfl
  have QB_1 := Blk.cell QB 1 rfl
  have QB_2 := Blk.cell QB 2 rfl
  have QB_3 := Blk.cell QB 3 rfl
  have QB_4 := Blk.cell QB 4 rfl
  have QB_f0 := Blk.free QB 0
  have QB_f1 := Blk.free QB 1
  have QB_f2 := Blk.free QB 2
  have QB_f3 := Blk.free QB 3
  have QB_f4 := Blk.free QB 4
  have RB_0 := Blk.cell RB 0 rfl
  have RB_1 := Blk.cell RB 1 rfl
  have RB_2 := Blk.cell RB 2 rfl
  have RB_3 := Blk.cell RB 3 rfl
  have RB_4 := Blk.cell RB 4 rfl
  have RB_f0 := Blk.free RB 0
  have RB_f1 := Blk.free RB 1
  have RB_f2 := Blk.free RB 2
  have RB_f3 := Blk.free RB 3
  have RB_f4 := Blk.free RB 4
  have bh := bw
  have h1w := h1
  have h2w := h2
  replace h1 := h1.on bw
  replace h2 := h2.on bw
  have hl := (hM.on bw hM.lt).look rx ry
  rw [ht] at hl
  unfold kV at hl
  go_enter Tryz.func67, Tryz.ntmps67
  go_wp2_with fail
  refine bodyPost_ret (v := nuV 5 false false none 0 0 0) (by simp [results, Tryz.results67, go_sem]) rfl ?_
  have e : nuC f r ⟨k1, false, d1⟩ ⟨k2, true, d2⟩ = ⟨5, false, zeroN⟩ := by unfold nuC; simp [ht]
  rw [e]
  exact ⟨false, [], none, 0, 0, rfl, Dn.zero, lv_nil _, by go_grown⟩

set_option maxRecDepth 100000 in
set_option maxHeartbeats 4000000 in
theorem comb_6 (hM : Mp w B N f) (rx : rng k1) (ry : rng k2) (hd1 : Dn b1 l1 x1 d1) (h1 : Lv w A1 l1.length c1 l1) (hd2 : Dn b2 l2 x2 d2) (h2 : Lv w A2 l2.length c2 l2) (ht : f k1 k2 = 6) :
    Calls Tryz.prog 67 #[nuV k1 s1 b1 A1 l1.length c1 x1, nuV k2 s2 b2 A2 l2.length c2 x2, .map (some B), .func (.func F) #[] #[]] w (NuP (nuC f r ⟨k1, s1, d1⟩ ⟨k2, s2, d2⟩) w) := by
  have PB := Blk.new w [.int .i64 (k1), .bool (s1), .bool b1, .slice A1 l1.length c1, .int .i64 x1] 52
  have QB := Blk.new (w.alloc (.cells #[.int .i64 (k1), .bool (s1), .bool b1, .slice A1 l1.length c1, .int .i64 x1] 52)) [.int .i64 (k2), .bool (s2), .bool b2, .slice A2 l2.length c2, .int .i64 x2] 52
  simp only [World.size_alloc] at QB
  replace PB := Blk.alloc PB (.cells #[.int .i64 (k2), .bool (s2), .bool b2, .slice A2 l2.length c2, .int .i64 x2] 52)
  have RB := Blk.new ((w.alloc (.cells #[.int .i64 (k1), .bool (s1), .bool b1, .slice A1 l1.length c1, .int .i64 x1] 52)).alloc (.cells #[.int .i64 (k2), .bool (s2), .bool b2, .slice A2 l2.length c2, .int .i64 x2] 52)) [.int .i64 0, .bool false, .bool false, .slice none 0 0, .int .i64 0] 52
  simp only [World.size_alloc] at RB
  replace PB := Blk.alloc PB (.cells #[.int .i64 0, .bool false, .bool false, .slice none 0 0, .int .i64 0] 52)
  replace QB := Blk.alloc QB (.cells #[.int .i64 0, .bool false, .bool false, .slice none 0 0, .int .i64 0] 52)
  have bw : Below w.heap.size w (((w.alloc (.cells #[.int .i64 (k1), .bool (s1), .bool b1, .slice A1 l1.length c1, .int .i64 x1] 52)).alloc (.cells #[.int .i64 (k2), .bool (s2), .bool b2, .slice A2 l2.length c2, .int .i64 x2] 52)).alloc (.cells #[.int .i64 0, .bool false, .bool false, .slice none 0 0, .int .i64 0] 52)) := by go_grown
  have PB_0 := Blk.cell PB 0 rfl
  have PB_1 := Blk.cell PB 1 rfl
  have PB_2 := Blk.cell PB 2 rfl
  have PB_3 := Blk.cell PB 3 rfl
  have PB_4 := Blk.cell PB 4 rfl
  have PB_f0 := Blk.free PB 0
  have PB_f1 := Blk.free PB 1
  have PB_f2 := Blk.free PB 2
  have PB_f3 := Blk.free PB 3
  have PB_f4 := Blk.free PB 4
  have QB_0 := Blk.cell QB 0 rfl
  have QB_1 := Blk.cell QB 1 rfl
  have QB_2 := Blk.cell QB 2 rfl
  have QB_3 := Blk.cell QB 3 rfl
  have QB_4 := Blk.cell QB 4 rfl
  have QB_f0 := Blk.free QB 0
  have QB_f1 := Blk.free QB 1
  have QB_f2 := Blk.free QB 2
  have QB_f3 := Blk.free QB 3
  have QB_f4 := Blk.free QB 4
  have RB_0 := Blk.cell RB 0 rfl
  have RB_1 := Blk.cell RB 1 rfl
  have RB_2 := Blk.cell RB 2 rfl
  have RB_3 := Blk.cell RB 3 rfl
  have RB_4 := Blk.cell RB 4 rfl
  have RB_f0 := Blk.free RB 0
  have RB_f1 := Blk.free RB 1
  have RB_f2 := Blk.free RB 2
  have RB_f3 := Blk.free RB 3
  have RB_f4 := Blk.free RB 4
  have bh := bw
  have h1w := h1
  have h2w := h2
  replace h1 := h1.on bw
  replace h2 := h2.on bw
  have hl := (hM.on bw hM.lt).look rx ry
  rw [ht] at hl
  unfold kV at hl
  go_enter Tryz.func67, Tryz.ntmps67
  go_wp2_with fail
  refine bodyPost_ret (v := nuV 1 (!s1 == s2) false none 0 0 0) (by simp [results, Tryz.results67, go_sem]) rfl ?_
  have e : nuC f r ⟨k1, s1, d1⟩ ⟨k2, s2, d2⟩ = ⟨1, !s1 == s2, zeroN⟩ := by unfold nuC; cases s1 <;> cases s2 <;> simp [ht]
  rw [e]
  exact ⟨false, [], none, 0, 0, rfl, Dn.zero, lv_nil _, by go_grown⟩

set_option maxRecDepth 100000 in
set_option maxHeartbeats 4000000 in
theorem comb_7 (hM : Mp w B N f) (rx : rng k1) (ry : rng k2) (hd1 : Dn b1 l1 x1 d1) (h1 : Lv w A1 l1.length c1 l1) (hd2 : Dn b2 l2 x2 d2) (h2 : Lv w A2 l2.length c2 l2) (ht : f k1 k2 = 7) :
    Calls Tryz.prog 67 #[nuV k1 s1 b1 A1 l1.length c1 x1, nuV k2 s2 b2 A2 l2.length c2 x2, .map (some B), .func (.func F) #[] #[]] w (NuP (nuC f r ⟨k1, s1, d1⟩ ⟨k2, s2, d2⟩) w) := by
  have PB := Blk.new w [.int .i64 (k1), .bool (s1), .bool b1, .slice A1 l1.length c1, .int .i64 x1] 52
  have QB := Blk.new (w.alloc (.cells #[.int .i64 (k1), .bool (s1), .bool b1, .slice A1 l1.length c1, .int .i64 x1] 52)) [.int .i64 (k2), .bool (s2), .bool b2, .slice A2 l2.length c2, .int .i64 x2] 52
  simp only [World.size_alloc] at QB
  replace PB := Blk.alloc PB (.cells #[.int .i64 (k2), .bool (s2), .bool b2, .slice A2 l2.length c2, .int .i64 x2] 52)
  have RB := Blk.new ((w.alloc (.cells #[.int .i64 (k1), .bool (s1), .bool b1, .slice A1 l1.length c1, .int .i64 x1] 52)).alloc (.cells #[.int .i64 (k2), .bool (s2), .bool b2, .slice A2 l2.length c2, .int .i64 x2] 52)) [.int .i64 0, .bool false, .bool false, .slice none 0 0, .int .i64 0] 52
  simp only [World.size_alloc] at RB
  replace PB := Blk.alloc PB (.cells #[.int .i64 0, .bool false, .bool false, .slice none 0 0, .int .i64 0] 52)
  replace QB := Blk.alloc QB (.cells #[.int .i64 0, .bool false, .bool false, .slice none 0 0, .int .i64 0] 52)
  have bw : Below w.heap.size w (((w.alloc (.cells #[.int .i64 (k1), .bool (s1), .bool b1, .slice A1 l1.length c1, .int .i64 x1] 52)).alloc (.cells #[.int .i64 (k2), .bool (s2), .bool b2, .slice A2 l2.length c2, .int .i64 x2] 52)).alloc (.cells #[.int .i64 0, .bool false, .bool false, .slice none 0 0, .int .i64 0] 52)) := by go_grown
  have PB_0 := Blk.cell PB 0 rfl
  have PB_1 := Blk.cell PB 1 rfl
  have PB_2 := Blk.cell PB 2 rfl
  have PB_3 := Blk.cell PB 3 rfl
  have PB_4 := Blk.cell PB 4 rfl
  have PB_f0 := Blk.free PB 0
  have PB_f1 := Blk.free PB 1
  have PB_f2 := Blk.free PB 2
  have PB_f3 := Blk.free PB 3
  have PB_f4 := Blk.free PB 4
  have QB_0 := Blk.cell QB 0 rfl
  have QB_1 := Blk.cell QB 1 rfl
  have QB_2 := Blk.cell QB 2 rfl
  have QB_3 := Blk.cell QB 3 rfl
  have QB_4 := Blk.cell QB 4 rfl
  have QB_f0 := Blk.free QB 0
  have QB_f1 := Blk.free QB 1
  have QB_f2 := Blk.free QB 2
  have QB_f3 := Blk.free QB 3
  have QB_f4 := Blk.free QB 4
  have RB_0 := Blk.cell RB 0 rfl
  have RB_1 := Blk.cell RB 1 rfl
  have RB_2 := Blk.cell RB 2 rfl
  have RB_3 := Blk.cell RB 3 rfl
  have RB_4 := Blk.cell RB 4 rfl
  have RB_f0 := Blk.free RB 0
  have RB_f1 := Blk.free RB 1
  have RB_f2 := Blk.free RB 2
  have RB_f3 := Blk.free RB 3
  have RB_f4 := Blk.free RB 4
  have bh := bw
  have h1w := h1
  have h2w := h2
  replace h1 := h1.on bw
  replace h2 := h2.on bw
  have hl := (hM.on bw hM.lt).look rx ry
  rw [ht] at hl
  unfold kV at hl
  go_enter Tryz.func67, Tryz.ntmps67
  go_wp2_with fail
  refine bodyPost_ret (v := nuV 4 (!s1 == s2) false none 0 0 0) (by simp [results, Tryz.results67, go_sem]) rfl ?_
  have e : nuC f r ⟨k1, s1, d1⟩ ⟨k2, s2, d2⟩ = ⟨4, !s1 == s2, zeroN⟩ := by unfold nuC; cases s1 <;> cases s2 <;> simp [ht]
  rw [e]
  exact ⟨false, [], none, 0, 0, rfl, Dn.zero, lv_nil _, by go_grown⟩


theorem comb_any_s (hM : Mp w B N f) (hf : 0 ≤ f k1 k2 ∧ f k1 k2 ≤ 7) (rx : rng k1) (ry : rng k2) (hd1 : Dn b1 l1 x1 d1) (h1 : Lv w A1 l1.length c1 l1) (hd2 : Dn b2 l2 x2 d2) (h2 : Lv w A2 l2.length c2 l2)
    (HC : f k1 k2 = 0 → Hid (∀ W, Below w.heap.size w W → Lv W A1 l1.length c1 l1 → Lv W A2 l2.length c2 l2 → Calls Tryz.prog 69 #[dyV b1 A1 l1.length c1 x1, dyV b2 A2 l2.length c2 x2] W (NuP (r d1 d2) W))) :
    Calls Tryz.prog 67 #[nuV k1 s1 b1 A1 l1.length c1 x1, nuV k2 s2 b2 A2 l2.length c2 x2, .map (some B), .func (.func 69) #[] #[]] w (NuP (nuC f r ⟨k1, s1, d1⟩ ⟨k2, s2, d2⟩) w) := by
  rcases (show f k1 k2 = 0 ∨ f k1 k2 = 1 ∨ f k1 k2 = 2 ∨ f k1 k2 = 3 ∨ f k1 k2 = 4 ∨ f k1 k2 = 5 ∨ f k1 k2 = 6 ∨ f k1 k2 = 7 by omega) with h | h | h | h | h | h | h | h
  · exact comb_0s hM rx ry hd1 h1 hd2 h2 (HC h) h
  · exact comb_1 hM rx ry hd1 h1 hd2 h2 h
  · exact comb_2 hM rx ry hd1 h1 hd2 h2 h
  · exact comb_3 hM rx ry hd1 h1 hd2 h2 h
  · by_cases hs : s1 = true
    · exact comb_4t hM rx ry hd1 h1 hd2 h2 hs h
    · exact comb_4f hM rx ry hd1 h1 hd2 h2 (by simpa using hs) h
  · by_cases hs : s1 = true
    · by_cases ht : s2 = true
      · exact comb_5tt hM rx ry hd1 h1 hd2 h2 hs ht h
      · exact comb_5tf hM rx ry hd1 h1 hd2 h2 hs (by simpa using ht) h
    · by_cases ht : s2 = true
      · exact comb_5ft hM rx ry hd1 h1 hd2 h2 (by simpa using hs) ht h
      · exact comb_5ff hM rx ry hd1 h1 hd2 h2 (by simpa using hs) (by simpa using ht) h
  · exact comb_6 hM rx ry hd1 h1 hd2 h2 h
  · exact comb_7 hM rx ry hd1 h1 hd2 h2 h

theorem comb_any_p (hM : Mp w B N f) (hf : 0 ≤ f k1 k2 ∧ f k1 k2 ≤ 7) (rx : rng k1) (ry : rng k2) (hd1 : Dn b1 l1 x1 d1) (h1 : Lv w A1 l1.length c1 l1) (hd2 : Dn b2 l2 x2 d2) (h2 : Lv w A2 l2.length c2 l2)
    (HC : f k1 k2 = 0 → Hid (∀ W, Below w.heap.size w W → Lv W A1 l1.length c1 l1 → Lv W A2 l2.length c2 l2 → Calls Tryz.prog 77 #[dyV b1 A1 l1.length c1 x1, dyV b2 A2 l2.length c2 x2] W (NuP (r d1 d2) W))) :
    Calls Tryz.prog 67 #[nuV k1 s1 b1 A1 l1.length c1 x1, nuV k2 s2 b2 A2 l2.length c2 x2, .map (some B), .func (.func 77) #[] #[]] w (NuP (nuC f r ⟨k1, s1, d1⟩ ⟨k2, s2, d2⟩) w) := by
  rcases (show f k1 k2 = 0 ∨ f k1 k2 = 1 ∨ f k1 k2 = 2 ∨ f k1 k2 = 3 ∨ f k1 k2 = 4 ∨ f k1 k2 = 5 ∨ f k1 k2 = 6 ∨ f k1 k2 = 7 by omega) with h | h | h | h | h | h | h | h
  · exact comb_0p hM rx ry hd1 h1 hd2 h2 (HC h) h
  · exact comb_1 hM rx ry hd1 h1 hd2 h2 h
  · exact comb_2 hM rx ry hd1 h1 hd2 h2 h
  · exact comb_3 hM rx ry hd1 h1 hd2 h2 h
  · by_cases hs : s1 = true
    · exact comb_4t hM rx ry hd1 h1 hd2 h2 hs h
    · exact comb_4f hM rx ry hd1 h1 hd2 h2 (by simpa using hs) h
  · by_cases hs : s1 = true
    · by_cases ht : s2 = true
      · exact comb_5tt hM rx ry hd1 h1 hd2 h2 hs ht h
      · exact comb_5tf hM rx ry hd1 h1 hd2 h2 hs (by simpa using ht) h
    · by_cases ht : s2 = true
      · exact comb_5ft hM rx ry hd1 h1 hd2 h2 (by simpa using hs) ht h
      · exact comb_5ff hM rx ry hd1 h1 hd2 h2 (by simpa using hs) (by simpa using ht) h
  · exact comb_6 hM rx ry hd1 h1 hd2 h2 h
  · exact comb_7 hM rx ry hd1 h1 hd2 h2 h

theorem comb_any_q (hM : Mp w B N f) (hf : 0 ≤ f k1 k2 ∧ f k1 k2 ≤ 7) (rx : rng k1) (ry : rng k2) (hd1 : Dn b1 l1 x1 d1) (h1 : Lv w A1 l1.length c1 l1) (hd2 : Dn b2 l2 x2 d2) (h2 : Lv w A2 l2.length c2 l2)
    (HC : f k1 k2 = 0 → Hid (∀ W, Below w.heap.size w W → Lv W A1 l1.length c1 l1 → Lv W A2 l2.length c2 l2 → Calls Tryz.prog 80 #[dyV b1 A1 l1.length c1 x1, dyV b2 A2 l2.length c2 x2] W (NuP (r d1 d2) W))) :
    Calls Tryz.prog 67 #[nuV k1 s1 b1 A1 l1.length c1 x1, nuV k2 s2 b2 A2 l2.length c2 x2, .map (some B), .func (.func 80) #[] #[]] w (NuP (nuC f r ⟨k1, s1, d1⟩ ⟨k2, s2, d2⟩) w) := by
  rcases (show f k1 k2 = 0 ∨ f k1 k2 = 1 ∨ f k1 k2 = 2 ∨ f k1 k2 = 3 ∨ f k1 k2 = 4 ∨ f k1 k2 = 5 ∨ f k1 k2 = 6 ∨ f k1 k2 = 7 by omega) with h | h | h | h | h | h | h | h
  · exact comb_0q hM rx ry hd1 h1 hd2 h2 (HC h) h
  · exact comb_1 hM rx ry hd1 h1 hd2 h2 h
  · exact comb_2 hM rx ry hd1 h1 hd2 h2 h
  · exact comb_3 hM rx ry hd1 h1 hd2 h2 h
  · by_cases hs : s1 = true
    · exact comb_4t hM rx ry hd1 h1 hd2 h2 hs h
    · exact comb_4f hM rx ry hd1 h1 hd2 h2 (by simpa using hs) h
  · by_cases hs : s1 = true
    · by_cases ht : s2 = true
      · exact comb_5tt hM rx ry hd1 h1 hd2 h2 hs ht h
      · exact comb_5tf hM rx ry hd1 h1 hd2 h2 hs (by simpa using ht) h
    · by_cases ht : s2 = true
      · exact comb_5ft hM rx ry hd1 h1 hd2 h2 (by simpa using hs) ht h
      · exact comb_5ff hM rx ry hd1 h1 hd2 h2 (by simpa using hs) (by simpa using ht) h
  · exact comb_6 hM rx ry hd1 h1 hd2 h2 h
  · exact comb_7 hM rx ry hd1 h1 hd2 h2 h
end
end Go.Proofs.YtfjellhbcjnjkaaGreatDoor
