/-
  Layer 3, walks, part eight: a pair brought together. (Written by wip/tools/gen_dyk.py.)
-/
import Derived.Test.YtmfikppnkjhmjaaGreatDoorTDyJ
namespace Go.Proofs.YtmfikppnkjhmjaaGreatDoor
open Go.RowKit Go.Sort
set_option linter.unusedVariables false
set_option linter.unusedSimpArgs false

section
variable {b : Bool} {A : Option Addr} {n c : Nat} {x : Int} {l : List Int} {w : World}
variable {b2 : Bool} {A2 : Option Addr} {n2 c2 : Nat} {x2 : Int} {l2 : List Int}
set_option maxRecDepth 100000 in
set_option maxHeartbeats 4000000 in
theorem pairOf_any (h : Lv w A n c l) (hn : n ≤ 4096) (h2 : Lv w A2 n2 c2 l2) (hn2 : n2 ≤ 4096) {k k2 : Nat} (hk : IsBits (val 18446744073709551616 l) k) (hk2 : IsBits (val 18446744073709551616 l2) k2) (x0 : -1048576 ≤ x) (x1 : x ≤ 1048576) (y0 : -1048576 ≤ x2) (y1 : x2 ≤ 1048576) (q0 : k ≤ 300000) (q1 : k2 ≤ 300000) (hm : max (x + (k : Int)) (x2 + (k2 : Int)) - min x x2 < 262144) :
    Calls Tryz.prog 64 #[dyV b A n c x, dyV b2 A2 n2 c2 x2] w fun e w' => e = .returned (.agg #[.int .i64 (min x x2), .bool b, .slice A n c, .int .i64 x, .bool b2, .slice A2 n2 c2, .int .i64 x2]) ∧ Below w.heap.size w w' := by
  have PB := Blk.new w [.bool b, .slice A n c, .int .i64 x] 31
  have QB := Blk.new (w.alloc (.cells #[.bool b, .slice A n c, .int .i64 x] 31)) [.bool b2, .slice A2 n2 c2, .int .i64 x2] 31
  simp only [World.size_alloc] at QB
  replace PB := Blk.alloc PB (.cells #[.bool b2, .slice A2 n2 c2, .int .i64 x2] 31)
  have RB := Blk.new ((w.alloc (.cells #[.bool b, .slice A n c, .int .i64 x] 31)).alloc (.cells #[.bool b2, .slice A2 n2 c2, .int .i64 x2] 31)) [.int .i64 0, .bool false, .slice none 0 0, .int .i64 0, .bool false, .slice none 0 0, .int .i64 0] 82
  simp only [World.size_alloc] at RB
  replace PB := Blk.alloc PB (.cells #[.int .i64 0, .bool false, .slice none 0 0, .int .i64 0, .bool false, .slice none 0 0, .int .i64 0] 82)
  replace QB := Blk.alloc QB (.cells #[.int .i64 0, .bool false, .slice none 0 0, .int .i64 0, .bool false, .slice none 0 0, .int .i64 0] 82)
  have bw : Below w.heap.size w (((w.alloc (.cells #[.bool b, .slice A n c, .int .i64 x] 31)).alloc (.cells #[.bool b2, .slice A2 n2 c2, .int .i64 x2] 31)).alloc (.cells #[.int .i64 0, .bool false, .slice none 0 0, .int .i64 0, .bool false, .slice none 0 0, .int .i64 0] 82)) := by go_grown
  have PB_0 := Blk.cell PB 0 rfl
  have PB_1 := Blk.cell PB 1 rfl
  have PB_2 := Blk.cell PB 2 rfl
  have PB_f0 := Blk.free PB 0
  have PB_f1 := Blk.free PB 1
  have PB_f2 := Blk.free PB 2
  have QB_0 := Blk.cell QB 0 rfl
  have QB_1 := Blk.cell QB 1 rfl
  have QB_2 := Blk.cell QB 2 rfl
  have QB_f0 := Blk.free QB 0
  have QB_f1 := Blk.free QB 1
  have QB_f2 := Blk.free QB 2
  have RB_0 := Blk.cell RB 0 rfl
  have RB_1 := Blk.cell RB 1 rfl
  have RB_2 := Blk.cell RB 2 rfl
  have RB_3 := Blk.cell RB 3 rfl
  have RB_4 := Blk.cell RB 4 rfl
  have RB_5 := Blk.cell RB 5 rfl
  have RB_6 := Blk.cell RB 6 rfl
  have RB_f0 := Blk.free RB 0
  have RB_f1 := Blk.free RB 1
  have RB_f2 := Blk.free RB 2
  have RB_f3 := Blk.free RB 3
  have RB_f4 := Blk.free RB 4
  have RB_f5 := Blk.free RB 5
  have RB_f6 := Blk.free RB 6
  have mb : -1048576 ≤ min x x2 ∧ min x x2 ≤ 1048576 ∧ max (x + (k : Int)) (x2 + (k2 : Int)) ≤ 2000000 ∧ -2000000 ≤ max (x + (k : Int)) (x2 + (k2 : Int)) := by omega
  obtain ⟨mb1, mb2, mb3, mb4⟩ := mb
  have hd : decide (262144 ≤ IntKind.i64.wrap (max (x + (k : Int)) (x2 + (k2 : Int)) - min x x2)) = false := by rw [IntWalk.i64_in _ (by omega)]; simp; omega
  go_enter Tryz.func64, Tryz.ntmps64
  go_wp2_with fail
  have cA := fun d os => Calls.regrown_of (d := d) (os := os) (height_any (b := b) (h.on (Below.trans bw ((below_regrown _ d os).mono bw.size))) hn hk x0 x1)
  have cB := fun d os => Calls.regrown_of (d := d) (os := os) (height_any (b := b2) (h2.on (Below.trans bw ((below_regrown _ d os).mono bw.size))) hn2 hk2 y0 y1)
  have PB_r0 := cell_regrown PB_0
  have PB_r1 := cell_regrown PB_1
  have PB_r2 := cell_regrown PB_2
  have QB_r0 := cell_regrown QB_0
  have QB_r1 := cell_regrown QB_1
  have QB_r2 := cell_regrown QB_2
  refine wp_region_quiet_below mixed (by kernel_rfl) ?_
  repeat (quiet_step (first | (with_reducible exact cA _ _) | (with_reducible exact cB _ _)))
  refine wpQuiet_nil ?_
  intro _ hw'
  obtain ⟨⟨dq, osq⟩, hw''⟩ := hw'
  subst hw''
  have hb := below_regrown (((w.alloc (.cells #[.bool b, .slice A n c, .int .i64 x] 31)).alloc (.cells #[.bool b2, .slice A2 n2 c2, .int .i64 x2] 31)).alloc (.cells #[.int .i64 0, .bool false, .slice none 0 0, .int .i64 0, .bool false, .slice none 0 0, .int .i64 0] 82)) dq osq
  clear PB_r0 PB_r1 PB_r2 QB_r0 QB_r1 QB_r2 cA cB
  generalize grow (redrawn (((w.alloc (.cells #[.bool b, .slice A n c, .int .i64 x] 31)).alloc (.cells #[.bool b2, .slice A2 n2 c2, .int .i64 x2] 31)).alloc (.cells #[.int .i64 0, .bool false, .slice none 0 0, .int .i64 0, .bool false, .slice none 0 0, .int .i64 0] 82)) dq) osq = w1 at hb ⊢
  clear PB_0 PB_1 PB_2 PB_f0 PB_f1 PB_f2
  clear QB_0 QB_1 QB_2 QB_f0 QB_f1 QB_f2
  clear RB_0 RB_1 RB_2 RB_3 RB_4 RB_5 RB_6 RB_f0 RB_f1 RB_f2 RB_f3 RB_f4 RB_f5 RB_f6
  replace bw : Below w.heap.size w w1 := dy_end (by go_grown) hb
  replace PB := Blk.on PB hb
  replace QB := Blk.on QB hb
  replace RB := Blk.on RB hb
  have hs := hb.size
  simp only [World.size_alloc] at hs
  clear hb
  have PB_0 := Blk.cell PB 0 rfl
  have PB_1 := Blk.cell PB 1 rfl
  have PB_2 := Blk.cell PB 2 rfl
  have PB_f0 := Blk.free PB 0
  have PB_f1 := Blk.free PB 1
  have PB_f2 := Blk.free PB 2
  have QB_0 := Blk.cell QB 0 rfl
  have QB_1 := Blk.cell QB 1 rfl
  have QB_2 := Blk.cell QB 2 rfl
  have QB_f0 := Blk.free QB 0
  have QB_f1 := Blk.free QB 1
  have QB_f2 := Blk.free QB 2
  have RB_0 := Blk.cell RB 0 rfl
  have RB_1 := Blk.cell RB 1 rfl
  have RB_2 := Blk.cell RB 2 rfl
  have RB_3 := Blk.cell RB 3 rfl
  have RB_4 := Blk.cell RB 4 rfl
  have RB_5 := Blk.cell RB 5 rfl
  have RB_6 := Blk.cell RB 6 rfl
  have RB_f0 := Blk.free RB 0
  have RB_f1 := Blk.free RB 1
  have RB_f2 := Blk.free RB 2
  have RB_f3 := Blk.free RB 3
  have RB_f4 := Blk.free RB 4
  have RB_f5 := Blk.free RB 5
  have RB_f6 := Blk.free RB 6
  go_wp2_with fail
  refine bodyPost_ret (v := (.agg #[.int .i64 (min x x2), .bool b, .slice A n c, .int .i64 x, .bool b2, .slice A2 n2 c2, .int .i64 x2])) (by simp [results, Tryz.results64, go_sem, RB_0, RB_1, RB_2, RB_3, RB_4, RB_5, RB_6]) rfl ?_
  exact ⟨rfl, by go_grown⟩

end
end Go.Proofs.YtmfikppnkjhmjaaGreatDoor
