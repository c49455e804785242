/-
  Layer 3, walks, part seven: two numbers at one place. (Written by wip/tools/gen_dyj.py.)
-/
import Derived.Test.YtmfikppnkjhmjaaGreatDoorTDyI
namespace Go.Proofs.YtmfikppnkjhmjaaGreatDoor
open Go.RowKit
set_option linter.unusedVariables false
set_option linter.unusedSimpArgs false

section
variable {b : Bool} {A : Option Addr} {n c : Nat} {x : Int} {l : List Int} {w : World}
theorem Shl_gen (h : Lv w A n c l) (hn : n ≤ 4096) (j : Nat) (i : Int) (hi : i = (j : Int)) (hv0 : val 18446744073709551616 l ≠ 0) (hv : val 18446744073709551616 l * 2 ^ j < 2 ^ 262144) :
    Calls Tryz.prog 90 #[.slice A n c, .int .i64 i] w (GoodV (val 18446744073709551616 l * 2 ^ j) w) := by
  subst hi
  have := Shl_any A c l w h.2.1 h.2.2 (norm_le h.1 hn) j hv0 hv
  rw [h.1] at this
  exact this.mono fun e w' q => q.goodV (by rw [pow64]; exact hv)
set_option maxRecDepth 100000 in
set_option maxHeartbeats 4000000 in
theorem bring_eq (h : Lv w A n c l) (hn : n ≤ 4096) (nl : Normal l) :
    Calls Tryz.prog 81 #[plV x, dyV b A n c x] w (StepV (val 18446744073709551616 l) w) := by
  have PB := Blk.new w [.int .i64 x] 80
  have QB := Blk.new (w.alloc (.cells #[.int .i64 x] 80)) [.bool b, .slice A n c, .int .i64 x] 31
  simp only [World.size_alloc] at QB
  replace PB := Blk.alloc PB (.cells #[.bool b, .slice A n c, .int .i64 x] 31)
  have SB := Blk.new ((w.alloc (.cells #[.int .i64 x] 80)).alloc (.cells #[.bool b, .slice A n c, .int .i64 x] 31)) [.slice none 0 0, .bool false] 100
  simp only [World.size_alloc] at SB
  replace PB := Blk.alloc PB (.cells #[.slice none 0 0, .bool false] 100)
  replace QB := Blk.alloc QB (.cells #[.slice none 0 0, .bool false] 100)
  have bw : Below w.heap.size w (((w.alloc (.cells #[.int .i64 x] 80)).alloc (.cells #[.bool b, .slice A n c, .int .i64 x] 31)).alloc (.cells #[.slice none 0 0, .bool false] 100)) := by go_grown
  have PB_0 := Blk.cell PB 0 rfl
  have PB_f0 := Blk.free PB 0
  have QB_0 := Blk.cell QB 0 rfl
  have QB_1 := Blk.cell QB 1 rfl
  have QB_2 := Blk.cell QB 2 rfl
  have QB_f0 := Blk.free QB 0
  have QB_f1 := Blk.free QB 1
  have QB_f2 := Blk.free QB 2
  have SB_0 := Blk.cell SB 0 rfl
  have SB_1 := Blk.cell SB 1 rfl
  have SB_f0 := Blk.free SB 0
  have SB_f1 := Blk.free SB 1
  go_enter Tryz.func81, Tryz.ntmps81
  go_wp2_with fail
  refine bodyPost_ret (v := .tuple #[stV A n c false, .int .i64 0]) (by simp [results, Tryz.results81, go_sem]) rfl ?_
  refine ⟨l, A, c, by rw [h.1], nl, rfl, by rw [h.1]; exact hn, ?_, by go_grown⟩
  rw [h.1]
  exact h.on (by go_grown)

set_option maxRecDepth 100000 in
set_option maxHeartbeats 4000000 in
theorem bring_gt (h : Lv w A n c l) (hn : n ≤ 4096) {p : Int} (hp : p < x) (x0 : -1048576 ≤ p) (x1 : x ≤ 1048576) (hv0 : val 18446744073709551616 l ≠ 0) (hv : val 18446744073709551616 l * 2 ^ (x - p).toNat < 2 ^ 262144) :
    Calls Tryz.prog 81 #[plV p, dyV b A n c x] w (StepV (val 18446744073709551616 l * 2 ^ (x - p).toNat) w) := by
  have PB := Blk.new w [.int .i64 p] 80
  have QB := Blk.new (w.alloc (.cells #[.int .i64 p] 80)) [.bool b, .slice A n c, .int .i64 x] 31
  simp only [World.size_alloc] at QB
  replace PB := Blk.alloc PB (.cells #[.bool b, .slice A n c, .int .i64 x] 31)
  have SB := Blk.new ((w.alloc (.cells #[.int .i64 p] 80)).alloc (.cells #[.bool b, .slice A n c, .int .i64 x] 31)) [.slice none 0 0, .bool false] 100
  simp only [World.size_alloc] at SB
  replace PB := Blk.alloc PB (.cells #[.slice none 0 0, .bool false] 100)
  replace QB := Blk.alloc QB (.cells #[.slice none 0 0, .bool false] 100)
  have bw : Below w.heap.size w (((w.alloc (.cells #[.int .i64 p] 80)).alloc (.cells #[.bool b, .slice A n c, .int .i64 x] 31)).alloc (.cells #[.slice none 0 0, .bool false] 100)) := by go_grown
  have PB_0 := Blk.cell PB 0 rfl
  have PB_f0 := Blk.free PB 0
  have QB_0 := Blk.cell QB 0 rfl
  have QB_1 := Blk.cell QB 1 rfl
  have QB_2 := Blk.cell QB 2 rfl
  have QB_f0 := Blk.free QB 0
  have QB_f1 := Blk.free QB 1
  have QB_f2 := Blk.free QB 2
  have SB_0 := Blk.cell SB 0 rfl
  have SB_1 := Blk.cell SB 1 rfl
  have SB_f0 := Blk.free SB 0
  have SB_f1 := Blk.free SB 1
  have t1 : decide (x < p) = false := by simp; omega
  have t2 : (x == p) = false := beq_eq_false_iff_ne.2 (by omega)
  have hj : x - p = ((x - p).toNat : Int) := by omega
  have HV := Lib.hid hv
  have HV0 := Lib.hid hv0
  have HJ := Lib.hid hj
  clear hv hv0 hj
  go_enter Tryz.func81, Tryz.ntmps81
  go_wp2_with fail
  with_reducible refine (Shl_gen (h.on (by go_grown)) hn (x - p).toNat (x - p) HJ.out HV0.out HV.out).mono ?_
  rintro e w1 ⟨q1, A1, c1, rfl, n1, v1, k1, m1, hb⟩
  clear PB_0 PB_f0
  clear QB_0 QB_1 QB_2 QB_f0 QB_f1 QB_f2
  clear SB_0 SB_1 SB_f0 SB_f1
  have hs1 := hb.size
  try simp only [World.size_alloc, World.size_setCell] at hs1
  replace bw : Below w.heap.size w w1 := dy_end (by go_grown) hb
  replace PB := Blk.on PB hb
  replace QB := Blk.on QB hb
  replace SB := Blk.on SB hb
  clear hb
  have PB_0 := Blk.cell PB 0 rfl
  have PB_f0 := Blk.free PB 0
  have QB_0 := Blk.cell QB 0 rfl
  have QB_1 := Blk.cell QB 1 rfl
  have QB_2 := Blk.cell QB 2 rfl
  have QB_f0 := Blk.free QB 0
  have QB_f1 := Blk.free QB 1
  have QB_f2 := Blk.free QB 2
  have SB_0 := Blk.cell SB 0 rfl
  have SB_1 := Blk.cell SB 1 rfl
  have SB_f0 := Blk.free SB 0
  have SB_f1 := Blk.free SB 1
  go_wp2_with fail
  refine bodyPost_ret (v := .tuple #[stV A1 q1.length c1 false, .int .i64 0]) (by simp [results, Tryz.results81, go_sem, SB_0, SB_1]) rfl ?_
  refine ⟨q1, A1, c1, rfl, n1, v1, k1, ?_, by go_grown⟩
  exact ((m1.setB SB (noU2 _ _ _ _) 0 _).setB (SB.set_ 0 _) (noU2 _ _ _ _) 0 _).setB ((SB.set_ 0 _).set_ 0 _) (noU2 _ _ _ _) 1 _


variable {A2 : Option Addr} {n2 c2 : Nat} {l2 : List Int}
theorem Blk.drew {w : World} {g : Nat} {vs : List Value} (h : Blk w g vs) : Blk w.drew g vs := h
theorem and_keep {W W' : World} {g B : Nat} {u0 u1 v0 v1 : Value} (hb : Below B W W') (h0 : g < B) (h1 : g + 1 < B) (h : W.cell? ⟨g, 0, none⟩ = some u0 ∧ W.cell? ⟨g, 1, none⟩ = some u1 ∧ W.cell? ⟨g + 1, 0, none⟩ = some v0 ∧ W.cell? ⟨g + 1, 1, none⟩ = some v1) :
    W'.cell? ⟨g, 0, none⟩ = some u0 ∧ W'.cell? ⟨g, 1, none⟩ = some u1 ∧ W'.cell? ⟨g + 1, 0, none⟩ = some v0 ∧ W'.cell? ⟨g + 1, 1, none⟩ = some v1 :=
  ⟨(hb.cell (p := ⟨g, 0, none⟩) h0).trans h.1, (hb.cell (p := ⟨g, 1, none⟩) h0).trans h.2.1, (hb.cell (p := ⟨g + 1, 0, none⟩) h1).trans h.2.2.1, (hb.cell (p := ⟨g + 1, 1, none⟩) h1).trans h.2.2.2⟩
set_option maxRecDepth 100000 in
set_option maxHeartbeats 4000000 in
theorem and_any (h : Lv w A n c l) (hn : n ≤ 4096) (h2 : Lv w A2 n2 c2 l2) (hn2 : n2 ≤ 4096) (hv : val 18446744073709551616 l + val 18446744073709551616 l2 < 18446744073709551616 ^ 4096) :
    Calls Tryz.prog 82 #[stV A n c false, stV A2 n2 c2 false] w (StepV (val 18446744073709551616 l + val 18446744073709551616 l2) w) := by
  have PB := Blk.new w [.slice A n c, .bool false] 100
  have QB := Blk.new (w.alloc (.cells #[.slice A n c, .bool false] 100)) [.slice A2 n2 c2, .bool false] 100
  simp only [World.size_alloc] at QB
  replace PB := Blk.alloc PB (.cells #[.slice A2 n2 c2, .bool false] 100)
  have SB := Blk.new ((w.alloc (.cells #[.slice A n c, .bool false] 100)).alloc (.cells #[.slice A2 n2 c2, .bool false] 100)) [.slice none 0 0, .bool false] 100
  simp only [World.size_alloc] at SB
  replace PB := Blk.alloc PB (.cells #[.slice none 0 0, .bool false] 100)
  replace QB := Blk.alloc QB (.cells #[.slice none 0 0, .bool false] 100)
  have bw : Below w.heap.size w (((w.alloc (.cells #[.slice A n c, .bool false] 100)).alloc (.cells #[.slice A2 n2 c2, .bool false] 100)).alloc (.cells #[.slice none 0 0, .bool false] 100)) := by go_grown
  have PB_0 := Blk.cell PB 0 rfl
  have PB_1 := Blk.cell PB 1 rfl
  have PB_f0 := Blk.free PB 0
  have PB_f1 := Blk.free PB 1
  have QB_0 := Blk.cell QB 0 rfl
  have QB_1 := Blk.cell QB 1 rfl
  have QB_f0 := Blk.free QB 0
  have QB_f1 := Blk.free QB 1
  have SB_0 := Blk.cell SB 0 rfl
  have SB_1 := Blk.cell SB 1 rfl
  have SB_f0 := Blk.free SB 0
  have SB_f1 := Blk.free SB 1
  have HV := Lib.hid hv
  clear hv
  go_enter Tryz.func82, Tryz.ntmps82
  go_wp2_with fail
  refine wp_region_held_drew (S := fun w' : World => w'.cell? ⟨w.heap.size, 0, none⟩ = some (.slice A n c) ∧ w'.cell? ⟨w.heap.size, 1, none⟩ = some (.bool false) ∧ w'.cell? ⟨w.heap.size + 1, 0, none⟩ = some (.slice A2 n2 c2) ∧ w'.cell? ⟨w.heap.size + 1, 1, none⟩ = some (.bool false)) (by kernel_rfl) ⟨PB_0, PB_1, QB_0, QB_1⟩ (fun hHeld => ?_)
  refine wpAnyH_take (i := 0) (v := ?v0) rfl (by kernel_rfl) (by kernel_rfl) (by kernel_rfl) (fun _ _ _ h => h) (Or.inl ⟨by rfl, ?hy0⟩) (by assumption) ?rest0
  case hy0 => (intro w hSw; (try dsimp only at hSw); go_simp; try with_reducible rfl)
  simp only [Act.put, List.setIfInBounds_toArray, List.set_cons_zero, List.set_cons_succ, List.getElem_toArray, List.getElem_cons_zero, List.getElem_cons_succ]
  refine wpAnyH_take (i := 1) (v := ?v1) rfl (by kernel_rfl) (by kernel_rfl) (by kernel_rfl) (fun _ _ _ h => h) (Or.inl ⟨by rfl, ?hy1⟩) (by assumption) ?rest1
  case hy1 => (intro w hSw; (try dsimp only at hSw); go_simp; try with_reducible rfl)
  simp only [Act.put, List.setIfInBounds_toArray, List.set_cons_zero, List.set_cons_succ, List.getElem_toArray, List.getElem_cons_zero, List.getElem_cons_succ]
  refine wpAnyH_take (i := 2) (v := ?v2) rfl (by kernel_rfl) (by kernel_rfl) (by kernel_rfl) (fun _ _ _ h => h) (Or.inl ⟨by rfl, ?hy2⟩) (by assumption) ?rest2
  case hy2 => (intro w hSw; (try dsimp only at hSw); go_simp; try with_reducible rfl)
  simp only [Act.put, List.setIfInBounds_toArray, List.set_cons_zero, List.set_cons_succ, List.getElem_toArray, List.getElem_cons_zero, List.getElem_cons_succ]
  refine wpAnyH_take (i := 3) (v := ?v3) rfl (by kernel_rfl) (by kernel_rfl) (by kernel_rfl) (fun _ _ _ h => h) (Or.inl ⟨by rfl, ?hy3⟩) (by assumption) ?rest3
  case hy3 => (intro w hSw; (try dsimp only at hSw); go_simp; try with_reducible rfl)
  simp only [Act.put, List.setIfInBounds_toArray, List.set_cons_zero, List.set_cons_succ, List.getElem_toArray, List.getElem_cons_zero, List.getElem_cons_succ]
  refine wpAnyH_take (i := 4) (v := ?v4) rfl (by kernel_rfl) (by kernel_rfl) (by kernel_rfl) (fun _ _ _ h => h) (Or.inl ⟨by rfl, ?hy4⟩) (by assumption) ?rest4
  case hy4 => (intro w hSw; (try dsimp only at hSw); go_simp; try with_reducible rfl)
  simp only [Act.put, List.setIfInBounds_toArray, List.set_cons_zero, List.set_cons_succ, List.getElem_toArray, List.getElem_cons_zero, List.getElem_cons_succ]
  refine wpAnyH_take (i := 5) (v := ?v5) rfl (by kernel_rfl) (by kernel_rfl) (by kernel_rfl) (fun _ _ _ h => h) (Or.inl ⟨by rfl, ?hy5⟩) (by assumption) ?rest5
  case hy5 => (intro w hSw; (try dsimp only at hSw); go_simp; try with_reducible rfl)
  simp only [Act.put, List.setIfInBounds_toArray, List.set_cons_zero, List.set_cons_succ, List.getElem_toArray, List.getElem_cons_zero, List.getElem_cons_succ]
  refine wpAnyH_take (i := 6) (v := undef) rfl (by kernel_rfl) (by kernel_rfl) (by kernel_rfl) (fun _ _ _ h => h) (Or.inr ⟨by rfl, rfl⟩) (by assumption) ?_
  simp only [Act.put, List.setIfInBounds_toArray, List.set_cons_zero, List.set_cons_succ, List.getElem_toArray, List.getElem_cons_zero, List.getElem_cons_succ]
  refine wpAnyH_take (i := 7) (v := undef) rfl (by kernel_rfl) (by kernel_rfl) (by kernel_rfl) (fun _ _ _ h => h) (Or.inr ⟨by rfl, rfl⟩) (by assumption) ?_
  simp only [Act.put, List.setIfInBounds_toArray, List.set_cons_zero, List.set_cons_succ, List.getElem_toArray, List.getElem_cons_zero, List.getElem_cons_succ]
  refine wpAnyH_take (i := 8) (v := ?v8) rfl (by kernel_rfl) (by kernel_rfl) (by kernel_rfl) (fun _ _ _ h => h) (Or.inl ⟨by rfl, ?hy8⟩) (by assumption) ?rest8
  case hy8 => (intro w hSw; (try dsimp only at hSw); go_simp; try with_reducible rfl)
  simp only [Act.put, List.setIfInBounds_toArray, List.set_cons_zero, List.set_cons_succ, List.getElem_toArray, List.getElem_cons_zero, List.getElem_cons_succ]
  refine wpAnyH_ready (rs := [9]) (by kernel_rfl) (by simp) ?_
  refine AllReadyH.cons rfl (fun K hK => ?_) AllReadyH.nil
  go_simp
  with_reducible refine (carried_no A2 n2 c2 false _).mono ?_
  rintro e w1 ⟨rfl, hb1⟩
  have hs1 := hb1.size
  simp only [World.size_alloc, World.size_drew] at hs1
  refine hK.out _ _ (and_keep hb1 (by simp; omega) (by simp) (by assumption)) (fun hHeld => ?_)
  clear hK K
  try simp only [Act.put, List.setIfInBounds_toArray, List.set_cons_zero, List.set_cons_succ, List.getElem_toArray, List.getElem_cons_zero, List.getElem_cons_succ]
  refine wpAnyH_ready (rs := [10]) (by kernel_rfl) (by simp) ?_
  refine AllReadyH.cons rfl (fun K hK => ?_) AllReadyH.nil
  go_simp
  with_reducible refine (Add_val (h.on (dy_end (by go_grown) hb1)) (h2.on (dy_end (by go_grown) hb1)) hn hn2 HV.out).mono ?_
  rintro e w2 ⟨q1, A1, c1, rfl, n1, v1, k1, m1, hb2⟩
  refine hK.out _ _ (and_keep hb2 (by omega) (by omega) (by assumption)) (fun hHeld => ?_)
  clear hK K
  try simp only [Act.put, List.setIfInBounds_toArray, List.set_cons_zero, List.set_cons_succ, List.getElem_toArray, List.getElem_cons_zero, List.getElem_cons_succ]
  refine wpAnyH_take (i := 11) (v := ?v11) rfl (by kernel_rfl) (by kernel_rfl) (by kernel_rfl) (fun _ _ _ h => h) (Or.inl ⟨by rfl, ?hy11⟩) (by assumption) ?rest11
  case hy11 => (intro w hSw; (try dsimp only at hSw); go_simp; try with_reducible rfl)
  simp only [Act.put, List.setIfInBounds_toArray, List.set_cons_zero, List.set_cons_succ, List.getElem_toArray, List.getElem_cons_zero, List.getElem_cons_succ]
  refine wpAnyH_take (i := 12) (v := ?v12) rfl (by kernel_rfl) (by kernel_rfl) (by kernel_rfl) (fun _ _ _ h => h) (Or.inl ⟨by rfl, ?hy12⟩) (by assumption) ?rest12
  case hy12 => (intro w hSw; (try dsimp only at hSw); go_simp; try with_reducible rfl)
  simp only [Act.put, List.setIfInBounds_toArray, List.set_cons_zero, List.set_cons_succ, List.getElem_toArray, List.getElem_cons_zero, List.getElem_cons_succ]
  refine wpAnyH_take (i := 13) (v := ?v13) rfl (by kernel_rfl) (by kernel_rfl) (by kernel_rfl) (fun _ _ _ h => h) (Or.inl ⟨by rfl, ?hy13⟩) (by assumption) ?rest13
  case hy13 => (intro w hSw; (try dsimp only at hSw); go_simp; try with_reducible rfl)
  simp only [Act.put, List.setIfInBounds_toArray, List.set_cons_zero, List.set_cons_succ, List.getElem_toArray, List.getElem_cons_zero, List.getElem_cons_succ]
  refine wpAnyH_take (i := 14) (v := ?v14) rfl (by kernel_rfl) (by kernel_rfl) (by kernel_rfl) (fun _ _ _ h => h) (Or.inl ⟨by rfl, ?hy14⟩) (by assumption) ?rest14
  case hy14 => (intro w hSw; (try dsimp only at hSw); go_simp; try with_reducible rfl)
  simp only [Act.put, List.setIfInBounds_toArray, List.set_cons_zero, List.set_cons_succ, List.getElem_toArray, List.getElem_cons_zero, List.getElem_cons_succ]
  refine wpAnyH_take (i := 15) (v := ?v15) rfl (by kernel_rfl) (by kernel_rfl) (by kernel_rfl) (fun _ _ _ h => h) (Or.inl ⟨by rfl, ?hy15⟩) (by assumption) ?rest15
  case hy15 => (intro w hSw; (try dsimp only at hSw); go_simp; try with_reducible rfl)
  simp only [Act.put, List.setIfInBounds_toArray, List.set_cons_zero, List.set_cons_succ, List.getElem_toArray, List.getElem_cons_zero, List.getElem_cons_succ]
  refine wpAnyH_done (by kernel_rfl) ?_ _
  have b1 : Below w.heap.size w w1 := dy_end (by go_grown) hb1
  replace bw : Below w.heap.size w w2 := dy_end b1 hb2
  clear PB_0 PB_1 PB_f0 PB_f1
  replace PB := ((Blk.drew PB).on hb1).on hb2
  clear QB_0 QB_1 QB_f0 QB_f1
  replace QB := ((Blk.drew QB).on hb1).on hb2
  clear SB_0 SB_1 SB_f0 SB_f1
  replace SB := ((Blk.drew SB).on hb1).on hb2
  have PB_0 := Blk.cell PB 0 rfl
  have PB_1 := Blk.cell PB 1 rfl
  have PB_f0 := Blk.free PB 0
  have PB_f1 := Blk.free PB 1
  have QB_0 := Blk.cell QB 0 rfl
  have QB_1 := Blk.cell QB 1 rfl
  have QB_f0 := Blk.free QB 0
  have QB_f1 := Blk.free QB 1
  have SB_0 := Blk.cell SB 0 rfl
  have SB_1 := Blk.cell SB 1 rfl
  have SB_f0 := Blk.free SB 0
  have SB_f1 := Blk.free SB 1
  clear hb1 hb2 b1 hHeld
  go_wp2_with fail
  refine bodyPost_ret (v := .tuple #[stV A1 q1.length c1 false, .int .i64 0]) (by simp [results, Tryz.results82, go_sem, SB_0, SB_1]) rfl ?_
  refine ⟨q1, A1, c1, rfl, n1, v1, k1, ?_, by go_grown⟩
  exact (m1.setB SB (noU2 _ _ _ _) 0 _).setB (SB.set_ 0 _) (noU2 _ _ _ _) 1 _

set_option maxRecDepth 100000 in
set_option maxHeartbeats 4000000 in
theorem less_yes (h : Lv w A n c l) (hn : n ≤ 4096) (h2 : Lv w A2 n2 c2 l2) (hn2 : n2 ≤ 4096) (hv : val 18446744073709551616 l2 ≤ val 18446744073709551616 l) :
    Calls Tryz.prog 84 #[stV A n c false, stV A2 n2 c2 false] w (StepV (val 18446744073709551616 l - val 18446744073709551616 l2) w) := by
  have PB := Blk.new w [.slice A n c, .bool false] 100
  have QB := Blk.new (w.alloc (.cells #[.slice A n c, .bool false] 100)) [.slice A2 n2 c2, .bool false] 100
  simp only [World.size_alloc] at QB
  replace PB := Blk.alloc PB (.cells #[.slice A2 n2 c2, .bool false] 100)
  have SB := Blk.new ((w.alloc (.cells #[.slice A n c, .bool false] 100)).alloc (.cells #[.slice A2 n2 c2, .bool false] 100)) [.slice none 0 0, .bool false] 100
  simp only [World.size_alloc] at SB
  replace PB := Blk.alloc PB (.cells #[.slice none 0 0, .bool false] 100)
  replace QB := Blk.alloc QB (.cells #[.slice none 0 0, .bool false] 100)
  have bw : Below w.heap.size w (((w.alloc (.cells #[.slice A n c, .bool false] 100)).alloc (.cells #[.slice A2 n2 c2, .bool false] 100)).alloc (.cells #[.slice none 0 0, .bool false] 100)) := by go_grown
  have PB_0 := Blk.cell PB 0 rfl
  have PB_1 := Blk.cell PB 1 rfl
  have PB_f0 := Blk.free PB 0
  have PB_f1 := Blk.free PB 1
  have QB_0 := Blk.cell QB 0 rfl
  have QB_1 := Blk.cell QB 1 rfl
  have QB_f0 := Blk.free QB 0
  have QB_f1 := Blk.free QB 1
  have SB_0 := Blk.cell SB 0 rfl
  have SB_1 := Blk.cell SB 1 rfl
  have SB_f0 := Blk.free SB 0
  have SB_f1 := Blk.free SB 1
  have HV := Lib.hid hv
  clear hv
  go_enter Tryz.func84, Tryz.ntmps84
  go_wp2_with fail
  refine wp_region_held_drew (S := fun w' : World => w'.cell? ⟨w.heap.size, 0, none⟩ = some (.slice A n c) ∧ w'.cell? ⟨w.heap.size, 1, none⟩ = some (.bool false) ∧ w'.cell? ⟨w.heap.size + 1, 0, none⟩ = some (.slice A2 n2 c2) ∧ w'.cell? ⟨w.heap.size + 1, 1, none⟩ = some (.bool false)) (by kernel_rfl) ⟨PB_0, PB_1, QB_0, QB_1⟩ (fun hHeld => ?_)
  refine wpAnyH_take (i := 0) (v := ?v0) rfl (by kernel_rfl) (by kernel_rfl) (by kernel_rfl) (fun _ _ _ h => h) (Or.inl ⟨by rfl, ?hy0⟩) (by assumption) ?rest0
  case hy0 => (intro w hSw; (try dsimp only at hSw); go_simp; try with_reducible rfl)
  simp only [Act.put, List.setIfInBounds_toArray, List.set_cons_zero, List.set_cons_succ, List.getElem_toArray, List.getElem_cons_zero, List.getElem_cons_succ]
  refine wpAnyH_take (i := 1) (v := ?v1) rfl (by kernel_rfl) (by kernel_rfl) (by kernel_rfl) (fun _ _ _ h => h) (Or.inl ⟨by rfl, ?hy1⟩) (by assumption) ?rest1
  case hy1 => (intro w hSw; (try dsimp only at hSw); go_simp; try with_reducible rfl)
  simp only [Act.put, List.setIfInBounds_toArray, List.set_cons_zero, List.set_cons_succ, List.getElem_toArray, List.getElem_cons_zero, List.getElem_cons_succ]
  refine wpAnyH_take (i := 2) (v := ?v2) rfl (by kernel_rfl) (by kernel_rfl) (by kernel_rfl) (fun _ _ _ h => h) (Or.inl ⟨by rfl, ?hy2⟩) (by assumption) ?rest2
  case hy2 => (intro w hSw; (try dsimp only at hSw); go_simp; try with_reducible rfl)
  simp only [Act.put, List.setIfInBounds_toArray, List.set_cons_zero, List.set_cons_succ, List.getElem_toArray, List.getElem_cons_zero, List.getElem_cons_succ]
  refine wpAnyH_take (i := 3) (v := ?v3) rfl (by kernel_rfl) (by kernel_rfl) (by kernel_rfl) (fun _ _ _ h => h) (Or.inl ⟨by rfl, ?hy3⟩) (by assumption) ?rest3
  case hy3 => (intro w hSw; (try dsimp only at hSw); go_simp; try with_reducible rfl)
  simp only [Act.put, List.setIfInBounds_toArray, List.set_cons_zero, List.set_cons_succ, List.getElem_toArray, List.getElem_cons_zero, List.getElem_cons_succ]
  refine wpAnyH_take (i := 4) (v := ?v4) rfl (by kernel_rfl) (by kernel_rfl) (by kernel_rfl) (fun _ _ _ h => h) (Or.inl ⟨by rfl, ?hy4⟩) (by assumption) ?rest4
  case hy4 => (intro w hSw; (try dsimp only at hSw); go_simp; try with_reducible rfl)
  simp only [Act.put, List.setIfInBounds_toArray, List.set_cons_zero, List.set_cons_succ, List.getElem_toArray, List.getElem_cons_zero, List.getElem_cons_succ]
  refine wpAnyH_take (i := 5) (v := ?v5) rfl (by kernel_rfl) (by kernel_rfl) (by kernel_rfl) (fun _ _ _ h => h) (Or.inl ⟨by rfl, ?hy5⟩) (by assumption) ?rest5
  case hy5 => (intro w hSw; (try dsimp only at hSw); go_simp; try with_reducible rfl)
  simp only [Act.put, List.setIfInBounds_toArray, List.set_cons_zero, List.set_cons_succ, List.getElem_toArray, List.getElem_cons_zero, List.getElem_cons_succ]
  refine wpAnyH_take (i := 6) (v := undef) rfl (by kernel_rfl) (by kernel_rfl) (by kernel_rfl) (fun _ _ _ h => h) (Or.inr ⟨by rfl, rfl⟩) (by assumption) ?_
  simp only [Act.put, List.setIfInBounds_toArray, List.set_cons_zero, List.set_cons_succ, List.getElem_toArray, List.getElem_cons_zero, List.getElem_cons_succ]
  refine wpAnyH_take (i := 7) (v := undef) rfl (by kernel_rfl) (by kernel_rfl) (by kernel_rfl) (fun _ _ _ h => h) (Or.inr ⟨by rfl, rfl⟩) (by assumption) ?_
  simp only [Act.put, List.setIfInBounds_toArray, List.set_cons_zero, List.set_cons_succ, List.getElem_toArray, List.getElem_cons_zero, List.getElem_cons_succ]
  refine wpAnyH_take (i := 8) (v := undef) rfl (by kernel_rfl) (by kernel_rfl) (by kernel_rfl) (fun _ _ _ h => h) (Or.inr ⟨by rfl, rfl⟩) (by assumption) ?_
  simp only [Act.put, List.setIfInBounds_toArray, List.set_cons_zero, List.set_cons_succ, List.getElem_toArray, List.getElem_cons_zero, List.getElem_cons_succ]
  refine wpAnyH_take (i := 9) (v := ?v9) rfl (by kernel_rfl) (by kernel_rfl) (by kernel_rfl) (fun _ _ _ h => h) (Or.inl ⟨by rfl, ?hy9⟩) (by assumption) ?rest9
  case hy9 => (intro w hSw; (try dsimp only at hSw); go_simp; try with_reducible rfl)
  simp only [Act.put, List.setIfInBounds_toArray, List.set_cons_zero, List.set_cons_succ, List.getElem_toArray, List.getElem_cons_zero, List.getElem_cons_succ]
  refine wpAnyH_ready (rs := [10]) (by kernel_rfl) (by simp) ?_
  refine AllReadyH.cons rfl (fun K hK => ?_) AllReadyH.nil
  go_simp
  with_reducible refine (carried_no A2 n2 c2 false _).mono ?_
  rintro e w1 ⟨rfl, hb1⟩
  have hs1 := hb1.size
  simp only [World.size_alloc, World.size_drew] at hs1
  refine hK.out _ _ (and_keep hb1 (by simp; omega) (by simp) (by assumption)) (fun hHeld => ?_)
  clear hK K
  try simp only [Act.put, List.setIfInBounds_toArray, List.set_cons_zero, List.set_cons_succ, List.getElem_toArray, List.getElem_cons_zero, List.getElem_cons_succ]
  refine wpAnyH_ready (rs := [11]) (by kernel_rfl) (by simp) ?_
  refine AllReadyH.cons rfl (fun K hK => ?_) AllReadyH.nil
  go_simp
  with_reducible refine (Sub_val (h.on (dy_end (by go_grown) hb1)) (h2.on (dy_end (by go_grown) hb1)) hn hn2 HV.out).mono ?_
  rintro e w2 ⟨q1, A1, c1, rfl, n1, v1, k1, m1, hb2⟩
  refine hK.out _ _ (and_keep hb2 (by omega) (by omega) (by assumption)) (fun hHeld => ?_)
  clear hK K
  try simp only [Act.put, List.setIfInBounds_toArray, List.set_cons_zero, List.set_cons_succ, List.getElem_toArray, List.getElem_cons_zero, List.getElem_cons_succ]
  refine wpAnyH_take (i := 12) (v := ?v12) rfl (by kernel_rfl) (by kernel_rfl) (by kernel_rfl) (fun _ _ _ h => h) (Or.inl ⟨by rfl, ?hy12⟩) (by assumption) ?rest12
  case hy12 => (intro w hSw; (try dsimp only at hSw); go_simp; try with_reducible rfl)
  simp only [Act.put, List.setIfInBounds_toArray, List.set_cons_zero, List.set_cons_succ, List.getElem_toArray, List.getElem_cons_zero, List.getElem_cons_succ]
  refine wpAnyH_take (i := 13) (v := ?v13) rfl (by kernel_rfl) (by kernel_rfl) (by kernel_rfl) (fun _ _ _ h => h) (Or.inl ⟨by rfl, ?hy13⟩) (by assumption) ?rest13
  case hy13 => (intro w hSw; (try dsimp only at hSw); go_simp; try with_reducible rfl)
  simp only [Act.put, List.setIfInBounds_toArray, List.set_cons_zero, List.set_cons_succ, List.getElem_toArray, List.getElem_cons_zero, List.getElem_cons_succ]
  refine wpAnyH_take (i := 14) (v := ?v14) rfl (by kernel_rfl) (by kernel_rfl) (by kernel_rfl) (fun _ _ _ h => h) (Or.inl ⟨by rfl, ?hy14⟩) (by assumption) ?rest14
  case hy14 => (intro w hSw; (try dsimp only at hSw); go_simp; try with_reducible rfl)
  simp only [Act.put, List.setIfInBounds_toArray, List.set_cons_zero, List.set_cons_succ, List.getElem_toArray, List.getElem_cons_zero, List.getElem_cons_succ]
  refine wpAnyH_take (i := 15) (v := ?v15) rfl (by kernel_rfl) (by kernel_rfl) (by kernel_rfl) (fun _ _ _ h => h) (Or.inl ⟨by rfl, ?hy15⟩) (by assumption) ?rest15
  case hy15 => (intro w hSw; (try dsimp only at hSw); go_simp; try with_reducible rfl)
  simp only [Act.put, List.setIfInBounds_toArray, List.set_cons_zero, List.set_cons_succ, List.getElem_toArray, List.getElem_cons_zero, List.getElem_cons_succ]
  refine wpAnyH_take (i := 16) (v := ?v16) rfl (by kernel_rfl) (by kernel_rfl) (by kernel_rfl) (fun _ _ _ h => h) (Or.inl ⟨by rfl, ?hy16⟩) (by assumption) ?rest16
  case hy16 => (intro w hSw; (try dsimp only at hSw); go_simp; try with_reducible rfl)
  simp only [Act.put, List.setIfInBounds_toArray, List.set_cons_zero, List.set_cons_succ, List.getElem_toArray, List.getElem_cons_zero, List.getElem_cons_succ]
  refine wpAnyH_done (by kernel_rfl) ?_ _
  have b1 : Below w.heap.size w w1 := dy_end (by go_grown) hb1
  replace bw : Below w.heap.size w w2 := dy_end b1 hb2
  clear PB_0 PB_1 PB_f0 PB_f1
  replace PB := ((Blk.drew PB).on hb1).on hb2
  clear QB_0 QB_1 QB_f0 QB_f1
  replace QB := ((Blk.drew QB).on hb1).on hb2
  clear SB_0 SB_1 SB_f0 SB_f1
  replace SB := ((Blk.drew SB).on hb1).on hb2
  have PB_0 := Blk.cell PB 0 rfl
  have PB_1 := Blk.cell PB 1 rfl
  have PB_f0 := Blk.free PB 0
  have PB_f1 := Blk.free PB 1
  have QB_0 := Blk.cell QB 0 rfl
  have QB_1 := Blk.cell QB 1 rfl
  have QB_f0 := Blk.free QB 0
  have QB_f1 := Blk.free QB 1
  have SB_0 := Blk.cell SB 0 rfl
  have SB_1 := Blk.cell SB 1 rfl
  have SB_f0 := Blk.free SB 0
  have SB_f1 := Blk.free SB 1
  clear hb1 hb2 b1 hHeld
  go_wp2_with fail
  refine bodyPost_ret (v := .tuple #[stV A1 q1.length c1 false, .int .i64 0]) (by simp [results, Tryz.results84, go_sem, SB_0, SB_1]) rfl ?_
  refine ⟨q1, A1, c1, rfl, n1, v1, k1, ?_, by go_grown⟩
  exact (m1.setB SB (noU2 _ _ _ _) 0 _).setB (SB.set_ 0 _) (noU2 _ _ _ _) 1 _

set_option maxRecDepth 100000 in
set_option maxHeartbeats 4000000 in
theorem less_no (h : Lv w A n c l) (hn : n ≤ 4096) (h2 : Lv w A2 n2 c2 l2) (hn2 : n2 ≤ 4096) (hv : val 18446744073709551616 l < val 18446744073709551616 l2) :
    Calls Tryz.prog 84 #[stV A n c false, stV A2 n2 c2 false] w fun e w' => e = .returned (.tuple #[stV none 0 0 false, .int .i64 2]) ∧ Below w.heap.size w w' := by
  have PB := Blk.new w [.slice A n c, .bool false] 100
  have QB := Blk.new (w.alloc (.cells #[.slice A n c, .bool false] 100)) [.slice A2 n2 c2, .bool false] 100
  simp only [World.size_alloc] at QB
  replace PB := Blk.alloc PB (.cells #[.slice A2 n2 c2, .bool false] 100)
  have SB := Blk.new ((w.alloc (.cells #[.slice A n c, .bool false] 100)).alloc (.cells #[.slice A2 n2 c2, .bool false] 100)) [.slice none 0 0, .bool false] 100
  simp only [World.size_alloc] at SB
  replace PB := Blk.alloc PB (.cells #[.slice none 0 0, .bool false] 100)
  replace QB := Blk.alloc QB (.cells #[.slice none 0 0, .bool false] 100)
  have bw : Below w.heap.size w (((w.alloc (.cells #[.slice A n c, .bool false] 100)).alloc (.cells #[.slice A2 n2 c2, .bool false] 100)).alloc (.cells #[.slice none 0 0, .bool false] 100)) := by go_grown
  have PB_0 := Blk.cell PB 0 rfl
  have PB_1 := Blk.cell PB 1 rfl
  have PB_f0 := Blk.free PB 0
  have PB_f1 := Blk.free PB 1
  have QB_0 := Blk.cell QB 0 rfl
  have QB_1 := Blk.cell QB 1 rfl
  have QB_f0 := Blk.free QB 0
  have QB_f1 := Blk.free QB 1
  have SB_0 := Blk.cell SB 0 rfl
  have SB_1 := Blk.cell SB 1 rfl
  have SB_f0 := Blk.free SB 0
  have SB_f1 := Blk.free SB 1
  have HV := Lib.hid hv
  clear hv
  go_enter Tryz.func84, Tryz.ntmps84
  go_wp2_with fail
  refine wp_region_held_drew (S := fun w' : World => w'.cell? ⟨w.heap.size, 0, none⟩ = some (.slice A n c) ∧ w'.cell? ⟨w.heap.size, 1, none⟩ = some (.bool false) ∧ w'.cell? ⟨w.heap.size + 1, 0, none⟩ = some (.slice A2 n2 c2) ∧ w'.cell? ⟨w.heap.size + 1, 1, none⟩ = some (.bool false)) (by kernel_rfl) ⟨PB_0, PB_1, QB_0, QB_1⟩ (fun hHeld => ?_)
  refine wpAnyH_take (i := 0) (v := ?v0) rfl (by kernel_rfl) (by kernel_rfl) (by kernel_rfl) (fun _ _ _ h => h) (Or.inl ⟨by rfl, ?hy0⟩) (by assumption) ?rest0
  case hy0 => (intro w hSw; (try dsimp only at hSw); go_simp; try with_reducible rfl)
  simp only [Act.put, List.setIfInBounds_toArray, List.set_cons_zero, List.set_cons_succ, List.getElem_toArray, List.getElem_cons_zero, List.getElem_cons_succ]
  refine wpAnyH_take (i := 1) (v := ?v1) rfl (by kernel_rfl) (by kernel_rfl) (by kernel_rfl) (fun _ _ _ h => h) (Or.inl ⟨by rfl, ?hy1⟩) (by assumption) ?rest1
  case hy1 => (intro w hSw; (try dsimp only at hSw); go_simp; try with_reducible rfl)
  simp only [Act.put, List.setIfInBounds_toArray, List.set_cons_zero, List.set_cons_succ, List.getElem_toArray, List.getElem_cons_zero, List.getElem_cons_succ]
  refine wpAnyH_take (i := 2) (v := ?v2) rfl (by kernel_rfl) (by kernel_rfl) (by kernel_rfl) (fun _ _ _ h => h) (Or.inl ⟨by rfl, ?hy2⟩) (by assumption) ?rest2
  case hy2 => (intro w hSw; (try dsimp only at hSw); go_simp; try with_reducible rfl)
  simp only [Act.put, List.setIfInBounds_toArray, List.set_cons_zero, List.set_cons_succ, List.getElem_toArray, List.getElem_cons_zero, List.getElem_cons_succ]
  refine wpAnyH_take (i := 3) (v := ?v3) rfl (by kernel_rfl) (by kernel_rfl) (by kernel_rfl) (fun _ _ _ h => h) (Or.inl ⟨by rfl, ?hy3⟩) (by assumption) ?rest3
  case hy3 => (intro w hSw; (try dsimp only at hSw); go_simp; try with_reducible rfl)
  simp only [Act.put, List.setIfInBounds_toArray, List.set_cons_zero, List.set_cons_succ, List.getElem_toArray, List.getElem_cons_zero, List.getElem_cons_succ]
  refine wpAnyH_take (i := 4) (v := ?v4) rfl (by kernel_rfl) (by kernel_rfl) (by kernel_rfl) (fun _ _ _ h => h) (Or.inl ⟨by rfl, ?hy4⟩) (by assumption) ?rest4
  case hy4 => (intro w hSw; (try dsimp only at hSw); go_simp; try with_reducible rfl)
  simp only [Act.put, List.setIfInBounds_toArray, List.set_cons_zero, List.set_cons_succ, List.getElem_toArray, List.getElem_cons_zero, List.getElem_cons_succ]
  refine wpAnyH_take (i := 5) (v := ?v5) rfl (by kernel_rfl) (by kernel_rfl) (by kernel_rfl) (fun _ _ _ h => h) (Or.inl ⟨by rfl, ?hy5⟩) (by assumption) ?rest5
  case hy5 => (intro w hSw; (try dsimp only at hSw); go_simp; try with_reducible rfl)
  simp only [Act.put, List.setIfInBounds_toArray, List.set_cons_zero, List.set_cons_succ, List.getElem_toArray, List.getElem_cons_zero, List.getElem_cons_succ]
  refine wpAnyH_take (i := 6) (v := undef) rfl (by kernel_rfl) (by kernel_rfl) (by kernel_rfl) (fun _ _ _ h => h) (Or.inr ⟨by rfl, rfl⟩) (by assumption) ?_
  simp only [Act.put, List.setIfInBounds_toArray, List.set_cons_zero, List.set_cons_succ, List.getElem_toArray, List.getElem_cons_zero, List.getElem_cons_succ]
  refine wpAnyH_take (i := 7) (v := undef) rfl (by kernel_rfl) (by kernel_rfl) (by kernel_rfl) (fun _ _ _ h => h) (Or.inr ⟨by rfl, rfl⟩) (by assumption) ?_
  simp only [Act.put, List.setIfInBounds_toArray, List.set_cons_zero, List.set_cons_succ, List.getElem_toArray, List.getElem_cons_zero, List.getElem_cons_succ]
  refine wpAnyH_take (i := 8) (v := undef) rfl (by kernel_rfl) (by kernel_rfl) (by kernel_rfl) (fun _ _ _ h => h) (Or.inr ⟨by rfl, rfl⟩) (by assumption) ?_
  simp only [Act.put, List.setIfInBounds_toArray, List.set_cons_zero, List.set_cons_succ, List.getElem_toArray, List.getElem_cons_zero, List.getElem_cons_succ]
  refine wpAnyH_take (i := 9) (v := ?v9) rfl (by kernel_rfl) (by kernel_rfl) (by kernel_rfl) (fun _ _ _ h => h) (Or.inl ⟨by rfl, ?hy9⟩) (by assumption) ?rest9
  case hy9 => (intro w hSw; (try dsimp only at hSw); go_simp; try with_reducible rfl)
  simp only [Act.put, List.setIfInBounds_toArray, List.set_cons_zero, List.set_cons_succ, List.getElem_toArray, List.getElem_cons_zero, List.getElem_cons_succ]
  refine wpAnyH_ready (rs := [10]) (by kernel_rfl) (by simp) ?_
  refine AllReadyH.cons rfl (fun K hK => ?_) AllReadyH.nil
  go_simp
  with_reducible refine (carried_no A2 n2 c2 false _).mono ?_
  rintro e w1 ⟨rfl, hb1⟩
  have hs1 := hb1.size
  simp only [World.size_alloc, World.size_drew] at hs1
  refine hK.out _ _ (and_keep hb1 (by simp; omega) (by simp) (by assumption)) (fun hHeld => ?_)
  clear hK K
  try simp only [Act.put, List.setIfInBounds_toArray, List.set_cons_zero, List.set_cons_succ, List.getElem_toArray, List.getElem_cons_zero, List.getElem_cons_succ]
  refine wpAnyH_ready (rs := [11]) (by kernel_rfl) (by simp) ?_
  refine AllReadyH.cons rfl (fun K hK => ?_) AllReadyH.nil
  go_simp
  with_reducible refine (Sub_bad (h.on (dy_end (by go_grown) hb1)) (h2.on (dy_end (by go_grown) hb1)) hn hn2 HV.out).mono ?_
  rintro e w2 ⟨rfl, hb2⟩
  refine hK.out _ _ (and_keep hb2 (by omega) (by omega) (by assumption)) (fun hHeld => ?_)
  clear hK K
  try simp only [Act.put, List.setIfInBounds_toArray, List.set_cons_zero, List.set_cons_succ, List.getElem_toArray, List.getElem_cons_zero, List.getElem_cons_succ]
  refine wpAnyH_take (i := 12) (v := ?v12) rfl (by kernel_rfl) (by kernel_rfl) (by kernel_rfl) (fun _ _ _ h => h) (Or.inl ⟨by rfl, ?hy12⟩) (by assumption) ?rest12
  case hy12 => (intro w hSw; (try dsimp only at hSw); go_simp; try with_reducible rfl)
  simp only [Act.put, List.setIfInBounds_toArray, List.set_cons_zero, List.set_cons_succ, List.getElem_toArray, List.getElem_cons_zero, List.getElem_cons_succ]
  refine wpAnyH_take (i := 13) (v := ?v13) rfl (by kernel_rfl) (by kernel_rfl) (by kernel_rfl) (fun _ _ _ h => h) (Or.inl ⟨by rfl, ?hy13⟩) (by assumption) ?rest13
  case hy13 => (intro w hSw; (try dsimp only at hSw); go_simp; try with_reducible rfl)
  simp only [Act.put, List.setIfInBounds_toArray, List.set_cons_zero, List.set_cons_succ, List.getElem_toArray, List.getElem_cons_zero, List.getElem_cons_succ]
  refine wpAnyH_take (i := 14) (v := ?v14) rfl (by kernel_rfl) (by kernel_rfl) (by kernel_rfl) (fun _ _ _ h => h) (Or.inl ⟨by rfl, ?hy14⟩) (by assumption) ?rest14
  case hy14 => (intro w hSw; (try dsimp only at hSw); go_simp; try with_reducible rfl)
  simp only [Act.put, List.setIfInBounds_toArray, List.set_cons_zero, List.set_cons_succ, List.getElem_toArray, List.getElem_cons_zero, List.getElem_cons_succ]
  refine wpAnyH_take (i := 15) (v := ?v15) rfl (by kernel_rfl) (by kernel_rfl) (by kernel_rfl) (fun _ _ _ h => h) (Or.inl ⟨by rfl, ?hy15⟩) (by assumption) ?rest15
  case hy15 => (intro w hSw; (try dsimp only at hSw); go_simp; try with_reducible rfl)
  simp only [Act.put, List.setIfInBounds_toArray, List.set_cons_zero, List.set_cons_succ, List.getElem_toArray, List.getElem_cons_zero, List.getElem_cons_succ]
  refine wpAnyH_take (i := 16) (v := ?v16) rfl (by kernel_rfl) (by kernel_rfl) (by kernel_rfl) (fun _ _ _ h => h) (Or.inl ⟨by rfl, ?hy16⟩) (by assumption) ?rest16
  case hy16 => (intro w hSw; (try dsimp only at hSw); go_simp; try with_reducible rfl)
  simp only [Act.put, List.setIfInBounds_toArray, List.set_cons_zero, List.set_cons_succ, List.getElem_toArray, List.getElem_cons_zero, List.getElem_cons_succ]
  refine wpAnyH_done (by kernel_rfl) ?_ _
  have b1 : Below w.heap.size w w1 := dy_end (by go_grown) hb1
  replace bw : Below w.heap.size w w2 := dy_end b1 hb2
  clear PB_0 PB_1 PB_f0 PB_f1
  replace PB := ((Blk.drew PB).on hb1).on hb2
  clear QB_0 QB_1 QB_f0 QB_f1
  replace QB := ((Blk.drew QB).on hb1).on hb2
  clear SB_0 SB_1 SB_f0 SB_f1
  replace SB := ((Blk.drew SB).on hb1).on hb2
  have PB_0 := Blk.cell PB 0 rfl
  have PB_1 := Blk.cell PB 1 rfl
  have PB_f0 := Blk.free PB 0
  have PB_f1 := Blk.free PB 1
  have QB_0 := Blk.cell QB 0 rfl
  have QB_1 := Blk.cell QB 1 rfl
  have QB_f0 := Blk.free QB 0
  have QB_f1 := Blk.free QB 1
  have SB_0 := Blk.cell SB 0 rfl
  have SB_1 := Blk.cell SB 1 rfl
  have SB_f0 := Blk.free SB 0
  have SB_f1 := Blk.free SB 1
  clear hb1 hb2 b1 hHeld
  go_wp2_with fail
  refine bodyPost_ret (v := .tuple #[stV none 0 0 false, .int .i64 2]) (by simp [results, Tryz.results84, go_sem, SB_0, SB_1]) rfl ?_
  exact ⟨rfl, by go_grown⟩

end
end Go.Proofs.YtmfikppnkjhmjaaGreatDoor
