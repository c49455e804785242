/-
  Layer 3, the laws: differences by the reference; numbers apart. (Written by a script of wip/tools.)
-/
import Derived.Test.YtknomchkfamajaaGreatDoorDyMD
namespace Go.Proofs.YtknomchkfamajaaGreatDoor
open Go.RowKit Go.Sort Go.Bw
set_option linter.unusedVariables false
set_option linter.unusedSimpArgs false

section
variable {b : Bool} {A : Option Addr} {n c : Nat} {x : Int} {l : List Int} {w : World}
variable {b2 : Bool} {A2 : Option Addr} {n2 c2 : Nat} {x2 : Int} {l2 : List Int}
set_option maxRecDepth 100000 in
set_option maxHeartbeats 8000000 in
theorem rSub_any (h : Lv w A n c l) (hn : n ≤ 4096) (h2 : Lv w A2 n2 c2 l2) (hn2 : n2 ≤ 4096) (hN : may2 x x2 = true → farN (nfl b (val 18446744073709551616 l) x) (negN (nfl b2 (val 18446744073709551616 l2) x2)) = true ∨ Near (nfl b (val 18446744073709551616 l) x) (negN (nfl b2 (val 18446744073709551616 l2) x2))) :
    Calls Tryz.prog 41 #[dyV b A n c x, dyV b2 A2 n2 c2 x2] w (DyK (addQ x x2 (nfl b (val 18446744073709551616 l) x) (negN (nfl b2 (val 18446744073709551616 l2) x2))).1 (addQ x x2 (nfl b (val 18446744073709551616 l) x) (negN (nfl b2 (val 18446744073709551616 l2) x2))).2 w) := by
  have pa := fun W (mm : Lv W A n c l) (mm2 : Lv W A2 n2 c2 l2) => rAdd_any (b := b) (b2 := !b2) (x := x) (x2 := x2) mm hn mm2 hn2 (by rw [nfl_neg]; exact hN)
  rw [nfl_neg] at pa
  generalize addQ x x2 (nfl b (val 18446744073709551616 l) x) (negN (nfl b2 (val 18446744073709551616 l2) x2)) = R at pa ⊢
  obtain ⟨R1, R2⟩ := R
  dsimp only at pa ⊢
  clear hN
  have PB := Blk.new w [.bool b, .slice A n c, .int .i64 x] 24
  have QB := Blk.new (w.alloc (.cells #[.bool b, .slice A n c, .int .i64 x] 24)) [.bool b2, .slice A2 n2 c2, .int .i64 x2] 24
  simp only [World.size_alloc] at QB
  replace PB := Blk.alloc PB (.cells #[.bool b2, .slice A2 n2 c2, .int .i64 x2] 24)
  have DB := Blk.new ((w.alloc (.cells #[.bool b, .slice A n c, .int .i64 x] 24)).alloc (.cells #[.bool b2, .slice A2 n2 c2, .int .i64 x2] 24)) [.bool false, .slice none 0 0, .int .i64 0] 24
  simp only [World.size_alloc] at DB
  replace PB := Blk.alloc PB (.cells #[.bool false, .slice none 0 0, .int .i64 0] 24)
  replace QB := Blk.alloc QB (.cells #[.bool false, .slice none 0 0, .int .i64 0] 24)
  have bw : Below w.heap.size w (((w.alloc (.cells #[.bool b, .slice A n c, .int .i64 x] 24)).alloc (.cells #[.bool b2, .slice A2 n2 c2, .int .i64 x2] 24)).alloc (.cells #[.bool false, .slice none 0 0, .int .i64 0] 24)) := by go_grown
  have PB_0 := Blk.cell PB 0 rfl
  have PB_1 := Blk.cell PB 1 rfl
  have PB_2 := Blk.cell PB 2 rfl
  have PB_f0 := Blk.free PB 0
  have PB_f1 := Blk.free PB 1
  have PB_f2 := Blk.free PB 2
  have QB_0 := Blk.cell QB 0 rfl
  have QB_1 := Blk.cell QB 1 rfl
  have QB_2 := Blk.cell QB 2 rfl
  have QB_f0 := Blk.free QB 0
  have QB_f1 := Blk.free QB 1
  have QB_f2 := Blk.free QB 2
  have DB_0 := Blk.cell DB 0 rfl
  have DB_1 := Blk.cell DB 1 rfl
  have DB_2 := Blk.cell DB 2 rfl
  have DB_f0 := Blk.free DB 0
  have DB_f1 := Blk.free DB 1
  have DB_f2 := Blk.free DB 2
  go_enter Tryz.func41, Tryz.ntmps41
  go_wp2_with fail
  refine wp_region_held_drew (S := fun w9 : World => w9.cell? ⟨w.heap.size, 0, none⟩ = some (.bool b) ∧ w9.cell? ⟨w.heap.size, 1, none⟩ = some (.slice A n c) ∧ w9.cell? ⟨w.heap.size, 2, none⟩ = some (.int .i64 x) ∧ w9.cell? ⟨w.heap.size + 1, 0, none⟩ = some (.bool b2) ∧ w9.cell? ⟨w.heap.size + 1, 1, none⟩ = some (.slice A2 n2 c2) ∧ w9.cell? ⟨w.heap.size + 1, 2, none⟩ = some (.int .i64 x2)) (by kernel_rfl) ⟨PB_0, PB_1, PB_2, QB_0, QB_1, QB_2⟩ (fun hHeld => ?_)
  refine wpAnyH_take (i := 0) (v := ?v0) rfl (by kernel_rfl) (by kernel_rfl) (by kernel_rfl) (fun _ _ _ h => h) (Or.inl ⟨by rfl, ?hy0⟩) (by assumption) ?rest0
  case hy0 => (intro w hSw; (try dsimp only at hSw); go_simp; try with_reducible rfl)
  simp only [Act.put, List.setIfInBounds_toArray, List.set_cons_zero, List.set_cons_succ, List.getElem_toArray, List.getElem_cons_zero, List.getElem_cons_succ]
  refine wpAnyH_take (i := 1) (v := ?v1) rfl (by kernel_rfl) (by kernel_rfl) (by kernel_rfl) (fun _ _ _ h => h) (Or.inl ⟨by rfl, ?hy1⟩) (by assumption) ?rest1
  case hy1 => (intro w hSw; (try dsimp only at hSw); go_simp; try with_reducible rfl)
  simp only [Act.put, List.setIfInBounds_toArray, List.set_cons_zero, List.set_cons_succ, List.getElem_toArray, List.getElem_cons_zero, List.getElem_cons_succ]
  refine wpAnyH_ready (rs := [2]) (by kernel_rfl) (by simp) ?_
  refine AllReadyH.cons rfl (fun K hK => ?_) AllReadyH.nil
  go_simp
  with_reducible refine (rTurn_any b2 A2 n2 c2 x2 _).mono ?_
  rintro e w1 ⟨rfl, hb1⟩
  have hs1 := hb1.size
  simp only [World.size_alloc, World.size_drew] at hs1
  have b1 : Below w.heap.size w w1 := dy_end (by go_grown) hb1
  replace DB := (Blk.drew DB).on hb1
  refine hK.out _ _ (⟨(hb1.cell (p := ⟨w.heap.size, 0, none⟩) (by first | omega | (dsimp only; omega) | (simp; omega) | (simp; done))).trans hHeld.1, (hb1.cell (p := ⟨w.heap.size, 1, none⟩) (by first | omega | (dsimp only; omega) | (simp; omega) | (simp; done))).trans hHeld.2.1, (hb1.cell (p := ⟨w.heap.size, 2, none⟩) (by first | omega | (dsimp only; omega) | (simp; omega) | (simp; done))).trans hHeld.2.2.1, (hb1.cell (p := ⟨w.heap.size + 1, 0, none⟩) (by first | omega | (dsimp only; omega) | (simp; omega) | (simp; done))).trans hHeld.2.2.2.1, (hb1.cell (p := ⟨w.heap.size + 1, 1, none⟩) (by first | omega | (dsimp only; omega) | (simp; omega) | (simp; done))).trans hHeld.2.2.2.2.1, (hb1.cell (p := ⟨w.heap.size + 1, 2, none⟩) (by first | omega | (dsimp only; omega) | (simp; omega) | (simp; done))).trans hHeld.2.2.2.2.2⟩) (fun hHeld => ?_)
  clear hK K
  try simp only [Act.put, List.setIfInBounds_toArray, List.set_cons_zero, List.set_cons_succ, List.getElem_toArray, List.getElem_cons_zero, List.getElem_cons_succ]
  refine wpAnyH_ready (rs := [3]) (by kernel_rfl) (by simp) ?_
  refine AllReadyH.cons rfl (fun K hK => ?_) AllReadyH.nil
  go_simp
  with_reducible refine (pa _ (h.on b1) (h2.on b1)).mono ?_
  rintro e w2 ⟨b3, q3, A3, c3, x3, rfl, hd3, m3, hb2⟩
  have hs2 := hb2.size
  replace bw : Below w.heap.size w w2 := dy_end b1 hb2
  replace DB := Blk.on DB hb2
  refine hK.out _ _ (⟨(hb2.cell (p := ⟨w.heap.size, 0, none⟩) (by first | omega | (dsimp only; omega) | (simp; omega) | (simp; done))).trans hHeld.1, (hb2.cell (p := ⟨w.heap.size, 1, none⟩) (by first | omega | (dsimp only; omega) | (simp; omega) | (simp; done))).trans hHeld.2.1, (hb2.cell (p := ⟨w.heap.size, 2, none⟩) (by first | omega | (dsimp only; omega) | (simp; omega) | (simp; done))).trans hHeld.2.2.1, (hb2.cell (p := ⟨w.heap.size + 1, 0, none⟩) (by first | omega | (dsimp only; omega) | (simp; omega) | (simp; done))).trans hHeld.2.2.2.1, (hb2.cell (p := ⟨w.heap.size + 1, 1, none⟩) (by first | omega | (dsimp only; omega) | (simp; omega) | (simp; done))).trans hHeld.2.2.2.2.1, (hb2.cell (p := ⟨w.heap.size + 1, 2, none⟩) (by first | omega | (dsimp only; omega) | (simp; omega) | (simp; done))).trans hHeld.2.2.2.2.2⟩) (fun hHeld => ?_)
  clear hK K
  try simp only [Act.put, List.setIfInBounds_toArray, List.set_cons_zero, List.set_cons_succ, List.getElem_toArray, List.getElem_cons_zero, List.getElem_cons_succ]
  clear hb1 hb2 b1
  clear PB_0 PB_1 PB_2 PB_f0 PB_f1 PB_f2
  clear QB_0 QB_1 QB_2 QB_f0 QB_f1 QB_f2
  clear DB_0 DB_1 DB_2 DB_f0 DB_f1 DB_f2
  have DB_0 := Blk.cell DB 0 rfl
  have DB_1 := Blk.cell DB 1 rfl
  have DB_2 := Blk.cell DB 2 rfl
  have DB_f0 := Blk.free DB 0
  have DB_f1 := Blk.free DB 1
  have DB_f2 := Blk.free DB 2
  refine wpAnyH_take (i := 4) (v := ?v4) rfl (by kernel_rfl) (by kernel_rfl) (by kernel_rfl) (fun _ _ _ h => h) (Or.inl ⟨by rfl, ?hy4⟩) (by assumption) ?rest4
  case hy4 => (intro w hSw; (try dsimp only at hSw); go_simp; try with_reducible rfl)
  simp only [Act.put, List.setIfInBounds_toArray, List.set_cons_zero, List.set_cons_succ, List.getElem_toArray, List.getElem_cons_zero, List.getElem_cons_succ]
  refine wpAnyH_take (i := 5) (v := ?v5) rfl (by kernel_rfl) (by kernel_rfl) (by kernel_rfl) (fun _ _ _ h => h) (Or.inl ⟨by rfl, ?hy5⟩) (by assumption) ?rest5
  case hy5 => (intro w hSw; (try dsimp only at hSw); go_simp; try with_reducible rfl)
  simp only [Act.put, List.setIfInBounds_toArray, List.set_cons_zero, List.set_cons_succ, List.getElem_toArray, List.getElem_cons_zero, List.getElem_cons_succ]
  refine wpAnyH_ready (rs := [6]) (by kernel_rfl) (by simp) ?_
  refine AllReadyH.cons rfl (fun K hK => ?_) AllReadyH.nil
  go_simp
  refine hK.out _ _ (⟨put_cell hHeld.1 (by dsimp only; omega) _ _ _, put_cell hHeld.2.1 (by dsimp only; omega) _ _ _, put_cell hHeld.2.2.1 (by dsimp only; omega) _ _ _, put_cell hHeld.2.2.2.1 (by dsimp only; omega) _ _ _, put_cell hHeld.2.2.2.2.1 (by dsimp only; omega) _ _ _, put_cell hHeld.2.2.2.2.2 (by dsimp only; omega) _ _ _⟩) (fun hHeld => ?_)
  clear hK K
  try simp only [Act.put, List.setIfInBounds_toArray, List.set_cons_zero, List.set_cons_succ, List.getElem_toArray, List.getElem_cons_zero, List.getElem_cons_succ]
  refine wpAnyH_take (i := 7) (v := ?v7) rfl (by kernel_rfl) (by kernel_rfl) (by kernel_rfl) (fun _ _ _ h => h) (Or.inl ⟨by rfl, ?hy7⟩) (by assumption) ?rest7
  case hy7 => (intro w hSw; (try dsimp only at hSw); go_simp; try with_reducible rfl)
  simp only [Act.put, List.setIfInBounds_toArray, List.set_cons_zero, List.set_cons_succ, List.getElem_toArray, List.getElem_cons_zero, List.getElem_cons_succ]
  refine wpAnyH_done (by kernel_rfl) ?_ _
  replace m3 := m3.put DB b3 A3 q3.length c3 x3
  clear DB_0 DB_1 DB_2 DB_f0 DB_f1 DB_f2
  replace DB := Dbx.put DB b3 A3 q3.length c3 x3
  clear hHeld
  have DB_0 := Blk.cell DB 0 rfl
  have DB_1 := Blk.cell DB 1 rfl
  have DB_2 := Blk.cell DB 2 rfl
  have DB_f0 := Blk.free DB 0
  have DB_f1 := Blk.free DB 1
  have DB_f2 := Blk.free DB 2
  go_wp2_with fail
  refine bodyPost_ret (v := .tuple #[dyV b3 A3 q3.length c3 x3, .int .i64 R2]) (by simp [results, Tryz.results41, go_sem, DB_0, DB_1, DB_2, DB_f0, DB_f1, DB_f2]) rfl ?_
  exact ⟨b3, q3, A3, c3, x3, rfl, hd3, m3, by go_grown⟩


theorem lv_bound40 (h : Lv w A n c l) (hn : n ≤ 40) : val 18446744073709551616 l < 2 ^ 2560 := by
  have h1 := h.less (k := 40) hn
  rw [pow64] at h1
  exact h1
theorem nfl_in40 (h : Lv w A n c l) (hn : n ≤ 40) {p q : Int} (hp : p ≤ x) (hq : x + 2560 ≤ q) : (nfl b (val 18446744073709551616 l) x).In p q := by
  refine (nfl_in (b := b) (e := x) (q := x + 2560) (lim_val h.2.2) (by omega) ?_).mono hp hq
  rw [show (x + 2560 - x).toNat = 2560 by omega]
  exact lv_bound40 h hn
/-- far, or near -/
theorem far_or (h : Lv w A n c l) (hn : n ≤ 40) (h2 : Lv w A2 n2 c2 l2) (hn2 : n2 ≤ 40) (hd : (x - x2 ≤ 6000 ∧ x2 - x ≤ 6000) ∨ 300000 ≤ x - x2 ∨ 300000 ≤ x2 - x) :
    farN (nfl b (val 18446744073709551616 l) x) (nfl b2 (val 18446744073709551616 l2) x2) = true ∨ Near (nfl b (val 18446744073709551616 l) x) (nfl b2 (val 18446744073709551616 l2) x2) := by
  by_cases z1 : (nfl b (val 18446744073709551616 l) x).man = 0
  · exact .inr ⟨x2, x2 + 2560, .inl z1, nfl_in40 h2 hn2 (by omega) (by omega), by omega, by omega⟩
  · by_cases z2 : (nfl b2 (val 18446744073709551616 l2) x2).man = 0
    · exact .inr ⟨x, x + 2560, nfl_in40 h hn (by omega) (by omega), .inl z2, by omega, by omega⟩
    · rcases hd with hd | hd
      · exact .inr ⟨min x x2, max x x2 + 2560, nfl_in40 h hn (by omega) (by omega), nfl_in40 h2 hn2 (by omega) (by omega), by omega, by omega⟩
      · left
        have a1 := (nfl_in40 (b := b) (x := x) h hn (Int.le_refl _) (Int.le_refl _)).exp z1
        have a2 := (nfl_in40 (b := b2) (x := x2) h2 hn2 (Int.le_refl _) (Int.le_refl _)).exp z2
        unfold farN farB
        simp [z1, z2]
        omega
theorem far_or_neg {d d2 : Nf} (hd2 : d2.Ok) (h : farN d d2 = true ∨ Near d d2) : farN d (negN d2) = true ∨ Near d (negN d2) := by
  rcases h with h | ⟨p, q, i, j, k⟩
  · left
    have e := neg_man d2
    rcases e with ⟨e1, e2⟩ | e
    · unfold farN farB at h ⊢
      rw [e1, e2]
      exact h
    · exact absurd hd2 e
  · exact .inr ⟨p, q, i, negN_in hd2 j, k⟩
set_option maxRecDepth 100000 in
set_option maxHeartbeats 8000000 in
theorem lapart_1 (b b2 : Bool) (A A2 : Option Addr) (n n2 c c2 : Nat) (x x2 : Int) (w : World) (x0 : -9223372036854775808 ≤ x) (x1 : x ≤ 9223372036854775807) (y0 : -9223372036854775808 ≤ x2) (y1 : x2 ≤ 9223372036854775807) (h : 1099511627776 < x) :
    Calls Tryz.prog 37 #[dyV b A n c x, dyV b2 A2 n2 c2 x2] w fun e w' => e = .returned (.bool true) ∧ Below w.heap.size w w' := by
  have PB := Blk.new w [.bool b, .slice A n c, .int .i64 x] 24
  have QB := Blk.new (w.alloc (.cells #[.bool b, .slice A n c, .int .i64 x] 24)) [.bool b2, .slice A2 n2 c2, .int .i64 x2] 24
  simp only [World.size_alloc] at QB
  replace PB := Blk.alloc PB (.cells #[.bool b2, .slice A2 n2 c2, .int .i64 x2] 24)
  have bw : Below w.heap.size w ((w.alloc (.cells #[.bool b, .slice A n c, .int .i64 x] 24)).alloc (.cells #[.bool b2, .slice A2 n2 c2, .int .i64 x2] 24)) := by go_grown
  have PB_0 := Blk.cell PB 0 rfl
  have PB_1 := Blk.cell PB 1 rfl
  have PB_2 := Blk.cell PB 2 rfl
  have PB_f0 := Blk.free PB 0
  have PB_f1 := Blk.free PB 1
  have PB_f2 := Blk.free PB 2
  have QB_0 := Blk.cell QB 0 rfl
  have QB_1 := Blk.cell QB 1 rfl
  have QB_2 := Blk.cell QB 2 rfl
  have QB_f0 := Blk.free QB 0
  have QB_f1 := Blk.free QB 1
  have QB_f2 := Blk.free QB 2
  have k0 : decide (1099511627776 < x) = true := by simp; omega
  go_enter Tryz.func37, Tryz.ntmps37
  go_wp2_with fail
  go_ret
  exact ⟨rfl, by go_grown⟩

set_option maxRecDepth 100000 in
set_option maxHeartbeats 8000000 in
theorem lapart_2 (b b2 : Bool) (A A2 : Option Addr) (n n2 c c2 : Nat) (x x2 : Int) (w : World) (x0 : -9223372036854775808 ≤ x) (x1 : x ≤ 9223372036854775807) (y0 : -9223372036854775808 ≤ x2) (y1 : x2 ≤ 9223372036854775807) (a1 : x ≤ 1099511627776) (h : 1099511627776 < x2) :
    Calls Tryz.prog 37 #[dyV b A n c x, dyV b2 A2 n2 c2 x2] w fun e w' => e = .returned (.bool true) ∧ Below w.heap.size w w' := by
  have PB := Blk.new w [.bool b, .slice A n c, .int .i64 x] 24
  have QB := Blk.new (w.alloc (.cells #[.bool b, .slice A n c, .int .i64 x] 24)) [.bool b2, .slice A2 n2 c2, .int .i64 x2] 24
  simp only [World.size_alloc] at QB
  replace PB := Blk.alloc PB (.cells #[.bool b2, .slice A2 n2 c2, .int .i64 x2] 24)
  have bw : Below w.heap.size w ((w.alloc (.cells #[.bool b, .slice A n c, .int .i64 x] 24)).alloc (.cells #[.bool b2, .slice A2 n2 c2, .int .i64 x2] 24)) := by go_grown
  have PB_0 := Blk.cell PB 0 rfl
  have PB_1 := Blk.cell PB 1 rfl
  have PB_2 := Blk.cell PB 2 rfl
  have PB_f0 := Blk.free PB 0
  have PB_f1 := Blk.free PB 1
  have PB_f2 := Blk.free PB 2
  have QB_0 := Blk.cell QB 0 rfl
  have QB_1 := Blk.cell QB 1 rfl
  have QB_2 := Blk.cell QB 2 rfl
  have QB_f0 := Blk.free QB 0
  have QB_f1 := Blk.free QB 1
  have QB_f2 := Blk.free QB 2
  have k0 : decide (1099511627776 < x) = false := by simp; omega
  have k1 : decide (1099511627776 < x2) = true := by simp; omega
  go_enter Tryz.func37, Tryz.ntmps37
  go_wp2_with fail
  go_ret
  exact ⟨rfl, by go_grown⟩

set_option maxRecDepth 100000 in
set_option maxHeartbeats 8000000 in
theorem lapart_3 (b b2 : Bool) (A A2 : Option Addr) (n n2 c c2 : Nat) (x x2 : Int) (w : World) (x0 : -9223372036854775808 ≤ x) (x1 : x ≤ 9223372036854775807) (y0 : -9223372036854775808 ≤ x2) (y1 : x2 ≤ 9223372036854775807) (a1 : x ≤ 1099511627776) (a2 : x2 ≤ 1099511627776) (h : x < -1099511627776) :
    Calls Tryz.prog 37 #[dyV b A n c x, dyV b2 A2 n2 c2 x2] w fun e w' => e = .returned (.bool true) ∧ Below w.heap.size w w' := by
  have PB := Blk.new w [.bool b, .slice A n c, .int .i64 x] 24
  have QB := Blk.new (w.alloc (.cells #[.bool b, .slice A n c, .int .i64 x] 24)) [.bool b2, .slice A2 n2 c2, .int .i64 x2] 24
  simp only [World.size_alloc] at QB
  replace PB := Blk.alloc PB (.cells #[.bool b2, .slice A2 n2 c2, .int .i64 x2] 24)
  have bw : Below w.heap.size w ((w.alloc (.cells #[.bool b, .slice A n c, .int .i64 x] 24)).alloc (.cells #[.bool b2, .slice A2 n2 c2, .int .i64 x2] 24)) := by go_grown
  have PB_0 := Blk.cell PB 0 rfl
  have PB_1 := Blk.cell PB 1 rfl
  have PB_2 := Blk.cell PB 2 rfl
  have PB_f0 := Blk.free PB 0
  have PB_f1 := Blk.free PB 1
  have PB_f2 := Blk.free PB 2
  have QB_0 := Blk.cell QB 0 rfl
  have QB_1 := Blk.cell QB 1 rfl
  have QB_2 := Blk.cell QB 2 rfl
  have QB_f0 := Blk.free QB 0
  have QB_f1 := Blk.free QB 1
  have QB_f2 := Blk.free QB 2
  have k0 : decide (1099511627776 < x) = false := by simp; omega
  have k1 : decide (1099511627776 < x2) = false := by simp; omega
  have k2 : decide (x < -1099511627776) = true := by simp; omega
  go_enter Tryz.func37, Tryz.ntmps37
  go_wp2_with fail
  go_ret
  exact ⟨rfl, by go_grown⟩

set_option maxRecDepth 100000 in
set_option maxHeartbeats 8000000 in
theorem lapart_4 (b b2 : Bool) (A A2 : Option Addr) (n n2 c c2 : Nat) (x x2 : Int) (w : World) (x0 : -9223372036854775808 ≤ x) (x1 : x ≤ 9223372036854775807) (y0 : -9223372036854775808 ≤ x2) (y1 : x2 ≤ 9223372036854775807) (a1 : x ≤ 1099511627776) (a2 : x2 ≤ 1099511627776) (a3 : -1099511627776 ≤ x) (h : x2 < -1099511627776) :
    Calls Tryz.prog 37 #[dyV b A n c x, dyV b2 A2 n2 c2 x2] w fun e w' => e = .returned (.bool true) ∧ Below w.heap.size w w' := by
  have PB := Blk.new w [.bool b, .slice A n c, .int .i64 x] 24
  have QB := Blk.new (w.alloc (.cells #[.bool b, .slice A n c, .int .i64 x] 24)) [.bool b2, .slice A2 n2 c2, .int .i64 x2] 24
  simp only [World.size_alloc] at QB
  replace PB := Blk.alloc PB (.cells #[.bool b2, .slice A2 n2 c2, .int .i64 x2] 24)
  have bw : Below w.heap.size w ((w.alloc (.cells #[.bool b, .slice A n c, .int .i64 x] 24)).alloc (.cells #[.bool b2, .slice A2 n2 c2, .int .i64 x2] 24)) := by go_grown
  have PB_0 := Blk.cell PB 0 rfl
  have PB_1 := Blk.cell PB 1 rfl
  have PB_2 := Blk.cell PB 2 rfl
  have PB_f0 := Blk.free PB 0
  have PB_f1 := Blk.free PB 1
  have PB_f2 := Blk.free PB 2
  have QB_0 := Blk.cell QB 0 rfl
  have QB_1 := Blk.cell QB 1 rfl
  have QB_2 := Blk.cell QB 2 rfl
  have QB_f0 := Blk.free QB 0
  have QB_f1 := Blk.free QB 1
  have QB_f2 := Blk.free QB 2
  have k0 : decide (1099511627776 < x) = false := by simp; omega
  have k1 : decide (1099511627776 < x2) = false := by simp; omega
  have k2 : decide (x < -1099511627776) = false := by simp; omega
  have k3 : decide (x2 < -1099511627776) = true := by simp; omega
  go_enter Tryz.func37, Tryz.ntmps37
  go_wp2_with fail
  go_ret
  exact ⟨rfl, by go_grown⟩

set_option maxRecDepth 100000 in
set_option maxHeartbeats 8000000 in
theorem lapart_5 (b b2 : Bool) (A A2 : Option Addr) (n n2 c c2 : Nat) (x x2 : Int) (w : World) (a1 : x ≤ 1099511627776) (a2 : x2 ≤ 1099511627776) (a3 : -1099511627776 ≤ x) (a4 : -1099511627776 ≤ x2) (h : 6000 < x - x2) (h2 : x - x2 < 300000) :
    Calls Tryz.prog 37 #[dyV b A n c x, dyV b2 A2 n2 c2 x2] w fun e w' => e = .returned (.bool true) ∧ Below w.heap.size w w' := by
  have PB := Blk.new w [.bool b, .slice A n c, .int .i64 x] 24
  have QB := Blk.new (w.alloc (.cells #[.bool b, .slice A n c, .int .i64 x] 24)) [.bool b2, .slice A2 n2 c2, .int .i64 x2] 24
  simp only [World.size_alloc] at QB
  replace PB := Blk.alloc PB (.cells #[.bool b2, .slice A2 n2 c2, .int .i64 x2] 24)
  have bw : Below w.heap.size w ((w.alloc (.cells #[.bool b, .slice A n c, .int .i64 x] 24)).alloc (.cells #[.bool b2, .slice A2 n2 c2, .int .i64 x2] 24)) := by go_grown
  have PB_0 := Blk.cell PB 0 rfl
  have PB_1 := Blk.cell PB 1 rfl
  have PB_2 := Blk.cell PB 2 rfl
  have PB_f0 := Blk.free PB 0
  have PB_f1 := Blk.free PB 1
  have PB_f2 := Blk.free PB 2
  have QB_0 := Blk.cell QB 0 rfl
  have QB_1 := Blk.cell QB 1 rfl
  have QB_2 := Blk.cell QB 2 rfl
  have QB_f0 := Blk.free QB 0
  have QB_f1 := Blk.free QB 1
  have QB_f2 := Blk.free QB 2
  have k0 : decide (1099511627776 < x) = false := by simp; omega
  have k1 : decide (1099511627776 < x2) = false := by simp; omega
  have k2 : decide (x < -1099511627776) = false := by simp; omega
  have k3 : decide (x2 < -1099511627776) = false := by simp; omega
  have k4 : decide (6000 < x - x2) = true := by simp; omega
  have k5 : decide (x - x2 < 300000) = true := by simp; omega
  go_enter Tryz.func37, Tryz.ntmps37
  go_wp2_with fail
  go_ret
  exact ⟨rfl, by go_grown⟩

set_option maxRecDepth 100000 in
set_option maxHeartbeats 8000000 in
theorem lapart_6 (b b2 : Bool) (A A2 : Option Addr) (n n2 c c2 : Nat) (x x2 : Int) (w : World) (a1 : x ≤ 1099511627776) (a2 : x2 ≤ 1099511627776) (a3 : -1099511627776 ≤ x) (a4 : -1099511627776 ≤ x2) (h : 6000 < x2 - x) (h2 : x2 - x < 300000) :
    Calls Tryz.prog 37 #[dyV b A n c x, dyV b2 A2 n2 c2 x2] w fun e w' => e = .returned (.bool true) ∧ Below w.heap.size w w' := by
  have PB := Blk.new w [.bool b, .slice A n c, .int .i64 x] 24
  have QB := Blk.new (w.alloc (.cells #[.bool b, .slice A n c, .int .i64 x] 24)) [.bool b2, .slice A2 n2 c2, .int .i64 x2] 24
  simp only [World.size_alloc] at QB
  replace PB := Blk.alloc PB (.cells #[.bool b2, .slice A2 n2 c2, .int .i64 x2] 24)
  have bw : Below w.heap.size w ((w.alloc (.cells #[.bool b, .slice A n c, .int .i64 x] 24)).alloc (.cells #[.bool b2, .slice A2 n2 c2, .int .i64 x2] 24)) := by go_grown
  have PB_0 := Blk.cell PB 0 rfl
  have PB_1 := Blk.cell PB 1 rfl
  have PB_2 := Blk.cell PB 2 rfl
  have PB_f0 := Blk.free PB 0
  have PB_f1 := Blk.free PB 1
  have PB_f2 := Blk.free PB 2
  have QB_0 := Blk.cell QB 0 rfl
  have QB_1 := Blk.cell QB 1 rfl
  have QB_2 := Blk.cell QB 2 rfl
  have QB_f0 := Blk.free QB 0
  have QB_f1 := Blk.free QB 1
  have QB_f2 := Blk.free QB 2
  have k0 : decide (1099511627776 < x) = false := by simp; omega
  have k1 : decide (1099511627776 < x2) = false := by simp; omega
  have k2 : decide (x < -1099511627776) = false := by simp; omega
  have k3 : decide (x2 < -1099511627776) = false := by simp; omega
  have k4 : decide (6000 < x - x2) = false := by simp; omega
  have k5 : decide (6000 < x2 - x) = true := by simp; omega
  have k6 : decide (x2 - x < 300000) = true := by simp; omega
  go_enter Tryz.func37, Tryz.ntmps37
  go_wp2_with fail
  go_ret
  exact ⟨rfl, by go_grown⟩

set_option maxRecDepth 100000 in
set_option maxHeartbeats 8000000 in
theorem lapart_7 (b b2 : Bool) (A A2 : Option Addr) (n n2 c c2 : Nat) (x x2 : Int) (w : World) (a1 : x ≤ 1099511627776) (a2 : x2 ≤ 1099511627776) (a3 : -1099511627776 ≤ x) (a4 : -1099511627776 ≤ x2) (h : x - x2 ≤ 6000) (h2 : x2 - x ≤ 6000) :
    Calls Tryz.prog 37 #[dyV b A n c x, dyV b2 A2 n2 c2 x2] w fun e w' => e = .returned (.bool false) ∧ Below w.heap.size w w' := by
  have PB := Blk.new w [.bool b, .slice A n c, .int .i64 x] 24
  have QB := Blk.new (w.alloc (.cells #[.bool b, .slice A n c, .int .i64 x] 24)) [.bool b2, .slice A2 n2 c2, .int .i64 x2] 24
  simp only [World.size_alloc] at QB
  replace PB := Blk.alloc PB (.cells #[.bool b2, .slice A2 n2 c2, .int .i64 x2] 24)
  have bw : Below w.heap.size w ((w.alloc (.cells #[.bool b, .slice A n c, .int .i64 x] 24)).alloc (.cells #[.bool b2, .slice A2 n2 c2, .int .i64 x2] 24)) := by go_grown
  have PB_0 := Blk.cell PB 0 rfl
  have PB_1 := Blk.cell PB 1 rfl
  have PB_2 := Blk.cell PB 2 rfl
  have PB_f0 := Blk.free PB 0
  have PB_f1 := Blk.free PB 1
  have PB_f2 := Blk.free PB 2
  have QB_0 := Blk.cell QB 0 rfl
  have QB_1 := Blk.cell QB 1 rfl
  have QB_2 := Blk.cell QB 2 rfl
  have QB_f0 := Blk.free QB 0
  have QB_f1 := Blk.free QB 1
  have QB_f2 := Blk.free QB 2
  have k0 : decide (1099511627776 < x) = false := by simp; omega
  have k1 : decide (1099511627776 < x2) = false := by simp; omega
  have k2 : decide (x < -1099511627776) = false := by simp; omega
  have k3 : decide (x2 < -1099511627776) = false := by simp; omega
  have k4 : decide (6000 < x - x2) = false := by simp; omega
  have k5 : decide (6000 < x2 - x) = false := by simp; omega
  go_enter Tryz.func37, Tryz.ntmps37
  go_wp2_with fail
  go_ret
  exact ⟨rfl, by go_grown⟩

set_option maxRecDepth 100000 in
set_option maxHeartbeats 8000000 in
theorem lapart_8 (b b2 : Bool) (A A2 : Option Addr) (n n2 c c2 : Nat) (x x2 : Int) (w : World) (a1 : x ≤ 1099511627776) (a2 : x2 ≤ 1099511627776) (a3 : -1099511627776 ≤ x) (a4 : -1099511627776 ≤ x2) (h : 300000 ≤ x - x2) :
    Calls Tryz.prog 37 #[dyV b A n c x, dyV b2 A2 n2 c2 x2] w fun e w' => e = .returned (.bool false) ∧ Below w.heap.size w w' := by
  have PB := Blk.new w [.bool b, .slice A n c, .int .i64 x] 24
  have QB := Blk.new (w.alloc (.cells #[.bool b, .slice A n c, .int .i64 x] 24)) [.bool b2, .slice A2 n2 c2, .int .i64 x2] 24
  simp only [World.size_alloc] at QB
  replace PB := Blk.alloc PB (.cells #[.bool b2, .slice A2 n2 c2, .int .i64 x2] 24)
  have bw : Below w.heap.size w ((w.alloc (.cells #[.bool b, .slice A n c, .int .i64 x] 24)).alloc (.cells #[.bool b2, .slice A2 n2 c2, .int .i64 x2] 24)) := by go_grown
  have PB_0 := Blk.cell PB 0 rfl
  have PB_1 := Blk.cell PB 1 rfl
  have PB_2 := Blk.cell PB 2 rfl
  have PB_f0 := Blk.free PB 0
  have PB_f1 := Blk.free PB 1
  have PB_f2 := Blk.free PB 2
  have QB_0 := Blk.cell QB 0 rfl
  have QB_1 := Blk.cell QB 1 rfl
  have QB_2 := Blk.cell QB 2 rfl
  have QB_f0 := Blk.free QB 0
  have QB_f1 := Blk.free QB 1
  have QB_f2 := Blk.free QB 2
  have k0 : decide (1099511627776 < x) = false := by simp; omega
  have k1 : decide (1099511627776 < x2) = false := by simp; omega
  have k2 : decide (x < -1099511627776) = false := by simp; omega
  have k3 : decide (x2 < -1099511627776) = false := by simp; omega
  have k4 : decide (6000 < x - x2) = true := by simp; omega
  have k5 : decide (x - x2 < 300000) = false := by simp; omega
  have k6 : decide (6000 < x2 - x) = false := by simp; omega
  go_enter Tryz.func37, Tryz.ntmps37
  go_wp2_with fail
  go_ret
  exact ⟨rfl, by go_grown⟩

set_option maxRecDepth 100000 in
set_option maxHeartbeats 8000000 in
theorem lapart_9 (b b2 : Bool) (A A2 : Option Addr) (n n2 c c2 : Nat) (x x2 : Int) (w : World) (a1 : x ≤ 1099511627776) (a2 : x2 ≤ 1099511627776) (a3 : -1099511627776 ≤ x) (a4 : -1099511627776 ≤ x2) (h : 300000 ≤ x2 - x) :
    Calls Tryz.prog 37 #[dyV b A n c x, dyV b2 A2 n2 c2 x2] w fun e w' => e = .returned (.bool false) ∧ Below w.heap.size w w' := by
  have PB := Blk.new w [.bool b, .slice A n c, .int .i64 x] 24
  have QB := Blk.new (w.alloc (.cells #[.bool b, .slice A n c, .int .i64 x] 24)) [.bool b2, .slice A2 n2 c2, .int .i64 x2] 24
  simp only [World.size_alloc] at QB
  replace PB := Blk.alloc PB (.cells #[.bool b2, .slice A2 n2 c2, .int .i64 x2] 24)
  have bw : Below w.heap.size w ((w.alloc (.cells #[.bool b, .slice A n c, .int .i64 x] 24)).alloc (.cells #[.bool b2, .slice A2 n2 c2, .int .i64 x2] 24)) := by go_grown
  have PB_0 := Blk.cell PB 0 rfl
  have PB_1 := Blk.cell PB 1 rfl
  have PB_2 := Blk.cell PB 2 rfl
  have PB_f0 := Blk.free PB 0
  have PB_f1 := Blk.free PB 1
  have PB_f2 := Blk.free PB 2
  have QB_0 := Blk.cell QB 0 rfl
  have QB_1 := Blk.cell QB 1 rfl
  have QB_2 := Blk.cell QB 2 rfl
  have QB_f0 := Blk.free QB 0
  have QB_f1 := Blk.free QB 1
  have QB_f2 := Blk.free QB 2
  have k0 : decide (1099511627776 < x) = false := by simp; omega
  have k1 : decide (1099511627776 < x2) = false := by simp; omega
  have k2 : decide (x < -1099511627776) = false := by simp; omega
  have k3 : decide (x2 < -1099511627776) = false := by simp; omega
  have k4 : decide (6000 < x - x2) = false := by simp; omega
  have k5 : decide (6000 < x2 - x) = true := by simp; omega
  have k6 : decide (x2 - x < 300000) = false := by simp; omega
  go_enter Tryz.func37, Tryz.ntmps37
  go_wp2_with fail
  go_ret
  exact ⟨rfl, by go_grown⟩


theorem lapart_any (b b2 : Bool) (A A2 : Option Addr) (n n2 c c2 : Nat) (x x2 : Int)  (x0 : -9223372036854775808 ≤ x) (x1 : x ≤ 9223372036854775807) (y0 : -9223372036854775808 ≤ x2) (y1 : x2 ≤ 9223372036854775807)  : (∀ w : World, Calls Tryz.prog 37 #[dyV b A n c x, dyV b2 A2 n2 c2 x2] w fun e w' => e = .returned (.bool true) ∧ Below w.heap.size w w') ∨ (((x - x2 ≤ 6000 ∧ x2 - x ≤ 6000) ∨ 300000 ≤ x - x2 ∨ 300000 ≤ x2 - x) ∧ ∀ w : World, Calls Tryz.prog 37 #[dyV b A n c x, dyV b2 A2 n2 c2 x2] w fun e w' => e = .returned (.bool false) ∧ Below w.heap.size w w') := by
  by_cases h1 : 1099511627776 < x
  · exact .inl fun w => lapart_1 b b2 A A2 n n2 c c2 x x2 w x0 x1 y0 y1 h1
  · by_cases h2 : 1099511627776 < x2
    · exact .inl fun w => lapart_2 b b2 A A2 n n2 c c2 x x2 w x0 x1 y0 y1 (by omega) h2
    · by_cases h3 : x < -1099511627776
      · exact .inl fun w => lapart_3 b b2 A A2 n n2 c c2 x x2 w x0 x1 y0 y1 (by omega) (by omega) h3
      · by_cases h4 : x2 < -1099511627776
        · exact .inl fun w => lapart_4 b b2 A A2 n n2 c c2 x x2 w x0 x1 y0 y1 (by omega) (by omega) (by omega) h4
        · by_cases h5 : 6000 < x - x2 ∧ x - x2 < 300000
          · exact .inl fun w => lapart_5 b b2 A A2 n n2 c c2 x x2 w (by omega) (by omega) (by omega) (by omega) h5.1 h5.2
          · by_cases h6 : 6000 < x2 - x ∧ x2 - x < 300000
            · exact .inl fun w => lapart_6 b b2 A A2 n n2 c c2 x x2 w (by omega) (by omega) (by omega) (by omega) h6.1 h6.2
            · by_cases h7 : 300000 ≤ x - x2
              · exact .inr ⟨.inr (.inl h7), fun w => lapart_8 b b2 A A2 n n2 c c2 x x2 w (by omega) (by omega) (by omega) (by omega) h7⟩
              · by_cases h8 : 300000 ≤ x2 - x
                · exact .inr ⟨.inr (.inr h8), fun w => lapart_9 b b2 A A2 n n2 c c2 x x2 w (by omega) (by omega) (by omega) (by omega) h8⟩
                · exact .inr ⟨.inl ⟨by omega, by omega⟩, fun w => lapart_7 b b2 A A2 n n2 c c2 x x2 w (by omega) (by omega) (by omega) (by omega) (by omega) (by omega)⟩
end
end Go.Proofs.YtknomchkfamajaaGreatDoor
