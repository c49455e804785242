/-
  Layer 3, walks, part eleven: sums, differences, products. (Written by wip/tools/gen_dyn.py.)
-/
import Derived.Test.YtmfikppnkjhmjaaGreatDoorTDyM
namespace Go.Proofs.YtmfikppnkjhmjaaGreatDoor
open Go.RowKit Go.Sort
set_option linter.unusedVariables false
set_option linter.unusedSimpArgs false

section
variable {b : Bool} {A : Option Addr} {n c : Nat} {x : Int} {l : List Int} {w : World}
variable {b2 : Bool} {A2 : Option Addr} {n2 c2 : Nat} {x2 : Int} {l2 : List Int}
theorem put_cell {w : World} {p : Addr} {v : Value} {g : Nat} (h : w.cell? p = some v) (hne : p.block ≠ g) (u v' r : Value) :
    (((w.setCell ⟨g, 0, none⟩ u).setCell ⟨g, 1, none⟩ v').setCell ⟨g, 2, none⟩ r).cell? p = some v := by
  have ne : ∀ o, (⟨g, o, none⟩ : Addr) ≠ p := fun o e => hne (by rw [← e])
  rw [World.cell?_setCell_other _ _ _ _ (ne 2), World.cell?_setCell_other _ _ _ _ (ne 1), World.cell?_setCell_other _ _ _ _ (ne 0), h]
theorem mul_man {d d2 : Nf} (hd : Dn b l x d) (hd2 : Dn b2 l2 x2 d2) (hl : Lim 18446744073709551616 l) (hl2 : Lim 18446744073709551616 l2) :
    ansR (!(b == b2)) (val 18446744073709551616 l * val 18446744073709551616 l2) (x + x2) = doneR (mulN d d2) ∧ (val 18446744073709551616 l * val 18446744073709551616 l2 ≠ 0 → val 18446744073709551616 l * val 18446744073709551616 l2 % 2 = 1) := by
  have m1 := hd.man hl
  have m2 := hd2.man hl2
  have v1 := lim_val hl
  have v2 := lim_val hl2
  by_cases h1 : d.man = 0
  · have e1 : val 18446744073709551616 l = 0 := by omega
    rw [e1, Int.zero_mul, ok_zero hd.2.2.2 h1, mulN_zero_left]
    exact ⟨rfl, fun h => absurd rfl h⟩
  · by_cases h2 : d2.man = 0
    · have e1 : val 18446744073709551616 l2 = 0 := by omega
      rw [e1, Int.mul_zero, ok_zero hd2.2.2.2 h2, mulN_zero_right]
      exact ⟨rfl, fun h => absurd rfl h⟩
    · have o1 := ok_odd hd.2.2.2 h1
      have o2 := ok_odd hd2.2.2.2 h2
      have ho : val 18446744073709551616 l * val 18446744073709551616 l2 % 2 = 1 := by
        rw [Int.mul_emod]
        have a1 : val 18446744073709551616 l % 2 = 1 := by omega
        have a2 : val 18446744073709551616 l2 % 2 = 1 := by omega
        rw [a1, a2]
        rfl
      have hp : 0 ≤ val 18446744073709551616 l * val 18446744073709551616 l2 := Int.mul_nonneg v1 v2
      refine ⟨?_, fun _ => ho⟩
      unfold ansR
      rw [if_neg (by omega)]
      congr 1
      have e := mulN_of d.num d.exp d2.num d2.exp
      rw [nf_self hd.2.2.2, nf_self hd2.2.2.2, num_dn hd hl, num_dn hd2 hl2, hd.exp, hd2.exp] at e
      rw [← e, ← nfl_odd (!(b == b2)) (x + x2) ho hp]
      unfold nfl
      congr 1
      cases b <;> cases b2 <;> simp <;> grind
set_option maxRecDepth 100000 in
set_option maxHeartbeats 4000000 in
theorem product_dn (h : Lv w A n c l) (hn : n ≤ 4096) (h2 : Lv w A2 n2 c2 l2) (hn2 : n2 ≤ 4096) {d d2 : Nf} (hd : Dn b l x d) (hd2 : Dn b2 l2 x2 d2) (hv : val 18446744073709551616 l * val 18446744073709551616 l2 < 18446744073709551616 ^ 4096) (x0 : -1048576 ≤ x) (x1 : x ≤ 1048576) (y0 : -1048576 ≤ x2) (y1 : x2 ≤ 1048576) :
    Calls Tryz.prog 33 #[dyV b A n c x, dyV b2 A2 n2 c2 x2] w (DyK (doneR (mulN d d2)).1 (doneR (mulN d d2)).2 w) := by
  have PB := Blk.new w [.bool b, .slice A n c, .int .i64 x] 31
  have QB := Blk.new (w.alloc (.cells #[.bool b, .slice A n c, .int .i64 x] 31)) [.bool b2, .slice A2 n2 c2, .int .i64 x2] 31
  simp only [World.size_alloc] at QB
  replace PB := Blk.alloc PB (.cells #[.bool b2, .slice A2 n2 c2, .int .i64 x2] 31)
  have DB := Blk.new ((w.alloc (.cells #[.bool b, .slice A n c, .int .i64 x] 31)).alloc (.cells #[.bool b2, .slice A2 n2 c2, .int .i64 x2] 31)) [.bool false, .slice none 0 0, .int .i64 0] 31
  simp only [World.size_alloc] at DB
  replace PB := Blk.alloc PB (.cells #[.bool false, .slice none 0 0, .int .i64 0] 31)
  replace QB := Blk.alloc QB (.cells #[.bool false, .slice none 0 0, .int .i64 0] 31)
  have bw : Below w.heap.size w (((w.alloc (.cells #[.bool b, .slice A n c, .int .i64 x] 31)).alloc (.cells #[.bool b2, .slice A2 n2 c2, .int .i64 x2] 31)).alloc (.cells #[.bool false, .slice none 0 0, .int .i64 0] 31)) := by go_grown
  have PB_0 := Blk.cell PB 0 rfl
  have PB_1 := Blk.cell PB 1 rfl
  have PB_2 := Blk.cell PB 2 rfl
  have PB_f0 := Blk.free PB 0
  have PB_f1 := Blk.free PB 1
  have PB_f2 := Blk.free PB 2
  have QB_0 := Blk.cell QB 0 rfl
  have QB_1 := Blk.cell QB 1 rfl
  have QB_2 := Blk.cell QB 2 rfl
  have QB_f0 := Blk.free QB 0
  have QB_f1 := Blk.free QB 1
  have QB_f2 := Blk.free QB 2
  have DB_0 := Blk.cell DB 0 rfl
  have DB_1 := Blk.cell DB 1 rfl
  have DB_2 := Blk.cell DB 2 rfl
  have DB_f0 := Blk.free DB 0
  have DB_f1 := Blk.free DB 1
  have DB_f2 := Blk.free DB 2
  obtain ⟨em, eo⟩ := mul_man hd hd2 h.2.2 h2.2.2
  have EM := Lib.hid em
  have EO := Lib.hid eo
  have HV := Lib.hid hv
  clear em eo hv
  go_enter Tryz.func33, Tryz.ntmps33
  go_wp2_with fail
  with_reducible refine (Mul_val (h.on (by go_grown)) (h2.on (by go_grown)) hn hn2 HV.out).mono ?_
  rintro e w1 ⟨q1, A1, c1, rfl, n1, v1, k1, m1, hb⟩
  clear PB_0 PB_1 PB_2 PB_f0 PB_f1 PB_f2
  clear QB_0 QB_1 QB_2 QB_f0 QB_f1 QB_f2
  clear DB_0 DB_1 DB_2 DB_f0 DB_f1 DB_f2
  have hs1 := hb.size
  try simp only [World.size_alloc, World.size_setCell] at hs1
  replace bw : Below w.heap.size w w1 := dy_end (by go_grown) hb
  replace PB := Blk.on PB hb
  replace QB := Blk.on QB hb
  replace DB := Blk.on DB hb
  clear hb
  have PB_0 := Blk.cell PB 0 rfl
  have PB_1 := Blk.cell PB 1 rfl
  have PB_2 := Blk.cell PB 2 rfl
  have PB_f0 := Blk.free PB 0
  have PB_f1 := Blk.free PB 1
  have PB_f2 := Blk.free PB 2
  have QB_0 := Blk.cell QB 0 rfl
  have QB_1 := Blk.cell QB 1 rfl
  have QB_2 := Blk.cell QB 2 rfl
  have QB_f0 := Blk.free QB 0
  have QB_f1 := Blk.free QB 1
  have QB_f2 := Blk.free QB 2
  have DB_0 := Blk.cell DB 0 rfl
  have DB_1 := Blk.cell DB 1 rfl
  have DB_2 := Blk.cell DB 2 rfl
  have DB_f0 := Blk.free DB 0
  have DB_f1 := Blk.free DB 1
  have DB_f2 := Blk.free DB 2
  have an := fun W (mm : Lv W A1 q1.length c1 q1) => dyAns_any (b := !(b == b2)) (x := x + x2) mm k1 n1 (fun e => by rw [v1.out]; exact EO.out (fun e0 => e (by rw [val_eq_zero (b := 18446744073709551616) (by omega) m1.2.2 n1 (by rw [v1.out, e0])]; rfl)))
  rw [v1.out, EM.out] at an
  go_wp2_with fail
  with_reducible refine (an _ m1).mono ?_
  rintro e w2 ⟨b2, q2, A2, c2, x2, rfl, hd2, m2, hb⟩
  clear PB_0 PB_1 PB_2 PB_f0 PB_f1 PB_f2
  clear QB_0 QB_1 QB_2 QB_f0 QB_f1 QB_f2
  clear DB_0 DB_1 DB_2 DB_f0 DB_f1 DB_f2
  have hs2 := hb.size
  try simp only [World.size_alloc, World.size_setCell] at hs2
  replace bw : Below w.heap.size w w2 := dy_end (by go_grown) hb
  replace m1 := Lv.on m1 hb
  replace PB := Blk.on PB hb
  replace QB := Blk.on QB hb
  replace DB := Blk.on DB hb
  clear hb
  have PB_0 := Blk.cell PB 0 rfl
  have PB_1 := Blk.cell PB 1 rfl
  have PB_2 := Blk.cell PB 2 rfl
  have PB_f0 := Blk.free PB 0
  have PB_f1 := Blk.free PB 1
  have PB_f2 := Blk.free PB 2
  have QB_0 := Blk.cell QB 0 rfl
  have QB_1 := Blk.cell QB 1 rfl
  have QB_2 := Blk.cell QB 2 rfl
  have QB_f0 := Blk.free QB 0
  have QB_f1 := Blk.free QB 1
  have QB_f2 := Blk.free QB 2
  have DB_0 := Blk.cell DB 0 rfl
  have DB_1 := Blk.cell DB 1 rfl
  have DB_2 := Blk.cell DB 2 rfl
  have DB_f0 := Blk.free DB 0
  have DB_f1 := Blk.free DB 1
  have DB_f2 := Blk.free DB 2
  go_wp2_with fail
  refine bodyPost_ret (v := .tuple #[dyV b2 A2 q2.length c2 x2, .int .i64 (doneR (mulN d d2)).2]) (by simp [results, Tryz.results33, go_sem, DB_0, DB_1, DB_2]) rfl ?_
  exact ⟨b2, q2, A2, c2, x2, rfl, hd2, m2.put DB _ _ _ _ _, by go_grown⟩

set_option maxRecDepth 100000 in
set_option maxHeartbeats 4000000 in
theorem subOne_dn (h : Lv w A n c l) (h2 : Lv w A2 n2 c2 l2) (hT : Tab w) {d d2 : Nf} (hd : Dq b l x d) (hd2 : Dq (!b2) l2 x2 d2) (hN : farN d d2 = true ∨ Near d d2) (x0 : -1048576 ≤ x) (x1 : x ≤ 1048576) (y0 : -1048576 ≤ x2) (y1 : x2 ≤ 1048576) :
    Calls Tryz.prog 35 #[dyV b A n c x, dyV b2 A2 n2 c2 x2] w (DyK (addR d d2).1 (addR d d2).2 w) := by
  have PB := Blk.new w [.bool b, .slice A n c, .int .i64 x] 31
  have QB := Blk.new (w.alloc (.cells #[.bool b, .slice A n c, .int .i64 x] 31)) [.bool b2, .slice A2 n2 c2, .int .i64 x2] 31
  simp only [World.size_alloc] at QB
  replace PB := Blk.alloc PB (.cells #[.bool b2, .slice A2 n2 c2, .int .i64 x2] 31)
  have DB := Blk.new ((w.alloc (.cells #[.bool b, .slice A n c, .int .i64 x] 31)).alloc (.cells #[.bool b2, .slice A2 n2 c2, .int .i64 x2] 31)) [.bool false, .slice none 0 0, .int .i64 0] 31
  simp only [World.size_alloc] at DB
  replace PB := Blk.alloc PB (.cells #[.bool false, .slice none 0 0, .int .i64 0] 31)
  replace QB := Blk.alloc QB (.cells #[.bool false, .slice none 0 0, .int .i64 0] 31)
  have bw : Below w.heap.size w (((w.alloc (.cells #[.bool b, .slice A n c, .int .i64 x] 31)).alloc (.cells #[.bool b2, .slice A2 n2 c2, .int .i64 x2] 31)).alloc (.cells #[.bool false, .slice none 0 0, .int .i64 0] 31)) := by go_grown
  have PB_0 := Blk.cell PB 0 rfl
  have PB_1 := Blk.cell PB 1 rfl
  have PB_2 := Blk.cell PB 2 rfl
  have PB_f0 := Blk.free PB 0
  have PB_f1 := Blk.free PB 1
  have PB_f2 := Blk.free PB 2
  have QB_0 := Blk.cell QB 0 rfl
  have QB_1 := Blk.cell QB 1 rfl
  have QB_2 := Blk.cell QB 2 rfl
  have QB_f0 := Blk.free QB 0
  have QB_f1 := Blk.free QB 1
  have QB_f2 := Blk.free QB 2
  have DB_0 := Blk.cell DB 0 rfl
  have DB_1 := Blk.cell DB 1 rfl
  have DB_2 := Blk.cell DB 2 rfl
  have DB_f0 := Blk.free DB 0
  have DB_f1 := Blk.free DB 1
  have DB_f2 := Blk.free DB 2
  go_enter Tryz.func35, Tryz.ntmps35
  go_wp2_with fail
  refine wp_region_held_drew (S := fun w' : World => w'.cell? ⟨w.heap.size, 0, none⟩ = some (.bool b) ∧ w'.cell? ⟨w.heap.size, 1, none⟩ = some (.slice A n c) ∧ w'.cell? ⟨w.heap.size, 2, none⟩ = some (.int .i64 x) ∧ w'.cell? ⟨w.heap.size + 1, 0, none⟩ = some (.bool b2) ∧ w'.cell? ⟨w.heap.size + 1, 1, none⟩ = some (.slice A2 n2 c2) ∧ w'.cell? ⟨w.heap.size + 1, 2, none⟩ = some (.int .i64 x2)) (by kernel_rfl) ⟨PB_0, PB_1, PB_2, QB_0, QB_1, QB_2⟩ (fun hHeld => ?_)
  refine wpAnyH_take (i := 0) (v := ?v0) rfl (by kernel_rfl) (by kernel_rfl) (by kernel_rfl) (fun _ _ _ h => h) (Or.inl ⟨by rfl, ?hy0⟩) (by assumption) ?rest0
  case hy0 => (intro w hSw; (try dsimp only at hSw); go_simp; try with_reducible rfl)
  simp only [Act.put, List.setIfInBounds_toArray, List.set_cons_zero, List.set_cons_succ, List.getElem_toArray, List.getElem_cons_zero, List.getElem_cons_succ]
  refine wpAnyH_take (i := 1) (v := ?v1) rfl (by kernel_rfl) (by kernel_rfl) (by kernel_rfl) (fun _ _ _ h => h) (Or.inl ⟨by rfl, ?hy1⟩) (by assumption) ?rest1
  case hy1 => (intro w hSw; (try dsimp only at hSw); go_simp; try with_reducible rfl)
  simp only [Act.put, List.setIfInBounds_toArray, List.set_cons_zero, List.set_cons_succ, List.getElem_toArray, List.getElem_cons_zero, List.getElem_cons_succ]
  refine wpAnyH_ready (rs := [2]) (by kernel_rfl) (by simp) ?_
  refine AllReadyH.cons rfl (fun K hK => ?_) AllReadyH.nil
  go_simp
  with_reducible refine (dturned_any b2 A2 n2 c2 x2 _).mono ?_
  rintro e w1 ⟨rfl, hb1⟩
  have hs1 := hb1.size
  simp only [World.size_alloc, World.size_drew] at hs1
  have b1 : Below w.heap.size w w1 := dy_end (by go_grown) hb1
  replace DB := (Blk.drew DB).on hb1
  refine hK.out _ _ (⟨(hb1.cell (p := ⟨w.heap.size, 0, none⟩) (by first | omega | (dsimp only; omega) | (simp; omega) | (simp; done))).trans hHeld.1, (hb1.cell (p := ⟨w.heap.size, 1, none⟩) (by first | omega | (dsimp only; omega) | (simp; omega) | (simp; done))).trans hHeld.2.1, (hb1.cell (p := ⟨w.heap.size, 2, none⟩) (by first | omega | (dsimp only; omega) | (simp; omega) | (simp; done))).trans hHeld.2.2.1, (hb1.cell (p := ⟨w.heap.size + 1, 0, none⟩) (by first | omega | (dsimp only; omega) | (simp; omega) | (simp; done))).trans hHeld.2.2.2.1, (hb1.cell (p := ⟨w.heap.size + 1, 1, none⟩) (by first | omega | (dsimp only; omega) | (simp; omega) | (simp; done))).trans hHeld.2.2.2.2.1, (hb1.cell (p := ⟨w.heap.size + 1, 2, none⟩) (by first | omega | (dsimp only; omega) | (simp; omega) | (simp; done))).trans hHeld.2.2.2.2.2⟩) (fun hHeld => ?_)
  clear hK K
  try simp only [Act.put, List.setIfInBounds_toArray, List.set_cons_zero, List.set_cons_succ, List.getElem_toArray, List.getElem_cons_zero, List.getElem_cons_succ]
  refine wpAnyH_ready (rs := [3]) (by kernel_rfl) (by simp) ?_
  refine AllReadyH.cons rfl (fun K hK => ?_) AllReadyH.nil
  go_simp
  with_reducible refine (sum_dq (b := b) (b2 := !b2) (x := x) (x2 := x2) (h.on b1) (h2.on b1) (hT.onD b1) hd hd2 hN x0 x1 y0 y1).mono ?_
  rintro e w2 ⟨b3, q3, A3, c3, x3, rfl, hd3, m3, hb2⟩
  have hs2 := hb2.size
  replace bw : Below w.heap.size w w2 := dy_end b1 hb2
  replace DB := Blk.on DB hb2
  refine hK.out _ _ (⟨(hb2.cell (p := ⟨w.heap.size, 0, none⟩) (by first | omega | (dsimp only; omega) | (simp; omega) | (simp; done))).trans hHeld.1, (hb2.cell (p := ⟨w.heap.size, 1, none⟩) (by first | omega | (dsimp only; omega) | (simp; omega) | (simp; done))).trans hHeld.2.1, (hb2.cell (p := ⟨w.heap.size, 2, none⟩) (by first | omega | (dsimp only; omega) | (simp; omega) | (simp; done))).trans hHeld.2.2.1, (hb2.cell (p := ⟨w.heap.size + 1, 0, none⟩) (by first | omega | (dsimp only; omega) | (simp; omega) | (simp; done))).trans hHeld.2.2.2.1, (hb2.cell (p := ⟨w.heap.size + 1, 1, none⟩) (by first | omega | (dsimp only; omega) | (simp; omega) | (simp; done))).trans hHeld.2.2.2.2.1, (hb2.cell (p := ⟨w.heap.size + 1, 2, none⟩) (by first | omega | (dsimp only; omega) | (simp; omega) | (simp; done))).trans hHeld.2.2.2.2.2⟩) (fun hHeld => ?_)
  clear hK K
  try simp only [Act.put, List.setIfInBounds_toArray, List.set_cons_zero, List.set_cons_succ, List.getElem_toArray, List.getElem_cons_zero, List.getElem_cons_succ]
  clear hb1 hb2 b1
  clear PB_0 PB_1 PB_2 PB_f0 PB_f1 PB_f2
  clear QB_0 QB_1 QB_2 QB_f0 QB_f1 QB_f2
  clear DB_0 DB_1 DB_2 DB_f0 DB_f1 DB_f2
  have DB_0 := Blk.cell DB 0 rfl
  have DB_1 := Blk.cell DB 1 rfl
  have DB_2 := Blk.cell DB 2 rfl
  have DB_f0 := Blk.free DB 0
  have DB_f1 := Blk.free DB 1
  have DB_f2 := Blk.free DB 2
  refine wpAnyH_take (i := 4) (v := ?v4) rfl (by kernel_rfl) (by kernel_rfl) (by kernel_rfl) (fun _ _ _ h => h) (Or.inl ⟨by rfl, ?hy4⟩) (by assumption) ?rest4
  case hy4 => (intro w hSw; (try dsimp only at hSw); go_simp; try with_reducible rfl)
  simp only [Act.put, List.setIfInBounds_toArray, List.set_cons_zero, List.set_cons_succ, List.getElem_toArray, List.getElem_cons_zero, List.getElem_cons_succ]
  refine wpAnyH_take (i := 5) (v := ?v5) rfl (by kernel_rfl) (by kernel_rfl) (by kernel_rfl) (fun _ _ _ h => h) (Or.inl ⟨by rfl, ?hy5⟩) (by assumption) ?rest5
  case hy5 => (intro w hSw; (try dsimp only at hSw); go_simp; try with_reducible rfl)
  simp only [Act.put, List.setIfInBounds_toArray, List.set_cons_zero, List.set_cons_succ, List.getElem_toArray, List.getElem_cons_zero, List.getElem_cons_succ]
  refine wpAnyH_ready (rs := [6]) (by kernel_rfl) (by simp) ?_
  refine AllReadyH.cons rfl (fun K hK => ?_) AllReadyH.nil
  go_simp
  refine hK.out _ _ (⟨put_cell hHeld.1 (by dsimp only; omega) _ _ _, put_cell hHeld.2.1 (by dsimp only; omega) _ _ _, put_cell hHeld.2.2.1 (by dsimp only; omega) _ _ _, put_cell hHeld.2.2.2.1 (by dsimp only; omega) _ _ _, put_cell hHeld.2.2.2.2.1 (by dsimp only; omega) _ _ _, put_cell hHeld.2.2.2.2.2 (by dsimp only; omega) _ _ _⟩) (fun hHeld => ?_)
  clear hK K
  try simp only [Act.put, List.setIfInBounds_toArray, List.set_cons_zero, List.set_cons_succ, List.getElem_toArray, List.getElem_cons_zero, List.getElem_cons_succ]
  refine wpAnyH_take (i := 7) (v := ?v7) rfl (by kernel_rfl) (by kernel_rfl) (by kernel_rfl) (fun _ _ _ h => h) (Or.inl ⟨by rfl, ?hy7⟩) (by assumption) ?rest7
  case hy7 => (intro w hSw; (try dsimp only at hSw); go_simp; try with_reducible rfl)
  simp only [Act.put, List.setIfInBounds_toArray, List.set_cons_zero, List.set_cons_succ, List.getElem_toArray, List.getElem_cons_zero, List.getElem_cons_succ]
  refine wpAnyH_done (by kernel_rfl) ?_ _
  replace m3 := m3.put DB b3 A3 q3.length c3 x3
  clear DB_0 DB_1 DB_2 DB_f0 DB_f1 DB_f2
  replace DB := Dbx.put DB b3 A3 q3.length c3 x3
  clear hHeld
  have DB_0 := Blk.cell DB 0 rfl
  have DB_1 := Blk.cell DB 1 rfl
  have DB_2 := Blk.cell DB 2 rfl
  have DB_f0 := Blk.free DB 0
  have DB_f1 := Blk.free DB 1
  have DB_f2 := Blk.free DB 2
  go_wp2_with fail
  refine bodyPost_ret (v := .tuple #[dyV b3 A3 q3.length c3 x3, .int .i64 (addR d d2).2]) (by simp [results, Tryz.results35, go_sem, DB_0, DB_1, DB_2]) rfl ?_
  exact ⟨b3, q3, A3, c3, x3, rfl, hd3, m3, by go_grown⟩

end
end Go.Proofs.YtmfikppnkjhmjaaGreatDoor
