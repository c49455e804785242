/-
  Layer 3, walks, part fourteen: Float, Half, Whole, Of. (Written by wip/tools/gen_dyr.py.)
-/
import Derived.Test.YtfjellhbcjnjkaaGreatDoorSDyQ
import Derived.Test.YtfjellhbcjnjkaaGreatDoorSDyO
namespace Go.Proofs.YtfjellhbcjnjkaaGreatDoor
open Go.RowKit Go.Bw
set_option linter.unusedVariables false
set_option linter.unusedSimpArgs false

section
variable {b : Bool} {A : Option Addr} {n c : Nat} {x : Int} {l : List Int} {w : World}
set_option maxRecDepth 100000 in
set_option maxHeartbeats 4000000 in
theorem handed_float (h : Lv w A n c l) (hn : n ≤ 4096) (hT : Tab w) (ho : okE x = true) :
    Calls Tryz.prog 113 #[dyV b A n c x, .func (.func 114) #[] #[]] w fun e w' => e = .returned (.tuple #[.float .f64 (fw (nfl b (val 18446744073709551616 l) x)), .int .i64 0]) ∧ Below w.heap.size w w' := by
  have PB := Blk.new w [.bool b, .slice A n c, .int .i64 x] 35
  have bw : Below w.heap.size w (w.alloc (.cells #[.bool b, .slice A n c, .int .i64 x] 35)) := by go_grown
  have PB_0 := Blk.cell PB 0 rfl
  have PB_1 := Blk.cell PB 1 rfl
  have PB_2 := Blk.cell PB 2 rfl
  have PB_f0 := Blk.free PB 0
  have PB_f1 := Blk.free PB 1
  have PB_f2 := Blk.free PB 2
  go_enter Tryz.func113, Tryz.ntmps113
  go_wp2_with fail
  with_reducible refine (dyTaken_yes (b := b) (x := x) (h.on (by go_grown)) hn (hT.onD (by go_grown)) ho).mono ?_
  rintro e w1 ⟨b3, q3, A3, c3, x3, rfl, hd3, m3, hb⟩
  clear PB_0 PB_1 PB_2 PB_f0 PB_f1 PB_f2
  have hs1 := hb.size
  try simp only [World.size_alloc, World.size_setCell] at hs1
  replace bw : Below w.heap.size w w1 := dy_end (by go_grown) hb
  replace PB := Blk.on PB hb
  clear hb
  have PB_0 := Blk.cell PB 0 rfl
  have PB_1 := Blk.cell PB 1 rfl
  have PB_2 := Blk.cell PB 2 rfl
  have PB_f0 := Blk.free PB 0
  have PB_f1 := Blk.free PB 1
  have PB_f2 := Blk.free PB 2
  replace m3 := Lv.put m3 PB (b3) (A3) (q3.length) (c3) (x3)
  replace PB := Dbx.put PB (b3) (A3) (q3.length) (c3) (x3)
  have X3 := exp_bd h hn ho hd3
  go_wp2_with fail
  with_reducible refine (rounded_dn hd3 m3 (hT.onD (by go_grown)) X3.1 X3.2).mono ?_
  rintro e w2 ⟨rfl, hb⟩
  clear PB_0 PB_1 PB_2 PB_f0 PB_f1 PB_f2
  have hs2 := hb.size
  try simp only [World.size_alloc, World.size_setCell] at hs2
  replace bw : Below w.heap.size w w2 := dy_end (by go_grown) hb
  replace m3 := Lv.on m3 hb
  replace PB := Blk.on PB hb
  clear hb
  have PB_0 := Blk.cell PB 0 rfl
  have PB_1 := Blk.cell PB 1 rfl
  have PB_2 := Blk.cell PB 2 rfl
  have PB_f0 := Blk.free PB 0
  have PB_f1 := Blk.free PB 1
  have PB_f2 := Blk.free PB 2
  go_wp2_with fail
  go_ret2
  exact ⟨rfl, by go_grown⟩

set_option maxRecDepth 100000 in
set_option maxHeartbeats 4000000 in
theorem dFloat_yes (h : Lv w A n c l) (hn : n ≤ 4096) (hT : Tab w) (ho : okE x = true) :
    Calls Tryz.prog 74 #[dyV b A n c x] w fun e w' => e = .returned (.tuple #[.float .f64 (fw (nfl b (val 18446744073709551616 l) x)), .int .i64 0]) ∧ Below w.heap.size w w' := by
  have PB := Blk.new w [.bool b, .slice A n c, .int .i64 x] 35
  have bw : Below w.heap.size w (w.alloc (.cells #[.bool b, .slice A n c, .int .i64 x] 35)) := by go_grown
  have PB_0 := Blk.cell PB 0 rfl
  have PB_1 := Blk.cell PB 1 rfl
  have PB_2 := Blk.cell PB 2 rfl
  have PB_f0 := Blk.free PB 0
  have PB_f1 := Blk.free PB 1
  have PB_f2 := Blk.free PB 2
  go_enter Tryz.func74, Tryz.ntmps74
  go_wp2_with fail
  with_reducible refine (handed_float (b := b) (x := x) (h.on (by go_grown)) hn (hT.onD (by go_grown)) ho).mono ?_
  rintro e w1 ⟨rfl, hb⟩
  clear PB_0 PB_1 PB_2 PB_f0 PB_f1 PB_f2
  have hs1 := hb.size
  try simp only [World.size_alloc, World.size_setCell] at hs1
  replace bw : Below w.heap.size w w1 := dy_end (by go_grown) hb
  replace PB := Blk.on PB hb
  clear hb
  have PB_0 := Blk.cell PB 0 rfl
  have PB_1 := Blk.cell PB 1 rfl
  have PB_2 := Blk.cell PB 2 rfl
  have PB_f0 := Blk.free PB 0
  have PB_f1 := Blk.free PB 1
  have PB_f2 := Blk.free PB 2
  go_wp2_with fail
  go_ret2
  exact ⟨rfl, by go_grown⟩


theorem of_lv (v : Int) (w : World) (h0 : 0 ≤ v) (h1 : v < 18446744073709551616) : Calls Tryz.prog 112 #[.int .u64 v] w (NewV v w) := (ofMade v w h0 h1).mono fun e w' h => h.newV
theorem len_of_val {s : List Int} {v : Int} (h : Lim 18446744073709551616 s) (hn : Normal s) (hv : val 18446744073709551616 s = v) (h1 : v < 18446744073709551616) : s.length ≤ 4096 := by
  have := length_le_of_lt (b := 18446744073709551616) (by omega) h hn (k := 1) (by rw [hv, Int.pow_succ, Int.pow_zero, Int.one_mul]; exact h1)
  omega
theorem dparts_yes (y : Int) (h0 : 0 ≤ y) (h1 : y ≤ 18446744073709551615) (hc : cls y ≤ 3) (w : World) : Calls Tryz.prog 110 #[.int .u64 y] w fun e w' => e = .returned (.tuple #[partsV (pneg y) (pman y) (pexp y), .int .i64 0]) ∧ Below w.heap.size w w' := by
  refine (parts_any y h0 h1 w).mono ?_
  rintro e w' ⟨rfl, hb⟩
  exact ⟨by unfold partsR; rw [if_pos hc], hb⟩
theorem dparts_no (y : Int) (h0 : 0 ≤ y) (h1 : y ≤ 18446744073709551615) (hc : 3 < cls y) (w : World) : Calls Tryz.prog 110 #[.int .u64 y] w fun e w' => e = .returned (.tuple #[partsV false 0 0, .int .i64 2]) ∧ Below w.heap.size w w' := by
  refine (parts_any y h0 h1 w).mono ?_
  rintro e w' ⟨rfl, hb⟩
  exact ⟨by unfold partsR; rw [if_neg (by omega)], hb⟩
theorem of_fin (y : Nat) (hn : y ≤ 18446744073709551615) (hc : cls (y : Int) ≤ 3) (w : World) :
    Calls Tryz.prog 41 #[.float .f64 y] w fun e w' => e = .returned (.int .u64 (y : Int)) ∧ w = w' := by
  have := ofBany y hn w
  unfold one at this
  rw [if_neg (by omega)] at this
  exact this
theorem one_inf (y : Int) (h : 3 < cls y) : 3 < cls (one y) := by
  unfold one
  split
  · decide
  · exact h
theorem one_bd (y : Nat) (hn : y ≤ 18446744073709551615) : 0 ≤ one (y : Int) ∧ one (y : Int) ≤ 18446744073709551615 := by
  unfold one
  split
  · decide
  · omega
theorem dpman_bd (y : Int) : 0 ≤ pman y ∧ pman y < 18446744073709551616 := by
  have := frc_bd y
  unfold pman
  split <;> omega
theorem dpexp_bd (y : Int) : -1100 ≤ pexp y ∧ pexp y ≤ 1100 := by
  have := fld_bd y
  unfold pexp
  repeat' split
  all_goals omega
set_option maxRecDepth 100000 in
set_option maxHeartbeats 4000000 in
theorem dOf_no (y : Nat) (hn : y ≤ 18446744073709551615) (hc : 3 < cls (y : Int)) (w : World) :
    Calls Tryz.prog 73 #[.float .f64 y] w (DyK zeroN 2 w) := by
  have DB := Blk.new w [.bool false, .slice none 0 0, .int .i64 0] 35
  have bw : Below w.heap.size w (w.alloc (.cells #[.bool false, .slice none 0 0, .int .i64 0] 35)) := by go_grown
  have DB_0 := Blk.cell DB 0 rfl
  have DB_1 := Blk.cell DB 1 rfl
  have DB_2 := Blk.cell DB 2 rfl
  have DB_f0 := Blk.free DB 0
  have DB_f1 := Blk.free DB 1
  have DB_f2 := Blk.free DB 2
  obtain ⟨i0, i1⟩ := one_bd y hn
  have I9 := one_inf (y : Int) hc
  go_enter Tryz.func73, Tryz.ntmps73
  go_wp2_with fail
  with_reducible refine (ofBany y hn _).mono ?_
  rintro e w0 ⟨rfl, rfl⟩
  go_wp2_with fail
  with_reducible refine (dparts_no _ i0 i1 I9 _).mono ?_
  rintro e w1 ⟨rfl, hb⟩
  clear DB_0 DB_1 DB_2 DB_f0 DB_f1 DB_f2
  have hs1 := hb.size
  try simp only [World.size_alloc, World.size_setCell] at hs1
  replace bw : Below w.heap.size w w1 := dy_end (by go_grown) hb
  replace DB := Blk.on DB hb
  clear hb
  have DB_0 := Blk.cell DB 0 rfl
  have DB_1 := Blk.cell DB 1 rfl
  have DB_2 := Blk.cell DB 2 rfl
  have DB_f0 := Blk.free DB 0
  have DB_f1 := Blk.free DB 1
  have DB_f2 := Blk.free DB 2
  replace DB := Blk.alloc DB (.cells #[.bool false, .int .u64 0, .int .i64 0] 95)
  have RB := Blk.new w1 [.bool false, .int .u64 0, .int .i64 0] 95
  have DB_v0_0 := Blk.cell DB 0 rfl
  have DB_v0_1 := Blk.cell DB 1 rfl
  have DB_v0_2 := Blk.cell DB 2 rfl
  have DB_v0_f0 := Blk.free DB 0
  have DB_v0_f1 := Blk.free DB 1
  have DB_v0_f2 := Blk.free DB 2
  have RB_0 := Blk.cell RB 0 rfl
  have RB_1 := Blk.cell RB 1 rfl
  have RB_2 := Blk.cell RB 2 rfl
  have RB_f0 := Blk.free RB 0
  have RB_f1 := Blk.free RB 1
  have RB_f2 := Blk.free RB 2
  go_wp2_with fail
  refine bodyPost_ret (v := .tuple #[dyV false none 0 0 0, .int .i64 2]) (by simp [results, Tryz.results73, go_sem, DB_0, DB_1, DB_2, DB_f0, DB_f1, DB_f2, DB_v0_0, DB_v0_1, DB_v0_2, DB_v0_f0, DB_v0_f1, DB_v0_f2]) rfl ?_
  exact ⟨false, [], none, 0, 0, rfl, Dn.zero, lv_nil _, by go_grown⟩

set_option maxRecDepth 100000 in
set_option maxHeartbeats 4000000 in
theorem dOf_yes (y : Nat) (hn : y ≤ 18446744073709551615) (hc : cls (y : Int) ≤ 3) (hT : Tab w) :
    Calls Tryz.prog 73 #[.float .f64 y] w (DyK (nfl (pneg y) (pman y) (pexp y)) 0 w) := by
  have DB := Blk.new w [.bool false, .slice none 0 0, .int .i64 0] 35
  have bw : Below w.heap.size w (w.alloc (.cells #[.bool false, .slice none 0 0, .int .i64 0] 35)) := by go_grown
  have DB_0 := Blk.cell DB 0 rfl
  have DB_1 := Blk.cell DB 1 rfl
  have DB_2 := Blk.cell DB 2 rfl
  have DB_f0 := Blk.free DB 0
  have DB_f1 := Blk.free DB 1
  have DB_f2 := Blk.free DB 2
  have B9 := dpman_bd (y : Int)
  have C9 := dpexp_bd (y : Int)
  have PY := fun W => dparts_yes (y : Int) (by omega) (by omega) hc W
  generalize pneg (y : Int) = pn, pman (y : Int) = pm, pexp (y : Int) = pe at B9 C9 PY ⊢
  go_enter Tryz.func73, Tryz.ntmps73
  go_wp2_with fail
  with_reducible refine (of_fin y hn hc _).mono ?_
  rintro e w0 ⟨rfl, rfl⟩
  go_wp2_with fail
  with_reducible refine (PY _).mono ?_
  rintro e w1 ⟨rfl, hb⟩
  clear DB_0 DB_1 DB_2 DB_f0 DB_f1 DB_f2
  have hs1 := hb.size
  try simp only [World.size_alloc, World.size_setCell] at hs1
  replace bw : Below w.heap.size w w1 := dy_end (by go_grown) hb
  replace DB := Blk.on DB hb
  clear hb
  have DB_0 := Blk.cell DB 0 rfl
  have DB_1 := Blk.cell DB 1 rfl
  have DB_2 := Blk.cell DB 2 rfl
  have DB_f0 := Blk.free DB 0
  have DB_f1 := Blk.free DB 1
  have DB_f2 := Blk.free DB 2
  replace DB := Blk.alloc DB (.cells #[.bool pn, .int .u64 pm, .int .i64 pe] 95)
  have RB := Blk.new w1 [.bool pn, .int .u64 pm, .int .i64 pe] 95
  have DB_v0_0 := Blk.cell DB 0 rfl
  have DB_v0_1 := Blk.cell DB 1 rfl
  have DB_v0_2 := Blk.cell DB 2 rfl
  have DB_v0_f0 := Blk.free DB 0
  have DB_v0_f1 := Blk.free DB 1
  have DB_v0_f2 := Blk.free DB 2
  have RB_0 := Blk.cell RB 0 rfl
  have RB_1 := Blk.cell RB 1 rfl
  have RB_2 := Blk.cell RB 2 rfl
  have RB_f0 := Blk.free RB 0
  have RB_f1 := Blk.free RB 1
  have RB_f2 := Blk.free RB 2
  go_wp2_with fail
  obtain ⟨r, hr⟩ : ∃ r, r = w1.heap.size := ⟨_, rfl⟩
  refine wp_region_held_drew (S := fun w' : World => w'.cell? ⟨w1.heap.size, 0, none⟩ = some (.bool pn) ∧ w'.cell? ⟨w1.heap.size, 1, none⟩ = some (.int .u64 pm) ∧ w'.cell? ⟨w1.heap.size, 2, none⟩ = some (.int .i64 pe)) (by kernel_rfl) ⟨RB_0, RB_1, RB_2⟩ (fun hHeld => ?_)
  refine wpAnyH_take (i := 0) (v := ?v0) rfl (by kernel_rfl) (by kernel_rfl) (by kernel_rfl) (fun _ _ _ h => h) (Or.inl ⟨by rfl, ?hy0⟩) (by assumption) ?rest0
  case hy0 => (intro w hSw; (try dsimp only at hSw); go_simp; try with_reducible rfl)
  simp only [Act.put, List.setIfInBounds_toArray, List.set_cons_zero, List.set_cons_succ, List.getElem_toArray, List.getElem_cons_zero, List.getElem_cons_succ]
  refine wpAnyH_take (i := 1) (v := ?v1) rfl (by kernel_rfl) (by kernel_rfl) (by kernel_rfl) (fun _ _ _ h => h) (Or.inl ⟨by rfl, ?hy1⟩) (by assumption) ?rest1
  case hy1 => (intro w hSw; (try dsimp only at hSw); go_simp; try with_reducible rfl)
  simp only [Act.put, List.setIfInBounds_toArray, List.set_cons_zero, List.set_cons_succ, List.getElem_toArray, List.getElem_cons_zero, List.getElem_cons_succ]
  refine wpAnyH_take (i := 2) (v := ?v2) rfl (by kernel_rfl) (by kernel_rfl) (by kernel_rfl) (fun _ _ _ h => h) (Or.inl ⟨by rfl, ?hy2⟩) (by assumption) ?rest2
  case hy2 => (intro w hSw; (try dsimp only at hSw); go_simp; try with_reducible rfl)
  simp only [Act.put, List.setIfInBounds_toArray, List.set_cons_zero, List.set_cons_succ, List.getElem_toArray, List.getElem_cons_zero, List.getElem_cons_succ]
  refine wpAnyH_take (i := 3) (v := ?v3) rfl (by kernel_rfl) (by kernel_rfl) (by kernel_rfl) (fun _ _ _ h => h) (Or.inl ⟨by rfl, ?hy3⟩) (by assumption) ?rest3
  case hy3 => (intro w hSw; (try dsimp only at hSw); go_simp; try with_reducible rfl)
  simp only [Act.put, List.setIfInBounds_toArray, List.set_cons_zero, List.set_cons_succ, List.getElem_toArray, List.getElem_cons_zero, List.getElem_cons_succ]
  refine wpAnyH_take (i := 5) (v := ?v5) rfl (by kernel_rfl) (by kernel_rfl) (by kernel_rfl) (fun _ _ _ h => h) (Or.inl ⟨by rfl, ?hy5⟩) (by assumption) ?rest5
  case hy5 => (intro w hSw; (try dsimp only at hSw); go_simp; try with_reducible rfl)
  simp only [Act.put, List.setIfInBounds_toArray, List.set_cons_zero, List.set_cons_succ, List.getElem_toArray, List.getElem_cons_zero, List.getElem_cons_succ]
  refine wpAnyH_take (i := 6) (v := ?v6) rfl (by kernel_rfl) (by kernel_rfl) (by kernel_rfl) (fun _ _ _ h => h) (Or.inl ⟨by rfl, ?hy6⟩) (by assumption) ?rest6
  case hy6 => (intro w hSw; (try dsimp only at hSw); go_simp; try with_reducible rfl)
  simp only [Act.put, List.setIfInBounds_toArray, List.set_cons_zero, List.set_cons_succ, List.getElem_toArray, List.getElem_cons_zero, List.getElem_cons_succ]
  refine wpAnyH_ready (rs := [4]) (by kernel_rfl) (by simp) ?_
  refine AllReadyH.cons rfl (fun K hK => ?_) AllReadyH.nil
  go_simp
  with_reducible refine (of_lv pm _ B9.1 B9.2).mono ?_
  rintro e w2 ⟨s2, A2, c2, rfl, n2, v2, m2, hb2⟩
  have hs2 := hb2.size
  simp only [World.size_alloc, World.size_drew] at hs2
  replace bw : Below w.heap.size w w2 := dy_end (by go_grown) hb2
  replace DB := (Blk.drew DB).on hb2
  replace hT := hT.onD bw
  refine hK.out _ _ (⟨(hb2.cell (p := ⟨w1.heap.size, 0, none⟩) (by first | omega | (dsimp only; omega) | (simp; omega) | (simp; done))).trans hHeld.1, (hb2.cell (p := ⟨w1.heap.size, 1, none⟩) (by first | omega | (dsimp only; omega) | (simp; omega) | (simp; done))).trans hHeld.2.1, (hb2.cell (p := ⟨w1.heap.size, 2, none⟩) (by first | omega | (dsimp only; omega) | (simp; omega) | (simp; done))).trans hHeld.2.2⟩) (fun hHeld => ?_)
  clear hK K
  try simp only [Act.put, List.setIfInBounds_toArray, List.set_cons_zero, List.set_cons_succ, List.getElem_toArray, List.getElem_cons_zero, List.getElem_cons_succ]
  refine wpAnyH_take (i := 7) (v := ?v7) rfl (by kernel_rfl) (by kernel_rfl) (by kernel_rfl) (fun _ _ _ h => h) (Or.inl ⟨by rfl, ?hy7⟩) (by assumption) ?rest7
  case hy7 => (intro w hSw; (try dsimp only at hSw); go_simp; try with_reducible rfl)
  simp only [Act.put, List.setIfInBounds_toArray, List.set_cons_zero, List.set_cons_succ, List.getElem_toArray, List.getElem_cons_zero, List.getElem_cons_succ]
  refine wpAnyH_ready (rs := [8]) (by kernel_rfl) (by simp) ?_
  refine AllReadyH.cons rfl (fun K hK => ?_) AllReadyH.nil
  go_simp
  with_reducible refine (normal_any (b := pn) (x := pe) m2 (len_of_val (Lv.lim m2) n2 v2.out B9.2) hT (by omega) (by omega)).mono ?_
  rintro e w3 ⟨b3, q3, A3, c3, x3, rfl, hd3, m3, hb3⟩
  have hs3 := hb3.size
  replace bw : Below w.heap.size w w3 := dy_end bw hb3
  replace DB := Blk.on DB hb3
  rw [v2.out] at hd3
  refine hK.out _ _ (⟨(hb3.cell (p := ⟨w1.heap.size, 0, none⟩) (by first | omega | (dsimp only; omega) | (simp; omega) | (simp; done))).trans hHeld.1, (hb3.cell (p := ⟨w1.heap.size, 1, none⟩) (by first | omega | (dsimp only; omega) | (simp; omega) | (simp; done))).trans hHeld.2.1, (hb3.cell (p := ⟨w1.heap.size, 2, none⟩) (by first | omega | (dsimp only; omega) | (simp; omega) | (simp; done))).trans hHeld.2.2⟩) (fun hHeld => ?_)
  clear hK K
  try simp only [Act.put, List.setIfInBounds_toArray, List.set_cons_zero, List.set_cons_succ, List.getElem_toArray, List.getElem_cons_zero, List.getElem_cons_succ]
  clear hb2 hb3
  clear DB_0 DB_1 DB_2 DB_f0 DB_f1 DB_f2 DB_v0_0 DB_v0_1 DB_v0_2 DB_v0_f0 DB_v0_f1 DB_v0_f2
  clear RB_0 RB_1 RB_2 RB_f0 RB_f1 RB_f2
  have DB_0 := Blk.cell DB 0 rfl
  have DB_1 := Blk.cell DB 1 rfl
  have DB_2 := Blk.cell DB 2 rfl
  have DB_f0 := Blk.free DB 0
  have DB_f1 := Blk.free DB 1
  have DB_f2 := Blk.free DB 2
  refine wpAnyH_ready (rs := [9]) (by kernel_rfl) (by simp) ?_
  refine AllReadyH.cons rfl (fun K hK => ?_) AllReadyH.nil
  go_simp
  refine hK.out _ _ (⟨put_cell hHeld.1 (by dsimp only; omega) _ _ _, put_cell hHeld.2.1 (by dsimp only; omega) _ _ _, put_cell hHeld.2.2 (by dsimp only; omega) _ _ _⟩) (fun hHeld => ?_)
  clear hK K
  try simp only [Act.put, List.setIfInBounds_toArray, List.set_cons_zero, List.set_cons_succ, List.getElem_toArray, List.getElem_cons_zero, List.getElem_cons_succ]
  refine wpAnyH_take (i := 10) (v := ?v10) rfl (by kernel_rfl) (by kernel_rfl) (by kernel_rfl) (fun _ _ _ h => h) (Or.inl ⟨by rfl, ?hy10⟩) (by assumption) ?rest10
  case hy10 => (intro w hSw; (try dsimp only at hSw); go_simp; try with_reducible rfl)
  simp only [Act.put, List.setIfInBounds_toArray, List.set_cons_zero, List.set_cons_succ, List.getElem_toArray, List.getElem_cons_zero, List.getElem_cons_succ]
  refine wpAnyH_done (by kernel_rfl) ?_ _
  replace m3 := m3.put DB b3 A3 q3.length c3 x3
  clear DB_0 DB_1 DB_2 DB_f0 DB_f1 DB_f2
  replace DB := Dbx.put DB b3 A3 q3.length c3 x3
  clear hHeld
  have DB_0 := Blk.cell DB 0 rfl
  have DB_1 := Blk.cell DB 1 rfl
  have DB_2 := Blk.cell DB 2 rfl
  have DB_f0 := Blk.free DB 0
  have DB_f1 := Blk.free DB 1
  have DB_f2 := Blk.free DB 2
  go_wp2_with fail
  refine bodyPost_ret (v := .tuple #[dyV b3 A3 q3.length c3 x3, .int .i64 0]) (by simp [results, Tryz.results73, go_sem, DB_0, DB_1, DB_2]) rfl ?_
  exact ⟨b3, q3, A3, c3, x3, rfl, hd3, m3, by go_grown⟩

end
end Go.Proofs.YtfjellhbcjnjkaaGreatDoor
