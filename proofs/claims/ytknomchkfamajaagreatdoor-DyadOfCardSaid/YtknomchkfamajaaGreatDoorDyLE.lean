/-
  Layer 3, the laws: every float has a number. (Written by a script of wip/tools.)
-/
import Derived.Test.YtknomchkfamajaaGreatDoorDyLB
import Derived.Test.YtknomchkfamajaaGreatDoorDNB4
namespace Go.Proofs.YtknomchkfamajaaGreatDoor
open Go.RowKit Go.Sort Go.Bw
set_option linter.unusedVariables false
set_option linter.unusedSimpArgs false

section
variable {b : Bool} {A : Option Addr} {n c : Nat} {x : Int} {l : List Int} {w : World}

def ofN (y : Nat) : Nf := nfl (pneg (y : Int)) (pman (y : Int)) (pexp (y : Int))
theorem ofN_okE (y : Nat) : okE (ofN y).exp = true := by
  have hb := dpman_bd (y : Int)
  have he := dpexp_bd (y : Int)
  have h := nfl_place (k := 64) (pneg (y : Int)) (x := pexp (y : Int)) hb.1 (by have := hb.2; omega)
  unfold ofN
  exact okE_true (by omega) (by omega)
/-- the float that is nearest a float's number is the float, but for a zero's sign -/
theorem fw_of (y : Nat) (hn : y ≤ 18446744073709551615) (hc : cls (y : Int) ≤ 3) : fw (ofN y) = if pman (y : Int) = 0 then 0 else y := by
  have hb := pman_bd (y : Int)
  unfold ofN
  by_cases h0 : pman (y : Int) = 0
  · rw [if_pos h0, h0, nfl_zero]; exact fw_zero
  · rw [if_neg h0]
    have hp : 0 < pman (y : Int) := by omega
    obtain ⟨m, hm⟩ : ∃ m : Nat, pman (y : Int) = m := ⟨_, (Int.toNat_of_nonneg hb.1).symm⟩
    have e := nfl_pos (b := pneg (y : Int)) (e := pexp (y : Int)) hp
    have hmt : (pman (y : Int)).toNat = m := by omega
    rw [hmt] at e
    obtain ⟨o1, o2⟩ := odd_is (n := m) (by omega)
    have hs : odd m * 2 ^ tz m = m := o2.symm
    have ho : 0 < odd m := by omega
    have h1 : odd m * 2 ^ tz m < 18446744073709551616 := by rw [hs]; omega
    have h2 : odd m < 18446744073709551616 := Nat.lt_of_le_of_lt (Nat.le_mul_of_pos_right _ (Nat.pow_pos (by omega))) h1
    have f := fw_rnd (d := nfl (pneg (y : Int)) (pman (y : Int)) (pexp (y : Int))) (by rw [e]; show odd m ≠ 0; omega) 0 (by rw [e]; simpa using h2) (.inl rfl)
    rw [e] at f ⊢
    have f2 : ((fw ⟨pneg (y : Int), odd m, pexp (y : Int) + tz m⟩ : Nat) : Int) = signW (pneg (y : Int)) (rnd (odd m : Int) (pexp (y : Int) + tz m) false) := by
      simpa [Nat.mod_one] using f
    rw [rnd_shift (odd m) (tz m) _ ho h1, hs, ← hm, parts_rnd (y : Int) (by omega) (by omega) hc, word_sign (y : Int) (by omega) (by omega)] at f2
    exact Int.ofNat_inj.1 f2
theorem order_of (y : Nat) (hn : y ≤ 18446744073709551615) (hc : cls (y : Int) ≤ 3) : (FloatKind.f64.format.order (fw (ofN y)) y == some .eq) = true := by
  rw [fw_of y hn hc]
  split
  · rename_i h0
    have h1 := (pman_zero hc).1 h0
    have : y = 0 ∨ y = 9223372036854775808 := by
      have hm := mag_eq (y : Int) (by omega) (by omega)
      have hf := fld_bd (y : Int)
      have hr := frc_bd (y : Int)
      unfold cls at h1
      unfold mag at hm
      repeat' split at h1
      all_goals omega
    rcases this with rfl | rfl
    · decide
    · decide
  · have := float_nan (y : Int) (by omega) (by omega)
    rw [Int.toNat_natCast] at this
    have h2 : (cls (y : Int) == 5) = false := by simp; omega
    rw [h2] at this
    simpa using this
set_option maxRecDepth 100000 in
set_option maxHeartbeats 8000000 in
theorem of_no (y : Nat) (hn : y ≤ 18446744073709551615) (hc : 3 < cls (y : Int)) (hT : Tab w) (hP : PowT w) :
    Calls Tryz.prog 4 #[.int .u64 (y : Int)] w fun e w' => e = .returned (.bool true) ∧ Below w.heap.size w w' := by
  have hx : ∀ W : World, (callFunc 28 #[.int .u64 (y : Int)]).run Tryz.prog W = .ok (.value (.float .f64 y)) W := fun W => by have := run_float64frombits (y : Int) W; rwa [Int.toNat_natCast] at this
  have fin : ∀ W : World, Calls Tryz.prog 30 #[.int .u64 (y : Int)] W fun e w' => e = .returned (.bool false) ∧ W = w' := fun W => by
    have := rfinite_any (y : Int) (by omega) (by omega) W
    rwa [decide_eq_false (by omega)] at this
  have bw : Below w.heap.size w w := Below.refl _ _
  go_enter Tryz.func4, Tryz.ntmps4
  go_wp2_with fail
  with_reducible refine ((dOf_no y hn hc _).mono (fun _ _ => DyK.zero)).mono ?_
  rintro e w1 ⟨A2, c2, rfl, m2, hb⟩
  have hs1 := hb.size
  try simp only [World.size_alloc, World.size_setCell] at hs1
  replace bw : Below w.heap.size w w1 := dy_end (by go_grown) hb
  clear hb
  replace m2 := Lv.alloc m2 (.cells #[.bool false, .slice A2 0 c2, .int .i64 0] 24)
  have HB := Blk.new w1 [.bool false, .slice A2 0 c2, .int .i64 0] 24
  have HB_0 := Blk.cell HB 0 rfl
  have HB_1 := Blk.cell HB 1 rfl
  have HB_2 := Blk.cell HB 2 rfl
  have HB_f0 := Blk.free HB 0
  have HB_f1 := Blk.free HB 1
  have HB_f2 := Blk.free HB 2
  go_wp2_with fail
  with_reducible refine (fin _).mono ?_
  rintro e v0 ⟨rfl, rfl⟩
  go_wp2_with fail
  with_reducible refine (rSame_any (b := false) (x := 0) m2 (lv_nil _)).mono ?_
  rintro e w2 ⟨rfl, hb⟩
  clear HB_0 HB_1 HB_2 HB_f0 HB_f1 HB_f2
  have hs2 := hb.size
  try simp only [World.size_alloc, World.size_setCell] at hs2
  replace bw : Below w.heap.size w w2 := dy_end (by go_grown) hb
  replace m2 := Lv.on m2 hb
  replace HB := Blk.on HB hb
  clear hb
  have HB_0 := Blk.cell HB 0 rfl
  have HB_1 := Blk.cell HB 1 rfl
  have HB_2 := Blk.cell HB 2 rfl
  have HB_f0 := Blk.free HB 0
  have HB_f1 := Blk.free HB 1
  have HB_f2 := Blk.free HB 2
  go_wp2_with fail
  with_reducible refine (lnum_any (2) _).mono ?_
  rintro e v3 ⟨rfl, rfl⟩
  go_wp2_with fail
  with_reducible refine (dknown_any _ (hT.onD (by go_grown)) (hP.on (by go_grown))).mono ?_
  rintro e w4 ⟨rfl, hb⟩
  clear HB_0 HB_1 HB_2 HB_f0 HB_f1 HB_f2
  have hs4 := hb.size
  try simp only [World.size_alloc, World.size_setCell] at hs4
  replace bw : Below w.heap.size w w4 := dy_end (by go_grown) hb
  replace m2 := Lv.on m2 hb
  replace HB := Blk.on HB hb
  clear hb
  have HB_0 := Blk.cell HB 0 rfl
  have HB_1 := Blk.cell HB 1 rfl
  have HB_2 := Blk.cell HB 2 rfl
  have HB_f0 := Blk.free HB 0
  have HB_f1 := Blk.free HB 1
  have HB_f2 := Blk.free HB 2
  go_wp2_with fail
  go_ret
  exact ⟨rfl, by go_grown⟩

set_option maxRecDepth 100000 in
set_option maxHeartbeats 8000000 in
theorem of_yes (y : Nat) (hn : y ≤ 18446744073709551615) (hc : cls (y : Int) ≤ 3) (hT : Tab w) (hP : PowT w) :
    Calls Tryz.prog 4 #[.int .u64 (y : Int)] w fun e w' => e = .returned (.bool true) ∧ Below w.heap.size w w' := by
  have hx : ∀ W : World, (callFunc 28 #[.int .u64 (y : Int)]).run Tryz.prog W = .ok (.value (.float .f64 y)) W := fun W => by have := run_float64frombits (y : Int) W; rwa [Int.toNat_natCast] at this
  have fin : ∀ W : World, Calls Tryz.prog 30 #[.int .u64 (y : Int)] W fun e w' => e = .returned (.bool true) ∧ W = w' := fun W => by
    have := rfinite_any (y : Int) (by omega) (by omega) W
    rwa [decide_eq_true (by omega)] at this
  have hE := order_of y hn hc
  have hO := ofN_okE y
  have p2 := fun W (tt : Tab W) => dOf_yes y hn hc tt
  have p3 := fun W => rWord_any (y : Int) (by omega) (by omega) hc W
  change ∀ W (tt : Tab W), Calls _ _ _ _ (DyK (ofN y) 0 _) at p2
  change ∀ W, Calls _ _ _ _ (DyP (ofN y) _) at p3
  generalize ofN y = d at p2 p3 hE hO
  obtain ⟨F, hF⟩ : ∃ F, fw d = F := ⟨_, rfl⟩
  rw [hF] at hE
  have bw : Below w.heap.size w w := Below.refl _ _
  go_enter Tryz.func4, Tryz.ntmps4
  go_wp2_with fail
  with_reducible refine (p2 _ (hT.onD (by go_grown))).mono ?_
  rintro e w1 ⟨b2, q2, A2, c2, x2, rfl, hd2, m2, hb⟩
  have hs1 := hb.size
  try simp only [World.size_alloc, World.size_setCell] at hs1
  replace bw : Below w.heap.size w w1 := dy_end (by go_grown) hb
  clear hb
  replace m2 := Lv.alloc m2 (.cells #[.bool b2, .slice A2 q2.length c2, .int .i64 x2] 24)
  have HB := Blk.new w1 [.bool b2, .slice A2 q2.length c2, .int .i64 x2] 24
  have HB_0 := Blk.cell HB 0 rfl
  have HB_1 := Blk.cell HB 1 rfl
  have HB_2 := Blk.cell HB 2 rfl
  have HB_f0 := Blk.free HB 0
  have HB_f1 := Blk.free HB 1
  have HB_f2 := Blk.free HB 2
  go_wp2_with fail
  with_reducible refine (fin _).mono ?_
  rintro e v0 ⟨rfl, rfl⟩
  have p4 := fun W (mm : Lv W A2 q2.length c2 q2) (tt : Tab W) => dFloat_dn hd2 mm tt (okE_dn hd2 hO)
  rw [hF] at p4
  clear hF
  go_wp2_with fail
  with_reducible refine (p4 _ m2 (hT.onD (by go_grown))).mono ?_
  rintro e w2 ⟨rfl, hb⟩
  clear HB_0 HB_1 HB_2 HB_f0 HB_f1 HB_f2
  have hs2 := hb.size
  try simp only [World.size_alloc, World.size_setCell] at hs2
  replace bw : Below w.heap.size w w2 := dy_end (by go_grown) hb
  replace m2 := Lv.on m2 hb
  replace HB := Blk.on HB hb
  clear hb
  have HB_0 := Blk.cell HB 0 rfl
  have HB_1 := Blk.cell HB 1 rfl
  have HB_2 := Blk.cell HB 2 rfl
  have HB_f0 := Blk.free HB 0
  have HB_f1 := Blk.free HB 1
  have HB_f2 := Blk.free HB 2
  go_wp2_with fail
  have w00 : IntKind.i64.wrap 0 = 0 := by rfl
  clear HB_0 HB_1 HB_2 HB_f0 HB_f1 HB_f2
  have HB_0 := Blk.cell HB 0 rfl
  have HB_1 := Blk.cell HB 1 rfl
  have HB_2 := Blk.cell HB 2 rfl
  have HB_f0 := Blk.free HB 0
  have HB_f1 := Blk.free HB 1
  have HB_f2 := Blk.free HB 2
  refine wp_region_held_drew (S := fun w9 : World => Below (w2).heap.size (w2) w9) (by kernel_rfl) ((Below.refl _ _).drew) (fun hHeld => ?_)
  refine wpAnyH_take (i := 0) (v := ?v0) rfl (by kernel_rfl) (by kernel_rfl) (by kernel_rfl) (fun _ _ _ h => h) (Or.inl ⟨by rfl, ?hy0⟩) (by assumption) ?rest0
  case hy0 => (intro w hSw; have c0 := below_cell HB_0 hSw; have c1 := below_cell HB_1 hSw; have c2 := below_cell HB_2 hSw; clear hSw; go_simp; try with_reducible rfl)
  simp only [Act.put, List.setIfInBounds_toArray, List.set_cons_zero, List.set_cons_succ, List.getElem_toArray, List.getElem_cons_zero, List.getElem_cons_succ]
  refine wpAnyH_take (i := 1) (v := ?v1) rfl (by kernel_rfl) (by kernel_rfl) (by kernel_rfl) (fun _ _ _ h => h) (Or.inl ⟨by rfl, ?hy1⟩) (by assumption) ?rest1
  case hy1 => (intro w hSw; clear hSw; go_simp; try with_reducible rfl)
  simp only [Act.put, List.setIfInBounds_toArray, List.set_cons_zero, List.set_cons_succ, List.getElem_toArray, List.getElem_cons_zero, List.getElem_cons_succ]
  refine wpAnyH_ready (rs := [2]) (by kernel_rfl) (by simp) ?_
  refine AllReadyH.cons rfl (fun K hK => ?_) AllReadyH.nil
  go_simp
  with_reducible refine (p3 _).mono ?_
  rintro e u2 ⟨b5, q5, A5, c5, x5, rfl, hd5, m5, hb⟩
  refine hK.out _ _ (dy_end hHeld hb) (fun hH => ?_)
  clear hK K hHeld hb
  have hHeld := hH
  clear hH
  try simp only [Act.put, List.setIfInBounds_toArray, List.set_cons_zero, List.set_cons_succ, List.getElem_toArray, List.getElem_cons_zero, List.getElem_cons_succ]
  obtain ⟨z1, z2, z3⟩ := Dn.uniq hd5 hd2 m5.lim m2.lim
  subst z1 z2 z3
  refine wpAnyH_ready (rs := [3]) (by kernel_rfl) (by simp) ?_
  refine AllReadyH.cons rfl (fun K hK => ?_) AllReadyH.nil
  go_simp
  with_reducible refine (rSame_any (m2.on hHeld) m5).mono ?_
  rintro e u3 ⟨rfl, hb⟩
  refine hK.out _ _ (dy_end hHeld hb) (fun hH => ?_)
  clear hK K hHeld hb
  have hHeld := hH
  clear hH
  try simp only [Act.put, List.setIfInBounds_toArray, List.set_cons_zero, List.set_cons_succ, List.getElem_toArray, List.getElem_cons_zero, List.getElem_cons_succ]
  refine wpAnyH_take (i := 4) (v := ?v4) rfl (by kernel_rfl) (by kernel_rfl) (by kernel_rfl) (fun _ _ _ h => h) (Or.inl ⟨by rfl, ?hy4⟩) (by assumption) ?rest4
  case hy4 => (intro w hSw; clear hSw; go_simp; try with_reducible rfl)
  simp only [Act.put, List.setIfInBounds_toArray, List.set_cons_zero, List.set_cons_succ, List.getElem_toArray, List.getElem_cons_zero, List.getElem_cons_succ]
  refine wpAnyH_take (i := 5) (v := ?v5) rfl (by kernel_rfl) (by kernel_rfl) (by kernel_rfl) (fun _ _ _ h => h) (Or.inl ⟨by rfl, ?hy5⟩) (by assumption) ?rest5
  case hy5 => (intro w hSw; clear hSw; go_simp; try with_reducible rfl)
  simp only [Act.put, List.setIfInBounds_toArray, List.set_cons_zero, List.set_cons_succ, List.getElem_toArray, List.getElem_cons_zero, List.getElem_cons_succ]
  refine wpAnyH_take (i := 7) (v := ?v7) rfl (by kernel_rfl) (by kernel_rfl) (by kernel_rfl) (fun _ _ _ h => h) (Or.inl ⟨by rfl, ?hy7⟩) (by assumption) ?rest7
  case hy7 => (intro w hSw; clear hSw; go_simp; try with_reducible rfl)
  simp only [Act.put, List.setIfInBounds_toArray, List.set_cons_zero, List.set_cons_succ, List.getElem_toArray, List.getElem_cons_zero, List.getElem_cons_succ]
  refine wpAnyH_ready (rs := [6]) (by kernel_rfl) (by simp) ?_
  refine AllReadyH.cons rfl (fun K hK => ?_) AllReadyH.nil
  go_simp
  with_reducible refine (lnum_any 0 _).mono ?_
  rintro e u6 ⟨rfl, rfl⟩
  refine hK.out _ _ (hHeld) (fun hH => ?_)
  clear hK K hHeld
  have hHeld := hH
  clear hH
  try simp only [Act.put, List.setIfInBounds_toArray, List.set_cons_zero, List.set_cons_succ, List.getElem_toArray, List.getElem_cons_zero, List.getElem_cons_succ]
  refine wpAnyH_ready (rs := [8]) (by kernel_rfl) (by simp) ?_
  refine AllReadyH.cons rfl (fun K hK => ?_) AllReadyH.nil
  go_simp
  with_reducible refine (lnum_any 0 _).mono ?_
  rintro e u8 ⟨rfl, rfl⟩
  refine hK.out _ _ (hHeld) (fun hH => ?_)
  clear hK K hHeld
  have hHeld := hH
  clear hH
  try simp only [Act.put, List.setIfInBounds_toArray, List.set_cons_zero, List.set_cons_succ, List.getElem_toArray, List.getElem_cons_zero, List.getElem_cons_succ]
  refine wpAnyH_take (i := 9) (v := ?v9) rfl (by kernel_rfl) (by kernel_rfl) (by kernel_rfl) (fun _ _ _ h => h) (Or.inl ⟨by rfl, ?hy9⟩) (by assumption) ?rest9
  case hy9 => (intro w hSw; clear hSw; go_simp; try with_reducible rfl)
  simp only [Act.put, List.setIfInBounds_toArray, List.set_cons_zero, List.set_cons_succ, List.getElem_toArray, List.getElem_cons_zero, List.getElem_cons_succ]
  refine wpAnyH_take (i := 10) (v := ?v10) rfl (by kernel_rfl) (by kernel_rfl) (by kernel_rfl) (fun _ _ _ h => h) (Or.inl ⟨by rfl, ?hy10⟩) (by assumption) ?rest10
  case hy10 => (intro w hSw; clear hSw; go_simp; try with_reducible rfl)
  simp only [Act.put, List.setIfInBounds_toArray, List.set_cons_zero, List.set_cons_succ, List.getElem_toArray, List.getElem_cons_zero, List.getElem_cons_succ]
  refine wpAnyH_take (i := 11) (v := ?v11) rfl (by kernel_rfl) (by kernel_rfl) (by kernel_rfl) (fun _ _ _ h => h) (Or.inl ⟨by rfl, ?hy11⟩) (by assumption) ?rest11
  case hy11 => (intro w hSw; clear hSw; go_simp; try with_reducible rfl)
  simp only [Act.put, List.setIfInBounds_toArray, List.set_cons_zero, List.set_cons_succ, List.getElem_toArray, List.getElem_cons_zero, List.getElem_cons_succ]
  refine wpAnyH_take (i := 12) (v := ?v12) rfl (by kernel_rfl) (by kernel_rfl) (by kernel_rfl) (fun _ _ _ h => h) (Or.inl ⟨by rfl, ?hy12⟩) (by assumption) ?rest12
  case hy12 => (intro w hSw; clear hSw; go_simp; try with_reducible rfl)
  simp only [Act.put, List.setIfInBounds_toArray, List.set_cons_zero, List.set_cons_succ, List.getElem_toArray, List.getElem_cons_zero, List.getElem_cons_succ]
  refine wpAnyH_take (i := 13) (v := ?v13) rfl (by kernel_rfl) (by kernel_rfl) (by kernel_rfl) (fun _ _ _ h => h) (Or.inl ⟨by rfl, ?hy13⟩) (by assumption) ?rest13
  case hy13 => (intro w hSw; clear hSw; go_simp; try with_reducible rfl)
  simp only [Act.put, List.setIfInBounds_toArray, List.set_cons_zero, List.set_cons_succ, List.getElem_toArray, List.getElem_cons_zero, List.getElem_cons_succ]
  refine wpAnyH_take (i := 14) (v := ?v14) rfl (by kernel_rfl) (by kernel_rfl) (by kernel_rfl) (fun _ _ _ h => h) (Or.inl ⟨by rfl, ?hy14⟩) (by assumption) ?rest14
  case hy14 => (intro w hSw; clear hSw; go_simp; try with_reducible rfl)
  simp only [Act.put, List.setIfInBounds_toArray, List.set_cons_zero, List.set_cons_succ, List.getElem_toArray, List.getElem_cons_zero, List.getElem_cons_succ]
  refine wpAnyH_take (i := 15) (v := ?v15) rfl (by kernel_rfl) (by kernel_rfl) (by kernel_rfl) (fun _ _ _ h => h) (Or.inl ⟨by rfl, ?hy15⟩) (by assumption) ?rest15
  case hy15 => (intro w hSw; clear hSw; go_simp; try with_reducible rfl)
  simp only [Act.put, List.setIfInBounds_toArray, List.set_cons_zero, List.set_cons_succ, List.getElem_toArray, List.getElem_cons_zero, List.getElem_cons_succ]
  refine wpAnyH_take (i := 16) (v := ?v16) rfl (by kernel_rfl) (by kernel_rfl) (by kernel_rfl) (fun _ _ _ h => h) (Or.inl ⟨by rfl, ?hy16⟩) (by assumption) ?rest16
  case hy16 => (intro w hSw; clear hSw; go_simp; try with_reducible rfl)
  simp only [Act.put, List.setIfInBounds_toArray, List.set_cons_zero, List.set_cons_succ, List.getElem_toArray, List.getElem_cons_zero, List.getElem_cons_succ]
  refine wpAnyH_take (i := 17) (v := ?v17) rfl (by kernel_rfl) (by kernel_rfl) (by kernel_rfl) (fun _ _ _ h => h) (Or.inl ⟨by rfl, ?hy17⟩) (by assumption) ?rest17
  case hy17 => (intro w hSw; clear hSw; go_simp; try with_reducible rfl)
  simp only [Act.put, List.setIfInBounds_toArray, List.set_cons_zero, List.set_cons_succ, List.getElem_toArray, List.getElem_cons_zero, List.getElem_cons_succ]
  refine wpAnyH_ready (rs := [18]) (by kernel_rfl) (by simp) ?_
  refine AllReadyH.cons rfl (fun K hK => ?_) AllReadyH.nil
  go_simp
  with_reducible refine (dknown_any _ (hT.onD (dy_end bw hHeld)) (hP.on (dy_end bw hHeld))).mono ?_
  rintro e u18 ⟨rfl, hb⟩
  refine hK.out _ _ (dy_end hHeld hb) (fun hH => ?_)
  clear hK K hHeld hb
  have hHeld := hH
  clear hH
  try simp only [Act.put, List.setIfInBounds_toArray, List.set_cons_zero, List.set_cons_succ, List.getElem_toArray, List.getElem_cons_zero, List.getElem_cons_succ]
  refine wpAnyH_take (i := 19) (v := ?v19) rfl (by kernel_rfl) (by kernel_rfl) (by kernel_rfl) (fun _ _ _ h => h) (Or.inl ⟨by rfl, ?hy19⟩) (by assumption) ?rest19
  case hy19 => (intro w hSw; clear hSw; go_simp; try with_reducible rfl)
  simp only [Act.put, List.setIfInBounds_toArray, List.set_cons_zero, List.set_cons_succ, List.getElem_toArray, List.getElem_cons_zero, List.getElem_cons_succ]
  refine wpAnyH_take (i := 20) (v := ?v20) rfl (by kernel_rfl) (by kernel_rfl) (by kernel_rfl) (fun _ _ _ h => h) (Or.inl ⟨by rfl, ?hy20⟩) (by assumption) ?rest20
  case hy20 => (intro w hSw; clear hSw; go_simp; try with_reducible rfl)
  simp only [Act.put, List.setIfInBounds_toArray, List.set_cons_zero, List.set_cons_succ, List.getElem_toArray, List.getElem_cons_zero, List.getElem_cons_succ]
  refine wpAnyH_done (by kernel_rfl) ?_ _
  go_wp2_with fail
  go_ret
  exact ⟨rfl, dy_end bw hHeld⟩


theorem of_law (a0 : Int) (w : World) (h0 : 0 ≤ a0) (h1 : a0 ≤ 18446744073709551615) (hT : Tab w) (hP : PowT w) :
    Calls Tryz.prog 4 #[.int .u64 a0] w fun e w' => e = .returned (.bool true) ∧ Below w.heap.size w w' := by
  obtain ⟨y, rfl⟩ := Int.eq_ofNat_of_zero_le h0
  rcases Int.lt_or_le 3 (cls (y : Int)) with hc | hc
  · exact of_no y (by omega) hc hT hP
  · exact of_yes y (by omega) hc hT hP
end
end Go.Proofs.YtknomchkfamajaaGreatDoor
