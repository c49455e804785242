/-
  Layer 8: the law KernelsSteps, two of its paths.
-/
import Derived.Test.YtfelmkkkaphkpaaKpT
namespace Go.Proofs.Ytfelmkkkaphkpaa
open Go.RowKit Go.Bw Go.Sort Go.Shelf
set_option linter.unusedVariables false
set_option linter.unusedSimpArgs false

set_option maxRecDepth 100000 in
set_option maxHeartbeats 8000000 in
theorem KernelsSteps_p1 {w : World} {RX CX : Int} {AX : Option Addr} {nX cX : Nat} {LX : List Int} {RY CY : Int} {AY : Option Addr} {nY cY : Nat} {LY : List Int} {a : Nat} {turned : Bool} (ba : a ≤ 18446744073709551615) (hX : FL w AX nX cX LX) (hY : FL w AY nY cY LY) (b0 : bigM RX CX nX = false) (b1 : bigM RY CY nY = false) (hv : vecM RX CX = true) (hw : vecM RY CY = true) (hn : ((nX : Int) == (nY : Int)) = true) : Calls Try.prog 4 #[.float .f64 a, mV RX CX AX nX cX, mV RY CY AY nY cY, .bool turned] w (Ans w (.bool true)) := by
  have pbX := fun W => big_any RX CX AX nX cX hX.max W
  rw [b0] at pbX
  obtain ⟨zX, eX, uX⟩ := big_is b0
  have HSX := Lib.hid (And.intro zX eX)
  clear b0 zX eX
  have pbY := fun W => big_any RY CY AY nY cY hY.max W
  rw [b1] at pbY
  obtain ⟨zY, eY, uY⟩ := big_is b1
  have HSY := Lib.hid (And.intro zY eY)
  clear b1 zY eY
  have EX := Lib.hid hX.1
  have mxX := hX.max
  have EY := Lib.hid hY.1
  have mxY := hY.max
  have zX := (szB_bd HSX.out.1).1
  obtain ⟨qX, hqX⟩ := Int.eq_ofNat_of_zero_le zX.2.2.1
  have HQX := Lib.hid hqX
  clear zX hqX
  have zY := (szB_bd HSY.out.1).1
  obtain ⟨qY, hqY⟩ := Int.eq_ofNat_of_zero_le zY.2.2.1
  have HQY := Lib.hid hqY
  clear zY hqY
  have hf : (vecM RX CX && vecM RY CY && ((nX : Int) == (nY : Int))) = true := by rw [hv, hw, hn]; rfl
  have HFT := Lib.hid hf
  clear hf
  have HV := Lib.hid hv
  clear hv
  have HVY := Lib.hid hw
  clear hw
  have HN := Lib.hid hn
  clear hn
  have DX := Blk.new w [.int .i64 RX, .int .i64 CX, .slice AX nX cX] 24
  have DY := Blk.new (w.alloc (.cells #[.int .i64 RX, .int .i64 CX, .slice AX nX cX] 24)) [.int .i64 RY, .int .i64 CY, .slice AY nY cY] 24
  replace DX := DX.alloc (.cells #[.int .i64 RY, .int .i64 CY, .slice AY nY cY] 24)
  simp only [World.size_alloc] at DY
  have bz := ((Below.refl _ w).alloc (Nat.le_refl _) (.cells #[.int .i64 RX, .int .i64 CX, .slice AX nX cX] 24)).alloc (by simp <;> omega) (.cells #[.int .i64 RY, .int .i64 CY, .slice AY nY cY] 24)
  have hsz0 : ((w.alloc (.cells #[.int .i64 RX, .int .i64 CX, .slice AX nX cX] 24)).alloc (.cells #[.int .i64 RY, .int .i64 CY, .slice AY nY cY] 24)).heap.size = w.heap.size + 2 := by simp
  have hFX := hX.lo.on bz
  clear hX
  have hFY := hY.lo.on bz
  clear hY
  go_enter Try.func4, Try.ntmps4
  have HM : M4 (((w.alloc (.cells #[.int .i64 RX, .int .i64 CX, .slice AX nX cX] 24)).alloc (.cells #[.int .i64 RY, .int .i64 CY, .slice AY nY cY] 24))) w.heap.size RX CX AX nX cX LX RY CY AY nY cY LY := ⟨DX, DY, hFX, hFY⟩
  clear DX DY hFX hFY
  obtain ⟨x0, x1, x2, x3, x4, x5⟩ := Mbx.cells HM.dx
  obtain ⟨y0, y1, y2, y3, y4, y5⟩ := Mbx.cells HM.dy
  go_wp2_with fail
  with_reducible refine (pbX _).mono ?_
  rintro e w1 ⟨rfl, hb⟩
  clear x0 x1 x2 x3 x4 x5 y0 y1 y2 y3 y4 y5
  replace HM := HM.on hb
  replace bz := bz.trans (hb.mono bz.size)
  clear hb
  obtain ⟨x0, x1, x2, x3, x4, x5⟩ := Mbx.cells HM.dx
  obtain ⟨y0, y1, y2, y3, y4, y5⟩ := Mbx.cells HM.dy
  go_wp2_with fail
  with_reducible refine (pbY _).mono ?_
  rintro e w2 ⟨rfl, hb⟩
  clear x0 x1 x2 x3 x4 x5 y0 y1 y2 y3 y4 y5
  replace HM := HM.on hb
  replace bz := bz.trans (hb.mono bz.size)
  clear hb
  obtain ⟨x0, x1, x2, x3, x4, x5⟩ := Mbx.cells HM.dx
  obtain ⟨y0, y1, y2, y3, y4, y5⟩ := Mbx.cells HM.dy
  go_wp2_with fail
  clear x0 x1 x2 x3 x4 x5 y0 y1 y2 y3 y4 y5
  replace HM := HM.drew
  replace bz := bz.drew
  refine wp_region_held_drew (S := fun w9 : World => Mbx w9 w.heap.size RX CX AX nX cX ∧ Mbx w9 (w.heap.size + 1) RY CY AY nY cY) (by kernel_rfl) ⟨HM.dx, HM.dy⟩ (fun hS => ?_)
  have hwl := HM.dy.lt
  generalize w2.drew = wf at hS hwl HM bz ⊢
  refine wpAnyH_take (i := 0) (v := ?v0_1) rfl (by kernel_rfl) (by kernel_rfl) (by kernel_rfl) (fun _ _ _ h => h) (Or.inl ⟨by rfl, ?hy0_1⟩) (by assumption) ?rest0_1
  case hy0_1 => (intro w9 hSw; obtain ⟨m0, m1⟩ := hSw; obtain ⟨q0_0, q0_1, q0_2, q0_3, q0_4, q0_5⟩ := Mbx.cells m0; obtain ⟨q1_0, q1_1, q1_2, q1_3, q1_4, q1_5⟩ := Mbx.cells m1; go_simp; try with_reducible rfl)
  try simp only [Act.put, List.setIfInBounds_toArray, List.set_cons_zero, List.set_cons_succ, List.getElem_toArray, List.getElem_cons_zero, List.getElem_cons_succ]
  refine wpAnyH_take (i := 2) (v := ?v2_2) rfl (by kernel_rfl) (by kernel_rfl) (by kernel_rfl) (fun _ _ _ h => h) (Or.inl ⟨by rfl, ?hy2_2⟩) (by assumption) ?rest2_2
  case hy2_2 => (intro w9 hSw; obtain ⟨m0, m1⟩ := hSw; obtain ⟨q0_0, q0_1, q0_2, q0_3, q0_4, q0_5⟩ := Mbx.cells m0; obtain ⟨q1_0, q1_1, q1_2, q1_3, q1_4, q1_5⟩ := Mbx.cells m1; go_simp; try with_reducible rfl)
  try simp only [Act.put, List.setIfInBounds_toArray, List.set_cons_zero, List.set_cons_succ, List.getElem_toArray, List.getElem_cons_zero, List.getElem_cons_succ]
  refine wpAnyH_take (i := 3) (v := ?v3_3) rfl (by kernel_rfl) (by kernel_rfl) (by kernel_rfl) (fun _ _ _ h => h) (Or.inl ⟨by rfl, ?hy3_3⟩) (by assumption) ?rest3_3
  case hy3_3 => (intro w9 hSw; clear hSw; go_simp; try with_reducible rfl)
  try simp only [Act.put, List.setIfInBounds_toArray, List.set_cons_zero, List.set_cons_succ, List.getElem_toArray, List.getElem_cons_zero, List.getElem_cons_succ]
  obtain ⟨I, hI⟩ : ∃ I : Array Value → List Bool → Act → World → Prop, I = (fun T bs a9 W => ∃ (lo hi : Nat → Nat) (v0 v1 v2 v3 : Value), a9 = { tmps := ((((T.setIfInBounds 24 v0).setIfInBounds 27 v1).setIfInBounds 9 v2).setIfInBounds 10 v3), defers := [] } ∧ Pol wf.heap.size W bs lo hi ∧ (bs.getD 0 false = true → OvI W (lo 0) (hi 0) RX CX LX v0) ∧ (bs.getD 1 false = true → OvI W (lo 1) (hi 1) RY CY LY v1) ∧ (bs.getD 2 false = true → CV W (lo 2) (hi 2) v2) ∧ (bs.getD 3 false = true → CV W (lo 3) (hi 3) v3) ∧ M4 W w.heap.size RX CX AX nX cX LX RY CY AY nY cY LY ∧ Below w.heap.size w W ∧ wf.heap.size ≤ W.heap.size) := ⟨_, rfl⟩
  have HI := Lib.hid hI
  clear hI
  refine wpAnyH_freeT (is := [1, 4, 5, 6]) (L := fun bs => #[true, bs.getD 0 false, true, true, bs.getD 1 false, bs.getD 2 false, bs.getD 3 false, false, false]) (F := 2) (fun bs => bs.getD 0 false || !(bs.getD 1 false)) I (by kernel_rfl) ?step ?fin 4 [false, false, false, false] rfl rfl rfl ?beg hS
  case beg =>
    rw [HI.out]
    exact ⟨fun _ => 0, fun _ => 0, undef, undef, undef, undef, by kernel_rfl, Pol.start (by intro k; rcases k with _ | _ | _ | _ | k <;> simp), by simp, by simp, by simp, by simp, HM, bz, Nat.le_refl _⟩
  case step =>
    intro k hk bs a9 W hl hb hok hI hS
    obtain ⟨b0, b1, b2, b3, rfl⟩ := bools4 bs hl
    rw [HI.out] at hI
    obtain ⟨lo, hi, v0, v1, v2, v3, rfl, hP, f0, f1, f2, f3, HM, bz, hsz⟩ := hI
    clear hS
    rcases k with _ | _ | _ | _ | k
    · skip
      refine ⟨1, _, rfl, rfl, fun K hK => ?_⟩
      try simp only [Act.put, List.setIfInBounds_toArray, List.set_cons_zero, List.set_cons_succ, List.getElem_toArray, List.getElem_cons_zero, List.getElem_cons_succ]
      go_simp
      with_reducible refine (of_any false HM.fx.fl HSX.out.1 HSX.out.2).mono ?_
      rintro e w1 ⟨V, s, gg, cap, c, l, rfl, hV, hb1⟩
      refine hK.out _ _ ⟨(HM.on hb1).dx, (HM.on hb1).dy⟩ ?_
      try simp only [Act.put, List.setIfInBounds_toArray, List.set_cons_zero, List.set_cons_succ, List.getElem_toArray, List.getElem_cons_zero, List.getElem_cons_succ]
      rw [HI.out]
      exact ⟨_, _, Vu.V V, v1, v2, v3, by kernel_rfl, hP.step 0 hb1.size hsz, fun _ => ⟨V, s, gg, cap, c, l, rfl, hV, hV.st.lt, hV.st.gt.2⟩, fun h => (f1 h).on hb1, fun h => (f2 h).on hb1, fun h => (f3 h).on hb1, HM.on hb1, bz.trans (hb1.mono bz.size), Nat.le_trans hsz hb1.size⟩
    · skip
      refine ⟨4, _, rfl, rfl, fun K hK => ?_⟩
      try simp only [Act.put, List.setIfInBounds_toArray, List.set_cons_zero, List.set_cons_succ, List.getElem_toArray, List.getElem_cons_zero, List.getElem_cons_succ]
      go_simp
      with_reducible refine (of_any turned HM.fy.fl HSY.out.1 HSY.out.2).mono ?_
      rintro e w1 ⟨V, s, gg, cap, c, l, rfl, hV, hb1⟩
      refine hK.out _ _ ⟨(HM.on hb1).dx, (HM.on hb1).dy⟩ ?_
      try simp only [Act.put, List.setIfInBounds_toArray, List.set_cons_zero, List.set_cons_succ, List.getElem_toArray, List.getElem_cons_zero, List.getElem_cons_succ]
      rw [HI.out]
      exact ⟨_, _, v0, Vu.V V, v2, v3, by kernel_rfl, hP.step 1 hb1.size hsz, fun h => (f0 h).on hb1, fun _ => ⟨V, s, gg, cap, c, l, rfl, hV, hV.st.lt, hV.st.gt.2⟩, fun h => (f2 h).on hb1, fun h => (f3 h).on hb1, HM.on hb1, bz.trans (hb1.mono bz.size), Nat.le_trans hsz hb1.size⟩
    · skip
      refine ⟨5, _, rfl, rfl, fun K hK => ?_⟩
      try simp only [Act.put, List.setIfInBounds_toArray, List.set_cons_zero, List.set_cons_succ, List.getElem_toArray, List.getElem_cons_zero, List.getElem_cons_succ]
      go_simp
      have hb1 := (Below.refl _ W).alloc (Nat.le_refl _) (.cells (Vu.zero).L.toArray 30)
      refine hK.out _ _ ⟨(HM.on hb1).dx, (HM.on hb1).dy⟩ ?_
      try simp only [Act.put, List.setIfInBounds_toArray, List.set_cons_zero, List.set_cons_succ, List.getElem_toArray, List.getElem_cons_zero, List.getElem_cons_succ]
      rw [HI.out]
      exact ⟨_, _, v0, v1, .pointer (some ⟨W.heap.size, 0, none⟩), v3, by kernel_rfl, hP.step 2 hb1.size hsz, fun h => (f0 h).on hb1, fun h => (f1 h).on hb1, fun _ => ⟨rfl, Blk.new W Vu.zero.L 30, by simp [upN]⟩, fun h => (f3 h).on hb1, HM.on hb1, bz.trans (hb1.mono bz.size), Nat.le_trans hsz hb1.size⟩
    · skip
      refine ⟨6, _, rfl, rfl, fun K hK => ?_⟩
      try simp only [Act.put, List.setIfInBounds_toArray, List.set_cons_zero, List.set_cons_succ, List.getElem_toArray, List.getElem_cons_zero, List.getElem_cons_succ]
      go_simp
      have hb1 := (Below.refl _ W).alloc (Nat.le_refl _) (.cells (Vu.zero).L.toArray 30)
      refine hK.out _ _ ⟨(HM.on hb1).dx, (HM.on hb1).dy⟩ ?_
      try simp only [Act.put, List.setIfInBounds_toArray, List.set_cons_zero, List.set_cons_succ, List.getElem_toArray, List.getElem_cons_zero, List.getElem_cons_succ]
      rw [HI.out]
      exact ⟨_, _, v0, v1, v2, .pointer (some ⟨W.heap.size, 0, none⟩), by kernel_rfl, hP.step 3 hb1.size hsz, fun h => (f0 h).on hb1, fun h => (f1 h).on hb1, fun h => (f2 h).on hb1, fun _ => ⟨rfl, Blk.new W Vu.zero.L 30, by simp [upN]⟩, HM.on hb1, bz.trans (hb1.mono bz.size), Nat.le_trans hsz hb1.size⟩
    · simp at hk; omega
  case fin =>
    intro a9 W hI hS
    rw [HI.out] at hI
    obtain ⟨lo, hi, v0, v1, v2, v3, rfl, hP, f0, f1, f2, f3, HM, bz, hsz⟩ := hI
    clear hS
    try simp only [Act.put, List.setIfInBounds_toArray, List.set_cons_zero, List.set_cons_succ, List.getElem_toArray, List.getElem_cons_zero, List.getElem_cons_succ]
    obtain ⟨VX, sVX, gVX, capVX, cVX, lVX, rfl, hVX, aX, bX⟩ := f0 rfl
    obtain ⟨VY, sVY, gVY, capVY, cVY, lVY, rfl, hVY, aY, bY⟩ := f1 rfl
    obtain ⟨rfl, Da, la_⟩ := f2 rfl
    obtain ⟨rfl, Db, lb_⟩ := f3 rfl
    have r0 := (hP.rng 0 rfl).1
    have r1 := (hP.rng 1 rfl).1
    have r2 := (hP.rng 2 rfl).1
    have r3 := (hP.rng 3 rfl).1
    have tX := And.intro hVX.st.lo hVX.st.gt.1
    have tY := And.intro hVY.st.lo hVY.st.gt.1
    have eX := hVX.st.ne
    have eY := hVY.st.ne
    have k1 := hP.ap 0 1 (by decide) rfl rfl
    have k2 := hP.ap 0 2 (by decide) rfl rfl
    have k3 := hP.ap 0 3 (by decide) rfl rfl
    have k4 := hP.ap 1 2 (by decide) rfl rfl
    have k5 := hP.ap 1 3 (by decide) rfl rfl
    have k6 := hP.ap 2 3 (by decide) rfl rfl
    have nq : lo 2 ≠ gVX ∧ lo 2 ≠ gVY ∧ lo 3 ≠ gVX ∧ lo 3 ≠ gVY ∧ w.heap.size + 1 < gVX ∧ w.heap.size + 1 < gVY ∧ w.heap.size + 1 < sVX ∧ w.heap.size + 1 < sVY := by omega
    have ap : sVX ≠ gVY ∧ gVX ≠ gVY ∧ sVY ≠ gVX := by omega
    have sp : sVX ≠ sVY := by omega
    have sq : lo 2 ≠ sVX ∧ lo 2 ≠ sVY ∧ lo 3 ≠ sVX ∧ lo 3 ≠ sVY ∧ lo 2 ≠ lo 3 ∧ w.heap.size + 1 < lo 2 ∧ w.heap.size + 1 < lo 3 := by omega
    clear hP f0 f1 f2 f3 aX bX aY bY la_ lb_ r0 r1 r2 r3 k1 k2 k3 k4 k5 k6 tX tY eX eY
    generalize lo 2 = HDa at *
    generalize lo 3 = HDb at *
    replace hVX : Ov W (lo 0) VX sVX gVX capVX cVX lVX RX CX LX := hVX
    replace hVY : Ov W (lo 1) VY sVY gVY capVY cVY lVY RY CY LY := hVY
    generalize lo 0 = BVX at *
    generalize lo 1 = BVY at *
    obtain ⟨fc0, fc1, fc2, fc3, fc4, fc5, fc6, fc7, fc8⟩ := Vbx.cells Da
    obtain ⟨fr0, fr1, fr2, fr3, fr4, fr5, fr6, fr7, fr8⟩ := Vbx.free Da
    refine wpAnyH_ready (rs := [7]) (by kernel_rfl) (by simp) ?_
    refine AllReadyH.cons rfl (fun K hK => ?_) AllReadyH.nil
    go_simp
    clear fc0 fr0 fc1 fr1 fc2 fr2 fc3 fr3 fc4 fr4 fc5 fr5 fc6 fr6 fc7 fr7 fc8 fr8
    have hgS := set9_grown W (HDa) (.pointer (VX).p) (.int .i64 (VX).f0) (.int .i64 (VX).f1) (.int .i64 (VX).d0) (.int .i64 (VX).d1) (.int .i64 (VX).r0) (.int .i64 (VX).r1) (.int .i64 (VX).R) (.int .i64 (VX).C)
    replace Da := Vbx.put Da (VX)
    replace HM := HM.grown hgS (by omega)
    replace hVX := hVX.grown hgS (by omega) (by omega)
    replace hVY := hVY.grown hgS (by omega) (by omega)
    replace Db := Db.grown hgS (by simp <;> omega)
    replace bz := bz.grown hgS bz.size (fun k e => by cases e; omega)
    generalize (((((((((W.setCell ⟨HDa, 0, none⟩ (.pointer (VX).p)).setCell ⟨HDa, 1, none⟩ (.int .i64 (VX).f0)).setCell ⟨HDa, 2, none⟩ (.int .i64 (VX).f1)).setCell ⟨HDa, 3, none⟩ (.int .i64 (VX).d0)).setCell ⟨HDa, 4, none⟩ (.int .i64 (VX).d1)).setCell ⟨HDa, 5, none⟩ (.int .i64 (VX).r0)).setCell ⟨HDa, 6, none⟩ (.int .i64 (VX).r1)).setCell ⟨HDa, 7, none⟩ (.int .i64 (VX).R)).setCell ⟨HDa, 8, none⟩ (.int .i64 (VX).C)) = WsDa at HM hVX hVY Da Db bz ⊢
    clear hgS
    refine hK.out _ _ ⟨HM.dx, HM.dy⟩ (fun hS => ?_)
    clear hK K hS
    try simp only [Act.put, List.setIfInBounds_toArray, List.set_cons_zero, List.set_cons_succ, List.getElem_toArray, List.getElem_cons_zero, List.getElem_cons_succ]
    obtain ⟨fc0, fc1, fc2, fc3, fc4, fc5, fc6, fc7, fc8⟩ := Vbx.cells Db
    obtain ⟨fr0, fr1, fr2, fr3, fr4, fr5, fr6, fr7, fr8⟩ := Vbx.free Db
    refine wpAnyH_ready (rs := [8]) (by kernel_rfl) (by simp) ?_
    refine AllReadyH.cons rfl (fun K hK => ?_) AllReadyH.nil
    go_simp
    clear fc0 fr0 fc1 fr1 fc2 fr2 fc3 fr3 fc4 fr4 fc5 fr5 fc6 fr6 fc7 fr7 fc8 fr8
    have hgS := set9_grown WsDa (HDb) (.pointer (VY).p) (.int .i64 (VY).f0) (.int .i64 (VY).f1) (.int .i64 (VY).d0) (.int .i64 (VY).d1) (.int .i64 (VY).r0) (.int .i64 (VY).r1) (.int .i64 (VY).R) (.int .i64 (VY).C)
    replace Db := Vbx.put Db (VY)
    replace HM := HM.grown hgS (by omega)
    replace hVX := hVX.grown hgS (by omega) (by omega)
    replace hVY := hVY.grown hgS (by omega) (by omega)
    replace Da := Da.grown hgS (by simp <;> omega)
    replace bz := bz.grown hgS bz.size (fun k e => by cases e; omega)
    generalize (((((((((WsDa.setCell ⟨HDb, 0, none⟩ (.pointer (VY).p)).setCell ⟨HDb, 1, none⟩ (.int .i64 (VY).f0)).setCell ⟨HDb, 2, none⟩ (.int .i64 (VY).f1)).setCell ⟨HDb, 3, none⟩ (.int .i64 (VY).d0)).setCell ⟨HDb, 4, none⟩ (.int .i64 (VY).d1)).setCell ⟨HDb, 5, none⟩ (.int .i64 (VY).r0)).setCell ⟨HDb, 6, none⟩ (.int .i64 (VY).r1)).setCell ⟨HDb, 7, none⟩ (.int .i64 (VY).R)).setCell ⟨HDb, 8, none⟩ (.int .i64 (VY).C)) = WsDb at HM hVX hVY Da Db bz ⊢
    clear hgS
    refine hK.out _ _ ⟨HM.dx, HM.dy⟩ (fun hS => ?_)
    clear hK K hS
    try simp only [Act.put, List.setIfInBounds_toArray, List.set_cons_zero, List.set_cons_succ, List.getElem_toArray, List.getElem_cons_zero, List.getElem_cons_succ]
    refine wpAnyH_done (by kernel_rfl) ?_ _
    clear HI I hsz hwl sq
    obtain ⟨a0, a1, a2, a3, a4, a5, a6, a7, a8⟩ := Vbx.cells Da
    obtain ⟨b0, b1, b2, b3, b4, b5, b6, b7, b8⟩ := Vbx.cells Db
    go_wp2_with fail
    with_reducible refine (axpy_yes0 ba hVX hVY EX.out EY.out HFT.out HQY.out).mono ?_
    rintro e w40 ⟨ly4, G1, rfl, hVY2, hI1, hg⟩
    clear a0 a1 a2 a3 a4 a5 a6 a7 a8 b0 b1 b2 b3 b4 b5 b6 b7 b8
    replace HM := HM.grown hg (by omega)
    replace hVX := hVX.grown hg (by omega) (by omega)
    replace Da := Da.grown hg (by simp <;> omega)
    replace Db := Db.grown hg (by simp <;> omega)
    replace bz := bz.grown hg bz.size (fun k e => by cases e; omega)
    replace hVY := hVY2
    have I1 := Lib.hid hI1
    clear hg hVY2 hI1
    obtain ⟨ux0, ux1, ux2, ux3, ux4, ux5⟩ := Mbx.cells HM.dx
    obtain ⟨uy0, uy1, uy2, uy3, uy4, uy5⟩ := Mbx.cells HM.dy
    have lD12 := And.intro (And.intro hVX.st.lt hVX.st.gt.2) (And.intro hVY.st.lt hVY.st.gt.2)
    have rD12 := And.intro (And.intro Da.lt Db.lt) (And.intro HM.dx.lt HM.dy.lt)
    have D12 := Blk.new w40 [.int .i64 RY, .int .i64 CY, .slice AY nY cY] 24
    obtain ⟨HD12, eHD12⟩ : ∃ H, w40.heap.size = H := ⟨_, rfl⟩
    rw [eHD12] at D12
    have hbA := (Below.refl _ w40).alloc (Nat.le_refl _) (.cells #[.int .i64 RY, .int .i64 CY, .slice AY nY cY] 24)
    replace HM := HM.on hbA
    replace hVX := hVX.on hbA
    replace hVY := hVY.on hbA
    replace Da := Da.on hbA
    replace Db := Db.on hbA
    clear hbA
    replace bz := bz.alloc bz.size (.cells #[.int .i64 RY, .int .i64 CY, .slice AY nY cY] 24)
    have HHD12 := Lib.hid eHD12
    rw [eHD12] at lD12 rD12
    have p9 := rVector_any RX CX AX nX cX
    rw [HV.out] at p9
    obtain ⟨x0, x1, x2, x3, x4, x5⟩ := Mbx.cells HM.dx
    obtain ⟨y0, y1, y2, y3, y4, y5⟩ := Mbx.cells HM.dy
    go_wp2_with fail
    with_reducible refine (p9 _).mono ?_
    rintro e w3 ⟨rfl, hb⟩
    clear x0 x1 x2 x3 x4 x5 y0 y1 y2 y3 y4 y5
    replace HM := HM.on hb
    replace hVX := hVX.on hb
    replace hVY := hVY.on hb
    replace Da := Da.on hb
    replace Db := Db.on hb
    replace D12 := D12.on hb
    replace bz := bz.trans (hb.mono bz.size)
    clear hb p9 eHD12
    clear ux0 ux1 ux2 ux3 ux4 ux5 uy0 uy1 uy2 uy3 uy4 uy5
    have p9 := rVector_any RY CY AY nY cY
    rw [HVY.out] at p9
    obtain ⟨x0, x1, x2, x3, x4, x5⟩ := Mbx.cells HM.dx
    obtain ⟨y0, y1, y2, y3, y4, y5⟩ := Mbx.cells HM.dy
    go_wp2_with fail
    with_reducible refine (p9 _).mono ?_
    rintro e w4 ⟨rfl, hb⟩
    clear x0 x1 x2 x3 x4 x5 y0 y1 y2 y3 y4 y5
    replace HM := HM.on hb
    replace hVX := hVX.on hb
    replace hVY := hVY.on hb
    replace Da := Da.on hb
    replace Db := Db.on hb
    replace D12 := D12.on hb
    replace bz := bz.trans (hb.mono bz.size)
    clear hb p9
    have hn := HN.out
    obtain ⟨x0, x1, x2, x3, x4, x5⟩ := Mbx.cells HM.dx
    obtain ⟨y0, y1, y2, y3, y4, y5⟩ := Mbx.cells HM.dy
    go_wp2_with fail
    clear x0 x1 x2 x3 x4 x5 y0 y1 y2 y3 y4 y5
    clear hn
    replace HM := HM.drew
    replace hVX := hVX.drew
    replace hVY := hVY.drew
    replace Da := Da.drew
    replace Db := Db.drew
    replace D12 := D12.drew
    replace bz := bz.drew
    refine wp_region_held_drew (S := fun w9 : World => Mbx w9 w.heap.size RX CX AX nX cX ∧ Mbx w9 (w.heap.size + 1) RY CY AY nY cY) (by kernel_rfl) ⟨HM.dx, HM.dy⟩ (fun hS => ?_)
    generalize w4.drew = wd7 at hS HM hVX hVY Da Db D12  bz ⊢
    refine wpAnyH_take (i := 0) (v := ?v0_4) rfl (by kernel_rfl) (by kernel_rfl) (by kernel_rfl) (fun _ _ _ h => h) (Or.inl ⟨by rfl, ?hy0_4⟩) (by assumption) ?rest0_4
    case hy0_4 => (intro w9 hSw; obtain ⟨m0, m1⟩ := hSw; obtain ⟨q0_0, q0_1, q0_2, q0_3, q0_4, q0_5⟩ := Mbx.cells m0; obtain ⟨q1_0, q1_1, q1_2, q1_3, q1_4, q1_5⟩ := Mbx.cells m1; go_simp; try with_reducible rfl)
    try simp only [Act.put, List.setIfInBounds_toArray, List.set_cons_zero, List.set_cons_succ, List.getElem_toArray, List.getElem_cons_zero, List.getElem_cons_succ]
    refine wpAnyH_take (i := 1) (v := ?v1_5) rfl (by kernel_rfl) (by kernel_rfl) (by kernel_rfl) (fun _ _ _ h => h) (Or.inl ⟨by rfl, ?hy1_5⟩) (by assumption) ?rest1_5
    case hy1_5 => (intro w9 hSw; clear hSw; go_simp; try with_reducible rfl)
    try simp only [Act.put, List.setIfInBounds_toArray, List.set_cons_zero, List.set_cons_succ, List.getElem_toArray, List.getElem_cons_zero, List.getElem_cons_succ]
    refine wpAnyH_take (i := 2) (v := ?v2_6) rfl (by kernel_rfl) (by kernel_rfl) (by kernel_rfl) (fun _ _ _ h => h) (Or.inl ⟨by rfl, ?hy2_6⟩) (by assumption) ?rest2_6
    case hy2_6 => (intro w9 hSw; clear hSw; go_simp; try with_reducible rfl)
    try simp only [Act.put, List.setIfInBounds_toArray, List.set_cons_zero, List.set_cons_succ, List.getElem_toArray, List.getElem_cons_zero, List.getElem_cons_succ]
    refine wpAnyH_take (i := 3) (v := ?v3_7) rfl (by kernel_rfl) (by kernel_rfl) (by kernel_rfl) (fun _ _ _ h => h) (Or.inl ⟨by rfl, ?hy3_7⟩) (by assumption) ?rest3_7
    case hy3_7 => (intro w9 hSw; obtain ⟨m0, m1⟩ := hSw; obtain ⟨q0_0, q0_1, q0_2, q0_3, q0_4, q0_5⟩ := Mbx.cells m0; obtain ⟨q1_0, q1_1, q1_2, q1_3, q1_4, q1_5⟩ := Mbx.cells m1; go_simp; try with_reducible rfl)
    try simp only [Act.put, List.setIfInBounds_toArray, List.set_cons_zero, List.set_cons_succ, List.getElem_toArray, List.getElem_cons_zero, List.getElem_cons_succ]
    refine wpAnyH_take (i := 4) (v := ?v4_8) rfl (by kernel_rfl) (by kernel_rfl) (by kernel_rfl) (fun _ _ _ h => h) (Or.inl ⟨by rfl, ?hy4_8⟩) (by assumption) ?rest4_8
    case hy4_8 => (intro w9 hSw; clear hSw; go_simp; try with_reducible rfl)
    try simp only [Act.put, List.setIfInBounds_toArray, List.set_cons_zero, List.set_cons_succ, List.getElem_toArray, List.getElem_cons_zero, List.getElem_cons_succ]
    refine wpAnyH_take (i := 5) (v := ?v5_9) rfl (by kernel_rfl) (by kernel_rfl) (by kernel_rfl) (fun _ _ _ h => h) (Or.inl ⟨by rfl, ?hy5_9⟩) (by assumption) ?rest5_9
    case hy5_9 => (intro w9 hSw; obtain ⟨m0, m1⟩ := hSw; obtain ⟨q0_0, q0_1, q0_2, q0_3, q0_4, q0_5⟩ := Mbx.cells m0; obtain ⟨q1_0, q1_1, q1_2, q1_3, q1_4, q1_5⟩ := Mbx.cells m1; go_simp; try with_reducible rfl)
    try simp only [Act.put, List.setIfInBounds_toArray, List.set_cons_zero, List.set_cons_succ, List.getElem_toArray, List.getElem_cons_zero, List.getElem_cons_succ]
    refine wpAnyH_ready (rs := [6]) (by kernel_rfl) (by simp) ?_
    refine AllReadyH.cons rfl (fun K hK => ?_) AllReadyH.nil
    go_simp
    have k12 := D12.lt
    have k12a := And.intro hVX.st.gt.2 hVY.st.gt.2
    with_reducible refine (rAxpy_any ba HM.fx.fl HM.fy.fl (by have h9 := eq_of_beq HN.out; omega) (by have := HSX.out.2; have := uX; omega)).mono ?_
    rintro e w5 ⟨A12, c12, L12, rfl, hJ, ho, hb⟩
    replace HM := HM.on hb
    replace hVX := hVX.on hb
    replace hVY := hVY.on hb
    replace Da := Da.on hb
    replace Db := Db.on hb
    replace D12 := D12.on hb
    replace bz := bz.trans (hb.mono bz.size)
    clear hb
    have hO12 := hJ.fo ho
    have J1 := Lib.hid (hJ.as (m := nY) (by have h9 := eq_of_beq HN.out; omega))
    clear hJ ho
    clear hS; refine hK.out _ _ ⟨HM.dx, HM.dy⟩ (fun hS => ?_); clear hK K
    try simp only [Act.put, List.setIfInBounds_toArray, List.set_cons_zero, List.set_cons_succ, List.getElem_toArray, List.getElem_cons_zero, List.getElem_cons_succ]
    refine wpAnyH_ready (rs := [7]) (by kernel_rfl) (by simp) ?_
    refine AllReadyH.cons rfl (fun K hK => ?_) AllReadyH.nil
    go_simp
    with_reducible refine (like_any _ _ _ _ _ _).mono ?_
    rintro e w6 ⟨rfl, hb⟩
    replace HM := HM.on hb
    replace hVX := hVX.on hb
    replace hVY := hVY.on hb
    replace Da := Da.on hb
    replace Db := Db.on hb
    replace D12 := D12.on hb
    replace hO12 := hO12.on hb
    replace bz := bz.trans (hb.mono bz.size)
    clear hb
    clear hS; refine hK.out _ _ ⟨HM.dx, HM.dy⟩ (fun hS => ?_); clear hK K
    try simp only [Act.put, List.setIfInBounds_toArray, List.set_cons_zero, List.set_cons_succ, List.getElem_toArray, List.getElem_cons_zero, List.getElem_cons_succ]
    obtain ⟨fc0, fc1, fc2, fr0, fr1, fr2⟩ := Mbx.cells D12
    refine wpAnyH_ready (rs := [8]) (by kernel_rfl) (by simp) ?_
    refine AllReadyH.cons rfl (fun K hK => ?_) AllReadyH.nil
    go_simp
    clear fc0 fc1 fc2 fr0 fr1 fr2
    have hgS := set3_grown' w6 HD12 (.int .i64 RY) (.int .i64 CY) (.slice A12 nX c12)
    replace D12 := Mbx.put D12 RY CY A12 nX c12
    replace HM := HM.grown hgS (by omega)
    replace hVX := hVX.grown hgS (by omega) (by omega)
    replace hVY := hVY.grown hgS (by omega) (by omega)
    replace Da := Da.grown hgS (by simp <;> omega)
    replace Db := Db.grown hgS (by simp <;> omega)
    replace hO12 := hO12.grown hgS (by omega)
    replace bz := bz.grown hgS bz.size (fun k e => by cases e; omega)
    generalize (((w6.setCell ⟨HD12, 0, none⟩ (.int .i64 RY)).setCell ⟨HD12, 1, none⟩ (.int .i64 CY)).setCell ⟨HD12, 2, none⟩ (.slice A12 nX c12)) = Ws12 at HM hVX hVY Da Db D12 hO12 bz ⊢
    clear hgS
    clear hS; refine hK.out _ _ ⟨HM.dx, HM.dy⟩ (fun hS => ?_); clear hK K
    try simp only [Act.put, List.setIfInBounds_toArray, List.set_cons_zero, List.set_cons_succ, List.getElem_toArray, List.getElem_cons_zero, List.getElem_cons_succ]
    refine wpAnyH_done (by kernel_rfl) ?_ _
    go_wp2_with fail
    with_reducible refine (num_any _ _).mono ?_
    rintro e v7 ⟨rfl, rfl⟩
    obtain ⟨b0, b1, b2, b3, b4, b5, b6, b7, b8⟩ := Vbx.cells Db
    obtain ⟨m0, m1, m2, m3, m4, m5⟩ := Mbx.cells D12
    go_wp2_with fail
    with_reducible refine (shows_true hVY.sv hO12.fl hVY.R hVY.C (Is.same I1.out J1.out)).mono ?_
    rintro e w8 ⟨rfl, hb⟩
    clear b0 b1 b2 b3 b4 b5 b6 b7 b8 m0 m1 m2 m3 m4 m5
    replace HM := HM.on hb
    replace hVX := hVX.on hb
    replace hVY := hVY.on hb
    replace Da := Da.on hb
    replace Db := Db.on hb
    replace D12 := D12.on hb
    replace hO12 := hO12.on hb
    replace bz := bz.trans (hb.mono bz.size)
    clear hb
    obtain ⟨a0, a1, a2, a3, a4, a5, a6, a7, a8⟩ := Vbx.cells Da
    obtain ⟨x0, x1, x2, x3, x4, x5⟩ := Mbx.cells HM.dx
    go_wp2_with fail
    with_reducible refine (shows_true hVX.sv HM.fx.fl hVX.R hVX.C (sameL_refl LX)).mono ?_
    rintro e w9 ⟨rfl, hb⟩
    clear a0 a1 a2 a3 a4 a5 a6 a7 a8 x0 x1 x2 x3 x4 x5
    replace HM := HM.on hb
    replace hVX := hVX.on hb
    replace hVY := hVY.on hb
    replace Da := Da.on hb
    replace Db := Db.on hb
    replace D12 := D12.on hb
    replace hO12 := hO12.on hb
    replace bz := bz.trans (hb.mono bz.size)
    clear hb
    obtain ⟨a0, a1, a2, a3, a4, a5, a6, a7, a8⟩ := Vbx.cells Da
    go_wp2_with fail
    with_reducible refine (scal_yes0 ba hVX EX.out HV.out HQX.out).mono ?_
    rintro e w44 ⟨lx4, G2, rfl, hVX2, hI2, hg⟩
    clear a0 a1 a2 a3 a4 a5 a6 a7 a8
    replace HM := HM.grown hg (by omega)
    replace hVY := hVY.grown hg (by omega) (by omega)
    replace Da := Da.grown hg (by simp <;> omega)
    replace Db := Db.grown hg (by simp <;> omega)
    replace D12 := D12.grown hg (by simp <;> omega)
    replace hO12 := hO12.grown hg (by omega)
    replace bz := bz.grown hg bz.size (fun k e => by cases e; omega)
    replace hVX := hVX2
    have I2 := Lib.hid hI2
    clear hg hVX2 hI2
    obtain ⟨x0, x1, x2, x3, x4, x5⟩ := Mbx.cells HM.dx
    go_wp2_with fail
    clear x0 x1 x2 x3 x4 x5
    replace HM := HM.drew
    replace hVX := hVX.drew
    replace hVY := hVY.drew
    replace Da := Da.drew
    replace Db := Db.drew
    replace D12 := D12.drew
    replace hO12 := hO12.drew
    replace bz := bz.drew
    rename_i K0 hK0
    have key : ∀ (HD14 B14 E14 c14 : Nat) (A14 : Option Addr) (L14 : List Int) (W15 : World) (X0 X1 X2 X3 X4 X7 X8 X11 X15 X16 X17 X18 X19 X20 X21 X22 X23 X24 X25 X26 X27 X28 X29 X30 X31 X32 X33 X34 X35 X36 X37 X38 X39 X40 X41 X42 X43 X44 X45 X46 X47 X48 X49 X50 X51 X52 X53 X54 X55 X56 X57 X58 X59 X60 X61 X62 X63 X64 X65 X66 X67 X68 X69 X70 X71 X72 X73 X74 X75 X76 X77 X78 X79 X80 X81 X82 X83 X84 X85 X86 X87 X88 X89 X90 X91 X92 X93 X94 X95 X96 X97 X98 X99 X100 X101 X102 X103 X104 X105 X106 X107 X108 X109 X110 X111 X112 X113 X114 X115 X116 X117 X118 X119 X120 X121 X122 X123 X124 X125 X126 X127 X128 X129 X130 X131 X132 X133 X134 X135 X136 X137 X138 X139 X140 X141 X142 X143 X144 X145 X146 X147 X148 X149 X150 X151 X152 X153 : Value), M4 W15 w.heap.size RX CX AX nX cX LX RY CY AY nY cY LY → Ov W15 BVX VX sVX gVX capVX cVX lx4 RX CX G2 → Ov W15 BVY VY sVY gVY capVY cVY ly4 RY CY G1 → Vbx W15 HDa VX → Vbx W15 HDb VY → Mbx W15 HD12 RY CY A12 nX c12 → FO W15 wd7.heap.size HD14 A12 nX c12 L12 → Mbx W15 HD14 RX CX A14 nX c14 → FO W15 B14 E14 A14 nX c14 L14 → Is L14 nX (fun k => aop .mul (af a) (fa (D LX k))) → Below w.heap.size w W15 → HD14 ≠ gVX ∧ HD14 ≠ gVY ∧ gVX < B14 ∧ gVY < B14 ∧ HD14 ≠ HDa ∧ HD14 ≠ HDb ∧ HD14 ≠ HD12 ∧ w.heap.size + 1 < HD14 ∧ HD14 ≠ sVX ∧ HD14 ≠ sVY → K0 { tmps := #[X0, X1, X2, X3, X4, .pointer (some ⟨w.heap.size, 0, none⟩), .pointer (some ⟨w.heap.size + 1, 0, none⟩), X7, X8, .pointer (some ⟨HDa, 0, none⟩), .pointer (some ⟨HDb, 0, none⟩), X11, .pointer (some ⟨HD12, 0, none⟩), .int .i64 0, .pointer (some ⟨HD14, 0, none⟩), X15, X16, X17, X18, X19, X20, X21, X22, X23, X24, X25, X26, X27, X28, X29, X30, X31, X32, X33, X34, X35, X36, X37, X38, X39, X40, X41, X42, X43, X44, X45, X46, X47, X48, X49, X50, X51, X52, X53, X54, X55, X56, X57, X58, X59, X60, X61, X62, X63, X64, X65, X66, X67, X68, X69, X70, X71, X72, X73, X74, X75, X76, X77, X78, X79, X80, X81, X82, X83, X84, X85, X86, X87, X88, X89, X90, X91, X92, X93, X94, X95, X96, X97, X98, X99, X100, X101, X102, X103, X104, X105, X106, X107, X108, X109, X110, X111, X112, X113, X114, X115, X116, X117, X118, X119, X120, X121, X122, X123, X124, X125, X126, X127, X128, X129, X130, X131, X132, X133, X134, X135, X136, X137, X138, X139, X140, X141, X142, X143, X144, X145, X146, X147, X148, X149, X150, X151, X152, X153], defers := [] } W15 := by
      intro HD14 B14 E14 c14 A14 L14 W15 X0 X1 X2 X3 X4 X7 X8 X11 X15 X16 X17 X18 X19 X20 X21 X22 X23 X24 X25 X26 X27 X28 X29 X30 X31 X32 X33 X34 X35 X36 X37 X38 X39 X40 X41 X42 X43 X44 X45 X46 X47 X48 X49 X50 X51 X52 X53 X54 X55 X56 X57 X58 X59 X60 X61 X62 X63 X64 X65 X66 X67 X68 X69 X70 X71 X72 X73 X74 X75 X76 X77 X78 X79 X80 X81 X82 X83 X84 X85 X86 X87 X88 X89 X90 X91 X92 X93 X94 X95 X96 X97 X98 X99 X100 X101 X102 X103 X104 X105 X106 X107 X108 X109 X110 X111 X112 X113 X114 X115 X116 X117 X118 X119 X120 X121 X122 X123 X124 X125 X126 X127 X128 X129 X130 X131 X132 X133 X134 X135 X136 X137 X138 X139 X140 X141 X142 X143 X144 X145 X146 X147 X148 X149 X150 X151 X152 X153 HM hVX hVY Da Db D12 hO12 D14 hO14 J2 bz n14
      have p9 := rVector_any RX CX AX nX cX
      rw [HV.out] at p9
      obtain ⟨x0, x1, x2, x3, x4, x5⟩ := Mbx.cells HM.dx
      go_wp2_with fail
      with_reducible refine (p9 _).mono ?_
      rintro e w10 ⟨rfl, hb⟩
      clear x0 x1 x2 x3 x4 x5
      replace HM := HM.on hb
      replace hVX := hVX.on hb
      replace hVY := hVY.on hb
      replace Da := Da.on hb
      replace Db := Db.on hb
      replace D12 := D12.on hb
      replace hO12 := hO12.on hb
      replace D14 := D14.on hb
      replace hO14 := hO14.on hb
      replace bz := bz.trans (hb.mono bz.size)
      clear hb p9
      have JJ2 := Lib.hid J2
      clear J2
      go_wp2_with fail
      replace HM := HM.drew
      replace hVX := hVX.drew
      replace hVY := hVY.drew
      replace Da := Da.drew
      replace Db := Db.drew
      replace D12 := D12.drew
      replace hO12 := hO12.drew
      replace D14 := D14.drew
      replace hO14 := hO14.drew
      replace bz := bz.drew
      refine wp_region_held_drew (S := fun w9 : World => Mbx w9 w.heap.size RX CX AX nX cX ∧ Mbx w9 HD14 RX CX A14 nX c14 ∧ Vbx w9 HDa VX) (by kernel_rfl) ⟨HM.dx, D14, Da⟩ (fun hS => ?_)
      generalize w10.drew = wd18 at hS HM hVX hVY Da Db D12 hO12 D14 hO14  bz ⊢
      refine wpAnyH_take (i := 0) (v := ?v0_10) rfl (by kernel_rfl) (by kernel_rfl) (by kernel_rfl) (fun _ _ _ h => h) (Or.inl ⟨by rfl, ?hy0_10⟩) (by assumption) ?rest0_10
      case hy0_10 => (intro w9 hSw; clear hSw; go_simp; try with_reducible rfl)
      try simp only [Act.put, List.setIfInBounds_toArray, List.set_cons_zero, List.set_cons_succ, List.getElem_toArray, List.getElem_cons_zero, List.getElem_cons_succ]
      refine wpAnyH_take (i := 3) (v := ?v3_11) rfl (by kernel_rfl) (by kernel_rfl) (by kernel_rfl) (fun _ _ _ h => h) (Or.inl ⟨by rfl, ?hy3_11⟩) (by assumption) ?rest3_11
      case hy3_11 => (intro w9 hSw; obtain ⟨m0, m1, m2⟩ := hSw; obtain ⟨q0_0, q0_1, q0_2, q0_3, q0_4, q0_5⟩ := Mbx.cells m0; obtain ⟨q1_0, q1_1, q1_2, q1_3, q1_4, q1_5⟩ := Mbx.cells m1; go_simp; try with_reducible rfl)
      try simp only [Act.put, List.setIfInBounds_toArray, List.set_cons_zero, List.set_cons_succ, List.getElem_toArray, List.getElem_cons_zero, List.getElem_cons_succ]
      refine wpAnyH_ready (rs := [1]) (by kernel_rfl) (by simp) ?_
      refine AllReadyH.cons rfl (fun K hK => ?_) AllReadyH.nil
      go_simp
      with_reducible refine (num_any _ _).mono ?_
      rintro e v11 ⟨rfl, rfl⟩
      clear hS; refine hK.out _ _ ⟨HM.dx, D14, Da⟩ (fun hS => ?_); clear hK K
      try simp only [Act.put, List.setIfInBounds_toArray, List.set_cons_zero, List.set_cons_succ, List.getElem_toArray, List.getElem_cons_zero, List.getElem_cons_succ]
      refine wpAnyH_take (i := 2) (v := ?v2_12) rfl (by kernel_rfl) (by kernel_rfl) (by kernel_rfl) (fun _ _ _ h => h) (Or.inl ⟨by rfl, ?hy2_12⟩) (by assumption) ?rest2_12
      case hy2_12 => (intro w9 hSw; clear hSw; go_simp; try with_reducible rfl)
      try simp only [Act.put, List.setIfInBounds_toArray, List.set_cons_zero, List.set_cons_succ, List.getElem_toArray, List.getElem_cons_zero, List.getElem_cons_succ]
      refine wpAnyH_ready (rs := [4]) (by kernel_rfl) (by simp) ?_
      refine AllReadyH.cons rfl (fun K hK => ?_) AllReadyH.nil
      go_simp
      have p9 := rVector_any RX CX AX nX cX
      rw [HV.out] at p9
      with_reducible refine (p9 _).mono ?_
      rintro e w12 ⟨rfl, hb⟩
      replace HM := HM.on hb
      replace hVX := hVX.on hb
      replace hVY := hVY.on hb
      replace Da := Da.on hb
      replace Db := Db.on hb
      replace D12 := D12.on hb
      replace hO12 := hO12.on hb
      replace D14 := D14.on hb
      replace hO14 := hO14.on hb
      replace bz := bz.trans (hb.mono bz.size)
      clear hb p9
      clear hS; refine hK.out _ _ ⟨HM.dx, D14, Da⟩ (fun hS => ?_); clear hK K
      try simp only [Act.put, List.setIfInBounds_toArray, List.set_cons_zero, List.set_cons_succ, List.getElem_toArray, List.getElem_cons_zero, List.getElem_cons_succ]
      refine wpAnyH_take (i := 5) (v := ?v5_13) rfl (by kernel_rfl) (by kernel_rfl) (by kernel_rfl) (fun _ _ _ h => h) (Or.inl ⟨by rfl, ?hy5_13⟩) (by assumption) ?rest5_13
      case hy5_13 => (intro w9 hSw; clear hSw; go_simp; try with_reducible rfl)
      try simp only [Act.put, List.setIfInBounds_toArray, List.set_cons_zero, List.set_cons_succ, List.getElem_toArray, List.getElem_cons_zero, List.getElem_cons_succ]
      refine wpAnyH_take (i := 6) (v := ?v6_14) rfl (by kernel_rfl) (by kernel_rfl) (by kernel_rfl) (fun _ _ _ h => h) (Or.inl ⟨by rfl, ?hy6_14⟩) (by assumption) ?rest6_14
      case hy6_14 => (intro w9 hSw; clear hSw; go_simp; try with_reducible rfl)
      try simp only [Act.put, List.setIfInBounds_toArray, List.set_cons_zero, List.set_cons_succ, List.getElem_toArray, List.getElem_cons_zero, List.getElem_cons_succ]
      refine wpAnyH_take (i := 7) (v := ?v7_15) rfl (by kernel_rfl) (by kernel_rfl) (by kernel_rfl) (fun _ _ _ h => h) (Or.inl ⟨by rfl, ?hy7_15⟩) (by assumption) ?rest7_15
      case hy7_15 => (intro w9 hSw; clear hSw; go_simp; try with_reducible rfl)
      try simp only [Act.put, List.setIfInBounds_toArray, List.set_cons_zero, List.set_cons_succ, List.getElem_toArray, List.getElem_cons_zero, List.getElem_cons_succ]
      refine wpAnyH_ready (rs := [8]) (by kernel_rfl) (by simp) ?_
      refine AllReadyH.cons rfl (fun K hK => ?_) AllReadyH.nil
      go_simp
      with_reducible refine (num_any _ _).mono ?_
      rintro e v13 ⟨rfl, rfl⟩
      clear hS; refine hK.out _ _ ⟨HM.dx, D14, Da⟩ (fun hS => ?_); clear hK K
      try simp only [Act.put, List.setIfInBounds_toArray, List.set_cons_zero, List.set_cons_succ, List.getElem_toArray, List.getElem_cons_zero, List.getElem_cons_succ]
      refine wpAnyH_take (i := 9) (v := ?v9_16) rfl (by kernel_rfl) (by kernel_rfl) (by kernel_rfl) (fun _ _ _ h => h) (Or.inl ⟨by rfl, ?hy9_16⟩) (by assumption) ?rest9_16
      case hy9_16 => (intro w9 hSw; clear hSw; go_simp; try with_reducible rfl)
      try simp only [Act.put, List.setIfInBounds_toArray, List.set_cons_zero, List.set_cons_succ, List.getElem_toArray, List.getElem_cons_zero, List.getElem_cons_succ]
      refine wpAnyH_take (i := 10) (v := ?v10_17) rfl (by kernel_rfl) (by kernel_rfl) (by kernel_rfl) (fun _ _ _ h => h) (Or.inl ⟨by rfl, ?hy10_17⟩) (by assumption) ?rest10_17
      case hy10_17 => (intro w9 hSw; clear hSw; go_simp; try with_reducible rfl)
      try simp only [Act.put, List.setIfInBounds_toArray, List.set_cons_zero, List.set_cons_succ, List.getElem_toArray, List.getElem_cons_zero, List.getElem_cons_succ]
      refine wpAnyH_take (i := 11) (v := undef) rfl (by kernel_rfl) (by kernel_rfl) (by kernel_rfl) (fun _ _ _ h => h) (Or.inr ⟨by rfl, rfl⟩) (by assumption) ?_
      try simp only [Act.put, List.setIfInBounds_toArray, List.set_cons_zero, List.set_cons_succ, List.getElem_toArray, List.getElem_cons_zero, List.getElem_cons_succ]
      refine wpAnyH_take (i := 12) (v := undef) rfl (by kernel_rfl) (by kernel_rfl) (by kernel_rfl) (fun _ _ _ h => h) (Or.inr ⟨by rfl, rfl⟩) (by assumption) ?_
      try simp only [Act.put, List.setIfInBounds_toArray, List.set_cons_zero, List.set_cons_succ, List.getElem_toArray, List.getElem_cons_zero, List.getElem_cons_succ]
      refine wpAnyH_take (i := 13) (v := undef) rfl (by kernel_rfl) (by kernel_rfl) (by kernel_rfl) (fun _ _ _ h => h) (Or.inr ⟨by rfl, rfl⟩) (by assumption) ?_
      try simp only [Act.put, List.setIfInBounds_toArray, List.set_cons_zero, List.set_cons_succ, List.getElem_toArray, List.getElem_cons_zero, List.getElem_cons_succ]
      refine wpAnyH_take (i := 14) (v := ?v14_18) rfl (by kernel_rfl) (by kernel_rfl) (by kernel_rfl) (fun _ _ _ h => h) (Or.inl ⟨by rfl, ?hy14_18⟩) (by assumption) ?rest14_18
      case hy14_18 => (intro w9 hSw; clear hSw; go_simp; try with_reducible rfl)
      try simp only [Act.put, List.setIfInBounds_toArray, List.set_cons_zero, List.set_cons_succ, List.getElem_toArray, List.getElem_cons_zero, List.getElem_cons_succ]
      refine wpAnyH_take (i := 15) (v := ?v15_19) rfl (by kernel_rfl) (by kernel_rfl) (by kernel_rfl) (fun _ _ _ h => h) (Or.inl ⟨by rfl, ?hy15_19⟩) (by assumption) ?rest15_19
      case hy15_19 => (intro w9 hSw; clear hSw; go_simp; try with_reducible rfl)
      try simp only [Act.put, List.setIfInBounds_toArray, List.set_cons_zero, List.set_cons_succ, List.getElem_toArray, List.getElem_cons_zero, List.getElem_cons_succ]
      refine wpAnyH_take (i := 16) (v := ?v16_20) rfl (by kernel_rfl) (by kernel_rfl) (by kernel_rfl) (fun _ _ _ h => h) (Or.inl ⟨by rfl, ?hy16_20⟩) (by assumption) ?rest16_20
      case hy16_20 => (intro w9 hSw; clear hSw; go_simp; try with_reducible rfl)
      try simp only [Act.put, List.setIfInBounds_toArray, List.set_cons_zero, List.set_cons_succ, List.getElem_toArray, List.getElem_cons_zero, List.getElem_cons_succ]
      refine wpAnyH_take (i := 17) (v := ?v17_21) rfl (by kernel_rfl) (by kernel_rfl) (by kernel_rfl) (fun _ _ _ h => h) (Or.inl ⟨by rfl, ?hy17_21⟩) (by assumption) ?rest17_21
      case hy17_21 => (intro w9 hSw; obtain ⟨m0, m1, m2⟩ := hSw; refine (ld_v (by rfl) (by kernel_rfl) m2).trans ?_; with_reducible rfl)
      try simp only [Act.put, List.setIfInBounds_toArray, List.set_cons_zero, List.set_cons_succ, List.getElem_toArray, List.getElem_cons_zero, List.getElem_cons_succ]
      refine wpAnyH_take (i := 18) (v := ?v18_22) rfl (by kernel_rfl) (by kernel_rfl) (by kernel_rfl) (fun _ _ _ h => h) (Or.inl ⟨by rfl, ?hy18_22⟩) (by assumption) ?rest18_22
      case hy18_22 => (intro w9 hSw; obtain ⟨m0, m1, m2⟩ := hSw; obtain ⟨q0_0, q0_1, q0_2, q0_3, q0_4, q0_5⟩ := Mbx.cells m0; obtain ⟨q1_0, q1_1, q1_2, q1_3, q1_4, q1_5⟩ := Mbx.cells m1; go_simp; try with_reducible rfl)
      try simp only [Act.put, List.setIfInBounds_toArray, List.set_cons_zero, List.set_cons_succ, List.getElem_toArray, List.getElem_cons_zero, List.getElem_cons_succ]
      refine wpAnyH_ready (rs := [19]) (by kernel_rfl) (by simp) ?_
      refine AllReadyH.cons rfl (fun K hK => ?_) AllReadyH.nil
      go_simp
      with_reducible refine (shows_true hVX.sv hO14.fl hVX.R hVX.C (Is.same I2.out JJ2.out)).mono ?_
      rintro e w14 ⟨rfl, hb⟩
      replace HM := HM.on hb
      replace hVX := hVX.on hb
      replace hVY := hVY.on hb
      replace Da := Da.on hb
      replace Db := Db.on hb
      replace D12 := D12.on hb
      replace hO12 := hO12.on hb
      replace D14 := D14.on hb
      replace hO14 := hO14.on hb
      replace bz := bz.trans (hb.mono bz.size)
      clear hb
      clear hS; refine hK.out _ _ ⟨HM.dx, D14, Da⟩ (fun hS => ?_); clear hK K
      try simp only [Act.put, List.setIfInBounds_toArray, List.set_cons_zero, List.set_cons_succ, List.getElem_toArray, List.getElem_cons_zero, List.getElem_cons_succ]
      refine wpAnyH_take (i := 20) (v := ?v20_23) rfl (by kernel_rfl) (by kernel_rfl) (by kernel_rfl) (fun _ _ _ h => h) (Or.inl ⟨by rfl, ?hy20_23⟩) (by assumption) ?rest20_23
      case hy20_23 => (intro w9 hSw; clear hSw; go_simp; try with_reducible rfl)
      try simp only [Act.put, List.setIfInBounds_toArray, List.set_cons_zero, List.set_cons_succ, List.getElem_toArray, List.getElem_cons_zero, List.getElem_cons_succ]
      refine wpAnyH_take (i := 21) (v := ?v21_24) rfl (by kernel_rfl) (by kernel_rfl) (by kernel_rfl) (fun _ _ _ h => h) (Or.inl ⟨by rfl, ?hy21_24⟩) (by assumption) ?rest21_24
      case hy21_24 => (intro w9 hSw; clear hSw; go_simp; try with_reducible rfl)
      try simp only [Act.put, List.setIfInBounds_toArray, List.set_cons_zero, List.set_cons_succ, List.getElem_toArray, List.getElem_cons_zero, List.getElem_cons_succ]
      refine wpAnyH_done (by kernel_rfl) ?_ _
      cases hr : (RX != RY)
      rotate_left
      · skip
        have hnd : (RX == RY && CX == CY) = false := by simp only [bne, Bool.not_eq_true'] at hr; rw [hr]; rfl
        have Qhr := Lib.hid hr
        clear hr
        have HND := Lib.hid hnd
        clear hnd
        obtain ⟨a0, a1, a2, a3, a4, a5, a6, a7, a8⟩ := Vbx.cells Da
        obtain ⟨b0, b1, b2, b3, b4, b5, b6, b7, b8⟩ := Vbx.cells Db
        go_wp2_with fail
        with_reducible refine (swap_no hVX hVY HND.out).mono ?_
        rintro e w15 ⟨rfl, hb⟩
        clear a0 a1 a2 a3 a4 a5 a6 a7 a8 b0 b1 b2 b3 b4 b5 b6 b7 b8
        replace HM := HM.on hb
        replace hVX := hVX.on hb
        replace hVY := hVY.on hb
        replace Da := Da.on hb
        replace Db := Db.on hb
        replace D12 := D12.on hb
        replace hO12 := hO12.on hb
        replace D14 := D14.on hb
        replace hO14 := hO14.on hb
        replace bz := bz.trans (hb.mono bz.size)
        clear hb
        have hr := Qhr.out
        obtain ⟨x0, x1, x2, x3, x4, x5⟩ := Mbx.cells HM.dx
        obtain ⟨y0, y1, y2, y3, y4, y5⟩ := Mbx.cells HM.dy
        go_wp2_with fail
        clear x0 x1 x2 x3 x4 x5 y0 y1 y2 y3 y4 y5
        with_reducible refine (num_any _ _).mono ?_
        rintro e v16 ⟨rfl, rfl⟩
        clear hr
        obtain ⟨a0, a1, a2, a3, a4, a5, a6, a7, a8⟩ := Vbx.cells Da
        obtain ⟨n0, n1, n2, n3, n4, n5⟩ := Mbx.cells D14
        go_wp2_with fail
        with_reducible refine (shows_true hVX.sv hO14.fl hVX.R hVX.C (Is.same I2.out JJ2.out)).mono ?_
        rintro e w17 ⟨rfl, hb⟩
        clear a0 a1 a2 a3 a4 a5 a6 a7 a8 n0 n1 n2 n3 n4 n5
        replace HM := HM.on hb
        replace hVX := hVX.on hb
        replace hVY := hVY.on hb
        replace Da := Da.on hb
        replace Db := Db.on hb
        replace D12 := D12.on hb
        replace hO12 := hO12.on hb
        replace D14 := D14.on hb
        replace hO14 := hO14.on hb
        replace bz := bz.trans (hb.mono bz.size)
        clear hb
        obtain ⟨b0, b1, b2, b3, b4, b5, b6, b7, b8⟩ := Vbx.cells Db
        obtain ⟨m0, m1, m2, m3, m4, m5⟩ := Mbx.cells D12
        go_wp2_with fail
        with_reducible refine (shows_true hVY.sv hO12.fl hVY.R hVY.C (Is.same I1.out J1.out)).mono ?_
        rintro e w18 ⟨rfl, hb⟩
        clear b0 b1 b2 b3 b4 b5 b6 b7 b8 m0 m1 m2 m3 m4 m5
        replace HM := HM.on hb
        replace hVX := hVX.on hb
        replace hVY := hVY.on hb
        replace Da := Da.on hb
        replace Db := Db.on hb
        replace D12 := D12.on hb
        replace hO12 := hO12.on hb
        replace D14 := D14.on hb
        replace hO14 := hO14.on hb
        replace bz := bz.trans (hb.mono bz.size)
        clear hb
        go_wp2_with fail
        with_reducible refine (known_any _).mono ?_
        rintro e w19 ⟨rfl, hb⟩
        replace HM := HM.on hb
        replace hVX := hVX.on hb
        replace hVY := hVY.on hb
        replace Da := Da.on hb
        replace Db := Db.on hb
        replace D12 := D12.on hb
        replace hO12 := hO12.on hb
        replace D14 := D14.on hb
        replace hO14 := hO14.on hb
        replace bz := bz.trans (hb.mono bz.size)
        clear hb
        go_wp2_with fail
        go_ret
        exact ⟨rfl, bz⟩
      cases hc : (CX != CY)
      rotate_left
      · skip
        have hnd : (RX == RY && CX == CY) = false := by simp only [bne, Bool.not_eq_true'] at hc; rw [hc, Bool.and_false]
        have Qhr := Lib.hid hr
        clear hr
        have Qhc := Lib.hid hc
        clear hc
        have HND := Lib.hid hnd
        clear hnd
        obtain ⟨a0, a1, a2, a3, a4, a5, a6, a7, a8⟩ := Vbx.cells Da
        obtain ⟨b0, b1, b2, b3, b4, b5, b6, b7, b8⟩ := Vbx.cells Db
        go_wp2_with fail
        with_reducible refine (swap_no hVX hVY HND.out).mono ?_
        rintro e w15 ⟨rfl, hb⟩
        clear a0 a1 a2 a3 a4 a5 a6 a7 a8 b0 b1 b2 b3 b4 b5 b6 b7 b8
        replace HM := HM.on hb
        replace hVX := hVX.on hb
        replace hVY := hVY.on hb
        replace Da := Da.on hb
        replace Db := Db.on hb
        replace D12 := D12.on hb
        replace hO12 := hO12.on hb
        replace D14 := D14.on hb
        replace hO14 := hO14.on hb
        replace bz := bz.trans (hb.mono bz.size)
        clear hb
        have hr := Qhr.out
        have hc := Qhc.out
        obtain ⟨x0, x1, x2, x3, x4, x5⟩ := Mbx.cells HM.dx
        obtain ⟨y0, y1, y2, y3, y4, y5⟩ := Mbx.cells HM.dy
        go_wp2_with fail
        clear x0 x1 x2 x3 x4 x5 y0 y1 y2 y3 y4 y5
        with_reducible refine (num_any _ _).mono ?_
        rintro e v16 ⟨rfl, rfl⟩
        clear hr
        clear hc
        obtain ⟨a0, a1, a2, a3, a4, a5, a6, a7, a8⟩ := Vbx.cells Da
        obtain ⟨n0, n1, n2, n3, n4, n5⟩ := Mbx.cells D14
        go_wp2_with fail
        with_reducible refine (shows_true hVX.sv hO14.fl hVX.R hVX.C (Is.same I2.out JJ2.out)).mono ?_
        rintro e w17 ⟨rfl, hb⟩
        clear a0 a1 a2 a3 a4 a5 a6 a7 a8 n0 n1 n2 n3 n4 n5
        replace HM := HM.on hb
        replace hVX := hVX.on hb
        replace hVY := hVY.on hb
        replace Da := Da.on hb
        replace Db := Db.on hb
        replace D12 := D12.on hb
        replace hO12 := hO12.on hb
        replace D14 := D14.on hb
        replace hO14 := hO14.on hb
        replace bz := bz.trans (hb.mono bz.size)
        clear hb
        obtain ⟨b0, b1, b2, b3, b4, b5, b6, b7, b8⟩ := Vbx.cells Db
        obtain ⟨m0, m1, m2, m3, m4, m5⟩ := Mbx.cells D12
        go_wp2_with fail
        with_reducible refine (shows_true hVY.sv hO12.fl hVY.R hVY.C (Is.same I1.out J1.out)).mono ?_
        rintro e w18 ⟨rfl, hb⟩
        clear b0 b1 b2 b3 b4 b5 b6 b7 b8 m0 m1 m2 m3 m4 m5
        replace HM := HM.on hb
        replace hVX := hVX.on hb
        replace hVY := hVY.on hb
        replace Da := Da.on hb
        replace Db := Db.on hb
        replace D12 := D12.on hb
        replace hO12 := hO12.on hb
        replace D14 := D14.on hb
        replace hO14 := hO14.on hb
        replace bz := bz.trans (hb.mono bz.size)
        clear hb
        go_wp2_with fail
        with_reducible refine (known_any _).mono ?_
        rintro e w19 ⟨rfl, hb⟩
        replace HM := HM.on hb
        replace hVX := hVX.on hb
        replace hVY := hVY.on hb
        replace Da := Da.on hb
        replace Db := Db.on hb
        replace D12 := D12.on hb
        replace hO12 := hO12.on hb
        replace D14 := D14.on hb
        replace hO14 := hO14.on hb
        replace bz := bz.trans (hb.mono bz.size)
        clear hb
        go_wp2_with fail
        go_ret
        exact ⟨rfl, bz⟩
      have ER := Lib.hid (eq_of_beq (a := RX) (b := RY) (by simpa [bne] using hr))
      have EC := Lib.hid (eq_of_beq (a := CX) (b := CY) (by simpa [bne] using hc))
      have Qhr := Lib.hid hr
      clear hr
      have Qhc := Lib.hid hc
      clear hc
      obtain ⟨a0, a1, a2, a3, a4, a5, a6, a7, a8⟩ := Vbx.cells Da
      obtain ⟨b0, b1, b2, b3, b4, b5, b6, b7, b8⟩ := Vbx.cells Db
      go_wp2_with fail
      with_reducible refine (swap_yes (R := RX) (C := CX) hVX (by rw [ER.out, EC.out]; exact hVY) ap sp).mono ?_
      rintro e w91 ⟨lx9, ly9, GX, GY, w90, rfl, hVX2, hVY2, hIX, hIY, hg1, hg2⟩
      clear a0 a1 a2 a3 a4 a5 a6 a7 a8 b0 b1 b2 b3 b4 b5 b6 b7 b8
      replace HM := HM.grown hg1 (by omega)
      replace Da := Da.grown hg1 (by simp <;> omega)
      replace Db := Db.grown hg1 (by simp <;> omega)
      replace D12 := D12.grown hg1 (by simp <;> omega)
      replace hO12 := hO12.grown hg1 (by omega)
      replace D14 := D14.grown hg1 (by simp <;> omega)
      replace hO14 := hO14.grown hg1 (by omega)
      replace bz := bz.grown hg1 bz.size (fun k e => by cases e; omega)
      replace HM := HM.grown hg2 (by omega)
      replace Da := Da.grown hg2 (by simp <;> omega)
      replace Db := Db.grown hg2 (by simp <;> omega)
      replace D12 := D12.grown hg2 (by simp <;> omega)
      replace hO12 := hO12.grown hg2 (by omega)
      replace D14 := D14.grown hg2 (by simp <;> omega)
      replace hO14 := hO14.grown hg2 (by omega)
      replace bz := bz.grown hg2 bz.size (fun k e => by cases e; omega)
      replace hVX := hVX2
      replace hVY := hVY2
      have I1s := Lib.hid (I1.out.to hIX)
      have I2s := Lib.hid (I2.out.to hIY)
      clear hVX2 hVY2 hIX hIY hg1 hg2
      have hr := Qhr.out
      have hc := Qhc.out
      obtain ⟨x0, x1, x2, x3, x4, x5⟩ := Mbx.cells HM.dx
      obtain ⟨y0, y1, y2, y3, y4, y5⟩ := Mbx.cells HM.dy
      go_wp2_with fail
      clear x0 x1 x2 x3 x4 x5 y0 y1 y2 y3 y4 y5
      with_reducible refine (num_any _ _).mono ?_
      rintro e v15 ⟨rfl, rfl⟩
      clear hr
      clear hc
      obtain ⟨a0, a1, a2, a3, a4, a5, a6, a7, a8⟩ := Vbx.cells Da
      obtain ⟨m0, m1, m2, m3, m4, m5⟩ := Mbx.cells D12
      go_wp2_with fail
      with_reducible refine (shows_true hVX.sv hO12.fl (hVX.R.trans ER.out) (hVX.C.trans EC.out) (Is.same I1s.out J1.out)).mono ?_
      rintro e w16 ⟨rfl, hb⟩
      clear a0 a1 a2 a3 a4 a5 a6 a7 a8 m0 m1 m2 m3 m4 m5
      replace HM := HM.on hb
      replace hVX := hVX.on hb
      replace hVY := hVY.on hb
      replace Da := Da.on hb
      replace Db := Db.on hb
      replace D12 := D12.on hb
      replace hO12 := hO12.on hb
      replace D14 := D14.on hb
      replace hO14 := hO14.on hb
      replace bz := bz.trans (hb.mono bz.size)
      clear hb
      obtain ⟨b0, b1, b2, b3, b4, b5, b6, b7, b8⟩ := Vbx.cells Db
      obtain ⟨n0, n1, n2, n3, n4, n5⟩ := Mbx.cells D14
      go_wp2_with fail
      with_reducible refine (shows_true hVY.sv hO14.fl hVY.R hVY.C (Is.same I2s.out JJ2.out)).mono ?_
      rintro e w17 ⟨rfl, hb⟩
      clear b0 b1 b2 b3 b4 b5 b6 b7 b8 n0 n1 n2 n3 n4 n5
      replace HM := HM.on hb
      replace hVX := hVX.on hb
      replace hVY := hVY.on hb
      replace Da := Da.on hb
      replace Db := Db.on hb
      replace D12 := D12.on hb
      replace hO12 := hO12.on hb
      replace D14 := D14.on hb
      replace hO14 := hO14.on hb
      replace bz := bz.trans (hb.mono bz.size)
      clear hb
      go_wp2_with fail
      with_reducible refine (known_any _).mono ?_
      rintro e w18 ⟨rfl, hb⟩
      replace HM := HM.on hb
      replace hVX := hVX.on hb
      replace hVY := hVY.on hb
      replace Da := Da.on hb
      replace Db := Db.on hb
      replace D12 := D12.on hb
      replace hO12 := hO12.on hb
      replace D14 := D14.on hb
      replace hO14 := hO14.on hb
      replace bz := bz.trans (hb.mono bz.size)
      clear hb
      go_wp2_with fail
      go_ret
      exact ⟨rfl, bz⟩
    refine wp_region_held_drew (S := fun w9 : World => Mbx w9 w.heap.size RX CX AX nX cX ∧ Mbx w9 (w.heap.size + 1) RY CY AY nY cY) (by kernel_rfl) ⟨HM.dx, HM.dy⟩ (fun hS => ?_)
    generalize w44.drew = wd15 at hS HM hVX hVY Da Db D12 hO12  bz ⊢
    refine wpAnyH_take (i := 0) (v := ?v0_25) rfl (by kernel_rfl) (by kernel_rfl) (by kernel_rfl) (fun _ _ _ h => h) (Or.inl ⟨by rfl, ?hy0_25⟩) (by assumption) ?rest0_25
    case hy0_25 => (intro w9 hSw; obtain ⟨m0, m1⟩ := hSw; obtain ⟨q0_0, q0_1, q0_2, q0_3, q0_4, q0_5⟩ := Mbx.cells m0; obtain ⟨q1_0, q1_1, q1_2, q1_3, q1_4, q1_5⟩ := Mbx.cells m1; go_simp; try with_reducible rfl)
    try simp only [Act.put, List.setIfInBounds_toArray, List.set_cons_zero, List.set_cons_succ, List.getElem_toArray, List.getElem_cons_zero, List.getElem_cons_succ]
    refine wpAnyH_take (i := 1) (v := ?v1_26) rfl (by kernel_rfl) (by kernel_rfl) (by kernel_rfl) (fun _ _ _ h => h) (Or.inl ⟨by rfl, ?hy1_26⟩) (by assumption) ?rest1_26
    case hy1_26 => (intro w9 hSw; clear hSw; go_simp; try with_reducible rfl)
    try simp only [Act.put, List.setIfInBounds_toArray, List.set_cons_zero, List.set_cons_succ, List.getElem_toArray, List.getElem_cons_zero, List.getElem_cons_succ]
    refine wpAnyH_take (i := 2) (v := ?v2_27) rfl (by kernel_rfl) (by kernel_rfl) (by kernel_rfl) (fun _ _ _ h => h) (Or.inl ⟨by rfl, ?hy2_27⟩) (by assumption) ?rest2_27
    case hy2_27 => (intro w9 hSw; clear hSw; go_simp; try with_reducible rfl)
    try simp only [Act.put, List.setIfInBounds_toArray, List.set_cons_zero, List.set_cons_succ, List.getElem_toArray, List.getElem_cons_zero, List.getElem_cons_succ]
    refine wpAnyH_take (i := 3) (v := ?v3_28) rfl (by kernel_rfl) (by kernel_rfl) (by kernel_rfl) (fun _ _ _ h => h) (Or.inl ⟨by rfl, ?hy3_28⟩) (by assumption) ?rest3_28
    case hy3_28 => (intro w9 hSw; obtain ⟨m0, m1⟩ := hSw; obtain ⟨q0_0, q0_1, q0_2, q0_3, q0_4, q0_5⟩ := Mbx.cells m0; obtain ⟨q1_0, q1_1, q1_2, q1_3, q1_4, q1_5⟩ := Mbx.cells m1; go_simp; try with_reducible rfl)
    try simp only [Act.put, List.setIfInBounds_toArray, List.set_cons_zero, List.set_cons_succ, List.getElem_toArray, List.getElem_cons_zero, List.getElem_cons_succ]
    refine wpAnyH_ready (rs := [4, 6]) (by kernel_rfl) (by simp) ?_
    refine (AllReadyH.cons rfl (fun K hK => ?_) (AllReadyH.cons rfl (fun K hK => ?_) AllReadyH.nil))
    · go_simp
      have m14 := And.intro hVX.st.gt.2 hVY.st.gt.2
      have m14D := D12.lt
      with_reducible refine (rScal_any ba HM.fx.fl (by have := HSX.out.2; have := uX; omega)).mono ?_
      rintro e w10 ⟨A14, c14, L14, rfl, hJ2, ho, hb⟩
      replace HM := HM.on hb
      replace hVX := hVX.on hb
      replace hVY := hVY.on hb
      replace Da := Da.on hb
      replace Db := Db.on hb
      replace D12 := D12.on hb
      replace hO12 := hO12.on hb
      replace bz := bz.trans (hb.mono bz.size)
      clear hb
      have hO14 := hJ2.fo ho
      clear ho
      clear hS; refine hK.out _ _ ⟨HM.dx, HM.dy⟩ (fun hS => ?_); clear hK K
      try simp only [Act.put, List.setIfInBounds_toArray, List.set_cons_zero, List.set_cons_succ, List.getElem_toArray, List.getElem_cons_zero, List.getElem_cons_succ]
      refine wpAnyH_ready (rs := [5, 6]) (by kernel_rfl) (by simp) ?_
      refine (AllReadyH.cons rfl (fun K hK => ?_) (AllReadyH.cons rfl (fun K hK => ?_) AllReadyH.nil))
      · go_simp
        with_reducible refine (like_any _ _ _ _ _ _).mono ?_
        rintro e w11 ⟨rfl, hb⟩
        replace HM := HM.on hb
        replace hVX := hVX.on hb
        replace hVY := hVY.on hb
        replace Da := Da.on hb
        replace Db := Db.on hb
        replace D12 := D12.on hb
        replace hO12 := hO12.on hb
        replace hO14 := hO14.on hb
        replace bz := bz.trans (hb.mono bz.size)
        clear hb
        clear hS; refine hK.out _ _ ⟨HM.dx, HM.dy⟩ (fun hS => ?_); clear hK K
        try simp only [Act.put, List.setIfInBounds_toArray, List.set_cons_zero, List.set_cons_succ, List.getElem_toArray, List.getElem_cons_zero, List.getElem_cons_succ]
        refine wpAnyH_ready (rs := [6]) (by kernel_rfl) (by simp) ?_
        refine AllReadyH.cons rfl (fun K hK => ?_) AllReadyH.nil
        go_simp
        have lD14 := And.intro (And.intro hVX.st.lt hVX.st.gt.2) (And.intro hVY.st.lt hVY.st.gt.2)
        have rD14 := And.intro (And.intro Da.lt Db.lt) (And.intro HM.dx.lt HM.dy.lt)
        have tD14 := D12.lt
        replace hO12 := hO12.top
        replace hO14 := hO14.top
        have D14 := Blk.new w11 [.int .i64 0, .int .i64 0, .slice none 0 0] 24
        obtain ⟨HD14, eHD14⟩ : ∃ H, w11.heap.size = H := ⟨_, rfl⟩
        rw [eHD14] at D14
        have hbA := (Below.refl _ w11).alloc (Nat.le_refl _) (.cells #[.int .i64 0, .int .i64 0, .slice none 0 0] 24)
        replace HM := HM.on hbA
        replace hVX := hVX.on hbA
        replace hVY := hVY.on hbA
        replace Da := Da.on hbA
        replace Db := Db.on hbA
        replace D12 := D12.on hbA
        replace hO12 := hO12.on hbA
        replace hO14 := hO14.on hbA
        clear hbA
        replace bz := bz.alloc bz.size (.cells #[.int .i64 0, .int .i64 0, .slice none 0 0] 24)
        have HHD14 := Lib.hid eHD14
        rw [eHD14] at lD14 rD14 tD14 hO12 hO14
        simp only [eHD14] at ⊢
        clear eHD14
        generalize (w11.alloc (.cells #[.int .i64 0, .int .i64 0, .slice none 0 0] 24)) = Wa14 at HM hVX hVY Da Db D12 hO12 hO14 D14 bz ⊢
        clear hS; refine hK.out _ _ ⟨HM.dx, HM.dy⟩ (fun hS => ?_); clear hK K
        try simp only [Act.put, List.setIfInBounds_toArray, List.set_cons_zero, List.set_cons_succ, List.getElem_toArray, List.getElem_cons_zero, List.getElem_cons_succ]
        obtain ⟨fc0, fc1, fc2, fr0, fr1, fr2⟩ := Mbx.cells D14
        refine wpAnyH_ready (rs := [7]) (by kernel_rfl) (by simp) ?_
        refine AllReadyH.cons rfl (fun K hK => ?_) AllReadyH.nil
        go_simp
        clear fc0 fc1 fc2 fr0 fr1 fr2
        have hgS := set3_grown' Wa14 HD14 (.int .i64 RX) (.int .i64 CX) (.slice A14 nX c14)
        replace D14 := Mbx.put D14 RX CX A14 nX c14
        replace HM := HM.grown hgS (by omega)
        replace hVX := hVX.grown hgS (by omega) (by omega)
        replace hVY := hVY.grown hgS (by omega) (by omega)
        replace Da := Da.grown hgS (by simp <;> omega)
        replace Db := Db.grown hgS (by simp <;> omega)
        replace D12 := D12.grown hgS (by simp <;> omega)
        replace hO12 := hO12.grown hgS (by omega)
        replace hO14 := hO14.grown hgS (by omega)
        replace bz := bz.grown hgS bz.size (fun k e => by cases e; omega)
        generalize (((Wa14.setCell ⟨HD14, 0, none⟩ (.int .i64 RX)).setCell ⟨HD14, 1, none⟩ (.int .i64 CX)).setCell ⟨HD14, 2, none⟩ (.slice A14 nX c14)) = Ws14 at HM hVX hVY Da Db D12 hO12 hO14 D14 bz ⊢
        clear hgS
        clear hS; refine hK.out _ _ ⟨HM.dx, HM.dy⟩ (fun hS => ?_); clear hK K
        try simp only [Act.put, List.setIfInBounds_toArray, List.set_cons_zero, List.set_cons_succ, List.getElem_toArray, List.getElem_cons_zero, List.getElem_cons_succ]
        refine wpAnyH_done (by kernel_rfl) ?_ _
        exact key _ _ _ _ _ _ _ _ _ _ _ _ _ _ _ _ _ _ _ _ _ _ _ _ _ _ _ _ _ _ _ _ _ _ _ _ _ _ _ _ _ _ _ _ _ _ _ _ _ _ _ _ _ _ _ _ _ _ _ _ _ _ _ _ _ _ _ _ _ _ _ _ _ _ _ _ _ _ _ _ _ _ _ _ _ _ _ _ _ _ _ _ _ _ _ _ _ _ _ _ _ _ _ _ _ _ _ _ _ _ _ _ _ _ _ _ _ _ _ _ _ _ _ _ _ _ _ _ _ _ _ _ _ _ _ _ _ _ _ _ _ _ _ _ _ _ _ _ _ _ _ _ _ _ HM hVX hVY Da Db D12 hO12 D14 hO14 hJ2 bz (by omega)
      go_simp
      have lD14 := And.intro (And.intro hVX.st.lt hVX.st.gt.2) (And.intro hVY.st.lt hVY.st.gt.2)
      have rD14 := And.intro (And.intro Da.lt Db.lt) (And.intro HM.dx.lt HM.dy.lt)
      have tD14 := D12.lt
      replace hO12 := hO12.top
      replace hO14 := hO14.top
      have D14 := Blk.new w10 [.int .i64 0, .int .i64 0, .slice none 0 0] 24
      obtain ⟨HD14, eHD14⟩ : ∃ H, w10.heap.size = H := ⟨_, rfl⟩
      rw [eHD14] at D14
      have hbA := (Below.refl _ w10).alloc (Nat.le_refl _) (.cells #[.int .i64 0, .int .i64 0, .slice none 0 0] 24)
      replace HM := HM.on hbA
      replace hVX := hVX.on hbA
      replace hVY := hVY.on hbA
      replace Da := Da.on hbA
      replace Db := Db.on hbA
      replace D12 := D12.on hbA
      replace hO12 := hO12.on hbA
      replace hO14 := hO14.on hbA
      clear hbA
      replace bz := bz.alloc bz.size (.cells #[.int .i64 0, .int .i64 0, .slice none 0 0] 24)
      have HHD14 := Lib.hid eHD14
      rw [eHD14] at lD14 rD14 tD14 hO12 hO14
      simp only [eHD14] at ⊢
      clear eHD14
      generalize (w10.alloc (.cells #[.int .i64 0, .int .i64 0, .slice none 0 0] 24)) = Wa14 at HM hVX hVY Da Db D12 hO12 hO14 D14 bz ⊢
      clear hS; refine hK.out _ _ ⟨HM.dx, HM.dy⟩ (fun hS => ?_); clear hK K
      try simp only [Act.put, List.setIfInBounds_toArray, List.set_cons_zero, List.set_cons_succ, List.getElem_toArray, List.getElem_cons_zero, List.getElem_cons_succ]
      refine wpAnyH_ready (rs := [5]) (by kernel_rfl) (by simp) ?_
      refine AllReadyH.cons rfl (fun K hK => ?_) AllReadyH.nil
      go_simp
      with_reducible refine (like_any _ _ _ _ _ _).mono ?_
      rintro e w11 ⟨rfl, hb⟩
      replace HM := HM.on hb
      replace hVX := hVX.on hb
      replace hVY := hVY.on hb
      replace Da := Da.on hb
      replace Db := Db.on hb
      replace D12 := D12.on hb
      replace hO12 := hO12.on hb
      replace hO14 := hO14.on hb
      replace D14 := D14.on hb
      replace bz := bz.trans (hb.mono bz.size)
      clear hb
      clear hS; refine hK.out _ _ ⟨HM.dx, HM.dy⟩ (fun hS => ?_); clear hK K
      try simp only [Act.put, List.setIfInBounds_toArray, List.set_cons_zero, List.set_cons_succ, List.getElem_toArray, List.getElem_cons_zero, List.getElem_cons_succ]
      obtain ⟨fc0, fc1, fc2, fr0, fr1, fr2⟩ := Mbx.cells D14
      refine wpAnyH_ready (rs := [7]) (by kernel_rfl) (by simp) ?_
      refine AllReadyH.cons rfl (fun K hK => ?_) AllReadyH.nil
      go_simp
      clear fc0 fc1 fc2 fr0 fr1 fr2
      have hgS := set3_grown' w11 HD14 (.int .i64 RX) (.int .i64 CX) (.slice A14 nX c14)
      replace D14 := Mbx.put D14 RX CX A14 nX c14
      replace HM := HM.grown hgS (by omega)
      replace hVX := hVX.grown hgS (by omega) (by omega)
      replace hVY := hVY.grown hgS (by omega) (by omega)
      replace Da := Da.grown hgS (by simp <;> omega)
      replace Db := Db.grown hgS (by simp <;> omega)
      replace D12 := D12.grown hgS (by simp <;> omega)
      replace hO12 := hO12.grown hgS (by omega)
      replace hO14 := hO14.grown hgS (by omega)
      replace bz := bz.grown hgS bz.size (fun k e => by cases e; omega)
      generalize (((w11.setCell ⟨HD14, 0, none⟩ (.int .i64 RX)).setCell ⟨HD14, 1, none⟩ (.int .i64 CX)).setCell ⟨HD14, 2, none⟩ (.slice A14 nX c14)) = Ws14 at HM hVX hVY Da Db D12 hO12 hO14 D14 bz ⊢
      clear hgS
      clear hS; refine hK.out _ _ ⟨HM.dx, HM.dy⟩ (fun hS => ?_); clear hK K
      try simp only [Act.put, List.setIfInBounds_toArray, List.set_cons_zero, List.set_cons_succ, List.getElem_toArray, List.getElem_cons_zero, List.getElem_cons_succ]
      refine wpAnyH_done (by kernel_rfl) ?_ _
      exact key _ _ _ _ _ _ _ _ _ _ _ _ _ _ _ _ _ _ _ _ _ _ _ _ _ _ _ _ _ _ _ _ _ _ _ _ _ _ _ _ _ _ _ _ _ _ _ _ _ _ _ _ _ _ _ _ _ _ _ _ _ _ _ _ _ _ _ _ _ _ _ _ _ _ _ _ _ _ _ _ _ _ _ _ _ _ _ _ _ _ _ _ _ _ _ _ _ _ _ _ _ _ _ _ _ _ _ _ _ _ _ _ _ _ _ _ _ _ _ _ _ _ _ _ _ _ _ _ _ _ _ _ _ _ _ _ _ _ _ _ _ _ _ _ _ _ _ _ _ _ _ _ _ _ HM hVX hVY Da Db D12 hO12 D14 hO14 hJ2 bz (by omega)
    go_simp
    have lD14 := And.intro (And.intro hVX.st.lt hVX.st.gt.2) (And.intro hVY.st.lt hVY.st.gt.2)
    have rD14 := And.intro (And.intro Da.lt Db.lt) (And.intro HM.dx.lt HM.dy.lt)
    have tD14 := D12.lt
    replace hO12 := hO12.top
    have D14 := Blk.new wd15 [.int .i64 0, .int .i64 0, .slice none 0 0] 24
    obtain ⟨HD14, eHD14⟩ : ∃ H, wd15.heap.size = H := ⟨_, rfl⟩
    rw [eHD14] at D14
    have hbA := (Below.refl _ wd15).alloc (Nat.le_refl _) (.cells #[.int .i64 0, .int .i64 0, .slice none 0 0] 24)
    replace HM := HM.on hbA
    replace hVX := hVX.on hbA
    replace hVY := hVY.on hbA
    replace Da := Da.on hbA
    replace Db := Db.on hbA
    replace D12 := D12.on hbA
    replace hO12 := hO12.on hbA
    clear hbA
    replace bz := bz.alloc bz.size (.cells #[.int .i64 0, .int .i64 0, .slice none 0 0] 24)
    have HHD14 := Lib.hid eHD14
    rw [eHD14] at lD14 rD14 tD14 hO12
    simp only [eHD14] at ⊢
    clear eHD14
    generalize (wd15.alloc (.cells #[.int .i64 0, .int .i64 0, .slice none 0 0] 24)) = Wa14 at HM hVX hVY Da Db D12 hO12 D14 bz ⊢
    clear hS; refine hK.out _ _ ⟨HM.dx, HM.dy⟩ (fun hS => ?_); clear hK K
    try simp only [Act.put, List.setIfInBounds_toArray, List.set_cons_zero, List.set_cons_succ, List.getElem_toArray, List.getElem_cons_zero, List.getElem_cons_succ]
    refine wpAnyH_ready (rs := [4]) (by kernel_rfl) (by simp) ?_
    refine AllReadyH.cons rfl (fun K hK => ?_) AllReadyH.nil
    go_simp
    have m14 := And.intro hVX.st.gt.2 hVY.st.gt.2
    have m14D := D12.lt
    have m14E := D14.lt
    with_reducible refine (rScal_any ba HM.fx.fl (by have := HSX.out.2; have := uX; omega)).mono ?_
    rintro e w10 ⟨A14, c14, L14, rfl, hJ2, ho, hb⟩
    replace HM := HM.on hb
    replace hVX := hVX.on hb
    replace hVY := hVY.on hb
    replace Da := Da.on hb
    replace Db := Db.on hb
    replace D12 := D12.on hb
    replace hO12 := hO12.on hb
    replace D14 := D14.on hb
    replace bz := bz.trans (hb.mono bz.size)
    clear hb
    have hO14 := hJ2.fo ho
    clear ho
    clear hS; refine hK.out _ _ ⟨HM.dx, HM.dy⟩ (fun hS => ?_); clear hK K
    try simp only [Act.put, List.setIfInBounds_toArray, List.set_cons_zero, List.set_cons_succ, List.getElem_toArray, List.getElem_cons_zero, List.getElem_cons_succ]
    refine wpAnyH_ready (rs := [5]) (by kernel_rfl) (by simp) ?_
    refine AllReadyH.cons rfl (fun K hK => ?_) AllReadyH.nil
    go_simp
    with_reducible refine (like_any _ _ _ _ _ _).mono ?_
    rintro e w11 ⟨rfl, hb⟩
    replace HM := HM.on hb
    replace hVX := hVX.on hb
    replace hVY := hVY.on hb
    replace Da := Da.on hb
    replace Db := Db.on hb
    replace D12 := D12.on hb
    replace hO12 := hO12.on hb
    replace D14 := D14.on hb
    replace hO14 := hO14.on hb
    replace bz := bz.trans (hb.mono bz.size)
    clear hb
    clear hS; refine hK.out _ _ ⟨HM.dx, HM.dy⟩ (fun hS => ?_); clear hK K
    try simp only [Act.put, List.setIfInBounds_toArray, List.set_cons_zero, List.set_cons_succ, List.getElem_toArray, List.getElem_cons_zero, List.getElem_cons_succ]
    obtain ⟨fc0, fc1, fc2, fr0, fr1, fr2⟩ := Mbx.cells D14
    refine wpAnyH_ready (rs := [7]) (by kernel_rfl) (by simp) ?_
    refine AllReadyH.cons rfl (fun K hK => ?_) AllReadyH.nil
    go_simp
    clear fc0 fc1 fc2 fr0 fr1 fr2
    have hgS := set3_grown' w11 HD14 (.int .i64 RX) (.int .i64 CX) (.slice A14 nX c14)
    replace D14 := Mbx.put D14 RX CX A14 nX c14
    replace HM := HM.grown hgS (by omega)
    replace hVX := hVX.grown hgS (by omega) (by omega)
    replace hVY := hVY.grown hgS (by omega) (by omega)
    replace Da := Da.grown hgS (by simp <;> omega)
    replace Db := Db.grown hgS (by simp <;> omega)
    replace D12 := D12.grown hgS (by simp <;> omega)
    replace hO12 := hO12.grown hgS (by omega)
    replace hO14 := hO14.grown hgS (by omega)
    replace bz := bz.grown hgS bz.size (fun k e => by cases e; omega)
    generalize (((w11.setCell ⟨HD14, 0, none⟩ (.int .i64 RX)).setCell ⟨HD14, 1, none⟩ (.int .i64 CX)).setCell ⟨HD14, 2, none⟩ (.slice A14 nX c14)) = Ws14 at HM hVX hVY Da Db D12 hO12 D14 hO14 bz ⊢
    clear hgS
    clear hS; refine hK.out _ _ ⟨HM.dx, HM.dy⟩ (fun hS => ?_); clear hK K
    try simp only [Act.put, List.setIfInBounds_toArray, List.set_cons_zero, List.set_cons_succ, List.getElem_toArray, List.getElem_cons_zero, List.getElem_cons_succ]
    refine wpAnyH_done (by kernel_rfl) ?_ _
    exact key _ _ _ _ _ _ _ _ _ _ _ _ _ _ _ _ _ _ _ _ _ _ _ _ _ _ _ _ _ _ _ _ _ _ _ _ _ _ _ _ _ _ _ _ _ _ _ _ _ _ _ _ _ _ _ _ _ _ _ _ _ _ _ _ _ _ _ _ _ _ _ _ _ _ _ _ _ _ _ _ _ _ _ _ _ _ _ _ _ _ _ _ _ _ _ _ _ _ _ _ _ _ _ _ _ _ _ _ _ _ _ _ _ _ _ _ _ _ _ _ _ _ _ _ _ _ _ _ _ _ _ _ _ _ _ _ _ _ _ _ _ _ _ _ _ _ _ _ _ _ _ _ _ _ HM hVX hVY Da Db D12 hO12 D14 hO14 hJ2 bz (by omega)
end Go.Proofs.Ytfelmkkkaphkpaa
namespace Go.Proofs.Ytfelmkkkaphkpaa
open Go.RowKit Go.Bw Go.Sort Go.Shelf
set_option linter.unusedVariables false
set_option linter.unusedSimpArgs false

set_option maxRecDepth 100000 in
set_option maxHeartbeats 8000000 in
theorem KernelsSteps_p2 {w : World} {RX CX : Int} {AX : Option Addr} {nX cX : Nat} {LX : List Int} {RY CY : Int} {AY : Option Addr} {nY cY : Nat} {LY : List Int} {a : Nat} {turned : Bool} (ba : a ≤ 18446744073709551615) (hX : FL w AX nX cX LX) (hY : FL w AY nY cY LY) (b0 : bigM RX CX nX = false) (b1 : bigM RY CY nY = false) (hv : vecM RX CX = true) (hw : vecM RY CY = true) (hn : ((nX : Int) == (nY : Int)) = false) : Calls Try.prog 4 #[.float .f64 a, mV RX CX AX nX cX, mV RY CY AY nY cY, .bool turned] w (Ans w (.bool true)) := by
  have pbX := fun W => big_any RX CX AX nX cX hX.max W
  rw [b0] at pbX
  obtain ⟨zX, eX, uX⟩ := big_is b0
  have HSX := Lib.hid (And.intro zX eX)
  clear b0 zX eX
  have pbY := fun W => big_any RY CY AY nY cY hY.max W
  rw [b1] at pbY
  obtain ⟨zY, eY, uY⟩ := big_is b1
  have HSY := Lib.hid (And.intro zY eY)
  clear b1 zY eY
  have EX := Lib.hid hX.1
  have mxX := hX.max
  have EY := Lib.hid hY.1
  have mxY := hY.max
  have zX := (szB_bd HSX.out.1).1
  obtain ⟨qX, hqX⟩ := Int.eq_ofNat_of_zero_le zX.2.2.1
  have HQX := Lib.hid hqX
  clear zX hqX
  have zY := (szB_bd HSY.out.1).1
  obtain ⟨qY, hqY⟩ := Int.eq_ofNat_of_zero_le zY.2.2.1
  have HQY := Lib.hid hqY
  clear zY hqY
  have hf : (vecM RX CX && vecM RY CY && ((nX : Int) == (nY : Int))) = false := by rw [hv, hw, hn]; rfl
  have HFT := Lib.hid hf
  clear hf
  have HV := Lib.hid hv
  clear hv
  have HVY := Lib.hid hw
  clear hw
  have HN := Lib.hid hn
  clear hn
  have DX := Blk.new w [.int .i64 RX, .int .i64 CX, .slice AX nX cX] 24
  have DY := Blk.new (w.alloc (.cells #[.int .i64 RX, .int .i64 CX, .slice AX nX cX] 24)) [.int .i64 RY, .int .i64 CY, .slice AY nY cY] 24
  replace DX := DX.alloc (.cells #[.int .i64 RY, .int .i64 CY, .slice AY nY cY] 24)
  simp only [World.size_alloc] at DY
  have bz := ((Below.refl _ w).alloc (Nat.le_refl _) (.cells #[.int .i64 RX, .int .i64 CX, .slice AX nX cX] 24)).alloc (by simp <;> omega) (.cells #[.int .i64 RY, .int .i64 CY, .slice AY nY cY] 24)
  have hsz0 : ((w.alloc (.cells #[.int .i64 RX, .int .i64 CX, .slice AX nX cX] 24)).alloc (.cells #[.int .i64 RY, .int .i64 CY, .slice AY nY cY] 24)).heap.size = w.heap.size + 2 := by simp
  have hFX := hX.lo.on bz
  clear hX
  have hFY := hY.lo.on bz
  clear hY
  go_enter Try.func4, Try.ntmps4
  have HM : M4 (((w.alloc (.cells #[.int .i64 RX, .int .i64 CX, .slice AX nX cX] 24)).alloc (.cells #[.int .i64 RY, .int .i64 CY, .slice AY nY cY] 24))) w.heap.size RX CX AX nX cX LX RY CY AY nY cY LY := ⟨DX, DY, hFX, hFY⟩
  clear DX DY hFX hFY
  obtain ⟨x0, x1, x2, x3, x4, x5⟩ := Mbx.cells HM.dx
  obtain ⟨y0, y1, y2, y3, y4, y5⟩ := Mbx.cells HM.dy
  go_wp2_with fail
  with_reducible refine (pbX _).mono ?_
  rintro e w1 ⟨rfl, hb⟩
  clear x0 x1 x2 x3 x4 x5 y0 y1 y2 y3 y4 y5
  replace HM := HM.on hb
  replace bz := bz.trans (hb.mono bz.size)
  clear hb
  obtain ⟨x0, x1, x2, x3, x4, x5⟩ := Mbx.cells HM.dx
  obtain ⟨y0, y1, y2, y3, y4, y5⟩ := Mbx.cells HM.dy
  go_wp2_with fail
  with_reducible refine (pbY _).mono ?_
  rintro e w2 ⟨rfl, hb⟩
  clear x0 x1 x2 x3 x4 x5 y0 y1 y2 y3 y4 y5
  replace HM := HM.on hb
  replace bz := bz.trans (hb.mono bz.size)
  clear hb
  obtain ⟨x0, x1, x2, x3, x4, x5⟩ := Mbx.cells HM.dx
  obtain ⟨y0, y1, y2, y3, y4, y5⟩ := Mbx.cells HM.dy
  go_wp2_with fail
  clear x0 x1 x2 x3 x4 x5 y0 y1 y2 y3 y4 y5
  replace HM := HM.drew
  replace bz := bz.drew
  refine wp_region_held_drew (S := fun w9 : World => Mbx w9 w.heap.size RX CX AX nX cX ∧ Mbx w9 (w.heap.size + 1) RY CY AY nY cY) (by kernel_rfl) ⟨HM.dx, HM.dy⟩ (fun hS => ?_)
  have hwl := HM.dy.lt
  generalize w2.drew = wf at hS hwl HM bz ⊢
  refine wpAnyH_take (i := 0) (v := ?v0_29) rfl (by kernel_rfl) (by kernel_rfl) (by kernel_rfl) (fun _ _ _ h => h) (Or.inl ⟨by rfl, ?hy0_29⟩) (by assumption) ?rest0_29
  case hy0_29 => (intro w9 hSw; obtain ⟨m0, m1⟩ := hSw; obtain ⟨q0_0, q0_1, q0_2, q0_3, q0_4, q0_5⟩ := Mbx.cells m0; obtain ⟨q1_0, q1_1, q1_2, q1_3, q1_4, q1_5⟩ := Mbx.cells m1; go_simp; try with_reducible rfl)
  try simp only [Act.put, List.setIfInBounds_toArray, List.set_cons_zero, List.set_cons_succ, List.getElem_toArray, List.getElem_cons_zero, List.getElem_cons_succ]
  refine wpAnyH_take (i := 2) (v := ?v2_30) rfl (by kernel_rfl) (by kernel_rfl) (by kernel_rfl) (fun _ _ _ h => h) (Or.inl ⟨by rfl, ?hy2_30⟩) (by assumption) ?rest2_30
  case hy2_30 => (intro w9 hSw; obtain ⟨m0, m1⟩ := hSw; obtain ⟨q0_0, q0_1, q0_2, q0_3, q0_4, q0_5⟩ := Mbx.cells m0; obtain ⟨q1_0, q1_1, q1_2, q1_3, q1_4, q1_5⟩ := Mbx.cells m1; go_simp; try with_reducible rfl)
  try simp only [Act.put, List.setIfInBounds_toArray, List.set_cons_zero, List.set_cons_succ, List.getElem_toArray, List.getElem_cons_zero, List.getElem_cons_succ]
  refine wpAnyH_take (i := 3) (v := ?v3_31) rfl (by kernel_rfl) (by kernel_rfl) (by kernel_rfl) (fun _ _ _ h => h) (Or.inl ⟨by rfl, ?hy3_31⟩) (by assumption) ?rest3_31
  case hy3_31 => (intro w9 hSw; clear hSw; go_simp; try with_reducible rfl)
  try simp only [Act.put, List.setIfInBounds_toArray, List.set_cons_zero, List.set_cons_succ, List.getElem_toArray, List.getElem_cons_zero, List.getElem_cons_succ]
  obtain ⟨I, hI⟩ : ∃ I : Array Value → List Bool → Act → World → Prop, I = (fun T bs a9 W => ∃ (lo hi : Nat → Nat) (v0 v1 v2 v3 : Value), a9 = { tmps := ((((T.setIfInBounds 24 v0).setIfInBounds 27 v1).setIfInBounds 9 v2).setIfInBounds 10 v3), defers := [] } ∧ Pol wf.heap.size W bs lo hi ∧ (bs.getD 0 false = true → OvI W (lo 0) (hi 0) RX CX LX v0) ∧ (bs.getD 1 false = true → OvI W (lo 1) (hi 1) RY CY LY v1) ∧ (bs.getD 2 false = true → CV W (lo 2) (hi 2) v2) ∧ (bs.getD 3 false = true → CV W (lo 3) (hi 3) v3) ∧ M4 W w.heap.size RX CX AX nX cX LX RY CY AY nY cY LY ∧ Below w.heap.size w W ∧ wf.heap.size ≤ W.heap.size) := ⟨_, rfl⟩
  have HI := Lib.hid hI
  clear hI
  refine wpAnyH_freeT (is := [1, 4, 5, 6]) (L := fun bs => #[true, bs.getD 0 false, true, true, bs.getD 1 false, bs.getD 2 false, bs.getD 3 false, false, false]) (F := 2) (fun bs => bs.getD 0 false || !(bs.getD 1 false)) I (by kernel_rfl) ?step ?fin 4 [false, false, false, false] rfl rfl rfl ?beg hS
  case beg =>
    rw [HI.out]
    exact ⟨fun _ => 0, fun _ => 0, undef, undef, undef, undef, by kernel_rfl, Pol.start (by intro k; rcases k with _ | _ | _ | _ | k <;> simp), by simp, by simp, by simp, by simp, HM, bz, Nat.le_refl _⟩
  case step =>
    intro k hk bs a9 W hl hb hok hI hS
    obtain ⟨b0, b1, b2, b3, rfl⟩ := bools4 bs hl
    rw [HI.out] at hI
    obtain ⟨lo, hi, v0, v1, v2, v3, rfl, hP, f0, f1, f2, f3, HM, bz, hsz⟩ := hI
    clear hS
    rcases k with _ | _ | _ | _ | k
    · skip
      refine ⟨1, _, rfl, rfl, fun K hK => ?_⟩
      try simp only [Act.put, List.setIfInBounds_toArray, List.set_cons_zero, List.set_cons_succ, List.getElem_toArray, List.getElem_cons_zero, List.getElem_cons_succ]
      go_simp
      with_reducible refine (of_any false HM.fx.fl HSX.out.1 HSX.out.2).mono ?_
      rintro e w1 ⟨V, s, gg, cap, c, l, rfl, hV, hb1⟩
      refine hK.out _ _ ⟨(HM.on hb1).dx, (HM.on hb1).dy⟩ ?_
      try simp only [Act.put, List.setIfInBounds_toArray, List.set_cons_zero, List.set_cons_succ, List.getElem_toArray, List.getElem_cons_zero, List.getElem_cons_succ]
      rw [HI.out]
      exact ⟨_, _, Vu.V V, v1, v2, v3, by kernel_rfl, hP.step 0 hb1.size hsz, fun _ => ⟨V, s, gg, cap, c, l, rfl, hV, hV.st.lt, hV.st.gt.2⟩, fun h => (f1 h).on hb1, fun h => (f2 h).on hb1, fun h => (f3 h).on hb1, HM.on hb1, bz.trans (hb1.mono bz.size), Nat.le_trans hsz hb1.size⟩
    · skip
      refine ⟨4, _, rfl, rfl, fun K hK => ?_⟩
      try simp only [Act.put, List.setIfInBounds_toArray, List.set_cons_zero, List.set_cons_succ, List.getElem_toArray, List.getElem_cons_zero, List.getElem_cons_succ]
      go_simp
      with_reducible refine (of_any turned HM.fy.fl HSY.out.1 HSY.out.2).mono ?_
      rintro e w1 ⟨V, s, gg, cap, c, l, rfl, hV, hb1⟩
      refine hK.out _ _ ⟨(HM.on hb1).dx, (HM.on hb1).dy⟩ ?_
      try simp only [Act.put, List.setIfInBounds_toArray, List.set_cons_zero, List.set_cons_succ, List.getElem_toArray, List.getElem_cons_zero, List.getElem_cons_succ]
      rw [HI.out]
      exact ⟨_, _, v0, Vu.V V, v2, v3, by kernel_rfl, hP.step 1 hb1.size hsz, fun h => (f0 h).on hb1, fun _ => ⟨V, s, gg, cap, c, l, rfl, hV, hV.st.lt, hV.st.gt.2⟩, fun h => (f2 h).on hb1, fun h => (f3 h).on hb1, HM.on hb1, bz.trans (hb1.mono bz.size), Nat.le_trans hsz hb1.size⟩
    · skip
      refine ⟨5, _, rfl, rfl, fun K hK => ?_⟩
      try simp only [Act.put, List.setIfInBounds_toArray, List.set_cons_zero, List.set_cons_succ, List.getElem_toArray, List.getElem_cons_zero, List.getElem_cons_succ]
      go_simp
      have hb1 := (Below.refl _ W).alloc (Nat.le_refl _) (.cells (Vu.zero).L.toArray 30)
      refine hK.out _ _ ⟨(HM.on hb1).dx, (HM.on hb1).dy⟩ ?_
      try simp only [Act.put, List.setIfInBounds_toArray, List.set_cons_zero, List.set_cons_succ, List.getElem_toArray, List.getElem_cons_zero, List.getElem_cons_succ]
      rw [HI.out]
      exact ⟨_, _, v0, v1, .pointer (some ⟨W.heap.size, 0, none⟩), v3, by kernel_rfl, hP.step 2 hb1.size hsz, fun h => (f0 h).on hb1, fun h => (f1 h).on hb1, fun _ => ⟨rfl, Blk.new W Vu.zero.L 30, by simp [upN]⟩, fun h => (f3 h).on hb1, HM.on hb1, bz.trans (hb1.mono bz.size), Nat.le_trans hsz hb1.size⟩
    · skip
      refine ⟨6, _, rfl, rfl, fun K hK => ?_⟩
      try simp only [Act.put, List.setIfInBounds_toArray, List.set_cons_zero, List.set_cons_succ, List.getElem_toArray, List.getElem_cons_zero, List.getElem_cons_succ]
      go_simp
      have hb1 := (Below.refl _ W).alloc (Nat.le_refl _) (.cells (Vu.zero).L.toArray 30)
      refine hK.out _ _ ⟨(HM.on hb1).dx, (HM.on hb1).dy⟩ ?_
      try simp only [Act.put, List.setIfInBounds_toArray, List.set_cons_zero, List.set_cons_succ, List.getElem_toArray, List.getElem_cons_zero, List.getElem_cons_succ]
      rw [HI.out]
      exact ⟨_, _, v0, v1, v2, .pointer (some ⟨W.heap.size, 0, none⟩), by kernel_rfl, hP.step 3 hb1.size hsz, fun h => (f0 h).on hb1, fun h => (f1 h).on hb1, fun h => (f2 h).on hb1, fun _ => ⟨rfl, Blk.new W Vu.zero.L 30, by simp [upN]⟩, HM.on hb1, bz.trans (hb1.mono bz.size), Nat.le_trans hsz hb1.size⟩
    · simp at hk; omega
  case fin =>
    intro a9 W hI hS
    rw [HI.out] at hI
    obtain ⟨lo, hi, v0, v1, v2, v3, rfl, hP, f0, f1, f2, f3, HM, bz, hsz⟩ := hI
    clear hS
    try simp only [Act.put, List.setIfInBounds_toArray, List.set_cons_zero, List.set_cons_succ, List.getElem_toArray, List.getElem_cons_zero, List.getElem_cons_succ]
    obtain ⟨VX, sVX, gVX, capVX, cVX, lVX, rfl, hVX, aX, bX⟩ := f0 rfl
    obtain ⟨VY, sVY, gVY, capVY, cVY, lVY, rfl, hVY, aY, bY⟩ := f1 rfl
    obtain ⟨rfl, Da, la_⟩ := f2 rfl
    obtain ⟨rfl, Db, lb_⟩ := f3 rfl
    have r0 := (hP.rng 0 rfl).1
    have r1 := (hP.rng 1 rfl).1
    have r2 := (hP.rng 2 rfl).1
    have r3 := (hP.rng 3 rfl).1
    have tX := And.intro hVX.st.lo hVX.st.gt.1
    have tY := And.intro hVY.st.lo hVY.st.gt.1
    have eX := hVX.st.ne
    have eY := hVY.st.ne
    have k1 := hP.ap 0 1 (by decide) rfl rfl
    have k2 := hP.ap 0 2 (by decide) rfl rfl
    have k3 := hP.ap 0 3 (by decide) rfl rfl
    have k4 := hP.ap 1 2 (by decide) rfl rfl
    have k5 := hP.ap 1 3 (by decide) rfl rfl
    have k6 := hP.ap 2 3 (by decide) rfl rfl
    have nq : lo 2 ≠ gVX ∧ lo 2 ≠ gVY ∧ lo 3 ≠ gVX ∧ lo 3 ≠ gVY ∧ w.heap.size + 1 < gVX ∧ w.heap.size + 1 < gVY ∧ w.heap.size + 1 < sVX ∧ w.heap.size + 1 < sVY := by omega
    have ap : sVX ≠ gVY ∧ gVX ≠ gVY ∧ sVY ≠ gVX := by omega
    have sp : sVX ≠ sVY := by omega
    have sq : lo 2 ≠ sVX ∧ lo 2 ≠ sVY ∧ lo 3 ≠ sVX ∧ lo 3 ≠ sVY ∧ lo 2 ≠ lo 3 ∧ w.heap.size + 1 < lo 2 ∧ w.heap.size + 1 < lo 3 := by omega
    clear hP f0 f1 f2 f3 aX bX aY bY la_ lb_ r0 r1 r2 r3 k1 k2 k3 k4 k5 k6 tX tY eX eY
    generalize lo 2 = HDa at *
    generalize lo 3 = HDb at *
    replace hVX : Ov W (lo 0) VX sVX gVX capVX cVX lVX RX CX LX := hVX
    replace hVY : Ov W (lo 1) VY sVY gVY capVY cVY lVY RY CY LY := hVY
    generalize lo 0 = BVX at *
    generalize lo 1 = BVY at *
    obtain ⟨fc0, fc1, fc2, fc3, fc4, fc5, fc6, fc7, fc8⟩ := Vbx.cells Da
    obtain ⟨fr0, fr1, fr2, fr3, fr4, fr5, fr6, fr7, fr8⟩ := Vbx.free Da
    refine wpAnyH_ready (rs := [7]) (by kernel_rfl) (by simp) ?_
    refine AllReadyH.cons rfl (fun K hK => ?_) AllReadyH.nil
    go_simp
    clear fc0 fr0 fc1 fr1 fc2 fr2 fc3 fr3 fc4 fr4 fc5 fr5 fc6 fr6 fc7 fr7 fc8 fr8
    have hgS := set9_grown W (HDa) (.pointer (VX).p) (.int .i64 (VX).f0) (.int .i64 (VX).f1) (.int .i64 (VX).d0) (.int .i64 (VX).d1) (.int .i64 (VX).r0) (.int .i64 (VX).r1) (.int .i64 (VX).R) (.int .i64 (VX).C)
    replace Da := Vbx.put Da (VX)
    replace HM := HM.grown hgS (by omega)
    replace hVX := hVX.grown hgS (by omega) (by omega)
    replace hVY := hVY.grown hgS (by omega) (by omega)
    replace Db := Db.grown hgS (by simp <;> omega)
    replace bz := bz.grown hgS bz.size (fun k e => by cases e; omega)
    generalize (((((((((W.setCell ⟨HDa, 0, none⟩ (.pointer (VX).p)).setCell ⟨HDa, 1, none⟩ (.int .i64 (VX).f0)).setCell ⟨HDa, 2, none⟩ (.int .i64 (VX).f1)).setCell ⟨HDa, 3, none⟩ (.int .i64 (VX).d0)).setCell ⟨HDa, 4, none⟩ (.int .i64 (VX).d1)).setCell ⟨HDa, 5, none⟩ (.int .i64 (VX).r0)).setCell ⟨HDa, 6, none⟩ (.int .i64 (VX).r1)).setCell ⟨HDa, 7, none⟩ (.int .i64 (VX).R)).setCell ⟨HDa, 8, none⟩ (.int .i64 (VX).C)) = WsDa at HM hVX hVY Da Db bz ⊢
    clear hgS
    refine hK.out _ _ ⟨HM.dx, HM.dy⟩ (fun hS => ?_)
    clear hK K hS
    try simp only [Act.put, List.setIfInBounds_toArray, List.set_cons_zero, List.set_cons_succ, List.getElem_toArray, List.getElem_cons_zero, List.getElem_cons_succ]
    obtain ⟨fc0, fc1, fc2, fc3, fc4, fc5, fc6, fc7, fc8⟩ := Vbx.cells Db
    obtain ⟨fr0, fr1, fr2, fr3, fr4, fr5, fr6, fr7, fr8⟩ := Vbx.free Db
    refine wpAnyH_ready (rs := [8]) (by kernel_rfl) (by simp) ?_
    refine AllReadyH.cons rfl (fun K hK => ?_) AllReadyH.nil
    go_simp
    clear fc0 fr0 fc1 fr1 fc2 fr2 fc3 fr3 fc4 fr4 fc5 fr5 fc6 fr6 fc7 fr7 fc8 fr8
    have hgS := set9_grown WsDa (HDb) (.pointer (VY).p) (.int .i64 (VY).f0) (.int .i64 (VY).f1) (.int .i64 (VY).d0) (.int .i64 (VY).d1) (.int .i64 (VY).r0) (.int .i64 (VY).r1) (.int .i64 (VY).R) (.int .i64 (VY).C)
    replace Db := Vbx.put Db (VY)
    replace HM := HM.grown hgS (by omega)
    replace hVX := hVX.grown hgS (by omega) (by omega)
    replace hVY := hVY.grown hgS (by omega) (by omega)
    replace Da := Da.grown hgS (by simp <;> omega)
    replace bz := bz.grown hgS bz.size (fun k e => by cases e; omega)
    generalize (((((((((WsDa.setCell ⟨HDb, 0, none⟩ (.pointer (VY).p)).setCell ⟨HDb, 1, none⟩ (.int .i64 (VY).f0)).setCell ⟨HDb, 2, none⟩ (.int .i64 (VY).f1)).setCell ⟨HDb, 3, none⟩ (.int .i64 (VY).d0)).setCell ⟨HDb, 4, none⟩ (.int .i64 (VY).d1)).setCell ⟨HDb, 5, none⟩ (.int .i64 (VY).r0)).setCell ⟨HDb, 6, none⟩ (.int .i64 (VY).r1)).setCell ⟨HDb, 7, none⟩ (.int .i64 (VY).R)).setCell ⟨HDb, 8, none⟩ (.int .i64 (VY).C)) = WsDb at HM hVX hVY Da Db bz ⊢
    clear hgS
    refine hK.out _ _ ⟨HM.dx, HM.dy⟩ (fun hS => ?_)
    clear hK K hS
    try simp only [Act.put, List.setIfInBounds_toArray, List.set_cons_zero, List.set_cons_succ, List.getElem_toArray, List.getElem_cons_zero, List.getElem_cons_succ]
    refine wpAnyH_done (by kernel_rfl) ?_ _
    clear HI I hsz hwl sq
    obtain ⟨a0, a1, a2, a3, a4, a5, a6, a7, a8⟩ := Vbx.cells Da
    obtain ⟨b0, b1, b2, b3, b4, b5, b6, b7, b8⟩ := Vbx.cells Db
    go_wp2_with fail
    with_reducible refine (axpy_no8 hVX hVY EX.out EY.out HFT.out).mono ?_
    rintro e w3 ⟨rfl, hb⟩
    clear a0 a1 a2 a3 a4 a5 a6 a7 a8 b0 b1 b2 b3 b4 b5 b6 b7 b8
    replace HM := HM.on hb
    replace hVX := hVX.on hb
    replace hVY := hVY.on hb
    replace Da := Da.on hb
    replace Db := Db.on hb
    replace bz := bz.trans (hb.mono bz.size)
    clear hb
    have I1 := Lib.hid HM.fy.self
    obtain ⟨ux0, ux1, ux2, ux3, ux4, ux5⟩ := Mbx.cells HM.dx
    obtain ⟨uy0, uy1, uy2, uy3, uy4, uy5⟩ := Mbx.cells HM.dy
    have lD12 := And.intro (And.intro hVX.st.lt hVX.st.gt.2) (And.intro hVY.st.lt hVY.st.gt.2)
    have rD12 := And.intro (And.intro Da.lt Db.lt) (And.intro HM.dx.lt HM.dy.lt)
    have D12 := Blk.new w3 [.int .i64 RY, .int .i64 CY, .slice AY nY cY] 24
    obtain ⟨HD12, eHD12⟩ : ∃ H, w3.heap.size = H := ⟨_, rfl⟩
    rw [eHD12] at D12
    have hbA := (Below.refl _ w3).alloc (Nat.le_refl _) (.cells #[.int .i64 RY, .int .i64 CY, .slice AY nY cY] 24)
    replace HM := HM.on hbA
    replace hVX := hVX.on hbA
    replace hVY := hVY.on hbA
    replace Da := Da.on hbA
    replace Db := Db.on hbA
    clear hbA
    replace bz := bz.alloc bz.size (.cells #[.int .i64 RY, .int .i64 CY, .slice AY nY cY] 24)
    have HHD12 := Lib.hid eHD12
    rw [eHD12] at lD12 rD12
    have p9 := rVector_any RX CX AX nX cX
    rw [HV.out] at p9
    obtain ⟨x0, x1, x2, x3, x4, x5⟩ := Mbx.cells HM.dx
    obtain ⟨y0, y1, y2, y3, y4, y5⟩ := Mbx.cells HM.dy
    go_wp2_with fail
    with_reducible refine (p9 _).mono ?_
    rintro e w4 ⟨rfl, hb⟩
    clear x0 x1 x2 x3 x4 x5 y0 y1 y2 y3 y4 y5
    replace HM := HM.on hb
    replace hVX := hVX.on hb
    replace hVY := hVY.on hb
    replace Da := Da.on hb
    replace Db := Db.on hb
    replace D12 := D12.on hb
    replace bz := bz.trans (hb.mono bz.size)
    clear hb p9 eHD12
    clear ux0 ux1 ux2 ux3 ux4 ux5 uy0 uy1 uy2 uy3 uy4 uy5
    have p9 := rVector_any RY CY AY nY cY
    rw [HVY.out] at p9
    obtain ⟨x0, x1, x2, x3, x4, x5⟩ := Mbx.cells HM.dx
    obtain ⟨y0, y1, y2, y3, y4, y5⟩ := Mbx.cells HM.dy
    go_wp2_with fail
    with_reducible refine (p9 _).mono ?_
    rintro e w5 ⟨rfl, hb⟩
    clear x0 x1 x2 x3 x4 x5 y0 y1 y2 y3 y4 y5
    replace HM := HM.on hb
    replace hVX := hVX.on hb
    replace hVY := hVY.on hb
    replace Da := Da.on hb
    replace Db := Db.on hb
    replace D12 := D12.on hb
    replace bz := bz.trans (hb.mono bz.size)
    clear hb p9
    have hn := HN.out
    obtain ⟨x0, x1, x2, x3, x4, x5⟩ := Mbx.cells HM.dx
    obtain ⟨y0, y1, y2, y3, y4, y5⟩ := Mbx.cells HM.dy
    have J1 := Lib.hid HM.fy.self
    go_wp2_with fail
    clear x0 x1 x2 x3 x4 x5 y0 y1 y2 y3 y4 y5
    clear hn
    with_reducible refine (num_any _ _).mono ?_
    rintro e v6 ⟨rfl, rfl⟩
    obtain ⟨b0, b1, b2, b3, b4, b5, b6, b7, b8⟩ := Vbx.cells Db
    obtain ⟨m0, m1, m2, m3, m4, m5⟩ := Mbx.cells D12
    go_wp2_with fail
    with_reducible refine (shows_true hVY.sv HM.fy.fl hVY.R hVY.C (Is.same I1.out J1.out)).mono ?_
    rintro e w7 ⟨rfl, hb⟩
    clear b0 b1 b2 b3 b4 b5 b6 b7 b8 m0 m1 m2 m3 m4 m5
    replace HM := HM.on hb
    replace hVX := hVX.on hb
    replace hVY := hVY.on hb
    replace Da := Da.on hb
    replace Db := Db.on hb
    replace D12 := D12.on hb
    replace bz := bz.trans (hb.mono bz.size)
    clear hb
    obtain ⟨a0, a1, a2, a3, a4, a5, a6, a7, a8⟩ := Vbx.cells Da
    obtain ⟨x0, x1, x2, x3, x4, x5⟩ := Mbx.cells HM.dx
    go_wp2_with fail
    with_reducible refine (shows_true hVX.sv HM.fx.fl hVX.R hVX.C (sameL_refl LX)).mono ?_
    rintro e w8 ⟨rfl, hb⟩
    clear a0 a1 a2 a3 a4 a5 a6 a7 a8 x0 x1 x2 x3 x4 x5
    replace HM := HM.on hb
    replace hVX := hVX.on hb
    replace hVY := hVY.on hb
    replace Da := Da.on hb
    replace Db := Db.on hb
    replace D12 := D12.on hb
    replace bz := bz.trans (hb.mono bz.size)
    clear hb
    obtain ⟨a0, a1, a2, a3, a4, a5, a6, a7, a8⟩ := Vbx.cells Da
    go_wp2_with fail
    with_reducible refine (scal_yes0 ba hVX EX.out HV.out HQX.out).mono ?_
    rintro e w44 ⟨lx4, G2, rfl, hVX2, hI2, hg⟩
    clear a0 a1 a2 a3 a4 a5 a6 a7 a8
    replace HM := HM.grown hg (by omega)
    replace hVY := hVY.grown hg (by omega) (by omega)
    replace Da := Da.grown hg (by simp <;> omega)
    replace Db := Db.grown hg (by simp <;> omega)
    replace D12 := D12.grown hg (by simp <;> omega)
    replace bz := bz.grown hg bz.size (fun k e => by cases e; omega)
    replace hVX := hVX2
    have I2 := Lib.hid hI2
    clear hg hVX2 hI2
    obtain ⟨x0, x1, x2, x3, x4, x5⟩ := Mbx.cells HM.dx
    go_wp2_with fail
    clear x0 x1 x2 x3 x4 x5
    replace HM := HM.drew
    replace hVX := hVX.drew
    replace hVY := hVY.drew
    replace Da := Da.drew
    replace Db := Db.drew
    replace D12 := D12.drew
    replace bz := bz.drew
    rename_i K0 hK0
    have key : ∀ (HD14 B14 E14 c14 : Nat) (A14 : Option Addr) (L14 : List Int) (W15 : World) (X0 X1 X2 X3 X4 X7 X8 X11 X15 X16 X17 X18 X19 X20 X21 X22 X23 X24 X25 X26 X27 X28 X29 X30 X31 X32 X33 X34 X35 X36 X37 X38 X39 X40 X41 X42 X43 X44 X45 X46 X47 X48 X49 X50 X51 X52 X53 X54 X55 X56 X57 X58 X59 X60 X61 X62 X63 X64 X65 X66 X67 X68 X69 X70 X71 X72 X73 X74 X75 X76 X77 X78 X79 X80 X81 X82 X83 X84 X85 X86 X87 X88 X89 X90 X91 X92 X93 X94 X95 X96 X97 X98 X99 X100 X101 X102 X103 X104 X105 X106 X107 X108 X109 X110 X111 X112 X113 X114 X115 X116 X117 X118 X119 X120 X121 X122 X123 X124 X125 X126 X127 X128 X129 X130 X131 X132 X133 X134 X135 X136 X137 X138 X139 X140 X141 X142 X143 X144 X145 X146 X147 X148 X149 X150 X151 X152 X153 : Value), M4 W15 w.heap.size RX CX AX nX cX LX RY CY AY nY cY LY → Ov W15 BVX VX sVX gVX capVX cVX lx4 RX CX G2 → Ov W15 BVY VY sVY gVY capVY cVY lVY RY CY LY → Vbx W15 HDa VX → Vbx W15 HDb VY → Mbx W15 HD12 RY CY AY nY cY → Mbx W15 HD14 RX CX A14 nX c14 → FO W15 B14 E14 A14 nX c14 L14 → Is L14 nX (fun k => aop .mul (af a) (fa (D LX k))) → Below w.heap.size w W15 → HD14 ≠ gVX ∧ HD14 ≠ gVY ∧ gVX < B14 ∧ gVY < B14 ∧ HD14 ≠ HDa ∧ HD14 ≠ HDb ∧ HD14 ≠ HD12 ∧ w.heap.size + 1 < HD14 ∧ HD14 ≠ sVX ∧ HD14 ≠ sVY → K0 { tmps := #[X0, X1, X2, X3, X4, .pointer (some ⟨w.heap.size, 0, none⟩), .pointer (some ⟨w.heap.size + 1, 0, none⟩), X7, X8, .pointer (some ⟨HDa, 0, none⟩), .pointer (some ⟨HDb, 0, none⟩), X11, .pointer (some ⟨HD12, 0, none⟩), .int .i64 0, .pointer (some ⟨HD14, 0, none⟩), X15, X16, X17, X18, X19, X20, X21, X22, X23, X24, X25, X26, X27, X28, X29, X30, X31, X32, X33, X34, X35, X36, X37, X38, X39, X40, X41, X42, X43, X44, X45, X46, X47, X48, X49, X50, X51, X52, X53, X54, X55, X56, X57, X58, X59, X60, X61, X62, X63, X64, X65, X66, X67, X68, X69, X70, X71, X72, X73, X74, X75, X76, X77, X78, X79, X80, X81, X82, X83, X84, X85, X86, X87, X88, X89, X90, X91, X92, X93, X94, X95, X96, X97, X98, X99, X100, X101, X102, X103, X104, X105, X106, X107, X108, X109, X110, X111, X112, X113, X114, X115, X116, X117, X118, X119, X120, X121, X122, X123, X124, X125, X126, X127, X128, X129, X130, X131, X132, X133, X134, X135, X136, X137, X138, X139, X140, X141, X142, X143, X144, X145, X146, X147, X148, X149, X150, X151, X152, X153], defers := [] } W15 := by
      intro HD14 B14 E14 c14 A14 L14 W15 X0 X1 X2 X3 X4 X7 X8 X11 X15 X16 X17 X18 X19 X20 X21 X22 X23 X24 X25 X26 X27 X28 X29 X30 X31 X32 X33 X34 X35 X36 X37 X38 X39 X40 X41 X42 X43 X44 X45 X46 X47 X48 X49 X50 X51 X52 X53 X54 X55 X56 X57 X58 X59 X60 X61 X62 X63 X64 X65 X66 X67 X68 X69 X70 X71 X72 X73 X74 X75 X76 X77 X78 X79 X80 X81 X82 X83 X84 X85 X86 X87 X88 X89 X90 X91 X92 X93 X94 X95 X96 X97 X98 X99 X100 X101 X102 X103 X104 X105 X106 X107 X108 X109 X110 X111 X112 X113 X114 X115 X116 X117 X118 X119 X120 X121 X122 X123 X124 X125 X126 X127 X128 X129 X130 X131 X132 X133 X134 X135 X136 X137 X138 X139 X140 X141 X142 X143 X144 X145 X146 X147 X148 X149 X150 X151 X152 X153 HM hVX hVY Da Db D12 D14 hO14 J2 bz n14
      have p9 := rVector_any RX CX AX nX cX
      rw [HV.out] at p9
      obtain ⟨x0, x1, x2, x3, x4, x5⟩ := Mbx.cells HM.dx
      go_wp2_with fail
      with_reducible refine (p9 _).mono ?_
      rintro e w9 ⟨rfl, hb⟩
      clear x0 x1 x2 x3 x4 x5
      replace HM := HM.on hb
      replace hVX := hVX.on hb
      replace hVY := hVY.on hb
      replace Da := Da.on hb
      replace Db := Db.on hb
      replace D12 := D12.on hb
      replace D14 := D14.on hb
      replace hO14 := hO14.on hb
      replace bz := bz.trans (hb.mono bz.size)
      clear hb p9
      have JJ2 := Lib.hid J2
      clear J2
      go_wp2_with fail
      replace HM := HM.drew
      replace hVX := hVX.drew
      replace hVY := hVY.drew
      replace Da := Da.drew
      replace Db := Db.drew
      replace D12 := D12.drew
      replace D14 := D14.drew
      replace hO14 := hO14.drew
      replace bz := bz.drew
      refine wp_region_held_drew (S := fun w9 : World => Mbx w9 w.heap.size RX CX AX nX cX ∧ Mbx w9 HD14 RX CX A14 nX c14 ∧ Vbx w9 HDa VX) (by kernel_rfl) ⟨HM.dx, D14, Da⟩ (fun hS => ?_)
      generalize w9.drew = wd18 at hS HM hVX hVY Da Db D12 D14 hO14  bz ⊢
      refine wpAnyH_take (i := 0) (v := ?v0_32) rfl (by kernel_rfl) (by kernel_rfl) (by kernel_rfl) (fun _ _ _ h => h) (Or.inl ⟨by rfl, ?hy0_32⟩) (by assumption) ?rest0_32
      case hy0_32 => (intro w9 hSw; clear hSw; go_simp; try with_reducible rfl)
      try simp only [Act.put, List.setIfInBounds_toArray, List.set_cons_zero, List.set_cons_succ, List.getElem_toArray, List.getElem_cons_zero, List.getElem_cons_succ]
      refine wpAnyH_take (i := 3) (v := ?v3_33) rfl (by kernel_rfl) (by kernel_rfl) (by kernel_rfl) (fun _ _ _ h => h) (Or.inl ⟨by rfl, ?hy3_33⟩) (by assumption) ?rest3_33
      case hy3_33 => (intro w9 hSw; obtain ⟨m0, m1, m2⟩ := hSw; obtain ⟨q0_0, q0_1, q0_2, q0_3, q0_4, q0_5⟩ := Mbx.cells m0; obtain ⟨q1_0, q1_1, q1_2, q1_3, q1_4, q1_5⟩ := Mbx.cells m1; go_simp; try with_reducible rfl)
      try simp only [Act.put, List.setIfInBounds_toArray, List.set_cons_zero, List.set_cons_succ, List.getElem_toArray, List.getElem_cons_zero, List.getElem_cons_succ]
      refine wpAnyH_ready (rs := [1]) (by kernel_rfl) (by simp) ?_
      refine AllReadyH.cons rfl (fun K hK => ?_) AllReadyH.nil
      go_simp
      with_reducible refine (num_any _ _).mono ?_
      rintro e v10 ⟨rfl, rfl⟩
      clear hS; refine hK.out _ _ ⟨HM.dx, D14, Da⟩ (fun hS => ?_); clear hK K
      try simp only [Act.put, List.setIfInBounds_toArray, List.set_cons_zero, List.set_cons_succ, List.getElem_toArray, List.getElem_cons_zero, List.getElem_cons_succ]
      refine wpAnyH_take (i := 2) (v := ?v2_34) rfl (by kernel_rfl) (by kernel_rfl) (by kernel_rfl) (fun _ _ _ h => h) (Or.inl ⟨by rfl, ?hy2_34⟩) (by assumption) ?rest2_34
      case hy2_34 => (intro w9 hSw; clear hSw; go_simp; try with_reducible rfl)
      try simp only [Act.put, List.setIfInBounds_toArray, List.set_cons_zero, List.set_cons_succ, List.getElem_toArray, List.getElem_cons_zero, List.getElem_cons_succ]
      refine wpAnyH_ready (rs := [4]) (by kernel_rfl) (by simp) ?_
      refine AllReadyH.cons rfl (fun K hK => ?_) AllReadyH.nil
      go_simp
      have p9 := rVector_any RX CX AX nX cX
      rw [HV.out] at p9
      with_reducible refine (p9 _).mono ?_
      rintro e w11 ⟨rfl, hb⟩
      replace HM := HM.on hb
      replace hVX := hVX.on hb
      replace hVY := hVY.on hb
      replace Da := Da.on hb
      replace Db := Db.on hb
      replace D12 := D12.on hb
      replace D14 := D14.on hb
      replace hO14 := hO14.on hb
      replace bz := bz.trans (hb.mono bz.size)
      clear hb p9
      clear hS; refine hK.out _ _ ⟨HM.dx, D14, Da⟩ (fun hS => ?_); clear hK K
      try simp only [Act.put, List.setIfInBounds_toArray, List.set_cons_zero, List.set_cons_succ, List.getElem_toArray, List.getElem_cons_zero, List.getElem_cons_succ]
      refine wpAnyH_take (i := 5) (v := ?v5_35) rfl (by kernel_rfl) (by kernel_rfl) (by kernel_rfl) (fun _ _ _ h => h) (Or.inl ⟨by rfl, ?hy5_35⟩) (by assumption) ?rest5_35
      case hy5_35 => (intro w9 hSw; clear hSw; go_simp; try with_reducible rfl)
      try simp only [Act.put, List.setIfInBounds_toArray, List.set_cons_zero, List.set_cons_succ, List.getElem_toArray, List.getElem_cons_zero, List.getElem_cons_succ]
      refine wpAnyH_take (i := 6) (v := ?v6_36) rfl (by kernel_rfl) (by kernel_rfl) (by kernel_rfl) (fun _ _ _ h => h) (Or.inl ⟨by rfl, ?hy6_36⟩) (by assumption) ?rest6_36
      case hy6_36 => (intro w9 hSw; clear hSw; go_simp; try with_reducible rfl)
      try simp only [Act.put, List.setIfInBounds_toArray, List.set_cons_zero, List.set_cons_succ, List.getElem_toArray, List.getElem_cons_zero, List.getElem_cons_succ]
      refine wpAnyH_take (i := 7) (v := ?v7_37) rfl (by kernel_rfl) (by kernel_rfl) (by kernel_rfl) (fun _ _ _ h => h) (Or.inl ⟨by rfl, ?hy7_37⟩) (by assumption) ?rest7_37
      case hy7_37 => (intro w9 hSw; clear hSw; go_simp; try with_reducible rfl)
      try simp only [Act.put, List.setIfInBounds_toArray, List.set_cons_zero, List.set_cons_succ, List.getElem_toArray, List.getElem_cons_zero, List.getElem_cons_succ]
      refine wpAnyH_ready (rs := [8]) (by kernel_rfl) (by simp) ?_
      refine AllReadyH.cons rfl (fun K hK => ?_) AllReadyH.nil
      go_simp
      with_reducible refine (num_any _ _).mono ?_
      rintro e v12 ⟨rfl, rfl⟩
      clear hS; refine hK.out _ _ ⟨HM.dx, D14, Da⟩ (fun hS => ?_); clear hK K
      try simp only [Act.put, List.setIfInBounds_toArray, List.set_cons_zero, List.set_cons_succ, List.getElem_toArray, List.getElem_cons_zero, List.getElem_cons_succ]
      refine wpAnyH_take (i := 9) (v := ?v9_38) rfl (by kernel_rfl) (by kernel_rfl) (by kernel_rfl) (fun _ _ _ h => h) (Or.inl ⟨by rfl, ?hy9_38⟩) (by assumption) ?rest9_38
      case hy9_38 => (intro w9 hSw; clear hSw; go_simp; try with_reducible rfl)
      try simp only [Act.put, List.setIfInBounds_toArray, List.set_cons_zero, List.set_cons_succ, List.getElem_toArray, List.getElem_cons_zero, List.getElem_cons_succ]
      refine wpAnyH_take (i := 10) (v := ?v10_39) rfl (by kernel_rfl) (by kernel_rfl) (by kernel_rfl) (fun _ _ _ h => h) (Or.inl ⟨by rfl, ?hy10_39⟩) (by assumption) ?rest10_39
      case hy10_39 => (intro w9 hSw; clear hSw; go_simp; try with_reducible rfl)
      try simp only [Act.put, List.setIfInBounds_toArray, List.set_cons_zero, List.set_cons_succ, List.getElem_toArray, List.getElem_cons_zero, List.getElem_cons_succ]
      refine wpAnyH_take (i := 11) (v := undef) rfl (by kernel_rfl) (by kernel_rfl) (by kernel_rfl) (fun _ _ _ h => h) (Or.inr ⟨by rfl, rfl⟩) (by assumption) ?_
      try simp only [Act.put, List.setIfInBounds_toArray, List.set_cons_zero, List.set_cons_succ, List.getElem_toArray, List.getElem_cons_zero, List.getElem_cons_succ]
      refine wpAnyH_take (i := 12) (v := undef) rfl (by kernel_rfl) (by kernel_rfl) (by kernel_rfl) (fun _ _ _ h => h) (Or.inr ⟨by rfl, rfl⟩) (by assumption) ?_
      try simp only [Act.put, List.setIfInBounds_toArray, List.set_cons_zero, List.set_cons_succ, List.getElem_toArray, List.getElem_cons_zero, List.getElem_cons_succ]
      refine wpAnyH_take (i := 13) (v := undef) rfl (by kernel_rfl) (by kernel_rfl) (by kernel_rfl) (fun _ _ _ h => h) (Or.inr ⟨by rfl, rfl⟩) (by assumption) ?_
      try simp only [Act.put, List.setIfInBounds_toArray, List.set_cons_zero, List.set_cons_succ, List.getElem_toArray, List.getElem_cons_zero, List.getElem_cons_succ]
      refine wpAnyH_take (i := 14) (v := ?v14_40) rfl (by kernel_rfl) (by kernel_rfl) (by kernel_rfl) (fun _ _ _ h => h) (Or.inl ⟨by rfl, ?hy14_40⟩) (by assumption) ?rest14_40
      case hy14_40 => (intro w9 hSw; clear hSw; go_simp; try with_reducible rfl)
      try simp only [Act.put, List.setIfInBounds_toArray, List.set_cons_zero, List.set_cons_succ, List.getElem_toArray, List.getElem_cons_zero, List.getElem_cons_succ]
      refine wpAnyH_take (i := 15) (v := ?v15_41) rfl (by kernel_rfl) (by kernel_rfl) (by kernel_rfl) (fun _ _ _ h => h) (Or.inl ⟨by rfl, ?hy15_41⟩) (by assumption) ?rest15_41
      case hy15_41 => (intro w9 hSw; clear hSw; go_simp; try with_reducible rfl)
      try simp only [Act.put, List.setIfInBounds_toArray, List.set_cons_zero, List.set_cons_succ, List.getElem_toArray, List.getElem_cons_zero, List.getElem_cons_succ]
      refine wpAnyH_take (i := 16) (v := ?v16_42) rfl (by kernel_rfl) (by kernel_rfl) (by kernel_rfl) (fun _ _ _ h => h) (Or.inl ⟨by rfl, ?hy16_42⟩) (by assumption) ?rest16_42
      case hy16_42 => (intro w9 hSw; clear hSw; go_simp; try with_reducible rfl)
      try simp only [Act.put, List.setIfInBounds_toArray, List.set_cons_zero, List.set_cons_succ, List.getElem_toArray, List.getElem_cons_zero, List.getElem_cons_succ]
      refine wpAnyH_take (i := 17) (v := ?v17_43) rfl (by kernel_rfl) (by kernel_rfl) (by kernel_rfl) (fun _ _ _ h => h) (Or.inl ⟨by rfl, ?hy17_43⟩) (by assumption) ?rest17_43
      case hy17_43 => (intro w9 hSw; obtain ⟨m0, m1, m2⟩ := hSw; refine (ld_v (by rfl) (by kernel_rfl) m2).trans ?_; with_reducible rfl)
      try simp only [Act.put, List.setIfInBounds_toArray, List.set_cons_zero, List.set_cons_succ, List.getElem_toArray, List.getElem_cons_zero, List.getElem_cons_succ]
      refine wpAnyH_take (i := 18) (v := ?v18_44) rfl (by kernel_rfl) (by kernel_rfl) (by kernel_rfl) (fun _ _ _ h => h) (Or.inl ⟨by rfl, ?hy18_44⟩) (by assumption) ?rest18_44
      case hy18_44 => (intro w9 hSw; obtain ⟨m0, m1, m2⟩ := hSw; obtain ⟨q0_0, q0_1, q0_2, q0_3, q0_4, q0_5⟩ := Mbx.cells m0; obtain ⟨q1_0, q1_1, q1_2, q1_3, q1_4, q1_5⟩ := Mbx.cells m1; go_simp; try with_reducible rfl)
      try simp only [Act.put, List.setIfInBounds_toArray, List.set_cons_zero, List.set_cons_succ, List.getElem_toArray, List.getElem_cons_zero, List.getElem_cons_succ]
      refine wpAnyH_ready (rs := [19]) (by kernel_rfl) (by simp) ?_
      refine AllReadyH.cons rfl (fun K hK => ?_) AllReadyH.nil
      go_simp
      with_reducible refine (shows_true hVX.sv hO14.fl hVX.R hVX.C (Is.same I2.out JJ2.out)).mono ?_
      rintro e w13 ⟨rfl, hb⟩
      replace HM := HM.on hb
      replace hVX := hVX.on hb
      replace hVY := hVY.on hb
      replace Da := Da.on hb
      replace Db := Db.on hb
      replace D12 := D12.on hb
      replace D14 := D14.on hb
      replace hO14 := hO14.on hb
      replace bz := bz.trans (hb.mono bz.size)
      clear hb
      clear hS; refine hK.out _ _ ⟨HM.dx, D14, Da⟩ (fun hS => ?_); clear hK K
      try simp only [Act.put, List.setIfInBounds_toArray, List.set_cons_zero, List.set_cons_succ, List.getElem_toArray, List.getElem_cons_zero, List.getElem_cons_succ]
      refine wpAnyH_take (i := 20) (v := ?v20_45) rfl (by kernel_rfl) (by kernel_rfl) (by kernel_rfl) (fun _ _ _ h => h) (Or.inl ⟨by rfl, ?hy20_45⟩) (by assumption) ?rest20_45
      case hy20_45 => (intro w9 hSw; clear hSw; go_simp; try with_reducible rfl)
      try simp only [Act.put, List.setIfInBounds_toArray, List.set_cons_zero, List.set_cons_succ, List.getElem_toArray, List.getElem_cons_zero, List.getElem_cons_succ]
      refine wpAnyH_take (i := 21) (v := ?v21_46) rfl (by kernel_rfl) (by kernel_rfl) (by kernel_rfl) (fun _ _ _ h => h) (Or.inl ⟨by rfl, ?hy21_46⟩) (by assumption) ?rest21_46
      case hy21_46 => (intro w9 hSw; clear hSw; go_simp; try with_reducible rfl)
      try simp only [Act.put, List.setIfInBounds_toArray, List.set_cons_zero, List.set_cons_succ, List.getElem_toArray, List.getElem_cons_zero, List.getElem_cons_succ]
      refine wpAnyH_done (by kernel_rfl) ?_ _
      cases hr : (RX != RY)
      rotate_left
      · skip
        have hnd : (RX == RY && CX == CY) = false := by simp only [bne, Bool.not_eq_true'] at hr; rw [hr]; rfl
        have Qhr := Lib.hid hr
        clear hr
        have HND := Lib.hid hnd
        clear hnd
        obtain ⟨a0, a1, a2, a3, a4, a5, a6, a7, a8⟩ := Vbx.cells Da
        obtain ⟨b0, b1, b2, b3, b4, b5, b6, b7, b8⟩ := Vbx.cells Db
        go_wp2_with fail
        with_reducible refine (swap_no hVX hVY HND.out).mono ?_
        rintro e w14 ⟨rfl, hb⟩
        clear a0 a1 a2 a3 a4 a5 a6 a7 a8 b0 b1 b2 b3 b4 b5 b6 b7 b8
        replace HM := HM.on hb
        replace hVX := hVX.on hb
        replace hVY := hVY.on hb
        replace Da := Da.on hb
        replace Db := Db.on hb
        replace D12 := D12.on hb
        replace D14 := D14.on hb
        replace hO14 := hO14.on hb
        replace bz := bz.trans (hb.mono bz.size)
        clear hb
        have hr := Qhr.out
        obtain ⟨x0, x1, x2, x3, x4, x5⟩ := Mbx.cells HM.dx
        obtain ⟨y0, y1, y2, y3, y4, y5⟩ := Mbx.cells HM.dy
        go_wp2_with fail
        clear x0 x1 x2 x3 x4 x5 y0 y1 y2 y3 y4 y5
        with_reducible refine (num_any _ _).mono ?_
        rintro e v15 ⟨rfl, rfl⟩
        clear hr
        obtain ⟨a0, a1, a2, a3, a4, a5, a6, a7, a8⟩ := Vbx.cells Da
        obtain ⟨n0, n1, n2, n3, n4, n5⟩ := Mbx.cells D14
        go_wp2_with fail
        with_reducible refine (shows_true hVX.sv hO14.fl hVX.R hVX.C (Is.same I2.out JJ2.out)).mono ?_
        rintro e w16 ⟨rfl, hb⟩
        clear a0 a1 a2 a3 a4 a5 a6 a7 a8 n0 n1 n2 n3 n4 n5
        replace HM := HM.on hb
        replace hVX := hVX.on hb
        replace hVY := hVY.on hb
        replace Da := Da.on hb
        replace Db := Db.on hb
        replace D12 := D12.on hb
        replace D14 := D14.on hb
        replace hO14 := hO14.on hb
        replace bz := bz.trans (hb.mono bz.size)
        clear hb
        obtain ⟨b0, b1, b2, b3, b4, b5, b6, b7, b8⟩ := Vbx.cells Db
        obtain ⟨m0, m1, m2, m3, m4, m5⟩ := Mbx.cells D12
        go_wp2_with fail
        with_reducible refine (shows_true hVY.sv HM.fy.fl hVY.R hVY.C (Is.same I1.out J1.out)).mono ?_
        rintro e w17 ⟨rfl, hb⟩
        clear b0 b1 b2 b3 b4 b5 b6 b7 b8 m0 m1 m2 m3 m4 m5
        replace HM := HM.on hb
        replace hVX := hVX.on hb
        replace hVY := hVY.on hb
        replace Da := Da.on hb
        replace Db := Db.on hb
        replace D12 := D12.on hb
        replace D14 := D14.on hb
        replace hO14 := hO14.on hb
        replace bz := bz.trans (hb.mono bz.size)
        clear hb
        go_wp2_with fail
        with_reducible refine (known_any _).mono ?_
        rintro e w18 ⟨rfl, hb⟩
        replace HM := HM.on hb
        replace hVX := hVX.on hb
        replace hVY := hVY.on hb
        replace Da := Da.on hb
        replace Db := Db.on hb
        replace D12 := D12.on hb
        replace D14 := D14.on hb
        replace hO14 := hO14.on hb
        replace bz := bz.trans (hb.mono bz.size)
        clear hb
        go_wp2_with fail
        go_ret
        exact ⟨rfl, bz⟩
      cases hc : (CX != CY)
      rotate_left
      · skip
        have hnd : (RX == RY && CX == CY) = false := by simp only [bne, Bool.not_eq_true'] at hc; rw [hc, Bool.and_false]
        have Qhr := Lib.hid hr
        clear hr
        have Qhc := Lib.hid hc
        clear hc
        have HND := Lib.hid hnd
        clear hnd
        obtain ⟨a0, a1, a2, a3, a4, a5, a6, a7, a8⟩ := Vbx.cells Da
        obtain ⟨b0, b1, b2, b3, b4, b5, b6, b7, b8⟩ := Vbx.cells Db
        go_wp2_with fail
        with_reducible refine (swap_no hVX hVY HND.out).mono ?_
        rintro e w14 ⟨rfl, hb⟩
        clear a0 a1 a2 a3 a4 a5 a6 a7 a8 b0 b1 b2 b3 b4 b5 b6 b7 b8
        replace HM := HM.on hb
        replace hVX := hVX.on hb
        replace hVY := hVY.on hb
        replace Da := Da.on hb
        replace Db := Db.on hb
        replace D12 := D12.on hb
        replace D14 := D14.on hb
        replace hO14 := hO14.on hb
        replace bz := bz.trans (hb.mono bz.size)
        clear hb
        have hr := Qhr.out
        have hc := Qhc.out
        obtain ⟨x0, x1, x2, x3, x4, x5⟩ := Mbx.cells HM.dx
        obtain ⟨y0, y1, y2, y3, y4, y5⟩ := Mbx.cells HM.dy
        go_wp2_with fail
        clear x0 x1 x2 x3 x4 x5 y0 y1 y2 y3 y4 y5
        with_reducible refine (num_any _ _).mono ?_
        rintro e v15 ⟨rfl, rfl⟩
        clear hr
        clear hc
        obtain ⟨a0, a1, a2, a3, a4, a5, a6, a7, a8⟩ := Vbx.cells Da
        obtain ⟨n0, n1, n2, n3, n4, n5⟩ := Mbx.cells D14
        go_wp2_with fail
        with_reducible refine (shows_true hVX.sv hO14.fl hVX.R hVX.C (Is.same I2.out JJ2.out)).mono ?_
        rintro e w16 ⟨rfl, hb⟩
        clear a0 a1 a2 a3 a4 a5 a6 a7 a8 n0 n1 n2 n3 n4 n5
        replace HM := HM.on hb
        replace hVX := hVX.on hb
        replace hVY := hVY.on hb
        replace Da := Da.on hb
        replace Db := Db.on hb
        replace D12 := D12.on hb
        replace D14 := D14.on hb
        replace hO14 := hO14.on hb
        replace bz := bz.trans (hb.mono bz.size)
        clear hb
        obtain ⟨b0, b1, b2, b3, b4, b5, b6, b7, b8⟩ := Vbx.cells Db
        obtain ⟨m0, m1, m2, m3, m4, m5⟩ := Mbx.cells D12
        go_wp2_with fail
        with_reducible refine (shows_true hVY.sv HM.fy.fl hVY.R hVY.C (Is.same I1.out J1.out)).mono ?_
        rintro e w17 ⟨rfl, hb⟩
        clear b0 b1 b2 b3 b4 b5 b6 b7 b8 m0 m1 m2 m3 m4 m5
        replace HM := HM.on hb
        replace hVX := hVX.on hb
        replace hVY := hVY.on hb
        replace Da := Da.on hb
        replace Db := Db.on hb
        replace D12 := D12.on hb
        replace D14 := D14.on hb
        replace hO14 := hO14.on hb
        replace bz := bz.trans (hb.mono bz.size)
        clear hb
        go_wp2_with fail
        with_reducible refine (known_any _).mono ?_
        rintro e w18 ⟨rfl, hb⟩
        replace HM := HM.on hb
        replace hVX := hVX.on hb
        replace hVY := hVY.on hb
        replace Da := Da.on hb
        replace Db := Db.on hb
        replace D12 := D12.on hb
        replace D14 := D14.on hb
        replace hO14 := hO14.on hb
        replace bz := bz.trans (hb.mono bz.size)
        clear hb
        go_wp2_with fail
        go_ret
        exact ⟨rfl, bz⟩
      have ER := Lib.hid (eq_of_beq (a := RX) (b := RY) (by simpa [bne] using hr))
      have EC := Lib.hid (eq_of_beq (a := CX) (b := CY) (by simpa [bne] using hc))
      have Qhr := Lib.hid hr
      clear hr
      have Qhc := Lib.hid hc
      clear hc
      obtain ⟨a0, a1, a2, a3, a4, a5, a6, a7, a8⟩ := Vbx.cells Da
      obtain ⟨b0, b1, b2, b3, b4, b5, b6, b7, b8⟩ := Vbx.cells Db
      go_wp2_with fail
      with_reducible refine (swap_yes (R := RX) (C := CX) hVX (by rw [ER.out, EC.out]; exact hVY) ap sp).mono ?_
      rintro e w91 ⟨lx9, ly9, GX, GY, w90, rfl, hVX2, hVY2, hIX, hIY, hg1, hg2⟩
      clear a0 a1 a2 a3 a4 a5 a6 a7 a8 b0 b1 b2 b3 b4 b5 b6 b7 b8
      replace HM := HM.grown hg1 (by omega)
      replace Da := Da.grown hg1 (by simp <;> omega)
      replace Db := Db.grown hg1 (by simp <;> omega)
      replace D12 := D12.grown hg1 (by simp <;> omega)
      replace D14 := D14.grown hg1 (by simp <;> omega)
      replace hO14 := hO14.grown hg1 (by omega)
      replace bz := bz.grown hg1 bz.size (fun k e => by cases e; omega)
      replace HM := HM.grown hg2 (by omega)
      replace Da := Da.grown hg2 (by simp <;> omega)
      replace Db := Db.grown hg2 (by simp <;> omega)
      replace D12 := D12.grown hg2 (by simp <;> omega)
      replace D14 := D14.grown hg2 (by simp <;> omega)
      replace hO14 := hO14.grown hg2 (by omega)
      replace bz := bz.grown hg2 bz.size (fun k e => by cases e; omega)
      replace hVX := hVX2
      replace hVY := hVY2
      have I1s := Lib.hid (I1.out.to hIX)
      have I2s := Lib.hid (I2.out.to hIY)
      clear hVX2 hVY2 hIX hIY hg1 hg2
      have hr := Qhr.out
      have hc := Qhc.out
      obtain ⟨x0, x1, x2, x3, x4, x5⟩ := Mbx.cells HM.dx
      obtain ⟨y0, y1, y2, y3, y4, y5⟩ := Mbx.cells HM.dy
      go_wp2_with fail
      clear x0 x1 x2 x3 x4 x5 y0 y1 y2 y3 y4 y5
      with_reducible refine (num_any _ _).mono ?_
      rintro e v14 ⟨rfl, rfl⟩
      clear hr
      clear hc
      obtain ⟨a0, a1, a2, a3, a4, a5, a6, a7, a8⟩ := Vbx.cells Da
      obtain ⟨m0, m1, m2, m3, m4, m5⟩ := Mbx.cells D12
      go_wp2_with fail
      with_reducible refine (shows_true hVX.sv HM.fy.fl (hVX.R.trans ER.out) (hVX.C.trans EC.out) (Is.same I1s.out J1.out)).mono ?_
      rintro e w15 ⟨rfl, hb⟩
      clear a0 a1 a2 a3 a4 a5 a6 a7 a8 m0 m1 m2 m3 m4 m5
      replace HM := HM.on hb
      replace hVX := hVX.on hb
      replace hVY := hVY.on hb
      replace Da := Da.on hb
      replace Db := Db.on hb
      replace D12 := D12.on hb
      replace D14 := D14.on hb
      replace hO14 := hO14.on hb
      replace bz := bz.trans (hb.mono bz.size)
      clear hb
      obtain ⟨b0, b1, b2, b3, b4, b5, b6, b7, b8⟩ := Vbx.cells Db
      obtain ⟨n0, n1, n2, n3, n4, n5⟩ := Mbx.cells D14
      go_wp2_with fail
      with_reducible refine (shows_true hVY.sv hO14.fl hVY.R hVY.C (Is.same I2s.out JJ2.out)).mono ?_
      rintro e w16 ⟨rfl, hb⟩
      clear b0 b1 b2 b3 b4 b5 b6 b7 b8 n0 n1 n2 n3 n4 n5
      replace HM := HM.on hb
      replace hVX := hVX.on hb
      replace hVY := hVY.on hb
      replace Da := Da.on hb
      replace Db := Db.on hb
      replace D12 := D12.on hb
      replace D14 := D14.on hb
      replace hO14 := hO14.on hb
      replace bz := bz.trans (hb.mono bz.size)
      clear hb
      go_wp2_with fail
      with_reducible refine (known_any _).mono ?_
      rintro e w17 ⟨rfl, hb⟩
      replace HM := HM.on hb
      replace hVX := hVX.on hb
      replace hVY := hVY.on hb
      replace Da := Da.on hb
      replace Db := Db.on hb
      replace D12 := D12.on hb
      replace D14 := D14.on hb
      replace hO14 := hO14.on hb
      replace bz := bz.trans (hb.mono bz.size)
      clear hb
      go_wp2_with fail
      go_ret
      exact ⟨rfl, bz⟩
    refine wp_region_held_drew (S := fun w9 : World => Mbx w9 w.heap.size RX CX AX nX cX ∧ Mbx w9 (w.heap.size + 1) RY CY AY nY cY) (by kernel_rfl) ⟨HM.dx, HM.dy⟩ (fun hS => ?_)
    generalize w44.drew = wd15 at hS HM hVX hVY Da Db D12  bz ⊢
    refine wpAnyH_take (i := 0) (v := ?v0_47) rfl (by kernel_rfl) (by kernel_rfl) (by kernel_rfl) (fun _ _ _ h => h) (Or.inl ⟨by rfl, ?hy0_47⟩) (by assumption) ?rest0_47
    case hy0_47 => (intro w9 hSw; obtain ⟨m0, m1⟩ := hSw; obtain ⟨q0_0, q0_1, q0_2, q0_3, q0_4, q0_5⟩ := Mbx.cells m0; obtain ⟨q1_0, q1_1, q1_2, q1_3, q1_4, q1_5⟩ := Mbx.cells m1; go_simp; try with_reducible rfl)
    try simp only [Act.put, List.setIfInBounds_toArray, List.set_cons_zero, List.set_cons_succ, List.getElem_toArray, List.getElem_cons_zero, List.getElem_cons_succ]
    refine wpAnyH_take (i := 1) (v := ?v1_48) rfl (by kernel_rfl) (by kernel_rfl) (by kernel_rfl) (fun _ _ _ h => h) (Or.inl ⟨by rfl, ?hy1_48⟩) (by assumption) ?rest1_48
    case hy1_48 => (intro w9 hSw; clear hSw; go_simp; try with_reducible rfl)
    try simp only [Act.put, List.setIfInBounds_toArray, List.set_cons_zero, List.set_cons_succ, List.getElem_toArray, List.getElem_cons_zero, List.getElem_cons_succ]
    refine wpAnyH_take (i := 2) (v := ?v2_49) rfl (by kernel_rfl) (by kernel_rfl) (by kernel_rfl) (fun _ _ _ h => h) (Or.inl ⟨by rfl, ?hy2_49⟩) (by assumption) ?rest2_49
    case hy2_49 => (intro w9 hSw; clear hSw; go_simp; try with_reducible rfl)
    try simp only [Act.put, List.setIfInBounds_toArray, List.set_cons_zero, List.set_cons_succ, List.getElem_toArray, List.getElem_cons_zero, List.getElem_cons_succ]
    refine wpAnyH_take (i := 3) (v := ?v3_50) rfl (by kernel_rfl) (by kernel_rfl) (by kernel_rfl) (fun _ _ _ h => h) (Or.inl ⟨by rfl, ?hy3_50⟩) (by assumption) ?rest3_50
    case hy3_50 => (intro w9 hSw; obtain ⟨m0, m1⟩ := hSw; obtain ⟨q0_0, q0_1, q0_2, q0_3, q0_4, q0_5⟩ := Mbx.cells m0; obtain ⟨q1_0, q1_1, q1_2, q1_3, q1_4, q1_5⟩ := Mbx.cells m1; go_simp; try with_reducible rfl)
    try simp only [Act.put, List.setIfInBounds_toArray, List.set_cons_zero, List.set_cons_succ, List.getElem_toArray, List.getElem_cons_zero, List.getElem_cons_succ]
    refine wpAnyH_ready (rs := [4, 6]) (by kernel_rfl) (by simp) ?_
    refine (AllReadyH.cons rfl (fun K hK => ?_) (AllReadyH.cons rfl (fun K hK => ?_) AllReadyH.nil))
    · go_simp
      have m14 := And.intro hVX.st.gt.2 hVY.st.gt.2
      have m14D := D12.lt
      with_reducible refine (rScal_any ba HM.fx.fl (by have := HSX.out.2; have := uX; omega)).mono ?_
      rintro e w9 ⟨A14, c14, L14, rfl, hJ2, ho, hb⟩
      replace HM := HM.on hb
      replace hVX := hVX.on hb
      replace hVY := hVY.on hb
      replace Da := Da.on hb
      replace Db := Db.on hb
      replace D12 := D12.on hb
      replace bz := bz.trans (hb.mono bz.size)
      clear hb
      have hO14 := hJ2.fo ho
      clear ho
      clear hS; refine hK.out _ _ ⟨HM.dx, HM.dy⟩ (fun hS => ?_); clear hK K
      try simp only [Act.put, List.setIfInBounds_toArray, List.set_cons_zero, List.set_cons_succ, List.getElem_toArray, List.getElem_cons_zero, List.getElem_cons_succ]
      refine wpAnyH_ready (rs := [5, 6]) (by kernel_rfl) (by simp) ?_
      refine (AllReadyH.cons rfl (fun K hK => ?_) (AllReadyH.cons rfl (fun K hK => ?_) AllReadyH.nil))
      · go_simp
        with_reducible refine (like_any _ _ _ _ _ _).mono ?_
        rintro e w10 ⟨rfl, hb⟩
        replace HM := HM.on hb
        replace hVX := hVX.on hb
        replace hVY := hVY.on hb
        replace Da := Da.on hb
        replace Db := Db.on hb
        replace D12 := D12.on hb
        replace hO14 := hO14.on hb
        replace bz := bz.trans (hb.mono bz.size)
        clear hb
        clear hS; refine hK.out _ _ ⟨HM.dx, HM.dy⟩ (fun hS => ?_); clear hK K
        try simp only [Act.put, List.setIfInBounds_toArray, List.set_cons_zero, List.set_cons_succ, List.getElem_toArray, List.getElem_cons_zero, List.getElem_cons_succ]
        refine wpAnyH_ready (rs := [6]) (by kernel_rfl) (by simp) ?_
        refine AllReadyH.cons rfl (fun K hK => ?_) AllReadyH.nil
        go_simp
        have lD14 := And.intro (And.intro hVX.st.lt hVX.st.gt.2) (And.intro hVY.st.lt hVY.st.gt.2)
        have rD14 := And.intro (And.intro Da.lt Db.lt) (And.intro HM.dx.lt HM.dy.lt)
        have tD14 := D12.lt
        replace hO14 := hO14.top
        have D14 := Blk.new w10 [.int .i64 0, .int .i64 0, .slice none 0 0] 24
        obtain ⟨HD14, eHD14⟩ : ∃ H, w10.heap.size = H := ⟨_, rfl⟩
        rw [eHD14] at D14
        have hbA := (Below.refl _ w10).alloc (Nat.le_refl _) (.cells #[.int .i64 0, .int .i64 0, .slice none 0 0] 24)
        replace HM := HM.on hbA
        replace hVX := hVX.on hbA
        replace hVY := hVY.on hbA
        replace Da := Da.on hbA
        replace Db := Db.on hbA
        replace D12 := D12.on hbA
        replace hO14 := hO14.on hbA
        clear hbA
        replace bz := bz.alloc bz.size (.cells #[.int .i64 0, .int .i64 0, .slice none 0 0] 24)
        have HHD14 := Lib.hid eHD14
        rw [eHD14] at lD14 rD14 tD14 hO14
        simp only [eHD14] at ⊢
        clear eHD14
        generalize (w10.alloc (.cells #[.int .i64 0, .int .i64 0, .slice none 0 0] 24)) = Wa14 at HM hVX hVY Da Db D12 hO14 D14 bz ⊢
        clear hS; refine hK.out _ _ ⟨HM.dx, HM.dy⟩ (fun hS => ?_); clear hK K
        try simp only [Act.put, List.setIfInBounds_toArray, List.set_cons_zero, List.set_cons_succ, List.getElem_toArray, List.getElem_cons_zero, List.getElem_cons_succ]
        obtain ⟨fc0, fc1, fc2, fr0, fr1, fr2⟩ := Mbx.cells D14
        refine wpAnyH_ready (rs := [7]) (by kernel_rfl) (by simp) ?_
        refine AllReadyH.cons rfl (fun K hK => ?_) AllReadyH.nil
        go_simp
        clear fc0 fc1 fc2 fr0 fr1 fr2
        have hgS := set3_grown' Wa14 HD14 (.int .i64 RX) (.int .i64 CX) (.slice A14 nX c14)
        replace D14 := Mbx.put D14 RX CX A14 nX c14
        replace HM := HM.grown hgS (by omega)
        replace hVX := hVX.grown hgS (by omega) (by omega)
        replace hVY := hVY.grown hgS (by omega) (by omega)
        replace Da := Da.grown hgS (by simp <;> omega)
        replace Db := Db.grown hgS (by simp <;> omega)
        replace D12 := D12.grown hgS (by simp <;> omega)
        replace hO14 := hO14.grown hgS (by omega)
        replace bz := bz.grown hgS bz.size (fun k e => by cases e; omega)
        generalize (((Wa14.setCell ⟨HD14, 0, none⟩ (.int .i64 RX)).setCell ⟨HD14, 1, none⟩ (.int .i64 CX)).setCell ⟨HD14, 2, none⟩ (.slice A14 nX c14)) = Ws14 at HM hVX hVY Da Db D12 hO14 D14 bz ⊢
        clear hgS
        clear hS; refine hK.out _ _ ⟨HM.dx, HM.dy⟩ (fun hS => ?_); clear hK K
        try simp only [Act.put, List.setIfInBounds_toArray, List.set_cons_zero, List.set_cons_succ, List.getElem_toArray, List.getElem_cons_zero, List.getElem_cons_succ]
        refine wpAnyH_done (by kernel_rfl) ?_ _
        exact key _ _ _ _ _ _ _ _ _ _ _ _ _ _ _ _ _ _ _ _ _ _ _ _ _ _ _ _ _ _ _ _ _ _ _ _ _ _ _ _ _ _ _ _ _ _ _ _ _ _ _ _ _ _ _ _ _ _ _ _ _ _ _ _ _ _ _ _ _ _ _ _ _ _ _ _ _ _ _ _ _ _ _ _ _ _ _ _ _ _ _ _ _ _ _ _ _ _ _ _ _ _ _ _ _ _ _ _ _ _ _ _ _ _ _ _ _ _ _ _ _ _ _ _ _ _ _ _ _ _ _ _ _ _ _ _ _ _ _ _ _ _ _ _ _ _ _ _ _ _ _ _ _ _ HM hVX hVY Da Db D12 D14 hO14 hJ2 bz (by omega)
      go_simp
      have lD14 := And.intro (And.intro hVX.st.lt hVX.st.gt.2) (And.intro hVY.st.lt hVY.st.gt.2)
      have rD14 := And.intro (And.intro Da.lt Db.lt) (And.intro HM.dx.lt HM.dy.lt)
      have tD14 := D12.lt
      replace hO14 := hO14.top
      have D14 := Blk.new w9 [.int .i64 0, .int .i64 0, .slice none 0 0] 24
      obtain ⟨HD14, eHD14⟩ : ∃ H, w9.heap.size = H := ⟨_, rfl⟩
      rw [eHD14] at D14
      have hbA := (Below.refl _ w9).alloc (Nat.le_refl _) (.cells #[.int .i64 0, .int .i64 0, .slice none 0 0] 24)
      replace HM := HM.on hbA
      replace hVX := hVX.on hbA
      replace hVY := hVY.on hbA
      replace Da := Da.on hbA
      replace Db := Db.on hbA
      replace D12 := D12.on hbA
      replace hO14 := hO14.on hbA
      clear hbA
      replace bz := bz.alloc bz.size (.cells #[.int .i64 0, .int .i64 0, .slice none 0 0] 24)
      have HHD14 := Lib.hid eHD14
      rw [eHD14] at lD14 rD14 tD14 hO14
      simp only [eHD14] at ⊢
      clear eHD14
      generalize (w9.alloc (.cells #[.int .i64 0, .int .i64 0, .slice none 0 0] 24)) = Wa14 at HM hVX hVY Da Db D12 hO14 D14 bz ⊢
      clear hS; refine hK.out _ _ ⟨HM.dx, HM.dy⟩ (fun hS => ?_); clear hK K
      try simp only [Act.put, List.setIfInBounds_toArray, List.set_cons_zero, List.set_cons_succ, List.getElem_toArray, List.getElem_cons_zero, List.getElem_cons_succ]
      refine wpAnyH_ready (rs := [5]) (by kernel_rfl) (by simp) ?_
      refine AllReadyH.cons rfl (fun K hK => ?_) AllReadyH.nil
      go_simp
      with_reducible refine (like_any _ _ _ _ _ _).mono ?_
      rintro e w10 ⟨rfl, hb⟩
      replace HM := HM.on hb
      replace hVX := hVX.on hb
      replace hVY := hVY.on hb
      replace Da := Da.on hb
      replace Db := Db.on hb
      replace D12 := D12.on hb
      replace hO14 := hO14.on hb
      replace D14 := D14.on hb
      replace bz := bz.trans (hb.mono bz.size)
      clear hb
      clear hS; refine hK.out _ _ ⟨HM.dx, HM.dy⟩ (fun hS => ?_); clear hK K
      try simp only [Act.put, List.setIfInBounds_toArray, List.set_cons_zero, List.set_cons_succ, List.getElem_toArray, List.getElem_cons_zero, List.getElem_cons_succ]
      obtain ⟨fc0, fc1, fc2, fr0, fr1, fr2⟩ := Mbx.cells D14
      refine wpAnyH_ready (rs := [7]) (by kernel_rfl) (by simp) ?_
      refine AllReadyH.cons rfl (fun K hK => ?_) AllReadyH.nil
      go_simp
      clear fc0 fc1 fc2 fr0 fr1 fr2
      have hgS := set3_grown' w10 HD14 (.int .i64 RX) (.int .i64 CX) (.slice A14 nX c14)
      replace D14 := Mbx.put D14 RX CX A14 nX c14
      replace HM := HM.grown hgS (by omega)
      replace hVX := hVX.grown hgS (by omega) (by omega)
      replace hVY := hVY.grown hgS (by omega) (by omega)
      replace Da := Da.grown hgS (by simp <;> omega)
      replace Db := Db.grown hgS (by simp <;> omega)
      replace D12 := D12.grown hgS (by simp <;> omega)
      replace hO14 := hO14.grown hgS (by omega)
      replace bz := bz.grown hgS bz.size (fun k e => by cases e; omega)
      generalize (((w10.setCell ⟨HD14, 0, none⟩ (.int .i64 RX)).setCell ⟨HD14, 1, none⟩ (.int .i64 CX)).setCell ⟨HD14, 2, none⟩ (.slice A14 nX c14)) = Ws14 at HM hVX hVY Da Db D12 hO14 D14 bz ⊢
      clear hgS
      clear hS; refine hK.out _ _ ⟨HM.dx, HM.dy⟩ (fun hS => ?_); clear hK K
      try simp only [Act.put, List.setIfInBounds_toArray, List.set_cons_zero, List.set_cons_succ, List.getElem_toArray, List.getElem_cons_zero, List.getElem_cons_succ]
      refine wpAnyH_done (by kernel_rfl) ?_ _
      exact key _ _ _ _ _ _ _ _ _ _ _ _ _ _ _ _ _ _ _ _ _ _ _ _ _ _ _ _ _ _ _ _ _ _ _ _ _ _ _ _ _ _ _ _ _ _ _ _ _ _ _ _ _ _ _ _ _ _ _ _ _ _ _ _ _ _ _ _ _ _ _ _ _ _ _ _ _ _ _ _ _ _ _ _ _ _ _ _ _ _ _ _ _ _ _ _ _ _ _ _ _ _ _ _ _ _ _ _ _ _ _ _ _ _ _ _ _ _ _ _ _ _ _ _ _ _ _ _ _ _ _ _ _ _ _ _ _ _ _ _ _ _ _ _ _ _ _ _ _ _ _ _ _ _ HM hVX hVY Da Db D12 D14 hO14 hJ2 bz (by omega)
    go_simp
    have lD14 := And.intro (And.intro hVX.st.lt hVX.st.gt.2) (And.intro hVY.st.lt hVY.st.gt.2)
    have rD14 := And.intro (And.intro Da.lt Db.lt) (And.intro HM.dx.lt HM.dy.lt)
    have tD14 := D12.lt
    have D14 := Blk.new wd15 [.int .i64 0, .int .i64 0, .slice none 0 0] 24
    obtain ⟨HD14, eHD14⟩ : ∃ H, wd15.heap.size = H := ⟨_, rfl⟩
    rw [eHD14] at D14
    have hbA := (Below.refl _ wd15).alloc (Nat.le_refl _) (.cells #[.int .i64 0, .int .i64 0, .slice none 0 0] 24)
    replace HM := HM.on hbA
    replace hVX := hVX.on hbA
    replace hVY := hVY.on hbA
    replace Da := Da.on hbA
    replace Db := Db.on hbA
    replace D12 := D12.on hbA
    clear hbA
    replace bz := bz.alloc bz.size (.cells #[.int .i64 0, .int .i64 0, .slice none 0 0] 24)
    have HHD14 := Lib.hid eHD14
    rw [eHD14] at lD14 rD14 tD14
    simp only [eHD14] at ⊢
    clear eHD14
    generalize (wd15.alloc (.cells #[.int .i64 0, .int .i64 0, .slice none 0 0] 24)) = Wa14 at HM hVX hVY Da Db D12 D14 bz ⊢
    clear hS; refine hK.out _ _ ⟨HM.dx, HM.dy⟩ (fun hS => ?_); clear hK K
    try simp only [Act.put, List.setIfInBounds_toArray, List.set_cons_zero, List.set_cons_succ, List.getElem_toArray, List.getElem_cons_zero, List.getElem_cons_succ]
    refine wpAnyH_ready (rs := [4]) (by kernel_rfl) (by simp) ?_
    refine AllReadyH.cons rfl (fun K hK => ?_) AllReadyH.nil
    go_simp
    have m14 := And.intro hVX.st.gt.2 hVY.st.gt.2
    have m14D := D12.lt
    have m14E := D14.lt
    with_reducible refine (rScal_any ba HM.fx.fl (by have := HSX.out.2; have := uX; omega)).mono ?_
    rintro e w9 ⟨A14, c14, L14, rfl, hJ2, ho, hb⟩
    replace HM := HM.on hb
    replace hVX := hVX.on hb
    replace hVY := hVY.on hb
    replace Da := Da.on hb
    replace Db := Db.on hb
    replace D12 := D12.on hb
    replace D14 := D14.on hb
    replace bz := bz.trans (hb.mono bz.size)
    clear hb
    have hO14 := hJ2.fo ho
    clear ho
    clear hS; refine hK.out _ _ ⟨HM.dx, HM.dy⟩ (fun hS => ?_); clear hK K
    try simp only [Act.put, List.setIfInBounds_toArray, List.set_cons_zero, List.set_cons_succ, List.getElem_toArray, List.getElem_cons_zero, List.getElem_cons_succ]
    refine wpAnyH_ready (rs := [5]) (by kernel_rfl) (by simp) ?_
    refine AllReadyH.cons rfl (fun K hK => ?_) AllReadyH.nil
    go_simp
    with_reducible refine (like_any _ _ _ _ _ _).mono ?_
    rintro e w10 ⟨rfl, hb⟩
    replace HM := HM.on hb
    replace hVX := hVX.on hb
    replace hVY := hVY.on hb
    replace Da := Da.on hb
    replace Db := Db.on hb
    replace D12 := D12.on hb
    replace D14 := D14.on hb
    replace hO14 := hO14.on hb
    replace bz := bz.trans (hb.mono bz.size)
    clear hb
    clear hS; refine hK.out _ _ ⟨HM.dx, HM.dy⟩ (fun hS => ?_); clear hK K
    try simp only [Act.put, List.setIfInBounds_toArray, List.set_cons_zero, List.set_cons_succ, List.getElem_toArray, List.getElem_cons_zero, List.getElem_cons_succ]
    obtain ⟨fc0, fc1, fc2, fr0, fr1, fr2⟩ := Mbx.cells D14
    refine wpAnyH_ready (rs := [7]) (by kernel_rfl) (by simp) ?_
    refine AllReadyH.cons rfl (fun K hK => ?_) AllReadyH.nil
    go_simp
    clear fc0 fc1 fc2 fr0 fr1 fr2
    have hgS := set3_grown' w10 HD14 (.int .i64 RX) (.int .i64 CX) (.slice A14 nX c14)
    replace D14 := Mbx.put D14 RX CX A14 nX c14
    replace HM := HM.grown hgS (by omega)
    replace hVX := hVX.grown hgS (by omega) (by omega)
    replace hVY := hVY.grown hgS (by omega) (by omega)
    replace Da := Da.grown hgS (by simp <;> omega)
    replace Db := Db.grown hgS (by simp <;> omega)
    replace D12 := D12.grown hgS (by simp <;> omega)
    replace hO14 := hO14.grown hgS (by omega)
    replace bz := bz.grown hgS bz.size (fun k e => by cases e; omega)
    generalize (((w10.setCell ⟨HD14, 0, none⟩ (.int .i64 RX)).setCell ⟨HD14, 1, none⟩ (.int .i64 CX)).setCell ⟨HD14, 2, none⟩ (.slice A14 nX c14)) = Ws14 at HM hVX hVY Da Db D12 D14 hO14 bz ⊢
    clear hgS
    clear hS; refine hK.out _ _ ⟨HM.dx, HM.dy⟩ (fun hS => ?_); clear hK K
    try simp only [Act.put, List.setIfInBounds_toArray, List.set_cons_zero, List.set_cons_succ, List.getElem_toArray, List.getElem_cons_zero, List.getElem_cons_succ]
    refine wpAnyH_done (by kernel_rfl) ?_ _
    exact key _ _ _ _ _ _ _ _ _ _ _ _ _ _ _ _ _ _ _ _ _ _ _ _ _ _ _ _ _ _ _ _ _ _ _ _ _ _ _ _ _ _ _ _ _ _ _ _ _ _ _ _ _ _ _ _ _ _ _ _ _ _ _ _ _ _ _ _ _ _ _ _ _ _ _ _ _ _ _ _ _ _ _ _ _ _ _ _ _ _ _ _ _ _ _ _ _ _ _ _ _ _ _ _ _ _ _ _ _ _ _ _ _ _ _ _ _ _ _ _ _ _ _ _ _ _ _ _ _ _ _ _ _ _ _ _ _ _ _ _ _ _ _ _ _ _ _ _ _ _ _ _ _ _ HM hVX hVY Da Db D12 D14 hO14 hJ2 bz (by omega)
end Go.Proofs.Ytfelmkkkaphkpaa
