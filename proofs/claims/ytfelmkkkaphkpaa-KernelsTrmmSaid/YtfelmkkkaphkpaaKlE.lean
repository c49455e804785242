/-
  Layer 8: the law KernelsTrmm. (Written by wip/tools/gen_klc.py.)
-/
import Derived.Test.YtfelmkkkaphkpaaKlA
import Derived.Test.YtfelmkkkaphkpaaKnJG
import Derived.Test.YtfelmkkkaphkpaaKnX
namespace Go.Proofs.Ytfelmkkkaphkpaa
open Go.RowKit Go.Bw Go.Sort Go.Shelf
set_option linter.unusedVariables false
set_option linter.unusedSimpArgs false

section
variable {w : World} {B B2 B3 : Nat} {U X Y : Vu} {s g cap c s2 g2 cap2 c2 s3 g3 cap3 c3 a b : Nat} {l l2 l3 : List Int} {RU CU RX CX RY CY : Int} {LU LX LY : List Int}
theorem trmm_fit (hX : Ov w B2 X s2 g2 cap2 c2 l2 RX CX LX) (hY : Ov w B3 Y s3 g3 cap3 c3 l3 RY CY LY) : szd X Y.R Y.R = ((RX == CX) && !(RX != RY)) := by
  unfold szd
  rw [hX.R, hX.C, hY.R]
  rw [Bool.eq_iff_iff]
  simp only [bne, Bool.not_not, Bool.and_eq_true, beq_iff_eq]
  omega
theorem trmm_no {up unit : Bool} (hX : Ov w B2 X s2 g2 cap2 c2 l2 RX CX LX) (hY : Ov w B3 Y s3 g3 cap3 c3 l3 RY CY LY) (hf : ((RX == CX) && !(RX != RY)) = false) : Calls Try.prog 47 #[.bool up, .bool unit, X.V, Y.V] w (Ans w (.int .i64 8)) :=
  Trmm_no hX.sv hY.sv (refE_8 (by rw [trmm_fit hX hY]; exact hf) (mem2 hX.ne hY.ne)) (by omega)
theorem trmm_yes {up unit : Bool} (hX : Ov w B2 X s2 g2 cap2 c2 l2 RX CX LX) (hY : Ov w B3 Y s3 g3 cap3 c3 l3 RY CY LY) {m q : Nat} (hm : RY = m) (hq : CY = q) {ny : Nat} (ey : LY.length = ny) (hf : ((RX == CX) && !(RX != RY)) = true) :
    Calls Try.prog 47 #[.bool up, .bool unit, X.V, Y.V] w (OvK w B3 Y s3 g3 cap3 c3 RY CY ny (tg (fun _ _ => true) (fun i j => trA up unit LX LY m q i j) LY q)) := by
  refine (Trmm_yes (m := m) (q := q) hX.sv hY.sv (refE_ok (by rw [trmm_fit hX hY]; exact hf) (mem2 hX.ne hY.ne)) hY.vk hY.st rfl hY.inj (hY.R.trans hm) (hY.C.trans hq)).mono ?_
  intro e w1 h
  exact ovk hY h hq ey (fun k hk => rfl)
end
set_option maxRecDepth 100000 in
set_option maxHeartbeats 8000000 in
theorem KernelsTrmm_big1 {w : World} {RX CX : Int} {AX : Option Addr} {nX cX : Nat} {LX : List Int} {RY CY : Int} {AY : Option Addr} {nY cY : Nat} {LY : List Int} {up unit turned : Bool} (hX : FL w AX nX cX LX) (hY : FL w AY nY cY LY) (bX : bigM RX CX nX = true) : Calls Try.prog 11 #[.bool up, .bool unit, mV RX CX AX nX cX, mV RY CY AY nY cY, .bool turned] w (Ans w (.bool true)) := by
  have pbX := fun W => big_any RX CX AX nX cX hX.max W
  rw [bX] at pbX
  clear bX
  have DX := Blk.new w [.int .i64 RX, .int .i64 CX, .slice AX nX cX] 24
  have DY := Blk.new (w.alloc (.cells #[.int .i64 RX, .int .i64 CX, .slice AX nX cX] 24)) [.int .i64 RY, .int .i64 CY, .slice AY nY cY] 24
  replace DX := DX.alloc (.cells #[.int .i64 RY, .int .i64 CY, .slice AY nY cY] 24)
  simp only [World.size_alloc] at DY
  have bz := ((Below.refl _ w).alloc (Nat.le_refl _) (.cells #[.int .i64 RX, .int .i64 CX, .slice AX nX cX] 24)).alloc (by simp <;> omega) (.cells #[.int .i64 RY, .int .i64 CY, .slice AY nY cY] 24)
  have hsz0 : ((w.alloc (.cells #[.int .i64 RX, .int .i64 CX, .slice AX nX cX] 24)).alloc (.cells #[.int .i64 RY, .int .i64 CY, .slice AY nY cY] 24)).heap.size = w.heap.size + 2 := by simp
  have hFX := hX.lo.on bz
  clear hX
  have hFY := hY.lo.on bz
  clear hY
  go_enter Try.func11, Try.ntmps11
  obtain ⟨kX_0, kX_1, kX_2, kX_3, kX_4, kX_5⟩ := Mbx.cells DX
  obtain ⟨kY_0, kY_1, kY_2, kY_3, kY_4, kY_5⟩ := Mbx.cells DY
  go_wp2_with fail
  with_reducible refine (pbX _).mono ?_
  rintro e w1 ⟨rfl, hb⟩
  clear kX_0 kX_1 kX_2 kX_3 kX_4 kX_5 kY_0 kY_1 kY_2 kY_3 kY_4 kY_5
  replace DX := DX.on hb
  replace DY := DY.on hb
  replace hFX := hFX.on hb
  replace hFY := hFY.on hb
  replace bz := bz.trans (hb.mono bz.size)
  clear hb
  go_wp2_with fail
  with_reducible refine (known_any _).mono ?_
  rintro e w2 ⟨rfl, hb⟩
  replace DX := DX.on hb
  replace DY := DY.on hb
  replace hFX := hFX.on hb
  replace hFY := hFY.on hb
  replace bz := bz.trans (hb.mono bz.size)
  clear hb
  go_wp2_with fail
  go_ret
  exact ⟨rfl, bz⟩
set_option maxRecDepth 100000 in
set_option maxHeartbeats 8000000 in
theorem KernelsTrmm_big2 {w : World} {RX CX : Int} {AX : Option Addr} {nX cX : Nat} {LX : List Int} {RY CY : Int} {AY : Option Addr} {nY cY : Nat} {LY : List Int} {up unit turned : Bool} (hX : FL w AX nX cX LX) (hY : FL w AY nY cY LY) (bX : bigM RX CX nX = false) (bY : bigM RY CY nY = true) : Calls Try.prog 11 #[.bool up, .bool unit, mV RX CX AX nX cX, mV RY CY AY nY cY, .bool turned] w (Ans w (.bool true)) := by
  have pbX := fun W => big_any RX CX AX nX cX hX.max W
  rw [bX] at pbX
  clear bX
  have pbY := fun W => big_any RY CY AY nY cY hY.max W
  rw [bY] at pbY
  clear bY
  have DX := Blk.new w [.int .i64 RX, .int .i64 CX, .slice AX nX cX] 24
  have DY := Blk.new (w.alloc (.cells #[.int .i64 RX, .int .i64 CX, .slice AX nX cX] 24)) [.int .i64 RY, .int .i64 CY, .slice AY nY cY] 24
  replace DX := DX.alloc (.cells #[.int .i64 RY, .int .i64 CY, .slice AY nY cY] 24)
  simp only [World.size_alloc] at DY
  have bz := ((Below.refl _ w).alloc (Nat.le_refl _) (.cells #[.int .i64 RX, .int .i64 CX, .slice AX nX cX] 24)).alloc (by simp <;> omega) (.cells #[.int .i64 RY, .int .i64 CY, .slice AY nY cY] 24)
  have hsz0 : ((w.alloc (.cells #[.int .i64 RX, .int .i64 CX, .slice AX nX cX] 24)).alloc (.cells #[.int .i64 RY, .int .i64 CY, .slice AY nY cY] 24)).heap.size = w.heap.size + 2 := by simp
  have hFX := hX.lo.on bz
  clear hX
  have hFY := hY.lo.on bz
  clear hY
  go_enter Try.func11, Try.ntmps11
  obtain ⟨kX_0, kX_1, kX_2, kX_3, kX_4, kX_5⟩ := Mbx.cells DX
  obtain ⟨kY_0, kY_1, kY_2, kY_3, kY_4, kY_5⟩ := Mbx.cells DY
  go_wp2_with fail
  with_reducible refine (pbX _).mono ?_
  rintro e w1 ⟨rfl, hb⟩
  clear kX_0 kX_1 kX_2 kX_3 kX_4 kX_5 kY_0 kY_1 kY_2 kY_3 kY_4 kY_5
  replace DX := DX.on hb
  replace DY := DY.on hb
  replace hFX := hFX.on hb
  replace hFY := hFY.on hb
  replace bz := bz.trans (hb.mono bz.size)
  clear hb
  obtain ⟨kX_0, kX_1, kX_2, kX_3, kX_4, kX_5⟩ := Mbx.cells DX
  obtain ⟨kY_0, kY_1, kY_2, kY_3, kY_4, kY_5⟩ := Mbx.cells DY
  go_wp2_with fail
  with_reducible refine (pbY _).mono ?_
  rintro e w2 ⟨rfl, hb⟩
  clear kX_0 kX_1 kX_2 kX_3 kX_4 kX_5 kY_0 kY_1 kY_2 kY_3 kY_4 kY_5
  replace DX := DX.on hb
  replace DY := DY.on hb
  replace hFX := hFX.on hb
  replace hFY := hFY.on hb
  replace bz := bz.trans (hb.mono bz.size)
  clear hb
  go_wp2_with fail
  with_reducible refine (known_any _).mono ?_
  rintro e w3 ⟨rfl, hb⟩
  replace DX := DX.on hb
  replace DY := DY.on hb
  replace hFX := hFX.on hb
  replace hFY := hFY.on hb
  replace bz := bz.trans (hb.mono bz.size)
  clear hb
  go_wp2_with fail
  go_ret
  exact ⟨rfl, bz⟩
set_option maxRecDepth 100000 in
set_option maxHeartbeats 8000000 in
theorem KernelsTrmm_no {w : World} {RX CX : Int} {AX : Option Addr} {nX cX : Nat} {LX : List Int} {RY CY : Int} {AY : Option Addr} {nY cY : Nat} {LY : List Int} {up unit turned : Bool} (hX : FL w AX nX cX LX) (hY : FL w AY nY cY LY) (bX : bigM RX CX nX = false) (bY : bigM RY CY nY = false) (hf : ((RX == CX) && !(RX != RY)) = false) : Calls Try.prog 11 #[.bool up, .bool unit, mV RX CX AX nX cX, mV RY CY AY nY cY, .bool turned] w (Ans w (.bool true)) := by
  have pbX := fun W => big_any RX CX AX nX cX hX.max W
  rw [bX] at pbX
  obtain ⟨zX, eX, uX⟩ := big_is bX
  have HSX := Lib.hid (And.intro zX eX)
  clear bX zX eX
  have pbY := fun W => big_any RY CY AY nY cY hY.max W
  rw [bY] at pbY
  obtain ⟨zY, eY, uY⟩ := big_is bY
  have HSY := Lib.hid (And.intro zY eY)
  clear bY zY eY
  have EX := Lib.hid hX.1
  have mxX := hX.max
  have EY := Lib.hid hY.1
  have mxY := hY.max
  have HFT := Lib.hid hf
  clear hf
  have DX := Blk.new w [.int .i64 RX, .int .i64 CX, .slice AX nX cX] 24
  have DY := Blk.new (w.alloc (.cells #[.int .i64 RX, .int .i64 CX, .slice AX nX cX] 24)) [.int .i64 RY, .int .i64 CY, .slice AY nY cY] 24
  replace DX := DX.alloc (.cells #[.int .i64 RY, .int .i64 CY, .slice AY nY cY] 24)
  simp only [World.size_alloc] at DY
  have bz := ((Below.refl _ w).alloc (Nat.le_refl _) (.cells #[.int .i64 RX, .int .i64 CX, .slice AX nX cX] 24)).alloc (by simp <;> omega) (.cells #[.int .i64 RY, .int .i64 CY, .slice AY nY cY] 24)
  have hsz0 : ((w.alloc (.cells #[.int .i64 RX, .int .i64 CX, .slice AX nX cX] 24)).alloc (.cells #[.int .i64 RY, .int .i64 CY, .slice AY nY cY] 24)).heap.size = w.heap.size + 2 := by simp
  have hFX := hX.lo.on bz
  clear hX
  have hFY := hY.lo.on bz
  clear hY
  go_enter Try.func11, Try.ntmps11
  obtain ⟨kX_0, kX_1, kX_2, kX_3, kX_4, kX_5⟩ := Mbx.cells DX
  obtain ⟨kY_0, kY_1, kY_2, kY_3, kY_4, kY_5⟩ := Mbx.cells DY
  go_wp2_with fail
  with_reducible refine (pbX _).mono ?_
  rintro e w1 ⟨rfl, hb⟩
  clear kX_0 kX_1 kX_2 kX_3 kX_4 kX_5 kY_0 kY_1 kY_2 kY_3 kY_4 kY_5
  replace DX := DX.on hb
  replace DY := DY.on hb
  replace hFX := hFX.on hb
  replace hFY := hFY.on hb
  replace bz := bz.trans (hb.mono bz.size)
  clear hb
  obtain ⟨kX_0, kX_1, kX_2, kX_3, kX_4, kX_5⟩ := Mbx.cells DX
  obtain ⟨kY_0, kY_1, kY_2, kY_3, kY_4, kY_5⟩ := Mbx.cells DY
  go_wp2_with fail
  with_reducible refine (pbY _).mono ?_
  rintro e w2 ⟨rfl, hb⟩
  clear kX_0 kX_1 kX_2 kX_3 kX_4 kX_5 kY_0 kY_1 kY_2 kY_3 kY_4 kY_5
  replace DX := DX.on hb
  replace DY := DY.on hb
  replace hFX := hFX.on hb
  replace hFY := hFY.on hb
  replace bz := bz.trans (hb.mono bz.size)
  clear hb
  obtain ⟨kX_0, kX_1, kX_2, kX_3, kX_4, kX_5⟩ := Mbx.cells DX
  obtain ⟨kY_0, kY_1, kY_2, kY_3, kY_4, kY_5⟩ := Mbx.cells DY
  have hszw : w.heap.size + 2 ≤ w2.heap.size := by have := DY.lt; omega
  go_wp2_with fail
  with_reducible refine (of_any turned hFY.fl HSY.out.1 HSY.out.2).mono ?_
  rintro e w3 ⟨VY, sVY, gVY, capVY, cVY, lVY, rfl, hVY, hb⟩
  clear kX_0 kX_1 kX_2 kX_3 kX_4 kX_5 kY_0 kY_1 kY_2 kY_3 kY_4 kY_5
  replace DX := DX.on hb
  replace DY := DY.on hb
  replace hFX := hFX.on hb
  replace hFY := hFY.on hb
  replace bz := bz.trans (hb.mono bz.size)
  clear hb
  have hgy : w.heap.size + 2 ≤ gVY ∧ w.heap.size + 2 ≤ sVY := by have h1 := hVY.st.lo; have h2 := hVY.st.gt.1; omega
  have hlt := And.intro hVY.st.lt hVY.st.gt.2
  have DVY := Blk.new w3 (VY).L 30
  obtain ⟨HDVY, eHDVY⟩ : ∃ H, w3.heap.size = H := ⟨_, rfl⟩
  rw [eHDVY] at DVY
  replace DX := DX.on ((Below.refl _ _).alloc (Nat.le_refl _) (.cells (VY).L.toArray 30))
  replace DY := DY.on ((Below.refl _ _).alloc (Nat.le_refl _) (.cells (VY).L.toArray 30))
  replace hFX := hFX.on ((Below.refl _ _).alloc (Nat.le_refl _) (.cells (VY).L.toArray 30))
  replace hFY := hFY.on ((Below.refl _ _).alloc (Nat.le_refl _) (.cells (VY).L.toArray 30))
  replace hVY := hVY.on ((Below.refl _ _).alloc (Nat.le_refl _) (.cells (VY).L.toArray 30))
  replace bz := bz.alloc bz.size (.cells (VY).L.toArray 30)
  have HHDVY := Lib.hid eHDVY
  rw [eHDVY] at hlt
  clear hszw
  go_wp2_with fail
  replace DX := DX.drew
  replace DY := DY.drew
  replace hFX := hFX.drew
  replace hFY := hFY.drew
  replace hVY := hVY.drew
  replace DVY := DVY.drew
  replace bz := bz.drew
  refine wp_region_held_drew (S := fun w9 : World => Mbx w9 w.heap.size RX CX AX nX cX ∧ Mbx w9 (w.heap.size + 1) RY CY AY nY cY ∧ Vbx w9 HDVY VY) (by kernel_rfl) ⟨DX, DY, DVY⟩ (fun hS => ?_)
  generalize (w3.alloc (.cells (VY).L.toArray 30)).drew = wd4 at hS DX DY hFX hFY hVY DVY  bz ⊢
  refine wpAnyH_take (i := 0) (v := ?v0_54) rfl (by kernel_rfl) (by kernel_rfl) (by kernel_rfl) (fun _ _ _ h => h) (Or.inl ⟨by rfl, ?hy0_54⟩) (by assumption) ?rest0_54
  case hy0_54 => (intro w9 hSw; clear hSw; go_simp; try with_reducible rfl)
  try simp only [Act.put, List.setIfInBounds_toArray, List.set_cons_zero, List.set_cons_succ, List.getElem_toArray, List.getElem_cons_zero, List.getElem_cons_succ]
  refine wpAnyH_take (i := 1) (v := ?v1_55) rfl (by kernel_rfl) (by kernel_rfl) (by kernel_rfl) (fun _ _ _ h => h) (Or.inl ⟨by rfl, ?hy1_55⟩) (by assumption) ?rest1_55
  case hy1_55 => (intro w9 hSw; clear hSw; go_simp; try with_reducible rfl)
  try simp only [Act.put, List.setIfInBounds_toArray, List.set_cons_zero, List.set_cons_succ, List.getElem_toArray, List.getElem_cons_zero, List.getElem_cons_succ]
  refine wpAnyH_take (i := 2) (v := ?v2_56) rfl (by kernel_rfl) (by kernel_rfl) (by kernel_rfl) (fun _ _ _ h => h) (Or.inl ⟨by rfl, ?hy2_56⟩) (by assumption) ?rest2_56
  case hy2_56 => (intro w9 hSw; obtain ⟨m0, m1, m2⟩ := hSw; obtain ⟨q0_0, q0_1, q0_2, q0_3, q0_4, q0_5⟩ := Mbx.cells m0; obtain ⟨q1_0, q1_1, q1_2, q1_3, q1_4, q1_5⟩ := Mbx.cells m1; go_simp; try with_reducible rfl)
  try simp only [Act.put, List.setIfInBounds_toArray, List.set_cons_zero, List.set_cons_succ, List.getElem_toArray, List.getElem_cons_zero, List.getElem_cons_succ]
  refine wpAnyH_take (i := 3) (v := ?v3_57) rfl (by kernel_rfl) (by kernel_rfl) (by kernel_rfl) (fun _ _ _ h => h) (Or.inl ⟨by rfl, ?hy3_57⟩) (by assumption) ?rest3_57
  case hy3_57 => (intro w9 hSw; clear hSw; go_simp; try with_reducible rfl)
  try simp only [Act.put, List.setIfInBounds_toArray, List.set_cons_zero, List.set_cons_succ, List.getElem_toArray, List.getElem_cons_zero, List.getElem_cons_succ]
  refine wpAnyH_take (i := 4) (v := ?v4_58) rfl (by kernel_rfl) (by kernel_rfl) (by kernel_rfl) (fun _ _ _ h => h) (Or.inl ⟨by rfl, ?hy4_58⟩) (by assumption) ?rest4_58
  case hy4_58 => (intro w9 hSw; clear hSw; go_simp; try with_reducible rfl)
  try simp only [Act.put, List.setIfInBounds_toArray, List.set_cons_zero, List.set_cons_succ, List.getElem_toArray, List.getElem_cons_zero, List.getElem_cons_succ]
  refine wpAnyH_take (i := 6) (v := ?v6_59) rfl (by kernel_rfl) (by kernel_rfl) (by kernel_rfl) (fun _ _ _ h => h) (Or.inl ⟨by rfl, ?hy6_59⟩) (by assumption) ?rest6_59
  case hy6_59 => (intro w9 hSw; obtain ⟨m0, m1, m2⟩ := hSw; refine (ld_v (by rfl) (by kernel_rfl) m2).trans ?_; with_reducible rfl)
  try simp only [Act.put, List.setIfInBounds_toArray, List.set_cons_zero, List.set_cons_succ, List.getElem_toArray, List.getElem_cons_zero, List.getElem_cons_succ]
  refine wpAnyH_ready (rs := [5]) (by kernel_rfl) (by simp) ?_
  refine AllReadyH.cons rfl (fun K hK => ?_) AllReadyH.nil
  go_simp
  with_reducible refine (of_any (!turned) hFX.fl HSX.out.1 HSX.out.2).mono ?_
  rintro e w4 ⟨VX, sVX, gVX, capVX, cVX, lVX, rfl, hVX, hb⟩
  replace DX := DX.on hb
  replace DY := DY.on hb
  replace hFX := hFX.on hb
  replace hFY := hFY.on hb
  replace hVY := hVY.on hb
  replace DVY := DVY.on hb
  replace bz := bz.trans (hb.mono bz.size)
  clear hb
  refine hK.out _ _ ⟨DX, DY, DVY⟩ (fun hH => ?_)
  clear hK K hS
  have hS := hH
  clear hH
  try simp only [Act.put, List.setIfInBounds_toArray, List.set_cons_zero, List.set_cons_succ, List.getElem_toArray, List.getElem_cons_zero, List.getElem_cons_succ]
  refine wpAnyH_ready (rs := [7]) (by kernel_rfl) (by simp) ?_
  refine AllReadyH.cons rfl (fun K hK => ?_) AllReadyH.nil
  go_simp
  with_reducible refine (trmm_no hVX hVY HFT.out).mono ?_
  rintro e w5 ⟨rfl, hb⟩
  replace DX := DX.on hb
  replace DY := DY.on hb
  replace hFX := hFX.on hb
  replace hFY := hFY.on hb
  replace hVY := hVY.on hb
  replace DVY := DVY.on hb
  replace hVX := hVX.on hb
  replace bz := bz.trans (hb.mono bz.size)
  clear hb
  clear hVX
  refine hK.out _ _ ⟨DX, DY, DVY⟩ (fun hH => ?_)
  clear hK K hS
  have hS := hH
  clear hH
  try simp only [Act.put, List.setIfInBounds_toArray, List.set_cons_zero, List.set_cons_succ, List.getElem_toArray, List.getElem_cons_zero, List.getElem_cons_succ]
  refine wpAnyH_take (i := 8) (v := ?v8_60) rfl (by kernel_rfl) (by kernel_rfl) (by kernel_rfl) (fun _ _ _ h => h) (Or.inl ⟨by rfl, ?hy8_60⟩) (by assumption) ?rest8_60
  case hy8_60 => (intro w9 hSw; clear hSw; go_simp; try with_reducible rfl)
  try simp only [Act.put, List.setIfInBounds_toArray, List.set_cons_zero, List.set_cons_succ, List.getElem_toArray, List.getElem_cons_zero, List.getElem_cons_succ]
  refine wpAnyH_done (by kernel_rfl) ?_ _
  have HFv := HFT.out
  cases f0 : (RX == CX)
  · skip
    have p9 := rSquare_any RX CX AX nX cX
    rw [f0] at p9
    obtain ⟨kX_0, kX_1, kX_2, kX_3, kX_4, kX_5⟩ := Mbx.cells DX
    obtain ⟨kY_0, kY_1, kY_2, kY_3, kY_4, kY_5⟩ := Mbx.cells DY
    go_wp2_with fail
    with_reducible refine (p9 _).mono ?_
    rintro e w6 ⟨rfl, hb⟩
    clear kX_0 kX_1 kX_2 kX_3 kX_4 kX_5 kY_0 kY_1 kY_2 kY_3 kY_4 kY_5
    replace DX := DX.on hb
    replace DY := DY.on hb
    replace hFX := hFX.on hb
    replace hFY := hFY.on hb
    replace hVY := hVY.on hb
    replace DVY := DVY.on hb
    replace bz := bz.trans (hb.mono bz.size)
    clear hb p9
    obtain ⟨kX_0, kX_1, kX_2, kX_3, kX_4, kX_5⟩ := Mbx.cells DX
    obtain ⟨kY_0, kY_1, kY_2, kY_3, kY_4, kY_5⟩ := Mbx.cells DY
    go_wp2_with fail
    with_reducible refine (num_any _ _).mono ?_
    rintro e v7 ⟨rfl, rfl⟩
    clear kX_0 kX_1 kX_2 kX_3 kX_4 kX_5 kY_0 kY_1 kY_2 kY_3 kY_4 kY_5
    obtain ⟨kX_0, kX_1, kX_2, kX_3, kX_4, kX_5⟩ := Mbx.cells DX
    obtain ⟨kY_0, kY_1, kY_2, kY_3, kY_4, kY_5⟩ := Mbx.cells DY
    obtain ⟨cDVY_0, cDVY_1, cDVY_2, cDVY_3, cDVY_4, cDVY_5, cDVY_6, cDVY_7, cDVY_8⟩ := Vbx.cells DVY
    go_wp2_with fail
    with_reducible refine (shows_true hVY.sv hFY.fl hVY.R hVY.C (sameL_refl LY)).mono ?_
    rintro e w8 ⟨rfl, hb⟩
    clear kX_0 kX_1 kX_2 kX_3 kX_4 kX_5 kY_0 kY_1 kY_2 kY_3 kY_4 kY_5 cDVY_0 cDVY_1 cDVY_2 cDVY_3 cDVY_4 cDVY_5 cDVY_6 cDVY_7 cDVY_8
    replace DX := DX.on hb
    replace DY := DY.on hb
    replace hFX := hFX.on hb
    replace hFY := hFY.on hb
    replace hVY := hVY.on hb
    replace DVY := DVY.on hb
    replace bz := bz.trans (hb.mono bz.size)
    clear hb
    go_wp2_with fail
    with_reducible refine (known_any _).mono ?_
    rintro e w9 ⟨rfl, hb⟩
    replace DX := DX.on hb
    replace DY := DY.on hb
    replace hFX := hFX.on hb
    replace hFY := hFY.on hb
    replace hVY := hVY.on hb
    replace DVY := DVY.on hb
    replace bz := bz.trans (hb.mono bz.size)
    clear hb
    go_wp2_with fail
    go_ret
    exact ⟨rfl, bz⟩
  · cases f1 : (RX != RY)
    · exfalso; rw [f0, f1] at HFv; cases HFv
    · skip
      have p9 := rSquare_any RX CX AX nX cX
      rw [f0] at p9
      obtain ⟨kX_0, kX_1, kX_2, kX_3, kX_4, kX_5⟩ := Mbx.cells DX
      obtain ⟨kY_0, kY_1, kY_2, kY_3, kY_4, kY_5⟩ := Mbx.cells DY
      go_wp2_with fail
      with_reducible refine (p9 _).mono ?_
      rintro e w6 ⟨rfl, hb⟩
      clear kX_0 kX_1 kX_2 kX_3 kX_4 kX_5 kY_0 kY_1 kY_2 kY_3 kY_4 kY_5
      replace DX := DX.on hb
      replace DY := DY.on hb
      replace hFX := hFX.on hb
      replace hFY := hFY.on hb
      replace hVY := hVY.on hb
      replace DVY := DVY.on hb
      replace bz := bz.trans (hb.mono bz.size)
      clear hb p9
      obtain ⟨kX_0, kX_1, kX_2, kX_3, kX_4, kX_5⟩ := Mbx.cells DX
      obtain ⟨kY_0, kY_1, kY_2, kY_3, kY_4, kY_5⟩ := Mbx.cells DY
      go_wp2_with fail
      with_reducible refine (num_any _ _).mono ?_
      rintro e v7 ⟨rfl, rfl⟩
      clear kX_0 kX_1 kX_2 kX_3 kX_4 kX_5 kY_0 kY_1 kY_2 kY_3 kY_4 kY_5
      obtain ⟨kX_0, kX_1, kX_2, kX_3, kX_4, kX_5⟩ := Mbx.cells DX
      obtain ⟨kY_0, kY_1, kY_2, kY_3, kY_4, kY_5⟩ := Mbx.cells DY
      obtain ⟨cDVY_0, cDVY_1, cDVY_2, cDVY_3, cDVY_4, cDVY_5, cDVY_6, cDVY_7, cDVY_8⟩ := Vbx.cells DVY
      go_wp2_with fail
      with_reducible refine (shows_true hVY.sv hFY.fl hVY.R hVY.C (sameL_refl LY)).mono ?_
      rintro e w8 ⟨rfl, hb⟩
      clear kX_0 kX_1 kX_2 kX_3 kX_4 kX_5 kY_0 kY_1 kY_2 kY_3 kY_4 kY_5 cDVY_0 cDVY_1 cDVY_2 cDVY_3 cDVY_4 cDVY_5 cDVY_6 cDVY_7 cDVY_8
      replace DX := DX.on hb
      replace DY := DY.on hb
      replace hFX := hFX.on hb
      replace hFY := hFY.on hb
      replace hVY := hVY.on hb
      replace DVY := DVY.on hb
      replace bz := bz.trans (hb.mono bz.size)
      clear hb
      go_wp2_with fail
      with_reducible refine (known_any _).mono ?_
      rintro e w9 ⟨rfl, hb⟩
      replace DX := DX.on hb
      replace DY := DY.on hb
      replace hFX := hFX.on hb
      replace hFY := hFY.on hb
      replace hVY := hVY.on hb
      replace DVY := DVY.on hb
      replace bz := bz.trans (hb.mono bz.size)
      clear hb
      go_wp2_with fail
      go_ret
      exact ⟨rfl, bz⟩
set_option maxRecDepth 100000 in
set_option maxHeartbeats 8000000 in
theorem KernelsTrmm_yes {w : World} {RX CX : Int} {AX : Option Addr} {nX cX : Nat} {LX : List Int} {RY CY : Int} {AY : Option Addr} {nY cY : Nat} {LY : List Int} {up unit turned : Bool} (hX : FL w AX nX cX LX) (hY : FL w AY nY cY LY) (bX : bigM RX CX nX = false) (bY : bigM RY CY nY = false) (hf : ((RX == CX) && !(RX != RY)) = true) : Calls Try.prog 11 #[.bool up, .bool unit, mV RX CX AX nX cX, mV RY CY AY nY cY, .bool turned] w (Ans w (.bool true)) := by
  have pbX := fun W => big_any RX CX AX nX cX hX.max W
  rw [bX] at pbX
  obtain ⟨zX, eX, uX⟩ := big_is bX
  have HSX := Lib.hid (And.intro zX eX)
  clear bX zX eX
  have pbY := fun W => big_any RY CY AY nY cY hY.max W
  rw [bY] at pbY
  obtain ⟨zY, eY, uY⟩ := big_is bY
  have HSY := Lib.hid (And.intro zY eY)
  clear bY zY eY
  have EX := Lib.hid hX.1
  have mxX := hX.max
  have EY := Lib.hid hY.1
  have mxY := hY.max
  have hfs := hf
  simp only [Bool.and_eq_true] at hfs
  obtain ⟨f0, f1⟩ := hfs
  replace f1 : (RX != RY) = false := by simpa using f1
  have zY := (szB_bd HSY.out.1).1
  obtain ⟨m, hm⟩ := Int.eq_ofNat_of_zero_le zY.1
  obtain ⟨q, hq⟩ := Int.eq_ofNat_of_zero_le zY.2.2.1
  have hnY : nY = m * q := by have := HSY.out.2; rw [hm, hq] at this; exact_mod_cast this
  have zX := (szB_bd HSX.out.1).1
  have g0 : RX = CX := by simpa using f0
  have g1 : RX = RY := by simpa using f1
  have hrx : RX = (m : Int) := by rw [g1]; exact hm
  have hcx : CX = (m : Int) := by rw [← g0]; exact hrx
  have hnX : nX = m * m := by have := HSX.out.2; rw [hrx, hcx] at this; exact_mod_cast this
  have hm5 : m ≤ 512 ∧ q ≤ 512 := by omega
  have HM := Lib.hid hm
  have HQ := Lib.hid hq
  have HRX := Lib.hid hrx
  have HCX := Lib.hid hcx
  have HNY := Lib.hid hnY
  have HNX := Lib.hid hnX
  clear zX zY hm hq hrx hcx hnY hnX g0 g1
  have F0 := Lib.hid f0
  clear f0
  have F1 := Lib.hid f1
  clear f1
  have HFT := Lib.hid hf
  clear hf
  have DX := Blk.new w [.int .i64 RX, .int .i64 CX, .slice AX nX cX] 24
  have DY := Blk.new (w.alloc (.cells #[.int .i64 RX, .int .i64 CX, .slice AX nX cX] 24)) [.int .i64 RY, .int .i64 CY, .slice AY nY cY] 24
  replace DX := DX.alloc (.cells #[.int .i64 RY, .int .i64 CY, .slice AY nY cY] 24)
  simp only [World.size_alloc] at DY
  have bz := ((Below.refl _ w).alloc (Nat.le_refl _) (.cells #[.int .i64 RX, .int .i64 CX, .slice AX nX cX] 24)).alloc (by simp <;> omega) (.cells #[.int .i64 RY, .int .i64 CY, .slice AY nY cY] 24)
  have hsz0 : ((w.alloc (.cells #[.int .i64 RX, .int .i64 CX, .slice AX nX cX] 24)).alloc (.cells #[.int .i64 RY, .int .i64 CY, .slice AY nY cY] 24)).heap.size = w.heap.size + 2 := by simp
  have hFX := hX.lo.on bz
  clear hX
  have hFY := hY.lo.on bz
  clear hY
  go_enter Try.func11, Try.ntmps11
  obtain ⟨kX_0, kX_1, kX_2, kX_3, kX_4, kX_5⟩ := Mbx.cells DX
  obtain ⟨kY_0, kY_1, kY_2, kY_3, kY_4, kY_5⟩ := Mbx.cells DY
  go_wp2_with fail
  with_reducible refine (pbX _).mono ?_
  rintro e w1 ⟨rfl, hb⟩
  clear kX_0 kX_1 kX_2 kX_3 kX_4 kX_5 kY_0 kY_1 kY_2 kY_3 kY_4 kY_5
  replace DX := DX.on hb
  replace DY := DY.on hb
  replace hFX := hFX.on hb
  replace hFY := hFY.on hb
  replace bz := bz.trans (hb.mono bz.size)
  clear hb
  obtain ⟨kX_0, kX_1, kX_2, kX_3, kX_4, kX_5⟩ := Mbx.cells DX
  obtain ⟨kY_0, kY_1, kY_2, kY_3, kY_4, kY_5⟩ := Mbx.cells DY
  go_wp2_with fail
  with_reducible refine (pbY _).mono ?_
  rintro e w2 ⟨rfl, hb⟩
  clear kX_0 kX_1 kX_2 kX_3 kX_4 kX_5 kY_0 kY_1 kY_2 kY_3 kY_4 kY_5
  replace DX := DX.on hb
  replace DY := DY.on hb
  replace hFX := hFX.on hb
  replace hFY := hFY.on hb
  replace bz := bz.trans (hb.mono bz.size)
  clear hb
  obtain ⟨kX_0, kX_1, kX_2, kX_3, kX_4, kX_5⟩ := Mbx.cells DX
  obtain ⟨kY_0, kY_1, kY_2, kY_3, kY_4, kY_5⟩ := Mbx.cells DY
  have hszw : w.heap.size + 2 ≤ w2.heap.size := by have := DY.lt; omega
  go_wp2_with fail
  with_reducible refine (of_any turned hFY.fl HSY.out.1 HSY.out.2).mono ?_
  rintro e w3 ⟨VY, sVY, gVY, capVY, cVY, lVY, rfl, hVY, hb⟩
  clear kX_0 kX_1 kX_2 kX_3 kX_4 kX_5 kY_0 kY_1 kY_2 kY_3 kY_4 kY_5
  replace DX := DX.on hb
  replace DY := DY.on hb
  replace hFX := hFX.on hb
  replace hFY := hFY.on hb
  replace bz := bz.trans (hb.mono bz.size)
  clear hb
  have hgy : w.heap.size + 2 ≤ gVY ∧ w.heap.size + 2 ≤ sVY := by have h1 := hVY.st.lo; have h2 := hVY.st.gt.1; omega
  have hlt := And.intro hVY.st.lt hVY.st.gt.2
  have DVY := Blk.new w3 (VY).L 30
  obtain ⟨HDVY, eHDVY⟩ : ∃ H, w3.heap.size = H := ⟨_, rfl⟩
  rw [eHDVY] at DVY
  replace DX := DX.on ((Below.refl _ _).alloc (Nat.le_refl _) (.cells (VY).L.toArray 30))
  replace DY := DY.on ((Below.refl _ _).alloc (Nat.le_refl _) (.cells (VY).L.toArray 30))
  replace hFX := hFX.on ((Below.refl _ _).alloc (Nat.le_refl _) (.cells (VY).L.toArray 30))
  replace hFY := hFY.on ((Below.refl _ _).alloc (Nat.le_refl _) (.cells (VY).L.toArray 30))
  replace hVY := hVY.on ((Below.refl _ _).alloc (Nat.le_refl _) (.cells (VY).L.toArray 30))
  replace bz := bz.alloc bz.size (.cells (VY).L.toArray 30)
  have HHDVY := Lib.hid eHDVY
  rw [eHDVY] at hlt
  clear hszw
  go_wp2_with fail
  replace DX := DX.drew
  replace DY := DY.drew
  replace hFX := hFX.drew
  replace hFY := hFY.drew
  replace hVY := hVY.drew
  replace DVY := DVY.drew
  replace bz := bz.drew
  refine wp_region_held_drew (S := fun w9 : World => Mbx w9 w.heap.size RX CX AX nX cX ∧ Mbx w9 (w.heap.size + 1) RY CY AY nY cY ∧ Vbx w9 HDVY VY) (by kernel_rfl) ⟨DX, DY, DVY⟩ (fun hS => ?_)
  generalize (w3.alloc (.cells (VY).L.toArray 30)).drew = wd4 at hS DX DY hFX hFY hVY DVY  bz ⊢
  refine wpAnyH_take (i := 0) (v := ?v0_61) rfl (by kernel_rfl) (by kernel_rfl) (by kernel_rfl) (fun _ _ _ h => h) (Or.inl ⟨by rfl, ?hy0_61⟩) (by assumption) ?rest0_61
  case hy0_61 => (intro w9 hSw; clear hSw; go_simp; try with_reducible rfl)
  try simp only [Act.put, List.setIfInBounds_toArray, List.set_cons_zero, List.set_cons_succ, List.getElem_toArray, List.getElem_cons_zero, List.getElem_cons_succ]
  refine wpAnyH_take (i := 1) (v := ?v1_62) rfl (by kernel_rfl) (by kernel_rfl) (by kernel_rfl) (fun _ _ _ h => h) (Or.inl ⟨by rfl, ?hy1_62⟩) (by assumption) ?rest1_62
  case hy1_62 => (intro w9 hSw; clear hSw; go_simp; try with_reducible rfl)
  try simp only [Act.put, List.setIfInBounds_toArray, List.set_cons_zero, List.set_cons_succ, List.getElem_toArray, List.getElem_cons_zero, List.getElem_cons_succ]
  refine wpAnyH_take (i := 2) (v := ?v2_63) rfl (by kernel_rfl) (by kernel_rfl) (by kernel_rfl) (fun _ _ _ h => h) (Or.inl ⟨by rfl, ?hy2_63⟩) (by assumption) ?rest2_63
  case hy2_63 => (intro w9 hSw; obtain ⟨m0, m1, m2⟩ := hSw; obtain ⟨q0_0, q0_1, q0_2, q0_3, q0_4, q0_5⟩ := Mbx.cells m0; obtain ⟨q1_0, q1_1, q1_2, q1_3, q1_4, q1_5⟩ := Mbx.cells m1; go_simp; try with_reducible rfl)
  try simp only [Act.put, List.setIfInBounds_toArray, List.set_cons_zero, List.set_cons_succ, List.getElem_toArray, List.getElem_cons_zero, List.getElem_cons_succ]
  refine wpAnyH_take (i := 3) (v := ?v3_64) rfl (by kernel_rfl) (by kernel_rfl) (by kernel_rfl) (fun _ _ _ h => h) (Or.inl ⟨by rfl, ?hy3_64⟩) (by assumption) ?rest3_64
  case hy3_64 => (intro w9 hSw; clear hSw; go_simp; try with_reducible rfl)
  try simp only [Act.put, List.setIfInBounds_toArray, List.set_cons_zero, List.set_cons_succ, List.getElem_toArray, List.getElem_cons_zero, List.getElem_cons_succ]
  refine wpAnyH_take (i := 4) (v := ?v4_65) rfl (by kernel_rfl) (by kernel_rfl) (by kernel_rfl) (fun _ _ _ h => h) (Or.inl ⟨by rfl, ?hy4_65⟩) (by assumption) ?rest4_65
  case hy4_65 => (intro w9 hSw; clear hSw; go_simp; try with_reducible rfl)
  try simp only [Act.put, List.setIfInBounds_toArray, List.set_cons_zero, List.set_cons_succ, List.getElem_toArray, List.getElem_cons_zero, List.getElem_cons_succ]
  refine wpAnyH_take (i := 6) (v := ?v6_66) rfl (by kernel_rfl) (by kernel_rfl) (by kernel_rfl) (fun _ _ _ h => h) (Or.inl ⟨by rfl, ?hy6_66⟩) (by assumption) ?rest6_66
  case hy6_66 => (intro w9 hSw; obtain ⟨m0, m1, m2⟩ := hSw; refine (ld_v (by rfl) (by kernel_rfl) m2).trans ?_; with_reducible rfl)
  try simp only [Act.put, List.setIfInBounds_toArray, List.set_cons_zero, List.set_cons_succ, List.getElem_toArray, List.getElem_cons_zero, List.getElem_cons_succ]
  refine wpAnyH_ready (rs := [5]) (by kernel_rfl) (by simp) ?_
  refine AllReadyH.cons rfl (fun K hK => ?_) AllReadyH.nil
  go_simp
  with_reducible refine (of_any (!turned) hFX.fl HSX.out.1 HSX.out.2).mono ?_
  rintro e w4 ⟨VX, sVX, gVX, capVX, cVX, lVX, rfl, hVX, hb⟩
  replace DX := DX.on hb
  replace DY := DY.on hb
  replace hFX := hFX.on hb
  replace hFY := hFY.on hb
  replace hVY := hVY.on hb
  replace DVY := DVY.on hb
  replace bz := bz.trans (hb.mono bz.size)
  clear hb
  refine hK.out _ _ ⟨DX, DY, DVY⟩ (fun hH => ?_)
  clear hK K hS
  have hS := hH
  clear hH
  try simp only [Act.put, List.setIfInBounds_toArray, List.set_cons_zero, List.set_cons_succ, List.getElem_toArray, List.getElem_cons_zero, List.getElem_cons_succ]
  refine wpAnyH_ready (rs := [7]) (by kernel_rfl) (by simp) ?_
  refine AllReadyH.cons rfl (fun K hK => ?_) AllReadyH.nil
  go_simp
  with_reducible refine (trmm_yes hVX hVY HM.out HQ.out EY.out HFT.out).mono ?_
  rintro e w66 ⟨ly, G, rfl, hVY2, hI, hg⟩
  replace DX := DX.grown hg (by simp; omega)
  replace hFX := hFX.grown hg (by omega)
  replace DY := DY.grown hg (by simp; omega)
  replace hFY := hFY.grown hg (by omega)
  replace DVY := DVY.grown hg (by simp; omega)
  replace hVY := hVY2
  replace bz := bz.grown hg bz.size (fun k e => by cases e; omega)
  have HI := Lib.hid hI
  clear hVY2 hg hI
  clear hVX
  refine hK.out _ _ ⟨DX, DY, DVY⟩ (fun hH => ?_)
  clear hK K hS
  have hS := hH
  clear hH
  try simp only [Act.put, List.setIfInBounds_toArray, List.set_cons_zero, List.set_cons_succ, List.getElem_toArray, List.getElem_cons_zero, List.getElem_cons_succ]
  refine wpAnyH_take (i := 8) (v := ?v8_67) rfl (by kernel_rfl) (by kernel_rfl) (by kernel_rfl) (fun _ _ _ h => h) (Or.inl ⟨by rfl, ?hy8_67⟩) (by assumption) ?rest8_67
  case hy8_67 => (intro w9 hSw; clear hSw; go_simp; try with_reducible rfl)
  try simp only [Act.put, List.setIfInBounds_toArray, List.set_cons_zero, List.set_cons_succ, List.getElem_toArray, List.getElem_cons_zero, List.getElem_cons_succ]
  refine wpAnyH_done (by kernel_rfl) ?_ _
  have f0 := F0.out
  have f1 := F1.out
  have p9 := rSquare_any RX CX AX nX cX
  rw [f0] at p9
  obtain ⟨kX_0, kX_1, kX_2, kX_3, kX_4, kX_5⟩ := Mbx.cells DX
  obtain ⟨kY_0, kY_1, kY_2, kY_3, kY_4, kY_5⟩ := Mbx.cells DY
  go_wp2_with fail
  with_reducible refine (p9 _).mono ?_
  rintro e w5 ⟨rfl, hb⟩
  clear kX_0 kX_1 kX_2 kX_3 kX_4 kX_5 kY_0 kY_1 kY_2 kY_3 kY_4 kY_5
  replace DX := DX.on hb
  replace DY := DY.on hb
  replace hFX := hFX.on hb
  replace hFY := hFY.on hb
  replace hVY := hVY.on hb
  replace DVY := DVY.on hb
  replace bz := bz.trans (hb.mono bz.size)
  clear hb p9
  obtain ⟨kX_0, kX_1, kX_2, kX_3, kX_4, kX_5⟩ := Mbx.cells DX
  obtain ⟨kY_0, kY_1, kY_2, kY_3, kY_4, kY_5⟩ := Mbx.cells DY
  go_wp2_with fail
  clear kX_0 kX_1 kX_2 kX_3 kX_4 kX_5 kY_0 kY_1 kY_2 kY_3 kY_4 kY_5
  clear f0 f1
  replace DX := DX.drew
  replace DY := DY.drew
  replace hFX := hFX.drew
  replace hFY := hFY.drew
  replace hVY := hVY.drew
  replace DVY := DVY.drew
  replace bz := bz.drew
  refine wp_region_held_drew (S := fun w9 : World => Mbx w9 w.heap.size RX CX AX nX cX ∧ Mbx w9 (w.heap.size + 1) RY CY AY nY cY ∧ Vbx w9 HDVY VY) (by kernel_rfl) ⟨DX, DY, DVY⟩ (fun hS => ?_)
  generalize w5.drew = wd7 at hS DX DY hFX hFY hVY DVY  bz ⊢
  refine wpAnyH_take (i := 0) (v := ?v0_68) rfl (by kernel_rfl) (by kernel_rfl) (by kernel_rfl) (fun _ _ _ h => h) (Or.inl ⟨by rfl, ?hy0_68⟩) (by assumption) ?rest0_68
  case hy0_68 => (intro w9 hSw; clear hSw; go_simp; try with_reducible rfl)
  try simp only [Act.put, List.setIfInBounds_toArray, List.set_cons_zero, List.set_cons_succ, List.getElem_toArray, List.getElem_cons_zero, List.getElem_cons_succ]
  refine wpAnyH_ready (rs := [1]) (by kernel_rfl) (by simp) ?_
  refine AllReadyH.cons rfl (fun K hK => ?_) AllReadyH.nil
  go_simp
  with_reducible refine (num_any _ _).mono ?_
  rintro e v6 ⟨rfl, rfl⟩
  refine hK.out _ _ ⟨DX, DY, DVY⟩ (fun hH => ?_)
  clear hK K hS
  have hS := hH
  clear hH
  try simp only [Act.put, List.setIfInBounds_toArray, List.set_cons_zero, List.set_cons_succ, List.getElem_toArray, List.getElem_cons_zero, List.getElem_cons_succ]
  refine wpAnyH_take (i := 2) (v := ?v2_69) rfl (by kernel_rfl) (by kernel_rfl) (by kernel_rfl) (fun _ _ _ h => h) (Or.inl ⟨by rfl, ?hy2_69⟩) (by assumption) ?rest2_69
  case hy2_69 => (intro w9 hSw; clear hSw; go_simp; try with_reducible rfl)
  try simp only [Act.put, List.setIfInBounds_toArray, List.set_cons_zero, List.set_cons_succ, List.getElem_toArray, List.getElem_cons_zero, List.getElem_cons_succ]
  refine wpAnyH_take (i := 3) (v := ?v3_70) rfl (by kernel_rfl) (by kernel_rfl) (by kernel_rfl) (fun _ _ _ h => h) (Or.inl ⟨by rfl, ?hy3_70⟩) (by assumption) ?rest3_70
  case hy3_70 => (intro w9 hSw; clear hSw; go_simp; try with_reducible rfl)
  try simp only [Act.put, List.setIfInBounds_toArray, List.set_cons_zero, List.set_cons_succ, List.getElem_toArray, List.getElem_cons_zero, List.getElem_cons_succ]
  refine wpAnyH_take (i := 4) (v := ?v4_71) rfl (by kernel_rfl) (by kernel_rfl) (by kernel_rfl) (fun _ _ _ h => h) (Or.inl ⟨by rfl, ?hy4_71⟩) (by assumption) ?rest4_71
  case hy4_71 => (intro w9 hSw; obtain ⟨m0, m1, m2⟩ := hSw; refine (ld_v (by rfl) (by kernel_rfl) m2).trans ?_; with_reducible rfl)
  try simp only [Act.put, List.setIfInBounds_toArray, List.set_cons_zero, List.set_cons_succ, List.getElem_toArray, List.getElem_cons_zero, List.getElem_cons_succ]
  refine wpAnyH_take (i := 5) (v := ?v5_72) rfl (by kernel_rfl) (by kernel_rfl) (by kernel_rfl) (fun _ _ _ h => h) (Or.inl ⟨by rfl, ?hy5_72⟩) (by assumption) ?rest5_72
  case hy5_72 => (intro w9 hSw; clear hSw; go_simp; try with_reducible rfl)
  try simp only [Act.put, List.setIfInBounds_toArray, List.set_cons_zero, List.set_cons_succ, List.getElem_toArray, List.getElem_cons_zero, List.getElem_cons_succ]
  refine wpAnyH_take (i := 6) (v := ?v6_73) rfl (by kernel_rfl) (by kernel_rfl) (by kernel_rfl) (fun _ _ _ h => h) (Or.inl ⟨by rfl, ?hy6_73⟩) (by assumption) ?rest6_73
  case hy6_73 => (intro w9 hSw; clear hSw; go_simp; try with_reducible rfl)
  try simp only [Act.put, List.setIfInBounds_toArray, List.set_cons_zero, List.set_cons_succ, List.getElem_toArray, List.getElem_cons_zero, List.getElem_cons_succ]
  refine wpAnyH_take (i := 7) (v := ?v7_74) rfl (by kernel_rfl) (by kernel_rfl) (by kernel_rfl) (fun _ _ _ h => h) (Or.inl ⟨by rfl, ?hy7_74⟩) (by assumption) ?rest7_74
  case hy7_74 => (intro w9 hSw; obtain ⟨m0, m1, m2⟩ := hSw; obtain ⟨q0_0, q0_1, q0_2, q0_3, q0_4, q0_5⟩ := Mbx.cells m0; obtain ⟨q1_0, q1_1, q1_2, q1_3, q1_4, q1_5⟩ := Mbx.cells m1; go_simp; try with_reducible rfl)
  try simp only [Act.put, List.setIfInBounds_toArray, List.set_cons_zero, List.set_cons_succ, List.getElem_toArray, List.getElem_cons_zero, List.getElem_cons_succ]
  refine wpAnyH_take (i := 8) (v := ?v8_75) rfl (by kernel_rfl) (by kernel_rfl) (by kernel_rfl) (fun _ _ _ h => h) (Or.inl ⟨by rfl, ?hy8_75⟩) (by assumption) ?rest8_75
  case hy8_75 => (intro w9 hSw; obtain ⟨m0, m1, m2⟩ := hSw; obtain ⟨q0_0, q0_1, q0_2, q0_3, q0_4, q0_5⟩ := Mbx.cells m0; obtain ⟨q1_0, q1_1, q1_2, q1_3, q1_4, q1_5⟩ := Mbx.cells m1; go_simp; try with_reducible rfl)
  try simp only [Act.put, List.setIfInBounds_toArray, List.set_cons_zero, List.set_cons_succ, List.getElem_toArray, List.getElem_cons_zero, List.getElem_cons_succ]
  refine wpAnyH_ready (rs := [9]) (by kernel_rfl) (by simp) ?_
  refine AllReadyH.cons rfl (fun K hK => ?_) AllReadyH.nil
  go_simp
  have pr := rTrmm_any (up := up) (unit := unit) (m := m) (q := q) (lt := LX) (l := LY) hFY.fl HNY.out hm5.1 hm5.2 hFX.fl HNX.out
  rw [show mV (m : Int) (m : Int) AX nX cX = mV RX CX AX nX cX by rw [HRX.out, HCX.out], show mV (m : Int) (q : Int) AY nY cY = mV RY CY AY nY cY by rw [HM.out, HQ.out]] at pr
  with_reducible refine (pr).mono ?_
  rintro e w7 ⟨A8, c8, L8, rfl, hI8, ho8, hb⟩
  replace DX := DX.on hb
  replace DY := DY.on hb
  replace hFX := hFX.on hb
  replace hFY := hFY.on hb
  replace hVY := hVY.on hb
  replace DVY := DVY.on hb
  replace bz := bz.trans (hb.mono bz.size)
  clear hb
  clear pr
  rw [show mV (m : Int) (q : Int) A8 nY c8 = mV RY CY A8 nY c8 by rw [HM.out, HQ.out]]
  have hF8 := hI8.fl ho8
  have HI8 := Lib.hid hI8
  clear ho8 hI8
  refine hK.out _ _ ⟨DX, DY, DVY⟩ (fun hH => ?_)
  clear hK K hS
  have hS := hH
  clear hH
  try simp only [Act.put, List.setIfInBounds_toArray, List.set_cons_zero, List.set_cons_succ, List.getElem_toArray, List.getElem_cons_zero, List.getElem_cons_succ]
  refine wpAnyH_ready (rs := [10]) (by kernel_rfl) (by simp) ?_
  refine AllReadyH.cons rfl (fun K hK => ?_) AllReadyH.nil
  go_simp
  with_reducible refine (shows_true hVY.sv hF8 hVY.R hVY.C (Is.same HI.out HI8.out)).mono ?_
  rintro e w8 ⟨rfl, hb⟩
  replace DX := DX.on hb
  replace DY := DY.on hb
  replace hFX := hFX.on hb
  replace hFY := hFY.on hb
  replace hVY := hVY.on hb
  replace DVY := DVY.on hb
  replace hF8 := hF8.on hb
  replace bz := bz.trans (hb.mono bz.size)
  clear hb
  refine hK.out _ _ ⟨DX, DY, DVY⟩ (fun hH => ?_)
  clear hK K hS
  have hS := hH
  clear hH
  try simp only [Act.put, List.setIfInBounds_toArray, List.set_cons_zero, List.set_cons_succ, List.getElem_toArray, List.getElem_cons_zero, List.getElem_cons_succ]
  refine wpAnyH_take (i := 11) (v := ?v11_76) rfl (by kernel_rfl) (by kernel_rfl) (by kernel_rfl) (fun _ _ _ h => h) (Or.inl ⟨by rfl, ?hy11_76⟩) (by assumption) ?rest11_76
  case hy11_76 => (intro w9 hSw; clear hSw; go_simp; try with_reducible rfl)
  try simp only [Act.put, List.setIfInBounds_toArray, List.set_cons_zero, List.set_cons_succ, List.getElem_toArray, List.getElem_cons_zero, List.getElem_cons_succ]
  refine wpAnyH_take (i := 12) (v := ?v12_77) rfl (by kernel_rfl) (by kernel_rfl) (by kernel_rfl) (fun _ _ _ h => h) (Or.inl ⟨by rfl, ?hy12_77⟩) (by assumption) ?rest12_77
  case hy12_77 => (intro w9 hSw; clear hSw; go_simp; try with_reducible rfl)
  try simp only [Act.put, List.setIfInBounds_toArray, List.set_cons_zero, List.set_cons_succ, List.getElem_toArray, List.getElem_cons_zero, List.getElem_cons_succ]
  refine wpAnyH_ready (rs := [13]) (by kernel_rfl) (by simp) ?_
  refine AllReadyH.cons rfl (fun K hK => ?_) AllReadyH.nil
  go_simp
  with_reducible refine (known_any _).mono ?_
  rintro e w9 ⟨rfl, hb⟩
  replace DX := DX.on hb
  replace DY := DY.on hb
  replace hFX := hFX.on hb
  replace hFY := hFY.on hb
  replace hVY := hVY.on hb
  replace DVY := DVY.on hb
  replace hF8 := hF8.on hb
  replace bz := bz.trans (hb.mono bz.size)
  clear hb
  refine hK.out _ _ ⟨DX, DY, DVY⟩ (fun hH => ?_)
  clear hK K hS
  have hS := hH
  clear hH
  try simp only [Act.put, List.setIfInBounds_toArray, List.set_cons_zero, List.set_cons_succ, List.getElem_toArray, List.getElem_cons_zero, List.getElem_cons_succ]
  refine wpAnyH_take (i := 14) (v := ?v14_78) rfl (by kernel_rfl) (by kernel_rfl) (by kernel_rfl) (fun _ _ _ h => h) (Or.inl ⟨by rfl, ?hy14_78⟩) (by assumption) ?rest14_78
  case hy14_78 => (intro w9 hSw; clear hSw; go_simp; try with_reducible rfl)
  try simp only [Act.put, List.setIfInBounds_toArray, List.set_cons_zero, List.set_cons_succ, List.getElem_toArray, List.getElem_cons_zero, List.getElem_cons_succ]
  refine wpAnyH_take (i := 15) (v := ?v15_79) rfl (by kernel_rfl) (by kernel_rfl) (by kernel_rfl) (fun _ _ _ h => h) (Or.inl ⟨by rfl, ?hy15_79⟩) (by assumption) ?rest15_79
  case hy15_79 => (intro w9 hSw; clear hSw; go_simp; try with_reducible rfl)
  try simp only [Act.put, List.setIfInBounds_toArray, List.set_cons_zero, List.set_cons_succ, List.getElem_toArray, List.getElem_cons_zero, List.getElem_cons_succ]
  refine wpAnyH_done (by kernel_rfl) ?_ _
  go_wp2_with fail
  go_ret
  exact ⟨rfl, bz⟩
theorem KernelsTrmm_law {w : World} {RX CX : Int} {AX : Option Addr} {nX cX : Nat} {LX : List Int} {RY CY : Int} {AY : Option Addr} {nY cY : Nat} {LY : List Int} {up unit turned : Bool} (hX : FL w AX nX cX LX) (hY : FL w AY nY cY LY) : Calls Try.prog 11 #[.bool up, .bool unit, mV RX CX AX nX cX, mV RY CY AY nY cY, .bool turned] w (Ans w (.bool true)) := by
  cases bX : bigM RX CX nX
  · cases bY : bigM RY CY nY
    · cases hf : ((RX == CX) && !(RX != RY))
      · exact KernelsTrmm_no hX hY bX bY hf
      · exact KernelsTrmm_yes hX hY bX bY hf
    · exact KernelsTrmm_big2 hX hY bX bY
  · exact KernelsTrmm_big1 hX hY bX
end Go.Proofs.Ytfelmkkkaphkpaa
