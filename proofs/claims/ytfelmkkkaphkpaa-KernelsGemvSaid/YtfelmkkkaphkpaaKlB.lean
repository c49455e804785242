/-
  Layer 8: the law KernelsGemv. (Written by wip/tools/gen_klb.py.)
-/
import Derived.Test.YtfelmkkkaphkpaaKlA
import Derived.Test.YtfelmkkkaphkpaaKnJA
import Derived.Test.YtfelmkkkaphkpaaKnT
namespace Go.Proofs.Ytfelmkkkaphkpaa
open Go.RowKit Go.Bw Go.Sort Go.Shelf
set_option linter.unusedVariables false
set_option linter.unusedSimpArgs false

section
variable {w : World} {B B2 B3 : Nat} {U X Y : Vu} {s g cap c s2 g2 cap2 c2 s3 g3 cap3 c3 a b : Nat} {l l2 l3 : List Int} {RU CU RX CX RY CY : Int} {LU LX LY : List Int}
theorem gemv_fit (hU : Ov w B U s g cap c l RU CU LU) (hX : Ov w B2 X s2 g2 cap2 c2 l2 RX CX LX) (hY : Ov w B3 Y s3 g3 cap3 c3 l3 RY CY LY) {nx ny : Nat} (ex : LX.length = nx) (ey : LY.length = ny) {t1 t2 t3 t4 : Bool} (h1 : vecM RX CX = t1) (h2 : vecM RY CY = t2) (h3 : (CU != (nx : Int)) = t3) (h4 : (RU != (ny : Int)) = t4) :
    (X.vec && Y.vec && szd U Y.len X.len) = (t1 && t2 && !t3 && !t4) := by
  rw [hX.isvec, hY.isvec, h1, h2]
  cases t1
  · rfl
  · cases t2
    · rfl
    · rw [hY.lenv h2, hX.lenv h1, ex, ey]
      unfold szd
      rw [hU.R, hU.C, ← h3, ← h4]
      simp only [bne, Bool.not_not, Bool.true_and]
      exact Bool.and_comm _ _
theorem gemv_no (hU : Ov w B U s g cap c l RU CU LU) (hX : Ov w B2 X s2 g2 cap2 c2 l2 RX CX LX) (hY : Ov w B3 Y s3 g3 cap3 c3 l3 RY CY LY) {nx ny : Nat} (ex : LX.length = nx) (ey : LY.length = ny) (hf : (vecM RX CX && vecM RY CY && !(CU != (nx : Int)) && !(RU != (ny : Int))) = false) :
    Calls Try.prog 34 #[.float .f64 a, U.V, X.V, .float .f64 b, Y.V] w (Ans w (.int .i64 8)) :=
  Gemv_no hU.sv hX.sv hY.sv (refE_8 (by rw [gemv_fit hU hX hY ex ey rfl rfl rfl rfl]; exact hf) (mem3 hU.ne hX.ne hY.ne)) (by omega)
theorem gemv_yes (ba : a ≤ 18446744073709551615) (bb : b ≤ 18446744073709551615) (hU : Ov w B U s g cap c l RU CU LU) (hX : Ov w B2 X s2 g2 cap2 c2 l2 RX CX LX) (hY : Ov w B3 Y s3 g3 cap3 c3 l3 RY CY LY) {m q p : Nat} (hm : RU = m) (hq : CU = q) (hp : CY = p) {nx ny : Nat} (ex : LX.length = nx) (ey : LY.length = ny) (hf : (vecM RX CX && vecM RY CY && !(CU != (nx : Int)) && !(RU != (ny : Int))) = true) (hvy : vecM RY CY = true) :
    Calls Try.prog 34 #[.float .f64 a, U.V, X.V, .float .f64 b, Y.V] w (OvK w B3 Y s3 g3 cap3 c3 RY CY ny (fun k => bothA (af b) (fa (D LY k)) (af a) (sumA (fun t => aop .mul (ma LU q k t) (fa (D LX t))) q))) := by
  refine (Gemv_yes (m := m) (q := q) ba bb hU.sv hX.sv hY.sv (refE_ok (by rw [gemv_fit hU hX hY ex ey rfl rfl rfl rfl]; exact hf) (mem3 hU.ne hX.ne hY.ne)) hY.vk hY.st rfl hY.inj (hU.R.trans hm) (hU.C.trans hq)).mono ?_
  intro e w1 h
  refine ovk hY h hp ey (fun k hk => ?_)
  unfold tg
  rw [if_pos rfl]
  dsimp only
  rw [vix_dm hY hvy hp (by rw [ey]; exact hk)]
end
set_option maxRecDepth 100000 in
set_option maxHeartbeats 8000000 in
theorem KernelsGemv_big1 {w : World} {RU CU : Int} {AU : Option Addr} {nU cU : Nat} {LU : List Int} {RX CX : Int} {AX : Option Addr} {nX cX : Nat} {LX : List Int} {RY CY : Int} {AY : Option Addr} {nY cY : Nat} {LY : List Int} {a b : Nat} {turned : Bool} (ba : a ≤ 18446744073709551615) (bb : b ≤ 18446744073709551615) (hU : FL w AU nU cU LU) (hX : FL w AX nX cX LX) (hY : FL w AY nY cY LY) (b0 : bigM RU CU nU = true) : Calls Try.prog 5 #[.float .f64 a, mV RU CU AU nU cU, mV RX CX AX nX cX, .float .f64 b, mV RY CY AY nY cY, .bool turned] w (Ans w (.bool true)) := by
  have pbU := fun W => big_any RU CU AU nU cU hU.max W
  rw [b0] at pbU
  clear b0
  have DU := Blk.new w [.int .i64 RU, .int .i64 CU, .slice AU nU cU] 24
  have DX := Blk.new (w.alloc (.cells #[.int .i64 RU, .int .i64 CU, .slice AU nU cU] 24)) [.int .i64 RX, .int .i64 CX, .slice AX nX cX] 24
  replace DU := DU.alloc (.cells #[.int .i64 RX, .int .i64 CX, .slice AX nX cX] 24)
  simp only [World.size_alloc] at DX
  have DY := Blk.new ((w.alloc (.cells #[.int .i64 RU, .int .i64 CU, .slice AU nU cU] 24)).alloc (.cells #[.int .i64 RX, .int .i64 CX, .slice AX nX cX] 24)) [.int .i64 RY, .int .i64 CY, .slice AY nY cY] 24
  replace DU := DU.alloc (.cells #[.int .i64 RY, .int .i64 CY, .slice AY nY cY] 24)
  replace DX := DX.alloc (.cells #[.int .i64 RY, .int .i64 CY, .slice AY nY cY] 24)
  simp only [World.size_alloc] at DY
  have bz := (((Below.refl _ w).alloc (Nat.le_refl _) (.cells #[.int .i64 RU, .int .i64 CU, .slice AU nU cU] 24)).alloc (by simp <;> omega) (.cells #[.int .i64 RX, .int .i64 CX, .slice AX nX cX] 24)).alloc (by simp <;> omega) (.cells #[.int .i64 RY, .int .i64 CY, .slice AY nY cY] 24)
  have hsz0 : (((w.alloc (.cells #[.int .i64 RU, .int .i64 CU, .slice AU nU cU] 24)).alloc (.cells #[.int .i64 RX, .int .i64 CX, .slice AX nX cX] 24)).alloc (.cells #[.int .i64 RY, .int .i64 CY, .slice AY nY cY] 24)).heap.size = w.heap.size + 3 := by simp
  have hFU := hU.lo.on bz
  clear hU
  have hFX := hX.lo.on bz
  clear hX
  have hFY := hY.lo.on bz
  clear hY
  go_enter Try.func5, Try.ntmps5
  obtain ⟨kU_0, kU_1, kU_2, kU_3, kU_4, kU_5⟩ := Mbx.cells DU
  obtain ⟨kX_0, kX_1, kX_2, kX_3, kX_4, kX_5⟩ := Mbx.cells DX
  obtain ⟨kY_0, kY_1, kY_2, kY_3, kY_4, kY_5⟩ := Mbx.cells DY
  go_wp2_with fail
  with_reducible refine (pbU _).mono ?_
  rintro e w1 ⟨rfl, hb⟩
  clear kU_0 kU_1 kU_2 kU_3 kU_4 kU_5 kX_0 kX_1 kX_2 kX_3 kX_4 kX_5 kY_0 kY_1 kY_2 kY_3 kY_4 kY_5
  replace DU := DU.on hb
  replace DX := DX.on hb
  replace DY := DY.on hb
  replace hFU := hFU.on hb
  replace hFX := hFX.on hb
  replace hFY := hFY.on hb
  replace bz := bz.trans (hb.mono bz.size)
  clear hb
  go_wp2_with fail
  with_reducible refine (known_any _).mono ?_
  rintro e w2 ⟨rfl, hb⟩
  replace DU := DU.on hb
  replace DX := DX.on hb
  replace DY := DY.on hb
  replace hFU := hFU.on hb
  replace hFX := hFX.on hb
  replace hFY := hFY.on hb
  replace bz := bz.trans (hb.mono bz.size)
  clear hb
  go_wp2_with fail
  go_ret
  exact ⟨rfl, bz⟩
set_option maxRecDepth 100000 in
set_option maxHeartbeats 8000000 in
theorem KernelsGemv_big2 {w : World} {RU CU : Int} {AU : Option Addr} {nU cU : Nat} {LU : List Int} {RX CX : Int} {AX : Option Addr} {nX cX : Nat} {LX : List Int} {RY CY : Int} {AY : Option Addr} {nY cY : Nat} {LY : List Int} {a b : Nat} {turned : Bool} (ba : a ≤ 18446744073709551615) (bb : b ≤ 18446744073709551615) (hU : FL w AU nU cU LU) (hX : FL w AX nX cX LX) (hY : FL w AY nY cY LY) (b0 : bigM RU CU nU = false) (b1 : bigM RX CX nX = true) : Calls Try.prog 5 #[.float .f64 a, mV RU CU AU nU cU, mV RX CX AX nX cX, .float .f64 b, mV RY CY AY nY cY, .bool turned] w (Ans w (.bool true)) := by
  have pbU := fun W => big_any RU CU AU nU cU hU.max W
  rw [b0] at pbU
  clear b0
  have pbX := fun W => big_any RX CX AX nX cX hX.max W
  rw [b1] at pbX
  clear b1
  have DU := Blk.new w [.int .i64 RU, .int .i64 CU, .slice AU nU cU] 24
  have DX := Blk.new (w.alloc (.cells #[.int .i64 RU, .int .i64 CU, .slice AU nU cU] 24)) [.int .i64 RX, .int .i64 CX, .slice AX nX cX] 24
  replace DU := DU.alloc (.cells #[.int .i64 RX, .int .i64 CX, .slice AX nX cX] 24)
  simp only [World.size_alloc] at DX
  have DY := Blk.new ((w.alloc (.cells #[.int .i64 RU, .int .i64 CU, .slice AU nU cU] 24)).alloc (.cells #[.int .i64 RX, .int .i64 CX, .slice AX nX cX] 24)) [.int .i64 RY, .int .i64 CY, .slice AY nY cY] 24
  replace DU := DU.alloc (.cells #[.int .i64 RY, .int .i64 CY, .slice AY nY cY] 24)
  replace DX := DX.alloc (.cells #[.int .i64 RY, .int .i64 CY, .slice AY nY cY] 24)
  simp only [World.size_alloc] at DY
  have bz := (((Below.refl _ w).alloc (Nat.le_refl _) (.cells #[.int .i64 RU, .int .i64 CU, .slice AU nU cU] 24)).alloc (by simp <;> omega) (.cells #[.int .i64 RX, .int .i64 CX, .slice AX nX cX] 24)).alloc (by simp <;> omega) (.cells #[.int .i64 RY, .int .i64 CY, .slice AY nY cY] 24)
  have hsz0 : (((w.alloc (.cells #[.int .i64 RU, .int .i64 CU, .slice AU nU cU] 24)).alloc (.cells #[.int .i64 RX, .int .i64 CX, .slice AX nX cX] 24)).alloc (.cells #[.int .i64 RY, .int .i64 CY, .slice AY nY cY] 24)).heap.size = w.heap.size + 3 := by simp
  have hFU := hU.lo.on bz
  clear hU
  have hFX := hX.lo.on bz
  clear hX
  have hFY := hY.lo.on bz
  clear hY
  go_enter Try.func5, Try.ntmps5
  obtain ⟨kU_0, kU_1, kU_2, kU_3, kU_4, kU_5⟩ := Mbx.cells DU
  obtain ⟨kX_0, kX_1, kX_2, kX_3, kX_4, kX_5⟩ := Mbx.cells DX
  obtain ⟨kY_0, kY_1, kY_2, kY_3, kY_4, kY_5⟩ := Mbx.cells DY
  go_wp2_with fail
  with_reducible refine (pbU _).mono ?_
  rintro e w1 ⟨rfl, hb⟩
  clear kU_0 kU_1 kU_2 kU_3 kU_4 kU_5 kX_0 kX_1 kX_2 kX_3 kX_4 kX_5 kY_0 kY_1 kY_2 kY_3 kY_4 kY_5
  replace DU := DU.on hb
  replace DX := DX.on hb
  replace DY := DY.on hb
  replace hFU := hFU.on hb
  replace hFX := hFX.on hb
  replace hFY := hFY.on hb
  replace bz := bz.trans (hb.mono bz.size)
  clear hb
  obtain ⟨kU_0, kU_1, kU_2, kU_3, kU_4, kU_5⟩ := Mbx.cells DU
  obtain ⟨kX_0, kX_1, kX_2, kX_3, kX_4, kX_5⟩ := Mbx.cells DX
  obtain ⟨kY_0, kY_1, kY_2, kY_3, kY_4, kY_5⟩ := Mbx.cells DY
  go_wp2_with fail
  with_reducible refine (pbX _).mono ?_
  rintro e w2 ⟨rfl, hb⟩
  clear kU_0 kU_1 kU_2 kU_3 kU_4 kU_5 kX_0 kX_1 kX_2 kX_3 kX_4 kX_5 kY_0 kY_1 kY_2 kY_3 kY_4 kY_5
  replace DU := DU.on hb
  replace DX := DX.on hb
  replace DY := DY.on hb
  replace hFU := hFU.on hb
  replace hFX := hFX.on hb
  replace hFY := hFY.on hb
  replace bz := bz.trans (hb.mono bz.size)
  clear hb
  go_wp2_with fail
  with_reducible refine (known_any _).mono ?_
  rintro e w3 ⟨rfl, hb⟩
  replace DU := DU.on hb
  replace DX := DX.on hb
  replace DY := DY.on hb
  replace hFU := hFU.on hb
  replace hFX := hFX.on hb
  replace hFY := hFY.on hb
  replace bz := bz.trans (hb.mono bz.size)
  clear hb
  go_wp2_with fail
  go_ret
  exact ⟨rfl, bz⟩
set_option maxRecDepth 100000 in
set_option maxHeartbeats 8000000 in
theorem KernelsGemv_big3 {w : World} {RU CU : Int} {AU : Option Addr} {nU cU : Nat} {LU : List Int} {RX CX : Int} {AX : Option Addr} {nX cX : Nat} {LX : List Int} {RY CY : Int} {AY : Option Addr} {nY cY : Nat} {LY : List Int} {a b : Nat} {turned : Bool} (ba : a ≤ 18446744073709551615) (bb : b ≤ 18446744073709551615) (hU : FL w AU nU cU LU) (hX : FL w AX nX cX LX) (hY : FL w AY nY cY LY) (b0 : bigM RU CU nU = false) (b1 : bigM RX CX nX = false) (b2 : bigM RY CY nY = true) : Calls Try.prog 5 #[.float .f64 a, mV RU CU AU nU cU, mV RX CX AX nX cX, .float .f64 b, mV RY CY AY nY cY, .bool turned] w (Ans w (.bool true)) := by
  have pbU := fun W => big_any RU CU AU nU cU hU.max W
  rw [b0] at pbU
  clear b0
  have pbX := fun W => big_any RX CX AX nX cX hX.max W
  rw [b1] at pbX
  clear b1
  have pbY := fun W => big_any RY CY AY nY cY hY.max W
  rw [b2] at pbY
  clear b2
  have DU := Blk.new w [.int .i64 RU, .int .i64 CU, .slice AU nU cU] 24
  have DX := Blk.new (w.alloc (.cells #[.int .i64 RU, .int .i64 CU, .slice AU nU cU] 24)) [.int .i64 RX, .int .i64 CX, .slice AX nX cX] 24
  replace DU := DU.alloc (.cells #[.int .i64 RX, .int .i64 CX, .slice AX nX cX] 24)
  simp only [World.size_alloc] at DX
  have DY := Blk.new ((w.alloc (.cells #[.int .i64 RU, .int .i64 CU, .slice AU nU cU] 24)).alloc (.cells #[.int .i64 RX, .int .i64 CX, .slice AX nX cX] 24)) [.int .i64 RY, .int .i64 CY, .slice AY nY cY] 24
  replace DU := DU.alloc (.cells #[.int .i64 RY, .int .i64 CY, .slice AY nY cY] 24)
  replace DX := DX.alloc (.cells #[.int .i64 RY, .int .i64 CY, .slice AY nY cY] 24)
  simp only [World.size_alloc] at DY
  have bz := (((Below.refl _ w).alloc (Nat.le_refl _) (.cells #[.int .i64 RU, .int .i64 CU, .slice AU nU cU] 24)).alloc (by simp <;> omega) (.cells #[.int .i64 RX, .int .i64 CX, .slice AX nX cX] 24)).alloc (by simp <;> omega) (.cells #[.int .i64 RY, .int .i64 CY, .slice AY nY cY] 24)
  have hsz0 : (((w.alloc (.cells #[.int .i64 RU, .int .i64 CU, .slice AU nU cU] 24)).alloc (.cells #[.int .i64 RX, .int .i64 CX, .slice AX nX cX] 24)).alloc (.cells #[.int .i64 RY, .int .i64 CY, .slice AY nY cY] 24)).heap.size = w.heap.size + 3 := by simp
  have hFU := hU.lo.on bz
  clear hU
  have hFX := hX.lo.on bz
  clear hX
  have hFY := hY.lo.on bz
  clear hY
  go_enter Try.func5, Try.ntmps5
  obtain ⟨kU_0, kU_1, kU_2, kU_3, kU_4, kU_5⟩ := Mbx.cells DU
  obtain ⟨kX_0, kX_1, kX_2, kX_3, kX_4, kX_5⟩ := Mbx.cells DX
  obtain ⟨kY_0, kY_1, kY_2, kY_3, kY_4, kY_5⟩ := Mbx.cells DY
  go_wp2_with fail
  with_reducible refine (pbU _).mono ?_
  rintro e w1 ⟨rfl, hb⟩
  clear kU_0 kU_1 kU_2 kU_3 kU_4 kU_5 kX_0 kX_1 kX_2 kX_3 kX_4 kX_5 kY_0 kY_1 kY_2 kY_3 kY_4 kY_5
  replace DU := DU.on hb
  replace DX := DX.on hb
  replace DY := DY.on hb
  replace hFU := hFU.on hb
  replace hFX := hFX.on hb
  replace hFY := hFY.on hb
  replace bz := bz.trans (hb.mono bz.size)
  clear hb
  obtain ⟨kU_0, kU_1, kU_2, kU_3, kU_4, kU_5⟩ := Mbx.cells DU
  obtain ⟨kX_0, kX_1, kX_2, kX_3, kX_4, kX_5⟩ := Mbx.cells DX
  obtain ⟨kY_0, kY_1, kY_2, kY_3, kY_4, kY_5⟩ := Mbx.cells DY
  go_wp2_with fail
  with_reducible refine (pbX _).mono ?_
  rintro e w2 ⟨rfl, hb⟩
  clear kU_0 kU_1 kU_2 kU_3 kU_4 kU_5 kX_0 kX_1 kX_2 kX_3 kX_4 kX_5 kY_0 kY_1 kY_2 kY_3 kY_4 kY_5
  replace DU := DU.on hb
  replace DX := DX.on hb
  replace DY := DY.on hb
  replace hFU := hFU.on hb
  replace hFX := hFX.on hb
  replace hFY := hFY.on hb
  replace bz := bz.trans (hb.mono bz.size)
  clear hb
  obtain ⟨kU_0, kU_1, kU_2, kU_3, kU_4, kU_5⟩ := Mbx.cells DU
  obtain ⟨kX_0, kX_1, kX_2, kX_3, kX_4, kX_5⟩ := Mbx.cells DX
  obtain ⟨kY_0, kY_1, kY_2, kY_3, kY_4, kY_5⟩ := Mbx.cells DY
  go_wp2_with fail
  with_reducible refine (pbY _).mono ?_
  rintro e w3 ⟨rfl, hb⟩
  clear kU_0 kU_1 kU_2 kU_3 kU_4 kU_5 kX_0 kX_1 kX_2 kX_3 kX_4 kX_5 kY_0 kY_1 kY_2 kY_3 kY_4 kY_5
  replace DU := DU.on hb
  replace DX := DX.on hb
  replace DY := DY.on hb
  replace hFU := hFU.on hb
  replace hFX := hFX.on hb
  replace hFY := hFY.on hb
  replace bz := bz.trans (hb.mono bz.size)
  clear hb
  go_wp2_with fail
  with_reducible refine (known_any _).mono ?_
  rintro e w4 ⟨rfl, hb⟩
  replace DU := DU.on hb
  replace DX := DX.on hb
  replace DY := DY.on hb
  replace hFU := hFU.on hb
  replace hFX := hFX.on hb
  replace hFY := hFY.on hb
  replace bz := bz.trans (hb.mono bz.size)
  clear hb
  go_wp2_with fail
  go_ret
  exact ⟨rfl, bz⟩
set_option maxRecDepth 100000 in
set_option maxHeartbeats 8000000 in
theorem KernelsGemv_no {w : World} {RU CU : Int} {AU : Option Addr} {nU cU : Nat} {LU : List Int} {RX CX : Int} {AX : Option Addr} {nX cX : Nat} {LX : List Int} {RY CY : Int} {AY : Option Addr} {nY cY : Nat} {LY : List Int} {a b : Nat} {turned : Bool} (ba : a ≤ 18446744073709551615) (bb : b ≤ 18446744073709551615) (hU : FL w AU nU cU LU) (hX : FL w AX nX cX LX) (hY : FL w AY nY cY LY) (b0 : bigM RU CU nU = false) (b1 : bigM RX CX nX = false) (b2 : bigM RY CY nY = false) (hf : (vecM RX CX && vecM RY CY && !(CU != (nX : Int)) && !(RU != (nY : Int))) = false) : Calls Try.prog 5 #[.float .f64 a, mV RU CU AU nU cU, mV RX CX AX nX cX, .float .f64 b, mV RY CY AY nY cY, .bool turned] w (Ans w (.bool true)) := by
  have pbU := fun W => big_any RU CU AU nU cU hU.max W
  rw [b0] at pbU
  obtain ⟨zU, eU, uU⟩ := big_is b0
  have HSU := Lib.hid (And.intro zU eU)
  clear b0 zU eU
  have pbX := fun W => big_any RX CX AX nX cX hX.max W
  rw [b1] at pbX
  obtain ⟨zX, eX, uX⟩ := big_is b1
  have HSX := Lib.hid (And.intro zX eX)
  clear b1 zX eX
  have pbY := fun W => big_any RY CY AY nY cY hY.max W
  rw [b2] at pbY
  obtain ⟨zY, eY, uY⟩ := big_is b2
  have HSY := Lib.hid (And.intro zY eY)
  clear b2 zY eY
  have EU := Lib.hid hU.1
  have mxU := hU.max
  have EX := Lib.hid hX.1
  have mxX := hX.max
  have EY := Lib.hid hY.1
  have mxY := hY.max
  have HFT := Lib.hid hf
  clear hf
  have DU := Blk.new w [.int .i64 RU, .int .i64 CU, .slice AU nU cU] 24
  have DX := Blk.new (w.alloc (.cells #[.int .i64 RU, .int .i64 CU, .slice AU nU cU] 24)) [.int .i64 RX, .int .i64 CX, .slice AX nX cX] 24
  replace DU := DU.alloc (.cells #[.int .i64 RX, .int .i64 CX, .slice AX nX cX] 24)
  simp only [World.size_alloc] at DX
  have DY := Blk.new ((w.alloc (.cells #[.int .i64 RU, .int .i64 CU, .slice AU nU cU] 24)).alloc (.cells #[.int .i64 RX, .int .i64 CX, .slice AX nX cX] 24)) [.int .i64 RY, .int .i64 CY, .slice AY nY cY] 24
  replace DU := DU.alloc (.cells #[.int .i64 RY, .int .i64 CY, .slice AY nY cY] 24)
  replace DX := DX.alloc (.cells #[.int .i64 RY, .int .i64 CY, .slice AY nY cY] 24)
  simp only [World.size_alloc] at DY
  have bz := (((Below.refl _ w).alloc (Nat.le_refl _) (.cells #[.int .i64 RU, .int .i64 CU, .slice AU nU cU] 24)).alloc (by simp <;> omega) (.cells #[.int .i64 RX, .int .i64 CX, .slice AX nX cX] 24)).alloc (by simp <;> omega) (.cells #[.int .i64 RY, .int .i64 CY, .slice AY nY cY] 24)
  have hsz0 : (((w.alloc (.cells #[.int .i64 RU, .int .i64 CU, .slice AU nU cU] 24)).alloc (.cells #[.int .i64 RX, .int .i64 CX, .slice AX nX cX] 24)).alloc (.cells #[.int .i64 RY, .int .i64 CY, .slice AY nY cY] 24)).heap.size = w.heap.size + 3 := by simp
  have hFU := hU.lo.on bz
  clear hU
  have hFX := hX.lo.on bz
  clear hX
  have hFY := hY.lo.on bz
  clear hY
  go_enter Try.func5, Try.ntmps5
  obtain ⟨kU_0, kU_1, kU_2, kU_3, kU_4, kU_5⟩ := Mbx.cells DU
  obtain ⟨kX_0, kX_1, kX_2, kX_3, kX_4, kX_5⟩ := Mbx.cells DX
  obtain ⟨kY_0, kY_1, kY_2, kY_3, kY_4, kY_5⟩ := Mbx.cells DY
  go_wp2_with fail
  with_reducible refine (pbU _).mono ?_
  rintro e w1 ⟨rfl, hb⟩
  clear kU_0 kU_1 kU_2 kU_3 kU_4 kU_5 kX_0 kX_1 kX_2 kX_3 kX_4 kX_5 kY_0 kY_1 kY_2 kY_3 kY_4 kY_5
  replace DU := DU.on hb
  replace DX := DX.on hb
  replace DY := DY.on hb
  replace hFU := hFU.on hb
  replace hFX := hFX.on hb
  replace hFY := hFY.on hb
  replace bz := bz.trans (hb.mono bz.size)
  clear hb
  obtain ⟨kU_0, kU_1, kU_2, kU_3, kU_4, kU_5⟩ := Mbx.cells DU
  obtain ⟨kX_0, kX_1, kX_2, kX_3, kX_4, kX_5⟩ := Mbx.cells DX
  obtain ⟨kY_0, kY_1, kY_2, kY_3, kY_4, kY_5⟩ := Mbx.cells DY
  go_wp2_with fail
  with_reducible refine (pbX _).mono ?_
  rintro e w2 ⟨rfl, hb⟩
  clear kU_0 kU_1 kU_2 kU_3 kU_4 kU_5 kX_0 kX_1 kX_2 kX_3 kX_4 kX_5 kY_0 kY_1 kY_2 kY_3 kY_4 kY_5
  replace DU := DU.on hb
  replace DX := DX.on hb
  replace DY := DY.on hb
  replace hFU := hFU.on hb
  replace hFX := hFX.on hb
  replace hFY := hFY.on hb
  replace bz := bz.trans (hb.mono bz.size)
  clear hb
  obtain ⟨kU_0, kU_1, kU_2, kU_3, kU_4, kU_5⟩ := Mbx.cells DU
  obtain ⟨kX_0, kX_1, kX_2, kX_3, kX_4, kX_5⟩ := Mbx.cells DX
  obtain ⟨kY_0, kY_1, kY_2, kY_3, kY_4, kY_5⟩ := Mbx.cells DY
  go_wp2_with fail
  with_reducible refine (pbY _).mono ?_
  rintro e w3 ⟨rfl, hb⟩
  clear kU_0 kU_1 kU_2 kU_3 kU_4 kU_5 kX_0 kX_1 kX_2 kX_3 kX_4 kX_5 kY_0 kY_1 kY_2 kY_3 kY_4 kY_5
  replace DU := DU.on hb
  replace DX := DX.on hb
  replace DY := DY.on hb
  replace hFU := hFU.on hb
  replace hFX := hFX.on hb
  replace hFY := hFY.on hb
  replace bz := bz.trans (hb.mono bz.size)
  clear hb
  obtain ⟨kU_0, kU_1, kU_2, kU_3, kU_4, kU_5⟩ := Mbx.cells DU
  obtain ⟨kX_0, kX_1, kX_2, kX_3, kX_4, kX_5⟩ := Mbx.cells DX
  obtain ⟨kY_0, kY_1, kY_2, kY_3, kY_4, kY_5⟩ := Mbx.cells DY
  have hszw : w.heap.size + 3 ≤ w3.heap.size := by have := DY.lt; omega
  go_wp2_with fail
  with_reducible refine (of_any turned hFY.fl HSY.out.1 HSY.out.2).mono ?_
  rintro e w4 ⟨VY, sVY, gVY, capVY, cVY, lVY, rfl, hVY, hb⟩
  clear kU_0 kU_1 kU_2 kU_3 kU_4 kU_5 kX_0 kX_1 kX_2 kX_3 kX_4 kX_5 kY_0 kY_1 kY_2 kY_3 kY_4 kY_5
  replace DU := DU.on hb
  replace DX := DX.on hb
  replace DY := DY.on hb
  replace hFU := hFU.on hb
  replace hFX := hFX.on hb
  replace hFY := hFY.on hb
  replace bz := bz.trans (hb.mono bz.size)
  clear hb
  have hgy : w.heap.size + 3 ≤ gVY ∧ w.heap.size + 3 ≤ sVY := by have h1 := hVY.st.lo; have h2 := hVY.st.gt.1; omega
  have hlt := And.intro hVY.st.lt hVY.st.gt.2
  have DVY := Blk.new w4 (VY).L 30
  obtain ⟨HDVY, eHDVY⟩ : ∃ H, w4.heap.size = H := ⟨_, rfl⟩
  rw [eHDVY] at DVY
  replace DU := DU.on ((Below.refl _ _).alloc (Nat.le_refl _) (.cells (VY).L.toArray 30))
  replace DX := DX.on ((Below.refl _ _).alloc (Nat.le_refl _) (.cells (VY).L.toArray 30))
  replace DY := DY.on ((Below.refl _ _).alloc (Nat.le_refl _) (.cells (VY).L.toArray 30))
  replace hFU := hFU.on ((Below.refl _ _).alloc (Nat.le_refl _) (.cells (VY).L.toArray 30))
  replace hFX := hFX.on ((Below.refl _ _).alloc (Nat.le_refl _) (.cells (VY).L.toArray 30))
  replace hFY := hFY.on ((Below.refl _ _).alloc (Nat.le_refl _) (.cells (VY).L.toArray 30))
  replace hVY := hVY.on ((Below.refl _ _).alloc (Nat.le_refl _) (.cells (VY).L.toArray 30))
  replace bz := bz.alloc bz.size (.cells (VY).L.toArray 30)
  have HHDVY := Lib.hid eHDVY
  rw [eHDVY] at hlt
  clear hszw
  go_wp2_with fail
  replace DU := DU.drew
  replace DX := DX.drew
  replace DY := DY.drew
  replace hFU := hFU.drew
  replace hFX := hFX.drew
  replace hFY := hFY.drew
  replace hVY := hVY.drew
  replace DVY := DVY.drew
  replace bz := bz.drew
  refine wp_region_held_drew (S := fun w9 : World => Mbx w9 w.heap.size RU CU AU nU cU ∧ Mbx w9 (w.heap.size + 1) RX CX AX nX cX ∧ Mbx w9 (w.heap.size + 2) RY CY AY nY cY ∧ Vbx w9 HDVY VY) (by kernel_rfl) ⟨DU, DX, DY, DVY⟩ (fun hS => ?_)
  generalize (w4.alloc (.cells (VY).L.toArray 30)).drew = wd4 at hS DU DX DY hFU hFX hFY hVY DVY  bz ⊢
  refine wpAnyH_take (i := 0) (v := ?v0_1) rfl (by kernel_rfl) (by kernel_rfl) (by kernel_rfl) (fun _ _ _ h => h) (Or.inl ⟨by rfl, ?hy0_1⟩) (by assumption) ?rest0_1
  case hy0_1 => (intro w9 hSw; clear hSw; go_simp; try with_reducible rfl)
  try simp only [Act.put, List.setIfInBounds_toArray, List.set_cons_zero, List.set_cons_succ, List.getElem_toArray, List.getElem_cons_zero, List.getElem_cons_succ]
  refine wpAnyH_take (i := 1) (v := ?v1_2) rfl (by kernel_rfl) (by kernel_rfl) (by kernel_rfl) (fun _ _ _ h => h) (Or.inl ⟨by rfl, ?hy1_2⟩) (by assumption) ?rest1_2
  case hy1_2 => (intro w9 hSw; obtain ⟨m0, m1, m2, m3⟩ := hSw; obtain ⟨q0_0, q0_1, q0_2, q0_3, q0_4, q0_5⟩ := Mbx.cells m0; obtain ⟨q1_0, q1_1, q1_2, q1_3, q1_4, q1_5⟩ := Mbx.cells m1; obtain ⟨q2_0, q2_1, q2_2, q2_3, q2_4, q2_5⟩ := Mbx.cells m2; go_simp; try with_reducible rfl)
  try simp only [Act.put, List.setIfInBounds_toArray, List.set_cons_zero, List.set_cons_succ, List.getElem_toArray, List.getElem_cons_zero, List.getElem_cons_succ]
  refine wpAnyH_take (i := 2) (v := ?v2_3) rfl (by kernel_rfl) (by kernel_rfl) (by kernel_rfl) (fun _ _ _ h => h) (Or.inl ⟨by rfl, ?hy2_3⟩) (by assumption) ?rest2_3
  case hy2_3 => (intro w9 hSw; clear hSw; go_simp; try with_reducible rfl)
  try simp only [Act.put, List.setIfInBounds_toArray, List.set_cons_zero, List.set_cons_succ, List.getElem_toArray, List.getElem_cons_zero, List.getElem_cons_succ]
  refine wpAnyH_take (i := 4) (v := ?v4_4) rfl (by kernel_rfl) (by kernel_rfl) (by kernel_rfl) (fun _ _ _ h => h) (Or.inl ⟨by rfl, ?hy4_4⟩) (by assumption) ?rest4_4
  case hy4_4 => (intro w9 hSw; obtain ⟨m0, m1, m2, m3⟩ := hSw; obtain ⟨q0_0, q0_1, q0_2, q0_3, q0_4, q0_5⟩ := Mbx.cells m0; obtain ⟨q1_0, q1_1, q1_2, q1_3, q1_4, q1_5⟩ := Mbx.cells m1; obtain ⟨q2_0, q2_1, q2_2, q2_3, q2_4, q2_5⟩ := Mbx.cells m2; go_simp; try with_reducible rfl)
  try simp only [Act.put, List.setIfInBounds_toArray, List.set_cons_zero, List.set_cons_succ, List.getElem_toArray, List.getElem_cons_zero, List.getElem_cons_succ]
  refine wpAnyH_take (i := 6) (v := ?v6_5) rfl (by kernel_rfl) (by kernel_rfl) (by kernel_rfl) (fun _ _ _ h => h) (Or.inl ⟨by rfl, ?hy6_5⟩) (by assumption) ?rest6_5
  case hy6_5 => (intro w9 hSw; clear hSw; go_simp; try with_reducible rfl)
  try simp only [Act.put, List.setIfInBounds_toArray, List.set_cons_zero, List.set_cons_succ, List.getElem_toArray, List.getElem_cons_zero, List.getElem_cons_succ]
  refine wpAnyH_take (i := 7) (v := ?v7_6) rfl (by kernel_rfl) (by kernel_rfl) (by kernel_rfl) (fun _ _ _ h => h) (Or.inl ⟨by rfl, ?hy7_6⟩) (by assumption) ?rest7_6
  case hy7_6 => (intro w9 hSw; obtain ⟨m0, m1, m2, m3⟩ := hSw; refine (ld_v (by rfl) (by kernel_rfl) m3).trans ?_; with_reducible rfl)
  try simp only [Act.put, List.setIfInBounds_toArray, List.set_cons_zero, List.set_cons_succ, List.getElem_toArray, List.getElem_cons_zero, List.getElem_cons_succ]
  refine wpAnyH_ready (rs := [3]) (by kernel_rfl) (by simp) ?_
  refine AllReadyH.cons rfl (fun K hK => ?_) AllReadyH.nil
  go_simp
  with_reducible refine (of_any turned hFU.fl HSU.out.1 HSU.out.2).mono ?_
  rintro e w5 ⟨VU, sVU, gVU, capVU, cVU, lVU, rfl, hVU, hb⟩
  replace DU := DU.on hb
  replace DX := DX.on hb
  replace DY := DY.on hb
  replace hFU := hFU.on hb
  replace hFX := hFX.on hb
  replace hFY := hFY.on hb
  replace hVY := hVY.on hb
  replace DVY := DVY.on hb
  replace bz := bz.trans (hb.mono bz.size)
  clear hb
  refine hK.out _ _ ⟨DU, DX, DY, DVY⟩ (fun hH => ?_)
  clear hK K hS
  have hS := hH
  clear hH
  try simp only [Act.put, List.setIfInBounds_toArray, List.set_cons_zero, List.set_cons_succ, List.getElem_toArray, List.getElem_cons_zero, List.getElem_cons_succ]
  refine wpAnyH_ready (rs := [5]) (by kernel_rfl) (by simp) ?_
  refine AllReadyH.cons rfl (fun K hK => ?_) AllReadyH.nil
  go_simp
  with_reducible refine (of_any false hFX.fl HSX.out.1 HSX.out.2).mono ?_
  rintro e w6 ⟨VX, sVX, gVX, capVX, cVX, lVX, rfl, hVX, hb⟩
  replace DU := DU.on hb
  replace DX := DX.on hb
  replace DY := DY.on hb
  replace hFU := hFU.on hb
  replace hFX := hFX.on hb
  replace hFY := hFY.on hb
  replace hVY := hVY.on hb
  replace DVY := DVY.on hb
  replace hVU := hVU.on hb
  replace bz := bz.trans (hb.mono bz.size)
  clear hb
  refine hK.out _ _ ⟨DU, DX, DY, DVY⟩ (fun hH => ?_)
  clear hK K hS
  have hS := hH
  clear hH
  try simp only [Act.put, List.setIfInBounds_toArray, List.set_cons_zero, List.set_cons_succ, List.getElem_toArray, List.getElem_cons_zero, List.getElem_cons_succ]
  refine wpAnyH_ready (rs := [8]) (by kernel_rfl) (by simp) ?_
  refine AllReadyH.cons rfl (fun K hK => ?_) AllReadyH.nil
  go_simp
  with_reducible refine (gemv_no hVU hVX hVY EX.out EY.out HFT.out).mono ?_
  rintro e w7 ⟨rfl, hb⟩
  replace DU := DU.on hb
  replace DX := DX.on hb
  replace DY := DY.on hb
  replace hFU := hFU.on hb
  replace hFX := hFX.on hb
  replace hFY := hFY.on hb
  replace hVY := hVY.on hb
  replace DVY := DVY.on hb
  replace hVU := hVU.on hb
  replace hVX := hVX.on hb
  replace bz := bz.trans (hb.mono bz.size)
  clear hb hVU hVX
  refine hK.out _ _ ⟨DU, DX, DY, DVY⟩ (fun hH => ?_)
  clear hK K hS
  have hS := hH
  clear hH
  try simp only [Act.put, List.setIfInBounds_toArray, List.set_cons_zero, List.set_cons_succ, List.getElem_toArray, List.getElem_cons_zero, List.getElem_cons_succ]
  refine wpAnyH_take (i := 9) (v := ?v9_7) rfl (by kernel_rfl) (by kernel_rfl) (by kernel_rfl) (fun _ _ _ h => h) (Or.inl ⟨by rfl, ?hy9_7⟩) (by assumption) ?rest9_7
  case hy9_7 => (intro w9 hSw; clear hSw; go_simp; try with_reducible rfl)
  try simp only [Act.put, List.setIfInBounds_toArray, List.set_cons_zero, List.set_cons_succ, List.getElem_toArray, List.getElem_cons_zero, List.getElem_cons_succ]
  refine wpAnyH_done (by kernel_rfl) ?_ _
  have HFv := HFT.out
  cases f1 : vecM RX CX
  · skip
    have p1 := rVector_any RX CX AX nX cX
    rw [f1] at p1
    obtain ⟨kU_0, kU_1, kU_2, kU_3, kU_4, kU_5⟩ := Mbx.cells DU
    obtain ⟨kX_0, kX_1, kX_2, kX_3, kX_4, kX_5⟩ := Mbx.cells DX
    obtain ⟨kY_0, kY_1, kY_2, kY_3, kY_4, kY_5⟩ := Mbx.cells DY
    go_wp2_with fail
    with_reducible refine (p1 _).mono ?_
    rintro e w8 ⟨rfl, hb⟩
    clear kU_0 kU_1 kU_2 kU_3 kU_4 kU_5 kX_0 kX_1 kX_2 kX_3 kX_4 kX_5 kY_0 kY_1 kY_2 kY_3 kY_4 kY_5
    replace DU := DU.on hb
    replace DX := DX.on hb
    replace DY := DY.on hb
    replace hFU := hFU.on hb
    replace hFX := hFX.on hb
    replace hFY := hFY.on hb
    replace hVY := hVY.on hb
    replace DVY := DVY.on hb
    replace bz := bz.trans (hb.mono bz.size)
    clear hb
    obtain ⟨kU_0, kU_1, kU_2, kU_3, kU_4, kU_5⟩ := Mbx.cells DU
    obtain ⟨kX_0, kX_1, kX_2, kX_3, kX_4, kX_5⟩ := Mbx.cells DX
    obtain ⟨kY_0, kY_1, kY_2, kY_3, kY_4, kY_5⟩ := Mbx.cells DY
    go_wp2_with fail
    with_reducible refine (num_any _ _).mono ?_
    rintro e v9 ⟨rfl, rfl⟩
    clear kU_0 kU_1 kU_2 kU_3 kU_4 kU_5 kX_0 kX_1 kX_2 kX_3 kX_4 kX_5 kY_0 kY_1 kY_2 kY_3 kY_4 kY_5
    obtain ⟨kU_0, kU_1, kU_2, kU_3, kU_4, kU_5⟩ := Mbx.cells DU
    obtain ⟨kX_0, kX_1, kX_2, kX_3, kX_4, kX_5⟩ := Mbx.cells DX
    obtain ⟨kY_0, kY_1, kY_2, kY_3, kY_4, kY_5⟩ := Mbx.cells DY
    obtain ⟨cDVY_0, cDVY_1, cDVY_2, cDVY_3, cDVY_4, cDVY_5, cDVY_6, cDVY_7, cDVY_8⟩ := Vbx.cells DVY
    go_wp2_with fail
    with_reducible refine (shows_true hVY.sv hFY.fl hVY.R hVY.C (sameL_refl LY)).mono ?_
    rintro e w10 ⟨rfl, hb⟩
    clear kU_0 kU_1 kU_2 kU_3 kU_4 kU_5 kX_0 kX_1 kX_2 kX_3 kX_4 kX_5 kY_0 kY_1 kY_2 kY_3 kY_4 kY_5 cDVY_0 cDVY_1 cDVY_2 cDVY_3 cDVY_4 cDVY_5 cDVY_6 cDVY_7 cDVY_8
    replace DU := DU.on hb
    replace DX := DX.on hb
    replace DY := DY.on hb
    replace hFU := hFU.on hb
    replace hFX := hFX.on hb
    replace hFY := hFY.on hb
    replace hVY := hVY.on hb
    replace DVY := DVY.on hb
    replace bz := bz.trans (hb.mono bz.size)
    clear hb
    go_wp2_with fail
    with_reducible refine (known_any _).mono ?_
    rintro e w11 ⟨rfl, hb⟩
    replace DU := DU.on hb
    replace DX := DX.on hb
    replace DY := DY.on hb
    replace hFU := hFU.on hb
    replace hFX := hFX.on hb
    replace hFY := hFY.on hb
    replace hVY := hVY.on hb
    replace DVY := DVY.on hb
    replace bz := bz.trans (hb.mono bz.size)
    clear hb
    go_wp2_with fail
    go_ret
    exact ⟨rfl, bz⟩
  · cases f2 : vecM RY CY
    · skip
      have p1 := rVector_any RX CX AX nX cX
      rw [f1] at p1
      obtain ⟨kU_0, kU_1, kU_2, kU_3, kU_4, kU_5⟩ := Mbx.cells DU
      obtain ⟨kX_0, kX_1, kX_2, kX_3, kX_4, kX_5⟩ := Mbx.cells DX
      obtain ⟨kY_0, kY_1, kY_2, kY_3, kY_4, kY_5⟩ := Mbx.cells DY
      go_wp2_with fail
      with_reducible refine (p1 _).mono ?_
      rintro e w8 ⟨rfl, hb⟩
      clear kU_0 kU_1 kU_2 kU_3 kU_4 kU_5 kX_0 kX_1 kX_2 kX_3 kX_4 kX_5 kY_0 kY_1 kY_2 kY_3 kY_4 kY_5
      replace DU := DU.on hb
      replace DX := DX.on hb
      replace DY := DY.on hb
      replace hFU := hFU.on hb
      replace hFX := hFX.on hb
      replace hFY := hFY.on hb
      replace hVY := hVY.on hb
      replace DVY := DVY.on hb
      replace bz := bz.trans (hb.mono bz.size)
      clear hb
      have p2 := rVector_any RY CY AY nY cY
      rw [f2] at p2
      obtain ⟨kU_0, kU_1, kU_2, kU_3, kU_4, kU_5⟩ := Mbx.cells DU
      obtain ⟨kX_0, kX_1, kX_2, kX_3, kX_4, kX_5⟩ := Mbx.cells DX
      obtain ⟨kY_0, kY_1, kY_2, kY_3, kY_4, kY_5⟩ := Mbx.cells DY
      go_wp2_with fail
      with_reducible refine (p2 _).mono ?_
      rintro e w9 ⟨rfl, hb⟩
      clear kU_0 kU_1 kU_2 kU_3 kU_4 kU_5 kX_0 kX_1 kX_2 kX_3 kX_4 kX_5 kY_0 kY_1 kY_2 kY_3 kY_4 kY_5
      replace DU := DU.on hb
      replace DX := DX.on hb
      replace DY := DY.on hb
      replace hFU := hFU.on hb
      replace hFX := hFX.on hb
      replace hFY := hFY.on hb
      replace hVY := hVY.on hb
      replace DVY := DVY.on hb
      replace bz := bz.trans (hb.mono bz.size)
      clear hb
      obtain ⟨kU_0, kU_1, kU_2, kU_3, kU_4, kU_5⟩ := Mbx.cells DU
      obtain ⟨kX_0, kX_1, kX_2, kX_3, kX_4, kX_5⟩ := Mbx.cells DX
      obtain ⟨kY_0, kY_1, kY_2, kY_3, kY_4, kY_5⟩ := Mbx.cells DY
      go_wp2_with fail
      with_reducible refine (num_any _ _).mono ?_
      rintro e v10 ⟨rfl, rfl⟩
      clear kU_0 kU_1 kU_2 kU_3 kU_4 kU_5 kX_0 kX_1 kX_2 kX_3 kX_4 kX_5 kY_0 kY_1 kY_2 kY_3 kY_4 kY_5
      obtain ⟨kU_0, kU_1, kU_2, kU_3, kU_4, kU_5⟩ := Mbx.cells DU
      obtain ⟨kX_0, kX_1, kX_2, kX_3, kX_4, kX_5⟩ := Mbx.cells DX
      obtain ⟨kY_0, kY_1, kY_2, kY_3, kY_4, kY_5⟩ := Mbx.cells DY
      obtain ⟨cDVY_0, cDVY_1, cDVY_2, cDVY_3, cDVY_4, cDVY_5, cDVY_6, cDVY_7, cDVY_8⟩ := Vbx.cells DVY
      go_wp2_with fail
      with_reducible refine (shows_true hVY.sv hFY.fl hVY.R hVY.C (sameL_refl LY)).mono ?_
      rintro e w11 ⟨rfl, hb⟩
      clear kU_0 kU_1 kU_2 kU_3 kU_4 kU_5 kX_0 kX_1 kX_2 kX_3 kX_4 kX_5 kY_0 kY_1 kY_2 kY_3 kY_4 kY_5 cDVY_0 cDVY_1 cDVY_2 cDVY_3 cDVY_4 cDVY_5 cDVY_6 cDVY_7 cDVY_8
      replace DU := DU.on hb
      replace DX := DX.on hb
      replace DY := DY.on hb
      replace hFU := hFU.on hb
      replace hFX := hFX.on hb
      replace hFY := hFY.on hb
      replace hVY := hVY.on hb
      replace DVY := DVY.on hb
      replace bz := bz.trans (hb.mono bz.size)
      clear hb
      go_wp2_with fail
      with_reducible refine (known_any _).mono ?_
      rintro e w12 ⟨rfl, hb⟩
      replace DU := DU.on hb
      replace DX := DX.on hb
      replace DY := DY.on hb
      replace hFU := hFU.on hb
      replace hFX := hFX.on hb
      replace hFY := hFY.on hb
      replace hVY := hVY.on hb
      replace DVY := DVY.on hb
      replace bz := bz.trans (hb.mono bz.size)
      clear hb
      go_wp2_with fail
      go_ret
      exact ⟨rfl, bz⟩
    · cases f3 : (CU != (nX : Int))
      · cases f4 : (RU != (nY : Int))
        · exfalso; rw [f1, f2, f3, f4] at HFv; cases HFv
        · skip
          have p1 := rVector_any RX CX AX nX cX
          rw [f1] at p1
          obtain ⟨kU_0, kU_1, kU_2, kU_3, kU_4, kU_5⟩ := Mbx.cells DU
          obtain ⟨kX_0, kX_1, kX_2, kX_3, kX_4, kX_5⟩ := Mbx.cells DX
          obtain ⟨kY_0, kY_1, kY_2, kY_3, kY_4, kY_5⟩ := Mbx.cells DY
          go_wp2_with fail
          with_reducible refine (p1 _).mono ?_
          rintro e w8 ⟨rfl, hb⟩
          clear kU_0 kU_1 kU_2 kU_3 kU_4 kU_5 kX_0 kX_1 kX_2 kX_3 kX_4 kX_5 kY_0 kY_1 kY_2 kY_3 kY_4 kY_5
          replace DU := DU.on hb
          replace DX := DX.on hb
          replace DY := DY.on hb
          replace hFU := hFU.on hb
          replace hFX := hFX.on hb
          replace hFY := hFY.on hb
          replace hVY := hVY.on hb
          replace DVY := DVY.on hb
          replace bz := bz.trans (hb.mono bz.size)
          clear hb
          have p2 := rVector_any RY CY AY nY cY
          rw [f2] at p2
          obtain ⟨kU_0, kU_1, kU_2, kU_3, kU_4, kU_5⟩ := Mbx.cells DU
          obtain ⟨kX_0, kX_1, kX_2, kX_3, kX_4, kX_5⟩ := Mbx.cells DX
          obtain ⟨kY_0, kY_1, kY_2, kY_3, kY_4, kY_5⟩ := Mbx.cells DY
          go_wp2_with fail
          with_reducible refine (p2 _).mono ?_
          rintro e w9 ⟨rfl, hb⟩
          clear kU_0 kU_1 kU_2 kU_3 kU_4 kU_5 kX_0 kX_1 kX_2 kX_3 kX_4 kX_5 kY_0 kY_1 kY_2 kY_3 kY_4 kY_5
          replace DU := DU.on hb
          replace DX := DX.on hb
          replace DY := DY.on hb
          replace hFU := hFU.on hb
          replace hFX := hFX.on hb
          replace hFY := hFY.on hb
          replace hVY := hVY.on hb
          replace DVY := DVY.on hb
          replace bz := bz.trans (hb.mono bz.size)
          clear hb
          obtain ⟨kU_0, kU_1, kU_2, kU_3, kU_4, kU_5⟩ := Mbx.cells DU
          obtain ⟨kX_0, kX_1, kX_2, kX_3, kX_4, kX_5⟩ := Mbx.cells DX
          obtain ⟨kY_0, kY_1, kY_2, kY_3, kY_4, kY_5⟩ := Mbx.cells DY
          go_wp2_with fail
          with_reducible refine (num_any _ _).mono ?_
          rintro e v10 ⟨rfl, rfl⟩
          clear kU_0 kU_1 kU_2 kU_3 kU_4 kU_5 kX_0 kX_1 kX_2 kX_3 kX_4 kX_5 kY_0 kY_1 kY_2 kY_3 kY_4 kY_5
          obtain ⟨kU_0, kU_1, kU_2, kU_3, kU_4, kU_5⟩ := Mbx.cells DU
          obtain ⟨kX_0, kX_1, kX_2, kX_3, kX_4, kX_5⟩ := Mbx.cells DX
          obtain ⟨kY_0, kY_1, kY_2, kY_3, kY_4, kY_5⟩ := Mbx.cells DY
          obtain ⟨cDVY_0, cDVY_1, cDVY_2, cDVY_3, cDVY_4, cDVY_5, cDVY_6, cDVY_7, cDVY_8⟩ := Vbx.cells DVY
          go_wp2_with fail
          with_reducible refine (shows_true hVY.sv hFY.fl hVY.R hVY.C (sameL_refl LY)).mono ?_
          rintro e w11 ⟨rfl, hb⟩
          clear kU_0 kU_1 kU_2 kU_3 kU_4 kU_5 kX_0 kX_1 kX_2 kX_3 kX_4 kX_5 kY_0 kY_1 kY_2 kY_3 kY_4 kY_5 cDVY_0 cDVY_1 cDVY_2 cDVY_3 cDVY_4 cDVY_5 cDVY_6 cDVY_7 cDVY_8
          replace DU := DU.on hb
          replace DX := DX.on hb
          replace DY := DY.on hb
          replace hFU := hFU.on hb
          replace hFX := hFX.on hb
          replace hFY := hFY.on hb
          replace hVY := hVY.on hb
          replace DVY := DVY.on hb
          replace bz := bz.trans (hb.mono bz.size)
          clear hb
          go_wp2_with fail
          with_reducible refine (known_any _).mono ?_
          rintro e w12 ⟨rfl, hb⟩
          replace DU := DU.on hb
          replace DX := DX.on hb
          replace DY := DY.on hb
          replace hFU := hFU.on hb
          replace hFX := hFX.on hb
          replace hFY := hFY.on hb
          replace hVY := hVY.on hb
          replace DVY := DVY.on hb
          replace bz := bz.trans (hb.mono bz.size)
          clear hb
          go_wp2_with fail
          go_ret
          exact ⟨rfl, bz⟩
      · skip
        have p1 := rVector_any RX CX AX nX cX
        rw [f1] at p1
        obtain ⟨kU_0, kU_1, kU_2, kU_3, kU_4, kU_5⟩ := Mbx.cells DU
        obtain ⟨kX_0, kX_1, kX_2, kX_3, kX_4, kX_5⟩ := Mbx.cells DX
        obtain ⟨kY_0, kY_1, kY_2, kY_3, kY_4, kY_5⟩ := Mbx.cells DY
        go_wp2_with fail
        with_reducible refine (p1 _).mono ?_
        rintro e w8 ⟨rfl, hb⟩
        clear kU_0 kU_1 kU_2 kU_3 kU_4 kU_5 kX_0 kX_1 kX_2 kX_3 kX_4 kX_5 kY_0 kY_1 kY_2 kY_3 kY_4 kY_5
        replace DU := DU.on hb
        replace DX := DX.on hb
        replace DY := DY.on hb
        replace hFU := hFU.on hb
        replace hFX := hFX.on hb
        replace hFY := hFY.on hb
        replace hVY := hVY.on hb
        replace DVY := DVY.on hb
        replace bz := bz.trans (hb.mono bz.size)
        clear hb
        have p2 := rVector_any RY CY AY nY cY
        rw [f2] at p2
        obtain ⟨kU_0, kU_1, kU_2, kU_3, kU_4, kU_5⟩ := Mbx.cells DU
        obtain ⟨kX_0, kX_1, kX_2, kX_3, kX_4, kX_5⟩ := Mbx.cells DX
        obtain ⟨kY_0, kY_1, kY_2, kY_3, kY_4, kY_5⟩ := Mbx.cells DY
        go_wp2_with fail
        with_reducible refine (p2 _).mono ?_
        rintro e w9 ⟨rfl, hb⟩
        clear kU_0 kU_1 kU_2 kU_3 kU_4 kU_5 kX_0 kX_1 kX_2 kX_3 kX_4 kX_5 kY_0 kY_1 kY_2 kY_3 kY_4 kY_5
        replace DU := DU.on hb
        replace DX := DX.on hb
        replace DY := DY.on hb
        replace hFU := hFU.on hb
        replace hFX := hFX.on hb
        replace hFY := hFY.on hb
        replace hVY := hVY.on hb
        replace DVY := DVY.on hb
        replace bz := bz.trans (hb.mono bz.size)
        clear hb
        obtain ⟨kU_0, kU_1, kU_2, kU_3, kU_4, kU_5⟩ := Mbx.cells DU
        obtain ⟨kX_0, kX_1, kX_2, kX_3, kX_4, kX_5⟩ := Mbx.cells DX
        obtain ⟨kY_0, kY_1, kY_2, kY_3, kY_4, kY_5⟩ := Mbx.cells DY
        go_wp2_with fail
        with_reducible refine (num_any _ _).mono ?_
        rintro e v10 ⟨rfl, rfl⟩
        clear kU_0 kU_1 kU_2 kU_3 kU_4 kU_5 kX_0 kX_1 kX_2 kX_3 kX_4 kX_5 kY_0 kY_1 kY_2 kY_3 kY_4 kY_5
        obtain ⟨kU_0, kU_1, kU_2, kU_3, kU_4, kU_5⟩ := Mbx.cells DU
        obtain ⟨kX_0, kX_1, kX_2, kX_3, kX_4, kX_5⟩ := Mbx.cells DX
        obtain ⟨kY_0, kY_1, kY_2, kY_3, kY_4, kY_5⟩ := Mbx.cells DY
        obtain ⟨cDVY_0, cDVY_1, cDVY_2, cDVY_3, cDVY_4, cDVY_5, cDVY_6, cDVY_7, cDVY_8⟩ := Vbx.cells DVY
        go_wp2_with fail
        with_reducible refine (shows_true hVY.sv hFY.fl hVY.R hVY.C (sameL_refl LY)).mono ?_
        rintro e w11 ⟨rfl, hb⟩
        clear kU_0 kU_1 kU_2 kU_3 kU_4 kU_5 kX_0 kX_1 kX_2 kX_3 kX_4 kX_5 kY_0 kY_1 kY_2 kY_3 kY_4 kY_5 cDVY_0 cDVY_1 cDVY_2 cDVY_3 cDVY_4 cDVY_5 cDVY_6 cDVY_7 cDVY_8
        replace DU := DU.on hb
        replace DX := DX.on hb
        replace DY := DY.on hb
        replace hFU := hFU.on hb
        replace hFX := hFX.on hb
        replace hFY := hFY.on hb
        replace hVY := hVY.on hb
        replace DVY := DVY.on hb
        replace bz := bz.trans (hb.mono bz.size)
        clear hb
        go_wp2_with fail
        with_reducible refine (known_any _).mono ?_
        rintro e w12 ⟨rfl, hb⟩
        replace DU := DU.on hb
        replace DX := DX.on hb
        replace DY := DY.on hb
        replace hFU := hFU.on hb
        replace hFX := hFX.on hb
        replace hFY := hFY.on hb
        replace hVY := hVY.on hb
        replace DVY := DVY.on hb
        replace bz := bz.trans (hb.mono bz.size)
        clear hb
        go_wp2_with fail
        go_ret
        exact ⟨rfl, bz⟩
set_option maxRecDepth 100000 in
set_option maxHeartbeats 8000000 in
theorem KernelsGemv_yes {w : World} {RU CU : Int} {AU : Option Addr} {nU cU : Nat} {LU : List Int} {RX CX : Int} {AX : Option Addr} {nX cX : Nat} {LX : List Int} {RY CY : Int} {AY : Option Addr} {nY cY : Nat} {LY : List Int} {a b : Nat} {turned : Bool} (ba : a ≤ 18446744073709551615) (bb : b ≤ 18446744073709551615) (hU : FL w AU nU cU LU) (hX : FL w AX nX cX LX) (hY : FL w AY nY cY LY) (b0 : bigM RU CU nU = false) (b1 : bigM RX CX nX = false) (b2 : bigM RY CY nY = false) (hf : (vecM RX CX && vecM RY CY && !(CU != (nX : Int)) && !(RU != (nY : Int))) = true) : Calls Try.prog 5 #[.float .f64 a, mV RU CU AU nU cU, mV RX CX AX nX cX, .float .f64 b, mV RY CY AY nY cY, .bool turned] w (Ans w (.bool true)) := by
  have pbU := fun W => big_any RU CU AU nU cU hU.max W
  rw [b0] at pbU
  obtain ⟨zU, eU, uU⟩ := big_is b0
  have HSU := Lib.hid (And.intro zU eU)
  clear b0 zU eU
  have pbX := fun W => big_any RX CX AX nX cX hX.max W
  rw [b1] at pbX
  obtain ⟨zX, eX, uX⟩ := big_is b1
  have HSX := Lib.hid (And.intro zX eX)
  clear b1 zX eX
  have pbY := fun W => big_any RY CY AY nY cY hY.max W
  rw [b2] at pbY
  obtain ⟨zY, eY, uY⟩ := big_is b2
  have HSY := Lib.hid (And.intro zY eY)
  clear b2 zY eY
  have EU := Lib.hid hU.1
  have mxU := hU.max
  have EX := Lib.hid hX.1
  have mxX := hX.max
  have EY := Lib.hid hY.1
  have mxY := hY.max
  have hfs := hf
  simp only [Bool.and_eq_true] at hfs
  obtain ⟨⟨⟨f1, f2⟩, f3⟩, f4⟩ := hfs
  have f3b : (CU != (nX : Int)) = false := by simpa using f3
  have f4b : (RU != (nY : Int)) = false := by simpa using f4
  have zU := (szB_bd HSU.out.1).1
  have zY := (szB_bd HSY.out.1).1
  obtain ⟨m, hm⟩ := Int.eq_ofNat_of_zero_le zU.1
  obtain ⟨q, hq⟩ := Int.eq_ofNat_of_zero_le zU.2.2.1
  obtain ⟨p, hp⟩ := Int.eq_ofNat_of_zero_le zY.2.2.1
  have hnu : nU = m * q := by have := HSU.out.2; rw [hm, hq] at this; exact_mod_cast this
  have hmny : m = nY := by have h := f4b; rw [hm] at h; have h2 : (m : Int) = nY := by { simpa using h }; omega
  have hqnx : q = nX := by have h := f3b; rw [hq] at h; have h2 : (q : Int) = nX := by { simpa using h }; omega
  have hm5 : m ≤ 512 ∧ q ≤ 512 := by omega
  have HM := Lib.hid hm
  have HQ := Lib.hid hq
  have HP := Lib.hid hp
  have HVY := Lib.hid f2
  have HNU := Lib.hid hnu
  have HMN := Lib.hid hmny
  have HQN := Lib.hid hqnx
  have F1 := Lib.hid f1
  have F3 := Lib.hid f3b
  have F4 := Lib.hid f4b
  clear f1 f2 f3 f4 f3b f4b zU zY hm hq hp hnu hmny hqnx
  have HFT := Lib.hid hf
  clear hf
  have DU := Blk.new w [.int .i64 RU, .int .i64 CU, .slice AU nU cU] 24
  have DX := Blk.new (w.alloc (.cells #[.int .i64 RU, .int .i64 CU, .slice AU nU cU] 24)) [.int .i64 RX, .int .i64 CX, .slice AX nX cX] 24
  replace DU := DU.alloc (.cells #[.int .i64 RX, .int .i64 CX, .slice AX nX cX] 24)
  simp only [World.size_alloc] at DX
  have DY := Blk.new ((w.alloc (.cells #[.int .i64 RU, .int .i64 CU, .slice AU nU cU] 24)).alloc (.cells #[.int .i64 RX, .int .i64 CX, .slice AX nX cX] 24)) [.int .i64 RY, .int .i64 CY, .slice AY nY cY] 24
  replace DU := DU.alloc (.cells #[.int .i64 RY, .int .i64 CY, .slice AY nY cY] 24)
  replace DX := DX.alloc (.cells #[.int .i64 RY, .int .i64 CY, .slice AY nY cY] 24)
  simp only [World.size_alloc] at DY
  have bz := (((Below.refl _ w).alloc (Nat.le_refl _) (.cells #[.int .i64 RU, .int .i64 CU, .slice AU nU cU] 24)).alloc (by simp <;> omega) (.cells #[.int .i64 RX, .int .i64 CX, .slice AX nX cX] 24)).alloc (by simp <;> omega) (.cells #[.int .i64 RY, .int .i64 CY, .slice AY nY cY] 24)
  have hsz0 : (((w.alloc (.cells #[.int .i64 RU, .int .i64 CU, .slice AU nU cU] 24)).alloc (.cells #[.int .i64 RX, .int .i64 CX, .slice AX nX cX] 24)).alloc (.cells #[.int .i64 RY, .int .i64 CY, .slice AY nY cY] 24)).heap.size = w.heap.size + 3 := by simp
  have hFU := hU.lo.on bz
  clear hU
  have hFX := hX.lo.on bz
  clear hX
  have hFY := hY.lo.on bz
  clear hY
  go_enter Try.func5, Try.ntmps5
  obtain ⟨kU_0, kU_1, kU_2, kU_3, kU_4, kU_5⟩ := Mbx.cells DU
  obtain ⟨kX_0, kX_1, kX_2, kX_3, kX_4, kX_5⟩ := Mbx.cells DX
  obtain ⟨kY_0, kY_1, kY_2, kY_3, kY_4, kY_5⟩ := Mbx.cells DY
  go_wp2_with fail
  with_reducible refine (pbU _).mono ?_
  rintro e w1 ⟨rfl, hb⟩
  clear kU_0 kU_1 kU_2 kU_3 kU_4 kU_5 kX_0 kX_1 kX_2 kX_3 kX_4 kX_5 kY_0 kY_1 kY_2 kY_3 kY_4 kY_5
  replace DU := DU.on hb
  replace DX := DX.on hb
  replace DY := DY.on hb
  replace hFU := hFU.on hb
  replace hFX := hFX.on hb
  replace hFY := hFY.on hb
  replace bz := bz.trans (hb.mono bz.size)
  clear hb
  obtain ⟨kU_0, kU_1, kU_2, kU_3, kU_4, kU_5⟩ := Mbx.cells DU
  obtain ⟨kX_0, kX_1, kX_2, kX_3, kX_4, kX_5⟩ := Mbx.cells DX
  obtain ⟨kY_0, kY_1, kY_2, kY_3, kY_4, kY_5⟩ := Mbx.cells DY
  go_wp2_with fail
  with_reducible refine (pbX _).mono ?_
  rintro e w2 ⟨rfl, hb⟩
  clear kU_0 kU_1 kU_2 kU_3 kU_4 kU_5 kX_0 kX_1 kX_2 kX_3 kX_4 kX_5 kY_0 kY_1 kY_2 kY_3 kY_4 kY_5
  replace DU := DU.on hb
  replace DX := DX.on hb
  replace DY := DY.on hb
  replace hFU := hFU.on hb
  replace hFX := hFX.on hb
  replace hFY := hFY.on hb
  replace bz := bz.trans (hb.mono bz.size)
  clear hb
  obtain ⟨kU_0, kU_1, kU_2, kU_3, kU_4, kU_5⟩ := Mbx.cells DU
  obtain ⟨kX_0, kX_1, kX_2, kX_3, kX_4, kX_5⟩ := Mbx.cells DX
  obtain ⟨kY_0, kY_1, kY_2, kY_3, kY_4, kY_5⟩ := Mbx.cells DY
  go_wp2_with fail
  with_reducible refine (pbY _).mono ?_
  rintro e w3 ⟨rfl, hb⟩
  clear kU_0 kU_1 kU_2 kU_3 kU_4 kU_5 kX_0 kX_1 kX_2 kX_3 kX_4 kX_5 kY_0 kY_1 kY_2 kY_3 kY_4 kY_5
  replace DU := DU.on hb
  replace DX := DX.on hb
  replace DY := DY.on hb
  replace hFU := hFU.on hb
  replace hFX := hFX.on hb
  replace hFY := hFY.on hb
  replace bz := bz.trans (hb.mono bz.size)
  clear hb
  obtain ⟨kU_0, kU_1, kU_2, kU_3, kU_4, kU_5⟩ := Mbx.cells DU
  obtain ⟨kX_0, kX_1, kX_2, kX_3, kX_4, kX_5⟩ := Mbx.cells DX
  obtain ⟨kY_0, kY_1, kY_2, kY_3, kY_4, kY_5⟩ := Mbx.cells DY
  have hszw : w.heap.size + 3 ≤ w3.heap.size := by have := DY.lt; omega
  go_wp2_with fail
  with_reducible refine (of_any turned hFY.fl HSY.out.1 HSY.out.2).mono ?_
  rintro e w4 ⟨VY, sVY, gVY, capVY, cVY, lVY, rfl, hVY, hb⟩
  clear kU_0 kU_1 kU_2 kU_3 kU_4 kU_5 kX_0 kX_1 kX_2 kX_3 kX_4 kX_5 kY_0 kY_1 kY_2 kY_3 kY_4 kY_5
  replace DU := DU.on hb
  replace DX := DX.on hb
  replace DY := DY.on hb
  replace hFU := hFU.on hb
  replace hFX := hFX.on hb
  replace hFY := hFY.on hb
  replace bz := bz.trans (hb.mono bz.size)
  clear hb
  have hgy : w.heap.size + 3 ≤ gVY ∧ w.heap.size + 3 ≤ sVY := by have h1 := hVY.st.lo; have h2 := hVY.st.gt.1; omega
  have hlt := And.intro hVY.st.lt hVY.st.gt.2
  have DVY := Blk.new w4 (VY).L 30
  obtain ⟨HDVY, eHDVY⟩ : ∃ H, w4.heap.size = H := ⟨_, rfl⟩
  rw [eHDVY] at DVY
  replace DU := DU.on ((Below.refl _ _).alloc (Nat.le_refl _) (.cells (VY).L.toArray 30))
  replace DX := DX.on ((Below.refl _ _).alloc (Nat.le_refl _) (.cells (VY).L.toArray 30))
  replace DY := DY.on ((Below.refl _ _).alloc (Nat.le_refl _) (.cells (VY).L.toArray 30))
  replace hFU := hFU.on ((Below.refl _ _).alloc (Nat.le_refl _) (.cells (VY).L.toArray 30))
  replace hFX := hFX.on ((Below.refl _ _).alloc (Nat.le_refl _) (.cells (VY).L.toArray 30))
  replace hFY := hFY.on ((Below.refl _ _).alloc (Nat.le_refl _) (.cells (VY).L.toArray 30))
  replace hVY := hVY.on ((Below.refl _ _).alloc (Nat.le_refl _) (.cells (VY).L.toArray 30))
  replace bz := bz.alloc bz.size (.cells (VY).L.toArray 30)
  have HHDVY := Lib.hid eHDVY
  rw [eHDVY] at hlt
  clear hszw
  go_wp2_with fail
  replace DU := DU.drew
  replace DX := DX.drew
  replace DY := DY.drew
  replace hFU := hFU.drew
  replace hFX := hFX.drew
  replace hFY := hFY.drew
  replace hVY := hVY.drew
  replace DVY := DVY.drew
  replace bz := bz.drew
  refine wp_region_held_drew (S := fun w9 : World => Mbx w9 w.heap.size RU CU AU nU cU ∧ Mbx w9 (w.heap.size + 1) RX CX AX nX cX ∧ Mbx w9 (w.heap.size + 2) RY CY AY nY cY ∧ Vbx w9 HDVY VY) (by kernel_rfl) ⟨DU, DX, DY, DVY⟩ (fun hS => ?_)
  generalize (w4.alloc (.cells (VY).L.toArray 30)).drew = wd4 at hS DU DX DY hFU hFX hFY hVY DVY  bz ⊢
  refine wpAnyH_take (i := 0) (v := ?v0_15) rfl (by kernel_rfl) (by kernel_rfl) (by kernel_rfl) (fun _ _ _ h => h) (Or.inl ⟨by rfl, ?hy0_15⟩) (by assumption) ?rest0_15
  case hy0_15 => (intro w9 hSw; clear hSw; go_simp; try with_reducible rfl)
  try simp only [Act.put, List.setIfInBounds_toArray, List.set_cons_zero, List.set_cons_succ, List.getElem_toArray, List.getElem_cons_zero, List.getElem_cons_succ]
  refine wpAnyH_take (i := 1) (v := ?v1_16) rfl (by kernel_rfl) (by kernel_rfl) (by kernel_rfl) (fun _ _ _ h => h) (Or.inl ⟨by rfl, ?hy1_16⟩) (by assumption) ?rest1_16
  case hy1_16 => (intro w9 hSw; obtain ⟨m0, m1, m2, m3⟩ := hSw; obtain ⟨q0_0, q0_1, q0_2, q0_3, q0_4, q0_5⟩ := Mbx.cells m0; obtain ⟨q1_0, q1_1, q1_2, q1_3, q1_4, q1_5⟩ := Mbx.cells m1; obtain ⟨q2_0, q2_1, q2_2, q2_3, q2_4, q2_5⟩ := Mbx.cells m2; go_simp; try with_reducible rfl)
  try simp only [Act.put, List.setIfInBounds_toArray, List.set_cons_zero, List.set_cons_succ, List.getElem_toArray, List.getElem_cons_zero, List.getElem_cons_succ]
  refine wpAnyH_take (i := 2) (v := ?v2_17) rfl (by kernel_rfl) (by kernel_rfl) (by kernel_rfl) (fun _ _ _ h => h) (Or.inl ⟨by rfl, ?hy2_17⟩) (by assumption) ?rest2_17
  case hy2_17 => (intro w9 hSw; clear hSw; go_simp; try with_reducible rfl)
  try simp only [Act.put, List.setIfInBounds_toArray, List.set_cons_zero, List.set_cons_succ, List.getElem_toArray, List.getElem_cons_zero, List.getElem_cons_succ]
  refine wpAnyH_take (i := 4) (v := ?v4_18) rfl (by kernel_rfl) (by kernel_rfl) (by kernel_rfl) (fun _ _ _ h => h) (Or.inl ⟨by rfl, ?hy4_18⟩) (by assumption) ?rest4_18
  case hy4_18 => (intro w9 hSw; obtain ⟨m0, m1, m2, m3⟩ := hSw; obtain ⟨q0_0, q0_1, q0_2, q0_3, q0_4, q0_5⟩ := Mbx.cells m0; obtain ⟨q1_0, q1_1, q1_2, q1_3, q1_4, q1_5⟩ := Mbx.cells m1; obtain ⟨q2_0, q2_1, q2_2, q2_3, q2_4, q2_5⟩ := Mbx.cells m2; go_simp; try with_reducible rfl)
  try simp only [Act.put, List.setIfInBounds_toArray, List.set_cons_zero, List.set_cons_succ, List.getElem_toArray, List.getElem_cons_zero, List.getElem_cons_succ]
  refine wpAnyH_take (i := 6) (v := ?v6_19) rfl (by kernel_rfl) (by kernel_rfl) (by kernel_rfl) (fun _ _ _ h => h) (Or.inl ⟨by rfl, ?hy6_19⟩) (by assumption) ?rest6_19
  case hy6_19 => (intro w9 hSw; clear hSw; go_simp; try with_reducible rfl)
  try simp only [Act.put, List.setIfInBounds_toArray, List.set_cons_zero, List.set_cons_succ, List.getElem_toArray, List.getElem_cons_zero, List.getElem_cons_succ]
  refine wpAnyH_take (i := 7) (v := ?v7_20) rfl (by kernel_rfl) (by kernel_rfl) (by kernel_rfl) (fun _ _ _ h => h) (Or.inl ⟨by rfl, ?hy7_20⟩) (by assumption) ?rest7_20
  case hy7_20 => (intro w9 hSw; obtain ⟨m0, m1, m2, m3⟩ := hSw; refine (ld_v (by rfl) (by kernel_rfl) m3).trans ?_; with_reducible rfl)
  try simp only [Act.put, List.setIfInBounds_toArray, List.set_cons_zero, List.set_cons_succ, List.getElem_toArray, List.getElem_cons_zero, List.getElem_cons_succ]
  refine wpAnyH_ready (rs := [3]) (by kernel_rfl) (by simp) ?_
  refine AllReadyH.cons rfl (fun K hK => ?_) AllReadyH.nil
  go_simp
  with_reducible refine (of_any turned hFU.fl HSU.out.1 HSU.out.2).mono ?_
  rintro e w5 ⟨VU, sVU, gVU, capVU, cVU, lVU, rfl, hVU, hb⟩
  replace DU := DU.on hb
  replace DX := DX.on hb
  replace DY := DY.on hb
  replace hFU := hFU.on hb
  replace hFX := hFX.on hb
  replace hFY := hFY.on hb
  replace hVY := hVY.on hb
  replace DVY := DVY.on hb
  replace bz := bz.trans (hb.mono bz.size)
  clear hb
  refine hK.out _ _ ⟨DU, DX, DY, DVY⟩ (fun hH => ?_)
  clear hK K hS
  have hS := hH
  clear hH
  try simp only [Act.put, List.setIfInBounds_toArray, List.set_cons_zero, List.set_cons_succ, List.getElem_toArray, List.getElem_cons_zero, List.getElem_cons_succ]
  refine wpAnyH_ready (rs := [5]) (by kernel_rfl) (by simp) ?_
  refine AllReadyH.cons rfl (fun K hK => ?_) AllReadyH.nil
  go_simp
  with_reducible refine (of_any false hFX.fl HSX.out.1 HSX.out.2).mono ?_
  rintro e w6 ⟨VX, sVX, gVX, capVX, cVX, lVX, rfl, hVX, hb⟩
  replace DU := DU.on hb
  replace DX := DX.on hb
  replace DY := DY.on hb
  replace hFU := hFU.on hb
  replace hFX := hFX.on hb
  replace hFY := hFY.on hb
  replace hVY := hVY.on hb
  replace DVY := DVY.on hb
  replace hVU := hVU.on hb
  replace bz := bz.trans (hb.mono bz.size)
  clear hb
  refine hK.out _ _ ⟨DU, DX, DY, DVY⟩ (fun hH => ?_)
  clear hK K hS
  have hS := hH
  clear hH
  try simp only [Act.put, List.setIfInBounds_toArray, List.set_cons_zero, List.set_cons_succ, List.getElem_toArray, List.getElem_cons_zero, List.getElem_cons_succ]
  refine wpAnyH_ready (rs := [8]) (by kernel_rfl) (by simp) ?_
  refine AllReadyH.cons rfl (fun K hK => ?_) AllReadyH.nil
  go_simp
  with_reducible refine (gemv_yes ba bb hVU hVX hVY HM.out HQ.out HP.out EX.out EY.out HFT.out HVY.out).mono ?_
  rintro e w66 ⟨ly, G, rfl, hVY2, hI, hg⟩
  replace DU := DU.grown hg (by simp; omega)
  replace hFU := hFU.grown hg (by omega)
  replace DX := DX.grown hg (by simp; omega)
  replace hFX := hFX.grown hg (by omega)
  replace DY := DY.grown hg (by simp; omega)
  replace hFY := hFY.grown hg (by omega)
  replace DVY := DVY.grown hg (by simp; omega)
  replace hVY := hVY2
  replace bz := bz.grown hg bz.size (fun k e => by cases e; omega)
  have HI := Lib.hid hI
  clear hVY2 hg hVU hVX hI
  refine hK.out _ _ ⟨DU, DX, DY, DVY⟩ (fun hH => ?_)
  clear hK K hS
  have hS := hH
  clear hH
  try simp only [Act.put, List.setIfInBounds_toArray, List.set_cons_zero, List.set_cons_succ, List.getElem_toArray, List.getElem_cons_zero, List.getElem_cons_succ]
  refine wpAnyH_take (i := 9) (v := ?v9_21) rfl (by kernel_rfl) (by kernel_rfl) (by kernel_rfl) (fun _ _ _ h => h) (Or.inl ⟨by rfl, ?hy9_21⟩) (by assumption) ?rest9_21
  case hy9_21 => (intro w9 hSw; clear hSw; go_simp; try with_reducible rfl)
  try simp only [Act.put, List.setIfInBounds_toArray, List.set_cons_zero, List.set_cons_succ, List.getElem_toArray, List.getElem_cons_zero, List.getElem_cons_succ]
  refine wpAnyH_done (by kernel_rfl) ?_ _
  have f1 := F1.out
  have f2 := HVY.out
  have f3 := F3.out
  have f4 := F4.out
  have p1 := rVector_any RX CX AX nX cX
  rw [f1] at p1
  obtain ⟨kU_0, kU_1, kU_2, kU_3, kU_4, kU_5⟩ := Mbx.cells DU
  obtain ⟨kX_0, kX_1, kX_2, kX_3, kX_4, kX_5⟩ := Mbx.cells DX
  obtain ⟨kY_0, kY_1, kY_2, kY_3, kY_4, kY_5⟩ := Mbx.cells DY
  go_wp2_with fail
  with_reducible refine (p1 _).mono ?_
  rintro e w7 ⟨rfl, hb⟩
  clear kU_0 kU_1 kU_2 kU_3 kU_4 kU_5 kX_0 kX_1 kX_2 kX_3 kX_4 kX_5 kY_0 kY_1 kY_2 kY_3 kY_4 kY_5
  replace DU := DU.on hb
  replace DX := DX.on hb
  replace DY := DY.on hb
  replace hFU := hFU.on hb
  replace hFX := hFX.on hb
  replace hFY := hFY.on hb
  replace hVY := hVY.on hb
  replace DVY := DVY.on hb
  replace bz := bz.trans (hb.mono bz.size)
  clear hb
  have p2 := rVector_any RY CY AY nY cY
  rw [f2] at p2
  obtain ⟨kU_0, kU_1, kU_2, kU_3, kU_4, kU_5⟩ := Mbx.cells DU
  obtain ⟨kX_0, kX_1, kX_2, kX_3, kX_4, kX_5⟩ := Mbx.cells DX
  obtain ⟨kY_0, kY_1, kY_2, kY_3, kY_4, kY_5⟩ := Mbx.cells DY
  go_wp2_with fail
  with_reducible refine (p2 _).mono ?_
  rintro e w8 ⟨rfl, hb⟩
  clear kU_0 kU_1 kU_2 kU_3 kU_4 kU_5 kX_0 kX_1 kX_2 kX_3 kX_4 kX_5 kY_0 kY_1 kY_2 kY_3 kY_4 kY_5
  replace DU := DU.on hb
  replace DX := DX.on hb
  replace DY := DY.on hb
  replace hFU := hFU.on hb
  replace hFX := hFX.on hb
  replace hFY := hFY.on hb
  replace hVY := hVY.on hb
  replace DVY := DVY.on hb
  replace bz := bz.trans (hb.mono bz.size)
  clear hb
  obtain ⟨kU_0, kU_1, kU_2, kU_3, kU_4, kU_5⟩ := Mbx.cells DU
  obtain ⟨kX_0, kX_1, kX_2, kX_3, kX_4, kX_5⟩ := Mbx.cells DX
  obtain ⟨kY_0, kY_1, kY_2, kY_3, kY_4, kY_5⟩ := Mbx.cells DY
  go_wp2_with fail
  clear kU_0 kU_1 kU_2 kU_3 kU_4 kU_5 kX_0 kX_1 kX_2 kX_3 kX_4 kX_5 kY_0 kY_1 kY_2 kY_3 kY_4 kY_5
  clear f1 f2 f3 f4
  replace DU := DU.drew
  replace DX := DX.drew
  replace DY := DY.drew
  replace hFU := hFU.drew
  replace hFX := hFX.drew
  replace hFY := hFY.drew
  replace hVY := hVY.drew
  replace DVY := DVY.drew
  replace bz := bz.drew
  have HIw := HI
  refine wp_region_held_drew (S := fun w9 : World => Mbx w9 w.heap.size RU CU AU nU cU ∧ Mbx w9 (w.heap.size + 1) RX CX AX nX cX ∧ Mbx w9 (w.heap.size + 2) RY CY AY nY cY ∧ Vbx w9 HDVY VY) (by kernel_rfl) ⟨DU, DX, DY, DVY⟩ (fun hS => ?_)
  generalize w8.drew = wd7 at hS DU DX DY hFU hFX hFY hVY DVY  bz ⊢
  refine wpAnyH_take (i := 0) (v := ?v0_22) rfl (by kernel_rfl) (by kernel_rfl) (by kernel_rfl) (fun _ _ _ h => h) (Or.inl ⟨by rfl, ?hy0_22⟩) (by assumption) ?rest0_22
  case hy0_22 => (intro w9 hSw; clear hSw; go_simp; try with_reducible rfl)
  try simp only [Act.put, List.setIfInBounds_toArray, List.set_cons_zero, List.set_cons_succ, List.getElem_toArray, List.getElem_cons_zero, List.getElem_cons_succ]
  refine wpAnyH_ready (rs := [1]) (by kernel_rfl) (by simp) ?_
  refine AllReadyH.cons rfl (fun K hK => ?_) AllReadyH.nil
  go_simp
  with_reducible refine (num_any _ _).mono ?_
  rintro e v9 ⟨rfl, rfl⟩
  refine hK.out _ _ ⟨DU, DX, DY, DVY⟩ (fun hH => ?_)
  clear hK K hS
  have hS := hH
  clear hH
  try simp only [Act.put, List.setIfInBounds_toArray, List.set_cons_zero, List.set_cons_succ, List.getElem_toArray, List.getElem_cons_zero, List.getElem_cons_succ]
  refine wpAnyH_take (i := 2) (v := ?v2_23) rfl (by kernel_rfl) (by kernel_rfl) (by kernel_rfl) (fun _ _ _ h => h) (Or.inl ⟨by rfl, ?hy2_23⟩) (by assumption) ?rest2_23
  case hy2_23 => (intro w9 hSw; clear hSw; go_simp; try with_reducible rfl)
  try simp only [Act.put, List.setIfInBounds_toArray, List.set_cons_zero, List.set_cons_succ, List.getElem_toArray, List.getElem_cons_zero, List.getElem_cons_succ]
  refine wpAnyH_take (i := 3) (v := ?v3_24) rfl (by kernel_rfl) (by kernel_rfl) (by kernel_rfl) (fun _ _ _ h => h) (Or.inl ⟨by rfl, ?hy3_24⟩) (by assumption) ?rest3_24
  case hy3_24 => (intro w9 hSw; clear hSw; go_simp; try with_reducible rfl)
  try simp only [Act.put, List.setIfInBounds_toArray, List.set_cons_zero, List.set_cons_succ, List.getElem_toArray, List.getElem_cons_zero, List.getElem_cons_succ]
  refine wpAnyH_take (i := 4) (v := ?v4_25) rfl (by kernel_rfl) (by kernel_rfl) (by kernel_rfl) (fun _ _ _ h => h) (Or.inl ⟨by rfl, ?hy4_25⟩) (by assumption) ?rest4_25
  case hy4_25 => (intro w9 hSw; obtain ⟨m0, m1, m2, m3⟩ := hSw; refine (ld_v (by rfl) (by kernel_rfl) m3).trans ?_; with_reducible rfl)
  try simp only [Act.put, List.setIfInBounds_toArray, List.set_cons_zero, List.set_cons_succ, List.getElem_toArray, List.getElem_cons_zero, List.getElem_cons_succ]
  refine wpAnyH_take (i := 5) (v := ?v5_26) rfl (by kernel_rfl) (by kernel_rfl) (by kernel_rfl) (fun _ _ _ h => h) (Or.inl ⟨by rfl, ?hy5_26⟩) (by assumption) ?rest5_26
  case hy5_26 => (intro w9 hSw; obtain ⟨m0, m1, m2, m3⟩ := hSw; obtain ⟨q0_0, q0_1, q0_2, q0_3, q0_4, q0_5⟩ := Mbx.cells m0; obtain ⟨q1_0, q1_1, q1_2, q1_3, q1_4, q1_5⟩ := Mbx.cells m1; obtain ⟨q2_0, q2_1, q2_2, q2_3, q2_4, q2_5⟩ := Mbx.cells m2; go_simp; try with_reducible rfl)
  try simp only [Act.put, List.setIfInBounds_toArray, List.set_cons_zero, List.set_cons_succ, List.getElem_toArray, List.getElem_cons_zero, List.getElem_cons_succ]
  refine wpAnyH_take (i := 6) (v := ?v6_27) rfl (by kernel_rfl) (by kernel_rfl) (by kernel_rfl) (fun _ _ _ h => h) (Or.inl ⟨by rfl, ?hy6_27⟩) (by assumption) ?rest6_27
  case hy6_27 => (intro w9 hSw; clear hSw; go_simp; try with_reducible rfl)
  try simp only [Act.put, List.setIfInBounds_toArray, List.set_cons_zero, List.set_cons_succ, List.getElem_toArray, List.getElem_cons_zero, List.getElem_cons_succ]
  refine wpAnyH_take (i := 7) (v := ?v7_28) rfl (by kernel_rfl) (by kernel_rfl) (by kernel_rfl) (fun _ _ _ h => h) (Or.inl ⟨by rfl, ?hy7_28⟩) (by assumption) ?rest7_28
  case hy7_28 => (intro w9 hSw; obtain ⟨m0, m1, m2, m3⟩ := hSw; obtain ⟨q0_0, q0_1, q0_2, q0_3, q0_4, q0_5⟩ := Mbx.cells m0; obtain ⟨q1_0, q1_1, q1_2, q1_3, q1_4, q1_5⟩ := Mbx.cells m1; obtain ⟨q2_0, q2_1, q2_2, q2_3, q2_4, q2_5⟩ := Mbx.cells m2; go_simp; try with_reducible rfl)
  try simp only [Act.put, List.setIfInBounds_toArray, List.set_cons_zero, List.set_cons_succ, List.getElem_toArray, List.getElem_cons_zero, List.getElem_cons_succ]
  refine wpAnyH_take (i := 8) (v := ?v8_29) rfl (by kernel_rfl) (by kernel_rfl) (by kernel_rfl) (fun _ _ _ h => h) (Or.inl ⟨by rfl, ?hy8_29⟩) (by assumption) ?rest8_29
  case hy8_29 => (intro w9 hSw; clear hSw; go_simp; try with_reducible rfl)
  try simp only [Act.put, List.setIfInBounds_toArray, List.set_cons_zero, List.set_cons_succ, List.getElem_toArray, List.getElem_cons_zero, List.getElem_cons_succ]
  refine wpAnyH_take (i := 9) (v := ?v9_30) rfl (by kernel_rfl) (by kernel_rfl) (by kernel_rfl) (fun _ _ _ h => h) (Or.inl ⟨by rfl, ?hy9_30⟩) (by assumption) ?rest9_30
  case hy9_30 => (intro w9 hSw; obtain ⟨m0, m1, m2, m3⟩ := hSw; obtain ⟨q0_0, q0_1, q0_2, q0_3, q0_4, q0_5⟩ := Mbx.cells m0; obtain ⟨q1_0, q1_1, q1_2, q1_3, q1_4, q1_5⟩ := Mbx.cells m1; obtain ⟨q2_0, q2_1, q2_2, q2_3, q2_4, q2_5⟩ := Mbx.cells m2; go_simp; try with_reducible rfl)
  try simp only [Act.put, List.setIfInBounds_toArray, List.set_cons_zero, List.set_cons_succ, List.getElem_toArray, List.getElem_cons_zero, List.getElem_cons_succ]
  refine wpAnyH_take (i := 10) (v := ?v10_31) rfl (by kernel_rfl) (by kernel_rfl) (by kernel_rfl) (fun _ _ _ h => h) (Or.inl ⟨by rfl, ?hy10_31⟩) (by assumption) ?rest10_31
  case hy10_31 => (intro w9 hSw; clear hSw; go_simp; try with_reducible rfl)
  try simp only [Act.put, List.setIfInBounds_toArray, List.set_cons_zero, List.set_cons_succ, List.getElem_toArray, List.getElem_cons_zero, List.getElem_cons_succ]
  refine wpAnyH_take (i := 11) (v := ?v11_32) rfl (by kernel_rfl) (by kernel_rfl) (by kernel_rfl) (fun _ _ _ h => h) (Or.inl ⟨by rfl, ?hy11_32⟩) (by assumption) ?rest11_32
  case hy11_32 => (intro w9 hSw; clear hSw; go_simp; try with_reducible rfl)
  try simp only [Act.put, List.setIfInBounds_toArray, List.set_cons_zero, List.set_cons_succ, List.getElem_toArray, List.getElem_cons_zero, List.getElem_cons_succ]
  refine wpAnyH_take (i := 12) (v := ?v12_33) rfl (by kernel_rfl) (by kernel_rfl) (by kernel_rfl) (fun _ _ _ h => h) (Or.inl ⟨by rfl, ?hy12_33⟩) (by assumption) ?rest12_33
  case hy12_33 => (intro w9 hSw; obtain ⟨m0, m1, m2, m3⟩ := hSw; obtain ⟨q0_0, q0_1, q0_2, q0_3, q0_4, q0_5⟩ := Mbx.cells m0; obtain ⟨q1_0, q1_1, q1_2, q1_3, q1_4, q1_5⟩ := Mbx.cells m1; obtain ⟨q2_0, q2_1, q2_2, q2_3, q2_4, q2_5⟩ := Mbx.cells m2; go_simp; try with_reducible rfl)
  try simp only [Act.put, List.setIfInBounds_toArray, List.set_cons_zero, List.set_cons_succ, List.getElem_toArray, List.getElem_cons_zero, List.getElem_cons_succ]
  refine wpAnyH_ready (rs := [13]) (by kernel_rfl) (by simp) ?_
  refine AllReadyH.cons rfl (fun K hK => ?_) AllReadyH.nil
  go_simp
  have pr := rGemv_any (a := a) (b := b) (m := m) (q := q) (x := LX) (y := LY) ba bb (l := LU) hFU.fl HNU.out hm5.1 hm5.2 hFX.fl hFY.fl (by have := HQN.out; omega) (by have := HMN.out; omega)
  rw [← HM.out, ← HQ.out] at pr
  with_reducible refine (pr).mono ?_
  rintro e w10 ⟨A8, c8, L8, rfl, hI8, ho8, hb⟩
  replace DU := DU.on hb
  replace DX := DX.on hb
  replace DY := DY.on hb
  replace hFU := hFU.on hb
  replace hFX := hFX.on hb
  replace hFY := hFY.on hb
  replace hVY := hVY.on hb
  replace DVY := DVY.on hb
  replace bz := bz.trans (hb.mono bz.size)
  clear hb pr
  have hF8 := hI8.fl ho8
  have HI8 := Lib.hid hI8
  clear ho8 hI8
  refine hK.out _ _ ⟨DU, DX, DY, DVY⟩ (fun hH => ?_)
  clear hK K hS
  have hS := hH
  clear hH
  try simp only [Act.put, List.setIfInBounds_toArray, List.set_cons_zero, List.set_cons_succ, List.getElem_toArray, List.getElem_cons_zero, List.getElem_cons_succ]
  refine wpAnyH_ready (rs := [14]) (by kernel_rfl) (by simp) ?_
  refine AllReadyH.cons rfl (fun K hK => ?_) AllReadyH.nil
  go_simp
  with_reducible refine (like_any _ _ _ _ _ _).mono ?_
  rintro e w11 ⟨rfl, hb⟩
  replace DU := DU.on hb
  replace DX := DX.on hb
  replace DY := DY.on hb
  replace hFU := hFU.on hb
  replace hFX := hFX.on hb
  replace hFY := hFY.on hb
  replace hVY := hVY.on hb
  replace DVY := DVY.on hb
  replace hF8 := hF8.on hb
  replace bz := bz.trans (hb.mono bz.size)
  clear hb
  refine hK.out _ _ ⟨DU, DX, DY, DVY⟩ (fun hH => ?_)
  clear hK K hS
  have hS := hH
  clear hH
  try simp only [Act.put, List.setIfInBounds_toArray, List.set_cons_zero, List.set_cons_succ, List.getElem_toArray, List.getElem_cons_zero, List.getElem_cons_succ]
  refine wpAnyH_ready (rs := [15]) (by kernel_rfl) (by simp) ?_
  refine AllReadyH.cons rfl (fun K hK => ?_) AllReadyH.nil
  go_simp
  with_reducible refine (shows_true hVY.sv hF8 hVY.R hVY.C (Is.same HI.out (by rw [← HMN.out]; exact HI8.out))).mono ?_
  rintro e w12 ⟨rfl, hb⟩
  replace DU := DU.on hb
  replace DX := DX.on hb
  replace DY := DY.on hb
  replace hFU := hFU.on hb
  replace hFX := hFX.on hb
  replace hFY := hFY.on hb
  replace hVY := hVY.on hb
  replace DVY := DVY.on hb
  replace hF8 := hF8.on hb
  replace bz := bz.trans (hb.mono bz.size)
  clear hb
  refine hK.out _ _ ⟨DU, DX, DY, DVY⟩ (fun hH => ?_)
  clear hK K hS
  have hS := hH
  clear hH
  try simp only [Act.put, List.setIfInBounds_toArray, List.set_cons_zero, List.set_cons_succ, List.getElem_toArray, List.getElem_cons_zero, List.getElem_cons_succ]
  refine wpAnyH_take (i := 16) (v := ?v16_34) rfl (by kernel_rfl) (by kernel_rfl) (by kernel_rfl) (fun _ _ _ h => h) (Or.inl ⟨by rfl, ?hy16_34⟩) (by assumption) ?rest16_34
  case hy16_34 => (intro w9 hSw; clear hSw; go_simp; try with_reducible rfl)
  try simp only [Act.put, List.setIfInBounds_toArray, List.set_cons_zero, List.set_cons_succ, List.getElem_toArray, List.getElem_cons_zero, List.getElem_cons_succ]
  refine wpAnyH_take (i := 17) (v := ?v17_35) rfl (by kernel_rfl) (by kernel_rfl) (by kernel_rfl) (fun _ _ _ h => h) (Or.inl ⟨by rfl, ?hy17_35⟩) (by assumption) ?rest17_35
  case hy17_35 => (intro w9 hSw; clear hSw; go_simp; try with_reducible rfl)
  try simp only [Act.put, List.setIfInBounds_toArray, List.set_cons_zero, List.set_cons_succ, List.getElem_toArray, List.getElem_cons_zero, List.getElem_cons_succ]
  refine wpAnyH_ready (rs := [18]) (by kernel_rfl) (by simp) ?_
  refine AllReadyH.cons rfl (fun K hK => ?_) AllReadyH.nil
  go_simp
  with_reducible refine (known_any _).mono ?_
  rintro e w13 ⟨rfl, hb⟩
  replace DU := DU.on hb
  replace DX := DX.on hb
  replace DY := DY.on hb
  replace hFU := hFU.on hb
  replace hFX := hFX.on hb
  replace hFY := hFY.on hb
  replace hVY := hVY.on hb
  replace DVY := DVY.on hb
  replace hF8 := hF8.on hb
  replace bz := bz.trans (hb.mono bz.size)
  clear hb
  refine hK.out _ _ ⟨DU, DX, DY, DVY⟩ (fun hH => ?_)
  clear hK K hS
  have hS := hH
  clear hH
  try simp only [Act.put, List.setIfInBounds_toArray, List.set_cons_zero, List.set_cons_succ, List.getElem_toArray, List.getElem_cons_zero, List.getElem_cons_succ]
  refine wpAnyH_take (i := 19) (v := ?v19_36) rfl (by kernel_rfl) (by kernel_rfl) (by kernel_rfl) (fun _ _ _ h => h) (Or.inl ⟨by rfl, ?hy19_36⟩) (by assumption) ?rest19_36
  case hy19_36 => (intro w9 hSw; clear hSw; go_simp; try with_reducible rfl)
  try simp only [Act.put, List.setIfInBounds_toArray, List.set_cons_zero, List.set_cons_succ, List.getElem_toArray, List.getElem_cons_zero, List.getElem_cons_succ]
  refine wpAnyH_take (i := 20) (v := ?v20_37) rfl (by kernel_rfl) (by kernel_rfl) (by kernel_rfl) (fun _ _ _ h => h) (Or.inl ⟨by rfl, ?hy20_37⟩) (by assumption) ?rest20_37
  case hy20_37 => (intro w9 hSw; clear hSw; go_simp; try with_reducible rfl)
  try simp only [Act.put, List.setIfInBounds_toArray, List.set_cons_zero, List.set_cons_succ, List.getElem_toArray, List.getElem_cons_zero, List.getElem_cons_succ]
  refine wpAnyH_done (by kernel_rfl) ?_ _
  go_wp2_with fail
  go_ret
  exact ⟨rfl, bz⟩
theorem KernelsGemv_law {w : World} {RU CU : Int} {AU : Option Addr} {nU cU : Nat} {LU : List Int} {RX CX : Int} {AX : Option Addr} {nX cX : Nat} {LX : List Int} {RY CY : Int} {AY : Option Addr} {nY cY : Nat} {LY : List Int} {a b : Nat} {turned : Bool} (ba : a ≤ 18446744073709551615) (bb : b ≤ 18446744073709551615) (hU : FL w AU nU cU LU) (hX : FL w AX nX cX LX) (hY : FL w AY nY cY LY) : Calls Try.prog 5 #[.float .f64 a, mV RU CU AU nU cU, mV RX CX AX nX cX, .float .f64 b, mV RY CY AY nY cY, .bool turned] w (Ans w (.bool true)) := by
  cases b0 : bigM RU CU nU
  · cases b1 : bigM RX CX nX
    · cases b2 : bigM RY CY nY
      · cases hf : (vecM RX CX && vecM RY CY && !(CU != (nX : Int)) && !(RU != (nY : Int)))
        · exact KernelsGemv_no ba bb hU hX hY b0 b1 b2 hf
        · exact KernelsGemv_yes ba bb hU hX hY b0 b1 b2 hf
      · exact KernelsGemv_big3 ba bb hU hX hY b0 b1 b2
    · exact KernelsGemv_big2 ba bb hU hX hY b0 b1
  · exact KernelsGemv_big1 ba bb hU hX hY b0
end Go.Proofs.Ytfelmkkkaphkpaa
