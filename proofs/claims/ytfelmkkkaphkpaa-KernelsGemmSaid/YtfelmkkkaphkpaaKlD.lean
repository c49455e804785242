/-
  Layer 8: the law KernelsGemm. (Written by wip/tools/gen_klc.py.)
-/
import Derived.Test.YtfelmkkkaphkpaaKlA
import Derived.Test.YtfelmkkkaphkpaaKnV
namespace Go.Proofs.Ytfelmkkkaphkpaa
open Go.RowKit Go.Bw Go.Sort Go.Shelf
set_option linter.unusedVariables false
set_option linter.unusedSimpArgs false

section
variable {w : World} {B B2 B3 : Nat} {U X Y : Vu} {s g cap c s2 g2 cap2 c2 s3 g3 cap3 c3 a b : Nat} {l l2 l3 : List Int} {RU CU RX CX RY CY : Int} {LU LX LY : List Int}
theorem gemm_fit (hU : Ov w B U s g cap c l RU CU LU) (hX : Ov w B2 X s2 g2 cap2 c2 l2 RX CX LX) (hY : Ov w B3 Y s3 g3 cap3 c3 l3 RY CY LY) : (U.C == X.R && szd Y U.R X.C) = (!(CU != RX) && !(RY != RU) && !(CY != CX)) := by
  unfold szd
  rw [hU.R, hU.C, hX.R, hX.C, hY.R, hY.C]
  simp only [bne, Bool.not_not, Bool.and_assoc]
theorem gemm_no (hU : Ov w B U s g cap c l RU CU LU) (hX : Ov w B2 X s2 g2 cap2 c2 l2 RX CX LX) (hY : Ov w B3 Y s3 g3 cap3 c3 l3 RY CY LY) (hf : (!(CU != RX) && !(RY != RU) && !(CY != CX)) = false) :
    Calls Try.prog 43 #[.float .f64 a, U.V, X.V, .float .f64 b, Y.V] w (Ans w (.int .i64 8)) :=
  Gemm_no hU.sv hX.sv hY.sv (refE_8 (by rw [gemm_fit hU hX hY]; exact hf) (mem3 hU.ne hX.ne hY.ne)) (by omega)
theorem gemm_yes (ba : a ≤ 18446744073709551615) (bb : b ≤ 18446744073709551615) (hU : Ov w B U s g cap c l RU CU LU) (hX : Ov w B2 X s2 g2 cap2 c2 l2 RX CX LX) (hY : Ov w B3 Y s3 g3 cap3 c3 l3 RY CY LY) {m p q : Nat} (hm : RY = m) (hq : CY = q) (hp : CU = p) {ny : Nat} (ey : LY.length = ny) (hf : (!(CU != RX) && !(RY != RU) && !(CY != CX)) = true) :
    Calls Try.prog 43 #[.float .f64 a, U.V, X.V, .float .f64 b, Y.V] w (OvK w B3 Y s3 g3 cap3 c3 RY CY ny (tg (fun _ _ => true) (fun i j => bothA (af b) (ma LY q i j) (af a) (sumA (fun t => aop .mul (ma LU p i t) (ma LX q t j)) p)) LY q)) := by
  refine (Gemm_yes (m := m) (q := q) (p := p) ba bb hU.sv hX.sv hY.sv (refE_ok (by rw [gemm_fit hU hX hY]; exact hf) (mem3 hU.ne hX.ne hY.ne)) hY.vk hY.st rfl hY.inj (hY.R.trans hm) (hY.C.trans hq) (hU.C.trans hp)).mono ?_
  intro e w1 h
  exact ovk hY h hq ey (fun k hk => rfl)
end
set_option maxRecDepth 100000 in
set_option maxHeartbeats 8000000 in
theorem KernelsGemm_big1 {w : World} {RU CU : Int} {AU : Option Addr} {nU cU : Nat} {LU : List Int} {RX CX : Int} {AX : Option Addr} {nX cX : Nat} {LX : List Int} {RY CY : Int} {AY : Option Addr} {nY cY : Nat} {LY : List Int} {a b : Nat} {turned : Bool} (ba : a ≤ 18446744073709551615) (bb : b ≤ 18446744073709551615) (hU : FL w AU nU cU LU) (hX : FL w AX nX cX LX) (hY : FL w AY nY cY LY) (bU : bigM RU CU nU = true) : Calls Try.prog 9 #[.float .f64 a, mV RU CU AU nU cU, mV RX CX AX nX cX, .float .f64 b, mV RY CY AY nY cY, .bool turned] w (Ans w (.bool true)) := by
  have pbU := fun W => big_any RU CU AU nU cU hU.max W
  rw [bU] at pbU
  clear bU
  have DU := Blk.new w [.int .i64 RU, .int .i64 CU, .slice AU nU cU] 24
  have DX := Blk.new (w.alloc (.cells #[.int .i64 RU, .int .i64 CU, .slice AU nU cU] 24)) [.int .i64 RX, .int .i64 CX, .slice AX nX cX] 24
  replace DU := DU.alloc (.cells #[.int .i64 RX, .int .i64 CX, .slice AX nX cX] 24)
  simp only [World.size_alloc] at DX
  have DY := Blk.new ((w.alloc (.cells #[.int .i64 RU, .int .i64 CU, .slice AU nU cU] 24)).alloc (.cells #[.int .i64 RX, .int .i64 CX, .slice AX nX cX] 24)) [.int .i64 RY, .int .i64 CY, .slice AY nY cY] 24
  replace DU := DU.alloc (.cells #[.int .i64 RY, .int .i64 CY, .slice AY nY cY] 24)
  replace DX := DX.alloc (.cells #[.int .i64 RY, .int .i64 CY, .slice AY nY cY] 24)
  simp only [World.size_alloc] at DY
  have bz := (((Below.refl _ w).alloc (Nat.le_refl _) (.cells #[.int .i64 RU, .int .i64 CU, .slice AU nU cU] 24)).alloc (by simp <;> omega) (.cells #[.int .i64 RX, .int .i64 CX, .slice AX nX cX] 24)).alloc (by simp <;> omega) (.cells #[.int .i64 RY, .int .i64 CY, .slice AY nY cY] 24)
  have hsz0 : (((w.alloc (.cells #[.int .i64 RU, .int .i64 CU, .slice AU nU cU] 24)).alloc (.cells #[.int .i64 RX, .int .i64 CX, .slice AX nX cX] 24)).alloc (.cells #[.int .i64 RY, .int .i64 CY, .slice AY nY cY] 24)).heap.size = w.heap.size + 3 := by simp
  have hFU := hU.lo.on bz
  clear hU
  have hFX := hX.lo.on bz
  clear hX
  have hFY := hY.lo.on bz
  clear hY
  go_enter Try.func9, Try.ntmps9
  obtain ⟨kU_0, kU_1, kU_2, kU_3, kU_4, kU_5⟩ := Mbx.cells DU
  obtain ⟨kX_0, kX_1, kX_2, kX_3, kX_4, kX_5⟩ := Mbx.cells DX
  obtain ⟨kY_0, kY_1, kY_2, kY_3, kY_4, kY_5⟩ := Mbx.cells DY
  go_wp2_with fail
  with_reducible refine (pbU _).mono ?_
  rintro e w1 ⟨rfl, hb⟩
  clear kU_0 kU_1 kU_2 kU_3 kU_4 kU_5 kX_0 kX_1 kX_2 kX_3 kX_4 kX_5 kY_0 kY_1 kY_2 kY_3 kY_4 kY_5
  replace DU := DU.on hb
  replace DX := DX.on hb
  replace DY := DY.on hb
  replace hFU := hFU.on hb
  replace hFX := hFX.on hb
  replace hFY := hFY.on hb
  replace bz := bz.trans (hb.mono bz.size)
  clear hb
  go_wp2_with fail
  with_reducible refine (known_any _).mono ?_
  rintro e w2 ⟨rfl, hb⟩
  replace DU := DU.on hb
  replace DX := DX.on hb
  replace DY := DY.on hb
  replace hFU := hFU.on hb
  replace hFX := hFX.on hb
  replace hFY := hFY.on hb
  replace bz := bz.trans (hb.mono bz.size)
  clear hb
  go_wp2_with fail
  go_ret
  exact ⟨rfl, bz⟩
set_option maxRecDepth 100000 in
set_option maxHeartbeats 8000000 in
theorem KernelsGemm_big2 {w : World} {RU CU : Int} {AU : Option Addr} {nU cU : Nat} {LU : List Int} {RX CX : Int} {AX : Option Addr} {nX cX : Nat} {LX : List Int} {RY CY : Int} {AY : Option Addr} {nY cY : Nat} {LY : List Int} {a b : Nat} {turned : Bool} (ba : a ≤ 18446744073709551615) (bb : b ≤ 18446744073709551615) (hU : FL w AU nU cU LU) (hX : FL w AX nX cX LX) (hY : FL w AY nY cY LY) (bU : bigM RU CU nU = false) (bX : bigM RX CX nX = true) : Calls Try.prog 9 #[.float .f64 a, mV RU CU AU nU cU, mV RX CX AX nX cX, .float .f64 b, mV RY CY AY nY cY, .bool turned] w (Ans w (.bool true)) := by
  have pbU := fun W => big_any RU CU AU nU cU hU.max W
  rw [bU] at pbU
  clear bU
  have pbX := fun W => big_any RX CX AX nX cX hX.max W
  rw [bX] at pbX
  clear bX
  have DU := Blk.new w [.int .i64 RU, .int .i64 CU, .slice AU nU cU] 24
  have DX := Blk.new (w.alloc (.cells #[.int .i64 RU, .int .i64 CU, .slice AU nU cU] 24)) [.int .i64 RX, .int .i64 CX, .slice AX nX cX] 24
  replace DU := DU.alloc (.cells #[.int .i64 RX, .int .i64 CX, .slice AX nX cX] 24)
  simp only [World.size_alloc] at DX
  have DY := Blk.new ((w.alloc (.cells #[.int .i64 RU, .int .i64 CU, .slice AU nU cU] 24)).alloc (.cells #[.int .i64 RX, .int .i64 CX, .slice AX nX cX] 24)) [.int .i64 RY, .int .i64 CY, .slice AY nY cY] 24
  replace DU := DU.alloc (.cells #[.int .i64 RY, .int .i64 CY, .slice AY nY cY] 24)
  replace DX := DX.alloc (.cells #[.int .i64 RY, .int .i64 CY, .slice AY nY cY] 24)
  simp only [World.size_alloc] at DY
  have bz := (((Below.refl _ w).alloc (Nat.le_refl _) (.cells #[.int .i64 RU, .int .i64 CU, .slice AU nU cU] 24)).alloc (by simp <;> omega) (.cells #[.int .i64 RX, .int .i64 CX, .slice AX nX cX] 24)).alloc (by simp <;> omega) (.cells #[.int .i64 RY, .int .i64 CY, .slice AY nY cY] 24)
  have hsz0 : (((w.alloc (.cells #[.int .i64 RU, .int .i64 CU, .slice AU nU cU] 24)).alloc (.cells #[.int .i64 RX, .int .i64 CX, .slice AX nX cX] 24)).alloc (.cells #[.int .i64 RY, .int .i64 CY, .slice AY nY cY] 24)).heap.size = w.heap.size + 3 := by simp
  have hFU := hU.lo.on bz
  clear hU
  have hFX := hX.lo.on bz
  clear hX
  have hFY := hY.lo.on bz
  clear hY
  go_enter Try.func9, Try.ntmps9
  obtain ⟨kU_0, kU_1, kU_2, kU_3, kU_4, kU_5⟩ := Mbx.cells DU
  obtain ⟨kX_0, kX_1, kX_2, kX_3, kX_4, kX_5⟩ := Mbx.cells DX
  obtain ⟨kY_0, kY_1, kY_2, kY_3, kY_4, kY_5⟩ := Mbx.cells DY
  go_wp2_with fail
  with_reducible refine (pbU _).mono ?_
  rintro e w1 ⟨rfl, hb⟩
  clear kU_0 kU_1 kU_2 kU_3 kU_4 kU_5 kX_0 kX_1 kX_2 kX_3 kX_4 kX_5 kY_0 kY_1 kY_2 kY_3 kY_4 kY_5
  replace DU := DU.on hb
  replace DX := DX.on hb
  replace DY := DY.on hb
  replace hFU := hFU.on hb
  replace hFX := hFX.on hb
  replace hFY := hFY.on hb
  replace bz := bz.trans (hb.mono bz.size)
  clear hb
  obtain ⟨kU_0, kU_1, kU_2, kU_3, kU_4, kU_5⟩ := Mbx.cells DU
  obtain ⟨kX_0, kX_1, kX_2, kX_3, kX_4, kX_5⟩ := Mbx.cells DX
  obtain ⟨kY_0, kY_1, kY_2, kY_3, kY_4, kY_5⟩ := Mbx.cells DY
  go_wp2_with fail
  with_reducible refine (pbX _).mono ?_
  rintro e w2 ⟨rfl, hb⟩
  clear kU_0 kU_1 kU_2 kU_3 kU_4 kU_5 kX_0 kX_1 kX_2 kX_3 kX_4 kX_5 kY_0 kY_1 kY_2 kY_3 kY_4 kY_5
  replace DU := DU.on hb
  replace DX := DX.on hb
  replace DY := DY.on hb
  replace hFU := hFU.on hb
  replace hFX := hFX.on hb
  replace hFY := hFY.on hb
  replace bz := bz.trans (hb.mono bz.size)
  clear hb
  go_wp2_with fail
  with_reducible refine (known_any _).mono ?_
  rintro e w3 ⟨rfl, hb⟩
  replace DU := DU.on hb
  replace DX := DX.on hb
  replace DY := DY.on hb
  replace hFU := hFU.on hb
  replace hFX := hFX.on hb
  replace hFY := hFY.on hb
  replace bz := bz.trans (hb.mono bz.size)
  clear hb
  go_wp2_with fail
  go_ret
  exact ⟨rfl, bz⟩
set_option maxRecDepth 100000 in
set_option maxHeartbeats 8000000 in
theorem KernelsGemm_big3 {w : World} {RU CU : Int} {AU : Option Addr} {nU cU : Nat} {LU : List Int} {RX CX : Int} {AX : Option Addr} {nX cX : Nat} {LX : List Int} {RY CY : Int} {AY : Option Addr} {nY cY : Nat} {LY : List Int} {a b : Nat} {turned : Bool} (ba : a ≤ 18446744073709551615) (bb : b ≤ 18446744073709551615) (hU : FL w AU nU cU LU) (hX : FL w AX nX cX LX) (hY : FL w AY nY cY LY) (bU : bigM RU CU nU = false) (bX : bigM RX CX nX = false) (bY : bigM RY CY nY = true) : Calls Try.prog 9 #[.float .f64 a, mV RU CU AU nU cU, mV RX CX AX nX cX, .float .f64 b, mV RY CY AY nY cY, .bool turned] w (Ans w (.bool true)) := by
  have pbU := fun W => big_any RU CU AU nU cU hU.max W
  rw [bU] at pbU
  clear bU
  have pbX := fun W => big_any RX CX AX nX cX hX.max W
  rw [bX] at pbX
  clear bX
  have pbY := fun W => big_any RY CY AY nY cY hY.max W
  rw [bY] at pbY
  clear bY
  have DU := Blk.new w [.int .i64 RU, .int .i64 CU, .slice AU nU cU] 24
  have DX := Blk.new (w.alloc (.cells #[.int .i64 RU, .int .i64 CU, .slice AU nU cU] 24)) [.int .i64 RX, .int .i64 CX, .slice AX nX cX] 24
  replace DU := DU.alloc (.cells #[.int .i64 RX, .int .i64 CX, .slice AX nX cX] 24)
  simp only [World.size_alloc] at DX
  have DY := Blk.new ((w.alloc (.cells #[.int .i64 RU, .int .i64 CU, .slice AU nU cU] 24)).alloc (.cells #[.int .i64 RX, .int .i64 CX, .slice AX nX cX] 24)) [.int .i64 RY, .int .i64 CY, .slice AY nY cY] 24
  replace DU := DU.alloc (.cells #[.int .i64 RY, .int .i64 CY, .slice AY nY cY] 24)
  replace DX := DX.alloc (.cells #[.int .i64 RY, .int .i64 CY, .slice AY nY cY] 24)
  simp only [World.size_alloc] at DY
  have bz := (((Below.refl _ w).alloc (Nat.le_refl _) (.cells #[.int .i64 RU, .int .i64 CU, .slice AU nU cU] 24)).alloc (by simp <;> omega) (.cells #[.int .i64 RX, .int .i64 CX, .slice AX nX cX] 24)).alloc (by simp <;> omega) (.cells #[.int .i64 RY, .int .i64 CY, .slice AY nY cY] 24)
  have hsz0 : (((w.alloc (.cells #[.int .i64 RU, .int .i64 CU, .slice AU nU cU] 24)).alloc (.cells #[.int .i64 RX, .int .i64 CX, .slice AX nX cX] 24)).alloc (.cells #[.int .i64 RY, .int .i64 CY, .slice AY nY cY] 24)).heap.size = w.heap.size + 3 := by simp
  have hFU := hU.lo.on bz
  clear hU
  have hFX := hX.lo.on bz
  clear hX
  have hFY := hY.lo.on bz
  clear hY
  go_enter Try.func9, Try.ntmps9
  obtain ⟨kU_0, kU_1, kU_2, kU_3, kU_4, kU_5⟩ := Mbx.cells DU
  obtain ⟨kX_0, kX_1, kX_2, kX_3, kX_4, kX_5⟩ := Mbx.cells DX
  obtain ⟨kY_0, kY_1, kY_2, kY_3, kY_4, kY_5⟩ := Mbx.cells DY
  go_wp2_with fail
  with_reducible refine (pbU _).mono ?_
  rintro e w1 ⟨rfl, hb⟩
  clear kU_0 kU_1 kU_2 kU_3 kU_4 kU_5 kX_0 kX_1 kX_2 kX_3 kX_4 kX_5 kY_0 kY_1 kY_2 kY_3 kY_4 kY_5
  replace DU := DU.on hb
  replace DX := DX.on hb
  replace DY := DY.on hb
  replace hFU := hFU.on hb
  replace hFX := hFX.on hb
  replace hFY := hFY.on hb
  replace bz := bz.trans (hb.mono bz.size)
  clear hb
  obtain ⟨kU_0, kU_1, kU_2, kU_3, kU_4, kU_5⟩ := Mbx.cells DU
  obtain ⟨kX_0, kX_1, kX_2, kX_3, kX_4, kX_5⟩ := Mbx.cells DX
  obtain ⟨kY_0, kY_1, kY_2, kY_3, kY_4, kY_5⟩ := Mbx.cells DY
  go_wp2_with fail
  with_reducible refine (pbX _).mono ?_
  rintro e w2 ⟨rfl, hb⟩
  clear kU_0 kU_1 kU_2 kU_3 kU_4 kU_5 kX_0 kX_1 kX_2 kX_3 kX_4 kX_5 kY_0 kY_1 kY_2 kY_3 kY_4 kY_5
  replace DU := DU.on hb
  replace DX := DX.on hb
  replace DY := DY.on hb
  replace hFU := hFU.on hb
  replace hFX := hFX.on hb
  replace hFY := hFY.on hb
  replace bz := bz.trans (hb.mono bz.size)
  clear hb
  obtain ⟨kU_0, kU_1, kU_2, kU_3, kU_4, kU_5⟩ := Mbx.cells DU
  obtain ⟨kX_0, kX_1, kX_2, kX_3, kX_4, kX_5⟩ := Mbx.cells DX
  obtain ⟨kY_0, kY_1, kY_2, kY_3, kY_4, kY_5⟩ := Mbx.cells DY
  go_wp2_with fail
  with_reducible refine (pbY _).mono ?_
  rintro e w3 ⟨rfl, hb⟩
  clear kU_0 kU_1 kU_2 kU_3 kU_4 kU_5 kX_0 kX_1 kX_2 kX_3 kX_4 kX_5 kY_0 kY_1 kY_2 kY_3 kY_4 kY_5
  replace DU := DU.on hb
  replace DX := DX.on hb
  replace DY := DY.on hb
  replace hFU := hFU.on hb
  replace hFX := hFX.on hb
  replace hFY := hFY.on hb
  replace bz := bz.trans (hb.mono bz.size)
  clear hb
  go_wp2_with fail
  with_reducible refine (known_any _).mono ?_
  rintro e w4 ⟨rfl, hb⟩
  replace DU := DU.on hb
  replace DX := DX.on hb
  replace DY := DY.on hb
  replace hFU := hFU.on hb
  replace hFX := hFX.on hb
  replace hFY := hFY.on hb
  replace bz := bz.trans (hb.mono bz.size)
  clear hb
  go_wp2_with fail
  go_ret
  exact ⟨rfl, bz⟩
set_option maxRecDepth 100000 in
set_option maxHeartbeats 8000000 in
theorem KernelsGemm_no {w : World} {RU CU : Int} {AU : Option Addr} {nU cU : Nat} {LU : List Int} {RX CX : Int} {AX : Option Addr} {nX cX : Nat} {LX : List Int} {RY CY : Int} {AY : Option Addr} {nY cY : Nat} {LY : List Int} {a b : Nat} {turned : Bool} (ba : a ≤ 18446744073709551615) (bb : b ≤ 18446744073709551615) (hU : FL w AU nU cU LU) (hX : FL w AX nX cX LX) (hY : FL w AY nY cY LY) (bU : bigM RU CU nU = false) (bX : bigM RX CX nX = false) (bY : bigM RY CY nY = false) (hf : (!(CU != RX) && !(RY != RU) && !(CY != CX)) = false) : Calls Try.prog 9 #[.float .f64 a, mV RU CU AU nU cU, mV RX CX AX nX cX, .float .f64 b, mV RY CY AY nY cY, .bool turned] w (Ans w (.bool true)) := by
  have pbU := fun W => big_any RU CU AU nU cU hU.max W
  rw [bU] at pbU
  obtain ⟨zU, eU, uU⟩ := big_is bU
  have HSU := Lib.hid (And.intro zU eU)
  clear bU zU eU
  have pbX := fun W => big_any RX CX AX nX cX hX.max W
  rw [bX] at pbX
  obtain ⟨zX, eX, uX⟩ := big_is bX
  have HSX := Lib.hid (And.intro zX eX)
  clear bX zX eX
  have pbY := fun W => big_any RY CY AY nY cY hY.max W
  rw [bY] at pbY
  obtain ⟨zY, eY, uY⟩ := big_is bY
  have HSY := Lib.hid (And.intro zY eY)
  clear bY zY eY
  have EU := Lib.hid hU.1
  have mxU := hU.max
  have EX := Lib.hid hX.1
  have mxX := hX.max
  have EY := Lib.hid hY.1
  have mxY := hY.max
  have HFT := Lib.hid hf
  clear hf
  have DU := Blk.new w [.int .i64 RU, .int .i64 CU, .slice AU nU cU] 24
  have DX := Blk.new (w.alloc (.cells #[.int .i64 RU, .int .i64 CU, .slice AU nU cU] 24)) [.int .i64 RX, .int .i64 CX, .slice AX nX cX] 24
  replace DU := DU.alloc (.cells #[.int .i64 RX, .int .i64 CX, .slice AX nX cX] 24)
  simp only [World.size_alloc] at DX
  have DY := Blk.new ((w.alloc (.cells #[.int .i64 RU, .int .i64 CU, .slice AU nU cU] 24)).alloc (.cells #[.int .i64 RX, .int .i64 CX, .slice AX nX cX] 24)) [.int .i64 RY, .int .i64 CY, .slice AY nY cY] 24
  replace DU := DU.alloc (.cells #[.int .i64 RY, .int .i64 CY, .slice AY nY cY] 24)
  replace DX := DX.alloc (.cells #[.int .i64 RY, .int .i64 CY, .slice AY nY cY] 24)
  simp only [World.size_alloc] at DY
  have bz := (((Below.refl _ w).alloc (Nat.le_refl _) (.cells #[.int .i64 RU, .int .i64 CU, .slice AU nU cU] 24)).alloc (by simp <;> omega) (.cells #[.int .i64 RX, .int .i64 CX, .slice AX nX cX] 24)).alloc (by simp <;> omega) (.cells #[.int .i64 RY, .int .i64 CY, .slice AY nY cY] 24)
  have hsz0 : (((w.alloc (.cells #[.int .i64 RU, .int .i64 CU, .slice AU nU cU] 24)).alloc (.cells #[.int .i64 RX, .int .i64 CX, .slice AX nX cX] 24)).alloc (.cells #[.int .i64 RY, .int .i64 CY, .slice AY nY cY] 24)).heap.size = w.heap.size + 3 := by simp
  have hFU := hU.lo.on bz
  clear hU
  have hFX := hX.lo.on bz
  clear hX
  have hFY := hY.lo.on bz
  clear hY
  go_enter Try.func9, Try.ntmps9
  obtain ⟨kU_0, kU_1, kU_2, kU_3, kU_4, kU_5⟩ := Mbx.cells DU
  obtain ⟨kX_0, kX_1, kX_2, kX_3, kX_4, kX_5⟩ := Mbx.cells DX
  obtain ⟨kY_0, kY_1, kY_2, kY_3, kY_4, kY_5⟩ := Mbx.cells DY
  go_wp2_with fail
  with_reducible refine (pbU _).mono ?_
  rintro e w1 ⟨rfl, hb⟩
  clear kU_0 kU_1 kU_2 kU_3 kU_4 kU_5 kX_0 kX_1 kX_2 kX_3 kX_4 kX_5 kY_0 kY_1 kY_2 kY_3 kY_4 kY_5
  replace DU := DU.on hb
  replace DX := DX.on hb
  replace DY := DY.on hb
  replace hFU := hFU.on hb
  replace hFX := hFX.on hb
  replace hFY := hFY.on hb
  replace bz := bz.trans (hb.mono bz.size)
  clear hb
  obtain ⟨kU_0, kU_1, kU_2, kU_3, kU_4, kU_5⟩ := Mbx.cells DU
  obtain ⟨kX_0, kX_1, kX_2, kX_3, kX_4, kX_5⟩ := Mbx.cells DX
  obtain ⟨kY_0, kY_1, kY_2, kY_3, kY_4, kY_5⟩ := Mbx.cells DY
  go_wp2_with fail
  with_reducible refine (pbX _).mono ?_
  rintro e w2 ⟨rfl, hb⟩
  clear kU_0 kU_1 kU_2 kU_3 kU_4 kU_5 kX_0 kX_1 kX_2 kX_3 kX_4 kX_5 kY_0 kY_1 kY_2 kY_3 kY_4 kY_5
  replace DU := DU.on hb
  replace DX := DX.on hb
  replace DY := DY.on hb
  replace hFU := hFU.on hb
  replace hFX := hFX.on hb
  replace hFY := hFY.on hb
  replace bz := bz.trans (hb.mono bz.size)
  clear hb
  obtain ⟨kU_0, kU_1, kU_2, kU_3, kU_4, kU_5⟩ := Mbx.cells DU
  obtain ⟨kX_0, kX_1, kX_2, kX_3, kX_4, kX_5⟩ := Mbx.cells DX
  obtain ⟨kY_0, kY_1, kY_2, kY_3, kY_4, kY_5⟩ := Mbx.cells DY
  go_wp2_with fail
  with_reducible refine (pbY _).mono ?_
  rintro e w3 ⟨rfl, hb⟩
  clear kU_0 kU_1 kU_2 kU_3 kU_4 kU_5 kX_0 kX_1 kX_2 kX_3 kX_4 kX_5 kY_0 kY_1 kY_2 kY_3 kY_4 kY_5
  replace DU := DU.on hb
  replace DX := DX.on hb
  replace DY := DY.on hb
  replace hFU := hFU.on hb
  replace hFX := hFX.on hb
  replace hFY := hFY.on hb
  replace bz := bz.trans (hb.mono bz.size)
  clear hb
  obtain ⟨kU_0, kU_1, kU_2, kU_3, kU_4, kU_5⟩ := Mbx.cells DU
  obtain ⟨kX_0, kX_1, kX_2, kX_3, kX_4, kX_5⟩ := Mbx.cells DX
  obtain ⟨kY_0, kY_1, kY_2, kY_3, kY_4, kY_5⟩ := Mbx.cells DY
  have hszw : w.heap.size + 3 ≤ w3.heap.size := by have := DY.lt; omega
  go_wp2_with fail
  with_reducible refine (of_any turned hFY.fl HSY.out.1 HSY.out.2).mono ?_
  rintro e w4 ⟨VY, sVY, gVY, capVY, cVY, lVY, rfl, hVY, hb⟩
  clear kU_0 kU_1 kU_2 kU_3 kU_4 kU_5 kX_0 kX_1 kX_2 kX_3 kX_4 kX_5 kY_0 kY_1 kY_2 kY_3 kY_4 kY_5
  replace DU := DU.on hb
  replace DX := DX.on hb
  replace DY := DY.on hb
  replace hFU := hFU.on hb
  replace hFX := hFX.on hb
  replace hFY := hFY.on hb
  replace bz := bz.trans (hb.mono bz.size)
  clear hb
  have hgy : w.heap.size + 3 ≤ gVY ∧ w.heap.size + 3 ≤ sVY := by have h1 := hVY.st.lo; have h2 := hVY.st.gt.1; omega
  have hlt := And.intro hVY.st.lt hVY.st.gt.2
  have DVY := Blk.new w4 (VY).L 30
  obtain ⟨HDVY, eHDVY⟩ : ∃ H, w4.heap.size = H := ⟨_, rfl⟩
  rw [eHDVY] at DVY
  replace DU := DU.on ((Below.refl _ _).alloc (Nat.le_refl _) (.cells (VY).L.toArray 30))
  replace DX := DX.on ((Below.refl _ _).alloc (Nat.le_refl _) (.cells (VY).L.toArray 30))
  replace DY := DY.on ((Below.refl _ _).alloc (Nat.le_refl _) (.cells (VY).L.toArray 30))
  replace hFU := hFU.on ((Below.refl _ _).alloc (Nat.le_refl _) (.cells (VY).L.toArray 30))
  replace hFX := hFX.on ((Below.refl _ _).alloc (Nat.le_refl _) (.cells (VY).L.toArray 30))
  replace hFY := hFY.on ((Below.refl _ _).alloc (Nat.le_refl _) (.cells (VY).L.toArray 30))
  replace hVY := hVY.on ((Below.refl _ _).alloc (Nat.le_refl _) (.cells (VY).L.toArray 30))
  replace bz := bz.alloc bz.size (.cells (VY).L.toArray 30)
  have HHDVY := Lib.hid eHDVY
  rw [eHDVY] at hlt
  clear hszw
  go_wp2_with fail
  replace DU := DU.drew
  replace DX := DX.drew
  replace DY := DY.drew
  replace hFU := hFU.drew
  replace hFX := hFX.drew
  replace hFY := hFY.drew
  replace hVY := hVY.drew
  replace DVY := DVY.drew
  replace bz := bz.drew
  refine wp_region_held_drew (S := fun w9 : World => Mbx w9 w.heap.size RU CU AU nU cU ∧ Mbx w9 (w.heap.size + 1) RX CX AX nX cX ∧ Mbx w9 (w.heap.size + 2) RY CY AY nY cY ∧ Vbx w9 HDVY VY) (by kernel_rfl) ⟨DU, DX, DY, DVY⟩ (fun hS => ?_)
  generalize (w4.alloc (.cells (VY).L.toArray 30)).drew = wd4 at hS DU DX DY hFU hFX hFY hVY DVY  bz ⊢
  refine wpAnyH_take (i := 0) (v := ?v0_27) rfl (by kernel_rfl) (by kernel_rfl) (by kernel_rfl) (fun _ _ _ h => h) (Or.inl ⟨by rfl, ?hy0_27⟩) (by assumption) ?rest0_27
  case hy0_27 => (intro w9 hSw; clear hSw; go_simp; try with_reducible rfl)
  try simp only [Act.put, List.setIfInBounds_toArray, List.set_cons_zero, List.set_cons_succ, List.getElem_toArray, List.getElem_cons_zero, List.getElem_cons_succ]
  refine wpAnyH_take (i := 1) (v := ?v1_28) rfl (by kernel_rfl) (by kernel_rfl) (by kernel_rfl) (fun _ _ _ h => h) (Or.inl ⟨by rfl, ?hy1_28⟩) (by assumption) ?rest1_28
  case hy1_28 => (intro w9 hSw; obtain ⟨m0, m1, m2, m3⟩ := hSw; obtain ⟨q0_0, q0_1, q0_2, q0_3, q0_4, q0_5⟩ := Mbx.cells m0; obtain ⟨q1_0, q1_1, q1_2, q1_3, q1_4, q1_5⟩ := Mbx.cells m1; obtain ⟨q2_0, q2_1, q2_2, q2_3, q2_4, q2_5⟩ := Mbx.cells m2; go_simp; try with_reducible rfl)
  try simp only [Act.put, List.setIfInBounds_toArray, List.set_cons_zero, List.set_cons_succ, List.getElem_toArray, List.getElem_cons_zero, List.getElem_cons_succ]
  refine wpAnyH_take (i := 3) (v := ?v3_29) rfl (by kernel_rfl) (by kernel_rfl) (by kernel_rfl) (fun _ _ _ h => h) (Or.inl ⟨by rfl, ?hy3_29⟩) (by assumption) ?rest3_29
  case hy3_29 => (intro w9 hSw; obtain ⟨m0, m1, m2, m3⟩ := hSw; obtain ⟨q0_0, q0_1, q0_2, q0_3, q0_4, q0_5⟩ := Mbx.cells m0; obtain ⟨q1_0, q1_1, q1_2, q1_3, q1_4, q1_5⟩ := Mbx.cells m1; obtain ⟨q2_0, q2_1, q2_2, q2_3, q2_4, q2_5⟩ := Mbx.cells m2; go_simp; try with_reducible rfl)
  try simp only [Act.put, List.setIfInBounds_toArray, List.set_cons_zero, List.set_cons_succ, List.getElem_toArray, List.getElem_cons_zero, List.getElem_cons_succ]
  refine wpAnyH_take (i := 4) (v := ?v4_30) rfl (by kernel_rfl) (by kernel_rfl) (by kernel_rfl) (fun _ _ _ h => h) (Or.inl ⟨by rfl, ?hy4_30⟩) (by assumption) ?rest4_30
  case hy4_30 => (intro w9 hSw; clear hSw; go_simp; try with_reducible rfl)
  try simp only [Act.put, List.setIfInBounds_toArray, List.set_cons_zero, List.set_cons_succ, List.getElem_toArray, List.getElem_cons_zero, List.getElem_cons_succ]
  refine wpAnyH_take (i := 6) (v := ?v6_31) rfl (by kernel_rfl) (by kernel_rfl) (by kernel_rfl) (fun _ _ _ h => h) (Or.inl ⟨by rfl, ?hy6_31⟩) (by assumption) ?rest6_31
  case hy6_31 => (intro w9 hSw; clear hSw; go_simp; try with_reducible rfl)
  try simp only [Act.put, List.setIfInBounds_toArray, List.set_cons_zero, List.set_cons_succ, List.getElem_toArray, List.getElem_cons_zero, List.getElem_cons_succ]
  refine wpAnyH_take (i := 7) (v := ?v7_32) rfl (by kernel_rfl) (by kernel_rfl) (by kernel_rfl) (fun _ _ _ h => h) (Or.inl ⟨by rfl, ?hy7_32⟩) (by assumption) ?rest7_32
  case hy7_32 => (intro w9 hSw; obtain ⟨m0, m1, m2, m3⟩ := hSw; refine (ld_v (by rfl) (by kernel_rfl) m3).trans ?_; with_reducible rfl)
  try simp only [Act.put, List.setIfInBounds_toArray, List.set_cons_zero, List.set_cons_succ, List.getElem_toArray, List.getElem_cons_zero, List.getElem_cons_succ]
  refine wpAnyH_ready (rs := [2]) (by kernel_rfl) (by simp) ?_
  refine AllReadyH.cons rfl (fun K hK => ?_) AllReadyH.nil
  go_simp
  with_reducible refine (of_any false hFU.fl HSU.out.1 HSU.out.2).mono ?_
  rintro e w5 ⟨VU, sVU, gVU, capVU, cVU, lVU, rfl, hVU, hb⟩
  replace DU := DU.on hb
  replace DX := DX.on hb
  replace DY := DY.on hb
  replace hFU := hFU.on hb
  replace hFX := hFX.on hb
  replace hFY := hFY.on hb
  replace hVY := hVY.on hb
  replace DVY := DVY.on hb
  replace bz := bz.trans (hb.mono bz.size)
  clear hb
  refine hK.out _ _ ⟨DU, DX, DY, DVY⟩ (fun hH => ?_)
  clear hK K hS
  have hS := hH
  clear hH
  try simp only [Act.put, List.setIfInBounds_toArray, List.set_cons_zero, List.set_cons_succ, List.getElem_toArray, List.getElem_cons_zero, List.getElem_cons_succ]
  refine wpAnyH_ready (rs := [5]) (by kernel_rfl) (by simp) ?_
  refine AllReadyH.cons rfl (fun K hK => ?_) AllReadyH.nil
  go_simp
  with_reducible refine (of_any turned hFX.fl HSX.out.1 HSX.out.2).mono ?_
  rintro e w6 ⟨VX, sVX, gVX, capVX, cVX, lVX, rfl, hVX, hb⟩
  replace DU := DU.on hb
  replace DX := DX.on hb
  replace DY := DY.on hb
  replace hFU := hFU.on hb
  replace hFX := hFX.on hb
  replace hFY := hFY.on hb
  replace hVY := hVY.on hb
  replace DVY := DVY.on hb
  replace hVU := hVU.on hb
  replace bz := bz.trans (hb.mono bz.size)
  clear hb
  refine hK.out _ _ ⟨DU, DX, DY, DVY⟩ (fun hH => ?_)
  clear hK K hS
  have hS := hH
  clear hH
  try simp only [Act.put, List.setIfInBounds_toArray, List.set_cons_zero, List.set_cons_succ, List.getElem_toArray, List.getElem_cons_zero, List.getElem_cons_succ]
  refine wpAnyH_ready (rs := [8]) (by kernel_rfl) (by simp) ?_
  refine AllReadyH.cons rfl (fun K hK => ?_) AllReadyH.nil
  go_simp
  with_reducible refine (gemm_no hVU hVX hVY HFT.out).mono ?_
  rintro e w7 ⟨rfl, hb⟩
  replace DU := DU.on hb
  replace DX := DX.on hb
  replace DY := DY.on hb
  replace hFU := hFU.on hb
  replace hFX := hFX.on hb
  replace hFY := hFY.on hb
  replace hVY := hVY.on hb
  replace DVY := DVY.on hb
  replace hVU := hVU.on hb
  replace hVX := hVX.on hb
  replace bz := bz.trans (hb.mono bz.size)
  clear hb
  clear hVU hVX
  refine hK.out _ _ ⟨DU, DX, DY, DVY⟩ (fun hH => ?_)
  clear hK K hS
  have hS := hH
  clear hH
  try simp only [Act.put, List.setIfInBounds_toArray, List.set_cons_zero, List.set_cons_succ, List.getElem_toArray, List.getElem_cons_zero, List.getElem_cons_succ]
  refine wpAnyH_take (i := 9) (v := ?v9_33) rfl (by kernel_rfl) (by kernel_rfl) (by kernel_rfl) (fun _ _ _ h => h) (Or.inl ⟨by rfl, ?hy9_33⟩) (by assumption) ?rest9_33
  case hy9_33 => (intro w9 hSw; clear hSw; go_simp; try with_reducible rfl)
  try simp only [Act.put, List.setIfInBounds_toArray, List.set_cons_zero, List.set_cons_succ, List.getElem_toArray, List.getElem_cons_zero, List.getElem_cons_succ]
  refine wpAnyH_done (by kernel_rfl) ?_ _
  have HFv := HFT.out
  cases f0 : (CU != RX)
  · cases f1 : (RY != RU)
    · cases f2 : (CY != CX)
      · exfalso; rw [f0, f1, f2] at HFv; cases HFv
      · skip
        obtain ⟨kU_0, kU_1, kU_2, kU_3, kU_4, kU_5⟩ := Mbx.cells DU
        obtain ⟨kX_0, kX_1, kX_2, kX_3, kX_4, kX_5⟩ := Mbx.cells DX
        obtain ⟨kY_0, kY_1, kY_2, kY_3, kY_4, kY_5⟩ := Mbx.cells DY
        go_wp2_with fail
        with_reducible refine (num_any _ _).mono ?_
        rintro e v8 ⟨rfl, rfl⟩
        clear kU_0 kU_1 kU_2 kU_3 kU_4 kU_5 kX_0 kX_1 kX_2 kX_3 kX_4 kX_5 kY_0 kY_1 kY_2 kY_3 kY_4 kY_5
        obtain ⟨kU_0, kU_1, kU_2, kU_3, kU_4, kU_5⟩ := Mbx.cells DU
        obtain ⟨kX_0, kX_1, kX_2, kX_3, kX_4, kX_5⟩ := Mbx.cells DX
        obtain ⟨kY_0, kY_1, kY_2, kY_3, kY_4, kY_5⟩ := Mbx.cells DY
        obtain ⟨cDVY_0, cDVY_1, cDVY_2, cDVY_3, cDVY_4, cDVY_5, cDVY_6, cDVY_7, cDVY_8⟩ := Vbx.cells DVY
        go_wp2_with fail
        with_reducible refine (shows_true hVY.sv hFY.fl hVY.R hVY.C (sameL_refl LY)).mono ?_
        rintro e w9 ⟨rfl, hb⟩
        clear kU_0 kU_1 kU_2 kU_3 kU_4 kU_5 kX_0 kX_1 kX_2 kX_3 kX_4 kX_5 kY_0 kY_1 kY_2 kY_3 kY_4 kY_5 cDVY_0 cDVY_1 cDVY_2 cDVY_3 cDVY_4 cDVY_5 cDVY_6 cDVY_7 cDVY_8
        replace DU := DU.on hb
        replace DX := DX.on hb
        replace DY := DY.on hb
        replace hFU := hFU.on hb
        replace hFX := hFX.on hb
        replace hFY := hFY.on hb
        replace hVY := hVY.on hb
        replace DVY := DVY.on hb
        replace bz := bz.trans (hb.mono bz.size)
        clear hb
        go_wp2_with fail
        with_reducible refine (known_any _).mono ?_
        rintro e w10 ⟨rfl, hb⟩
        replace DU := DU.on hb
        replace DX := DX.on hb
        replace DY := DY.on hb
        replace hFU := hFU.on hb
        replace hFX := hFX.on hb
        replace hFY := hFY.on hb
        replace hVY := hVY.on hb
        replace DVY := DVY.on hb
        replace bz := bz.trans (hb.mono bz.size)
        clear hb
        go_wp2_with fail
        go_ret
        exact ⟨rfl, bz⟩
    · skip
      obtain ⟨kU_0, kU_1, kU_2, kU_3, kU_4, kU_5⟩ := Mbx.cells DU
      obtain ⟨kX_0, kX_1, kX_2, kX_3, kX_4, kX_5⟩ := Mbx.cells DX
      obtain ⟨kY_0, kY_1, kY_2, kY_3, kY_4, kY_5⟩ := Mbx.cells DY
      go_wp2_with fail
      with_reducible refine (num_any _ _).mono ?_
      rintro e v8 ⟨rfl, rfl⟩
      clear kU_0 kU_1 kU_2 kU_3 kU_4 kU_5 kX_0 kX_1 kX_2 kX_3 kX_4 kX_5 kY_0 kY_1 kY_2 kY_3 kY_4 kY_5
      obtain ⟨kU_0, kU_1, kU_2, kU_3, kU_4, kU_5⟩ := Mbx.cells DU
      obtain ⟨kX_0, kX_1, kX_2, kX_3, kX_4, kX_5⟩ := Mbx.cells DX
      obtain ⟨kY_0, kY_1, kY_2, kY_3, kY_4, kY_5⟩ := Mbx.cells DY
      obtain ⟨cDVY_0, cDVY_1, cDVY_2, cDVY_3, cDVY_4, cDVY_5, cDVY_6, cDVY_7, cDVY_8⟩ := Vbx.cells DVY
      go_wp2_with fail
      with_reducible refine (shows_true hVY.sv hFY.fl hVY.R hVY.C (sameL_refl LY)).mono ?_
      rintro e w9 ⟨rfl, hb⟩
      clear kU_0 kU_1 kU_2 kU_3 kU_4 kU_5 kX_0 kX_1 kX_2 kX_3 kX_4 kX_5 kY_0 kY_1 kY_2 kY_3 kY_4 kY_5 cDVY_0 cDVY_1 cDVY_2 cDVY_3 cDVY_4 cDVY_5 cDVY_6 cDVY_7 cDVY_8
      replace DU := DU.on hb
      replace DX := DX.on hb
      replace DY := DY.on hb
      replace hFU := hFU.on hb
      replace hFX := hFX.on hb
      replace hFY := hFY.on hb
      replace hVY := hVY.on hb
      replace DVY := DVY.on hb
      replace bz := bz.trans (hb.mono bz.size)
      clear hb
      go_wp2_with fail
      with_reducible refine (known_any _).mono ?_
      rintro e w10 ⟨rfl, hb⟩
      replace DU := DU.on hb
      replace DX := DX.on hb
      replace DY := DY.on hb
      replace hFU := hFU.on hb
      replace hFX := hFX.on hb
      replace hFY := hFY.on hb
      replace hVY := hVY.on hb
      replace DVY := DVY.on hb
      replace bz := bz.trans (hb.mono bz.size)
      clear hb
      go_wp2_with fail
      go_ret
      exact ⟨rfl, bz⟩
  · skip
    obtain ⟨kU_0, kU_1, kU_2, kU_3, kU_4, kU_5⟩ := Mbx.cells DU
    obtain ⟨kX_0, kX_1, kX_2, kX_3, kX_4, kX_5⟩ := Mbx.cells DX
    obtain ⟨kY_0, kY_1, kY_2, kY_3, kY_4, kY_5⟩ := Mbx.cells DY
    go_wp2_with fail
    with_reducible refine (num_any _ _).mono ?_
    rintro e v8 ⟨rfl, rfl⟩
    clear kU_0 kU_1 kU_2 kU_3 kU_4 kU_5 kX_0 kX_1 kX_2 kX_3 kX_4 kX_5 kY_0 kY_1 kY_2 kY_3 kY_4 kY_5
    obtain ⟨kU_0, kU_1, kU_2, kU_3, kU_4, kU_5⟩ := Mbx.cells DU
    obtain ⟨kX_0, kX_1, kX_2, kX_3, kX_4, kX_5⟩ := Mbx.cells DX
    obtain ⟨kY_0, kY_1, kY_2, kY_3, kY_4, kY_5⟩ := Mbx.cells DY
    obtain ⟨cDVY_0, cDVY_1, cDVY_2, cDVY_3, cDVY_4, cDVY_5, cDVY_6, cDVY_7, cDVY_8⟩ := Vbx.cells DVY
    go_wp2_with fail
    with_reducible refine (shows_true hVY.sv hFY.fl hVY.R hVY.C (sameL_refl LY)).mono ?_
    rintro e w9 ⟨rfl, hb⟩
    clear kU_0 kU_1 kU_2 kU_3 kU_4 kU_5 kX_0 kX_1 kX_2 kX_3 kX_4 kX_5 kY_0 kY_1 kY_2 kY_3 kY_4 kY_5 cDVY_0 cDVY_1 cDVY_2 cDVY_3 cDVY_4 cDVY_5 cDVY_6 cDVY_7 cDVY_8
    replace DU := DU.on hb
    replace DX := DX.on hb
    replace DY := DY.on hb
    replace hFU := hFU.on hb
    replace hFX := hFX.on hb
    replace hFY := hFY.on hb
    replace hVY := hVY.on hb
    replace DVY := DVY.on hb
    replace bz := bz.trans (hb.mono bz.size)
    clear hb
    go_wp2_with fail
    with_reducible refine (known_any _).mono ?_
    rintro e w10 ⟨rfl, hb⟩
    replace DU := DU.on hb
    replace DX := DX.on hb
    replace DY := DY.on hb
    replace hFU := hFU.on hb
    replace hFX := hFX.on hb
    replace hFY := hFY.on hb
    replace hVY := hVY.on hb
    replace DVY := DVY.on hb
    replace bz := bz.trans (hb.mono bz.size)
    clear hb
    go_wp2_with fail
    go_ret
    exact ⟨rfl, bz⟩
set_option maxRecDepth 100000 in
set_option maxHeartbeats 8000000 in
theorem KernelsGemm_yes {w : World} {RU CU : Int} {AU : Option Addr} {nU cU : Nat} {LU : List Int} {RX CX : Int} {AX : Option Addr} {nX cX : Nat} {LX : List Int} {RY CY : Int} {AY : Option Addr} {nY cY : Nat} {LY : List Int} {a b : Nat} {turned : Bool} (ba : a ≤ 18446744073709551615) (bb : b ≤ 18446744073709551615) (hU : FL w AU nU cU LU) (hX : FL w AX nX cX LX) (hY : FL w AY nY cY LY) (bU : bigM RU CU nU = false) (bX : bigM RX CX nX = false) (bY : bigM RY CY nY = false) (hf : (!(CU != RX) && !(RY != RU) && !(CY != CX)) = true) : Calls Try.prog 9 #[.float .f64 a, mV RU CU AU nU cU, mV RX CX AX nX cX, .float .f64 b, mV RY CY AY nY cY, .bool turned] w (Ans w (.bool true)) := by
  have pbU := fun W => big_any RU CU AU nU cU hU.max W
  rw [bU] at pbU
  obtain ⟨zU, eU, uU⟩ := big_is bU
  have HSU := Lib.hid (And.intro zU eU)
  clear bU zU eU
  have pbX := fun W => big_any RX CX AX nX cX hX.max W
  rw [bX] at pbX
  obtain ⟨zX, eX, uX⟩ := big_is bX
  have HSX := Lib.hid (And.intro zX eX)
  clear bX zX eX
  have pbY := fun W => big_any RY CY AY nY cY hY.max W
  rw [bY] at pbY
  obtain ⟨zY, eY, uY⟩ := big_is bY
  have HSY := Lib.hid (And.intro zY eY)
  clear bY zY eY
  have EU := Lib.hid hU.1
  have mxU := hU.max
  have EX := Lib.hid hX.1
  have mxX := hX.max
  have EY := Lib.hid hY.1
  have mxY := hY.max
  have hfs := hf
  simp only [Bool.and_eq_true] at hfs
  obtain ⟨⟨f0, f1⟩, f2⟩ := hfs
  replace f0 : (CU != RX) = false := by simpa using f0
  replace f1 : (RY != RU) = false := by simpa using f1
  replace f2 : (CY != CX) = false := by simpa using f2
  have zY := (szB_bd HSY.out.1).1
  obtain ⟨m, hm⟩ := Int.eq_ofNat_of_zero_le zY.1
  obtain ⟨q, hq⟩ := Int.eq_ofNat_of_zero_le zY.2.2.1
  have hnY : nY = m * q := by have := HSY.out.2; rw [hm, hq] at this; exact_mod_cast this
  have zU := (szB_bd HSU.out.1).1
  have zX := (szB_bd HSX.out.1).1
  obtain ⟨p, hp⟩ := Int.eq_ofNat_of_zero_le zU.2.2.1
  have g0 : CU = RX := by simpa using f0
  have g1 : RY = RU := by simpa using f1
  have g2 : CY = CX := by simpa using f2
  have hru : RU = (m : Int) := by rw [← g1]; exact hm
  have hrx : RX = (p : Int) := by rw [← g0]; exact hp
  have hcx : CX = (q : Int) := by rw [← g2]; exact hq
  have hnU : nU = m * p := by have := HSU.out.2; rw [hru, hp] at this; exact_mod_cast this
  have hnX : nX = p * q := by have := HSX.out.2; rw [hrx, hcx] at this; exact_mod_cast this
  have hm5 : m ≤ 512 ∧ q ≤ 512 ∧ p ≤ 512 := by omega
  have HM := Lib.hid hm
  have HQ := Lib.hid hq
  have HP := Lib.hid hp
  have HRU := Lib.hid hru
  have HRX := Lib.hid hrx
  have HCX := Lib.hid hcx
  have HNY := Lib.hid hnY
  have HNU := Lib.hid hnU
  have HNX := Lib.hid hnX
  clear zU zX zY hm hq hp hru hrx hcx hnY hnU hnX g0 g1 g2
  have F0 := Lib.hid f0
  clear f0
  have F1 := Lib.hid f1
  clear f1
  have F2 := Lib.hid f2
  clear f2
  have HFT := Lib.hid hf
  clear hf
  have DU := Blk.new w [.int .i64 RU, .int .i64 CU, .slice AU nU cU] 24
  have DX := Blk.new (w.alloc (.cells #[.int .i64 RU, .int .i64 CU, .slice AU nU cU] 24)) [.int .i64 RX, .int .i64 CX, .slice AX nX cX] 24
  replace DU := DU.alloc (.cells #[.int .i64 RX, .int .i64 CX, .slice AX nX cX] 24)
  simp only [World.size_alloc] at DX
  have DY := Blk.new ((w.alloc (.cells #[.int .i64 RU, .int .i64 CU, .slice AU nU cU] 24)).alloc (.cells #[.int .i64 RX, .int .i64 CX, .slice AX nX cX] 24)) [.int .i64 RY, .int .i64 CY, .slice AY nY cY] 24
  replace DU := DU.alloc (.cells #[.int .i64 RY, .int .i64 CY, .slice AY nY cY] 24)
  replace DX := DX.alloc (.cells #[.int .i64 RY, .int .i64 CY, .slice AY nY cY] 24)
  simp only [World.size_alloc] at DY
  have bz := (((Below.refl _ w).alloc (Nat.le_refl _) (.cells #[.int .i64 RU, .int .i64 CU, .slice AU nU cU] 24)).alloc (by simp <;> omega) (.cells #[.int .i64 RX, .int .i64 CX, .slice AX nX cX] 24)).alloc (by simp <;> omega) (.cells #[.int .i64 RY, .int .i64 CY, .slice AY nY cY] 24)
  have hsz0 : (((w.alloc (.cells #[.int .i64 RU, .int .i64 CU, .slice AU nU cU] 24)).alloc (.cells #[.int .i64 RX, .int .i64 CX, .slice AX nX cX] 24)).alloc (.cells #[.int .i64 RY, .int .i64 CY, .slice AY nY cY] 24)).heap.size = w.heap.size + 3 := by simp
  have hFU := hU.lo.on bz
  clear hU
  have hFX := hX.lo.on bz
  clear hX
  have hFY := hY.lo.on bz
  clear hY
  go_enter Try.func9, Try.ntmps9
  obtain ⟨kU_0, kU_1, kU_2, kU_3, kU_4, kU_5⟩ := Mbx.cells DU
  obtain ⟨kX_0, kX_1, kX_2, kX_3, kX_4, kX_5⟩ := Mbx.cells DX
  obtain ⟨kY_0, kY_1, kY_2, kY_3, kY_4, kY_5⟩ := Mbx.cells DY
  go_wp2_with fail
  with_reducible refine (pbU _).mono ?_
  rintro e w1 ⟨rfl, hb⟩
  clear kU_0 kU_1 kU_2 kU_3 kU_4 kU_5 kX_0 kX_1 kX_2 kX_3 kX_4 kX_5 kY_0 kY_1 kY_2 kY_3 kY_4 kY_5
  replace DU := DU.on hb
  replace DX := DX.on hb
  replace DY := DY.on hb
  replace hFU := hFU.on hb
  replace hFX := hFX.on hb
  replace hFY := hFY.on hb
  replace bz := bz.trans (hb.mono bz.size)
  clear hb
  obtain ⟨kU_0, kU_1, kU_2, kU_3, kU_4, kU_5⟩ := Mbx.cells DU
  obtain ⟨kX_0, kX_1, kX_2, kX_3, kX_4, kX_5⟩ := Mbx.cells DX
  obtain ⟨kY_0, kY_1, kY_2, kY_3, kY_4, kY_5⟩ := Mbx.cells DY
  go_wp2_with fail
  with_reducible refine (pbX _).mono ?_
  rintro e w2 ⟨rfl, hb⟩
  clear kU_0 kU_1 kU_2 kU_3 kU_4 kU_5 kX_0 kX_1 kX_2 kX_3 kX_4 kX_5 kY_0 kY_1 kY_2 kY_3 kY_4 kY_5
  replace DU := DU.on hb
  replace DX := DX.on hb
  replace DY := DY.on hb
  replace hFU := hFU.on hb
  replace hFX := hFX.on hb
  replace hFY := hFY.on hb
  replace bz := bz.trans (hb.mono bz.size)
  clear hb
  obtain ⟨kU_0, kU_1, kU_2, kU_3, kU_4, kU_5⟩ := Mbx.cells DU
  obtain ⟨kX_0, kX_1, kX_2, kX_3, kX_4, kX_5⟩ := Mbx.cells DX
  obtain ⟨kY_0, kY_1, kY_2, kY_3, kY_4, kY_5⟩ := Mbx.cells DY
  go_wp2_with fail
  with_reducible refine (pbY _).mono ?_
  rintro e w3 ⟨rfl, hb⟩
  clear kU_0 kU_1 kU_2 kU_3 kU_4 kU_5 kX_0 kX_1 kX_2 kX_3 kX_4 kX_5 kY_0 kY_1 kY_2 kY_3 kY_4 kY_5
  replace DU := DU.on hb
  replace DX := DX.on hb
  replace DY := DY.on hb
  replace hFU := hFU.on hb
  replace hFX := hFX.on hb
  replace hFY := hFY.on hb
  replace bz := bz.trans (hb.mono bz.size)
  clear hb
  obtain ⟨kU_0, kU_1, kU_2, kU_3, kU_4, kU_5⟩ := Mbx.cells DU
  obtain ⟨kX_0, kX_1, kX_2, kX_3, kX_4, kX_5⟩ := Mbx.cells DX
  obtain ⟨kY_0, kY_1, kY_2, kY_3, kY_4, kY_5⟩ := Mbx.cells DY
  have hszw : w.heap.size + 3 ≤ w3.heap.size := by have := DY.lt; omega
  go_wp2_with fail
  with_reducible refine (of_any turned hFY.fl HSY.out.1 HSY.out.2).mono ?_
  rintro e w4 ⟨VY, sVY, gVY, capVY, cVY, lVY, rfl, hVY, hb⟩
  clear kU_0 kU_1 kU_2 kU_3 kU_4 kU_5 kX_0 kX_1 kX_2 kX_3 kX_4 kX_5 kY_0 kY_1 kY_2 kY_3 kY_4 kY_5
  replace DU := DU.on hb
  replace DX := DX.on hb
  replace DY := DY.on hb
  replace hFU := hFU.on hb
  replace hFX := hFX.on hb
  replace hFY := hFY.on hb
  replace bz := bz.trans (hb.mono bz.size)
  clear hb
  have hgy : w.heap.size + 3 ≤ gVY ∧ w.heap.size + 3 ≤ sVY := by have h1 := hVY.st.lo; have h2 := hVY.st.gt.1; omega
  have hlt := And.intro hVY.st.lt hVY.st.gt.2
  have DVY := Blk.new w4 (VY).L 30
  obtain ⟨HDVY, eHDVY⟩ : ∃ H, w4.heap.size = H := ⟨_, rfl⟩
  rw [eHDVY] at DVY
  replace DU := DU.on ((Below.refl _ _).alloc (Nat.le_refl _) (.cells (VY).L.toArray 30))
  replace DX := DX.on ((Below.refl _ _).alloc (Nat.le_refl _) (.cells (VY).L.toArray 30))
  replace DY := DY.on ((Below.refl _ _).alloc (Nat.le_refl _) (.cells (VY).L.toArray 30))
  replace hFU := hFU.on ((Below.refl _ _).alloc (Nat.le_refl _) (.cells (VY).L.toArray 30))
  replace hFX := hFX.on ((Below.refl _ _).alloc (Nat.le_refl _) (.cells (VY).L.toArray 30))
  replace hFY := hFY.on ((Below.refl _ _).alloc (Nat.le_refl _) (.cells (VY).L.toArray 30))
  replace hVY := hVY.on ((Below.refl _ _).alloc (Nat.le_refl _) (.cells (VY).L.toArray 30))
  replace bz := bz.alloc bz.size (.cells (VY).L.toArray 30)
  have HHDVY := Lib.hid eHDVY
  rw [eHDVY] at hlt
  clear hszw
  go_wp2_with fail
  replace DU := DU.drew
  replace DX := DX.drew
  replace DY := DY.drew
  replace hFU := hFU.drew
  replace hFX := hFX.drew
  replace hFY := hFY.drew
  replace hVY := hVY.drew
  replace DVY := DVY.drew
  replace bz := bz.drew
  refine wp_region_held_drew (S := fun w9 : World => Mbx w9 w.heap.size RU CU AU nU cU ∧ Mbx w9 (w.heap.size + 1) RX CX AX nX cX ∧ Mbx w9 (w.heap.size + 2) RY CY AY nY cY ∧ Vbx w9 HDVY VY) (by kernel_rfl) ⟨DU, DX, DY, DVY⟩ (fun hS => ?_)
  generalize (w4.alloc (.cells (VY).L.toArray 30)).drew = wd4 at hS DU DX DY hFU hFX hFY hVY DVY  bz ⊢
  refine wpAnyH_take (i := 0) (v := ?v0_34) rfl (by kernel_rfl) (by kernel_rfl) (by kernel_rfl) (fun _ _ _ h => h) (Or.inl ⟨by rfl, ?hy0_34⟩) (by assumption) ?rest0_34
  case hy0_34 => (intro w9 hSw; clear hSw; go_simp; try with_reducible rfl)
  try simp only [Act.put, List.setIfInBounds_toArray, List.set_cons_zero, List.set_cons_succ, List.getElem_toArray, List.getElem_cons_zero, List.getElem_cons_succ]
  refine wpAnyH_take (i := 1) (v := ?v1_35) rfl (by kernel_rfl) (by kernel_rfl) (by kernel_rfl) (fun _ _ _ h => h) (Or.inl ⟨by rfl, ?hy1_35⟩) (by assumption) ?rest1_35
  case hy1_35 => (intro w9 hSw; obtain ⟨m0, m1, m2, m3⟩ := hSw; obtain ⟨q0_0, q0_1, q0_2, q0_3, q0_4, q0_5⟩ := Mbx.cells m0; obtain ⟨q1_0, q1_1, q1_2, q1_3, q1_4, q1_5⟩ := Mbx.cells m1; obtain ⟨q2_0, q2_1, q2_2, q2_3, q2_4, q2_5⟩ := Mbx.cells m2; go_simp; try with_reducible rfl)
  try simp only [Act.put, List.setIfInBounds_toArray, List.set_cons_zero, List.set_cons_succ, List.getElem_toArray, List.getElem_cons_zero, List.getElem_cons_succ]
  refine wpAnyH_take (i := 3) (v := ?v3_36) rfl (by kernel_rfl) (by kernel_rfl) (by kernel_rfl) (fun _ _ _ h => h) (Or.inl ⟨by rfl, ?hy3_36⟩) (by assumption) ?rest3_36
  case hy3_36 => (intro w9 hSw; obtain ⟨m0, m1, m2, m3⟩ := hSw; obtain ⟨q0_0, q0_1, q0_2, q0_3, q0_4, q0_5⟩ := Mbx.cells m0; obtain ⟨q1_0, q1_1, q1_2, q1_3, q1_4, q1_5⟩ := Mbx.cells m1; obtain ⟨q2_0, q2_1, q2_2, q2_3, q2_4, q2_5⟩ := Mbx.cells m2; go_simp; try with_reducible rfl)
  try simp only [Act.put, List.setIfInBounds_toArray, List.set_cons_zero, List.set_cons_succ, List.getElem_toArray, List.getElem_cons_zero, List.getElem_cons_succ]
  refine wpAnyH_take (i := 4) (v := ?v4_37) rfl (by kernel_rfl) (by kernel_rfl) (by kernel_rfl) (fun _ _ _ h => h) (Or.inl ⟨by rfl, ?hy4_37⟩) (by assumption) ?rest4_37
  case hy4_37 => (intro w9 hSw; clear hSw; go_simp; try with_reducible rfl)
  try simp only [Act.put, List.setIfInBounds_toArray, List.set_cons_zero, List.set_cons_succ, List.getElem_toArray, List.getElem_cons_zero, List.getElem_cons_succ]
  refine wpAnyH_take (i := 6) (v := ?v6_38) rfl (by kernel_rfl) (by kernel_rfl) (by kernel_rfl) (fun _ _ _ h => h) (Or.inl ⟨by rfl, ?hy6_38⟩) (by assumption) ?rest6_38
  case hy6_38 => (intro w9 hSw; clear hSw; go_simp; try with_reducible rfl)
  try simp only [Act.put, List.setIfInBounds_toArray, List.set_cons_zero, List.set_cons_succ, List.getElem_toArray, List.getElem_cons_zero, List.getElem_cons_succ]
  refine wpAnyH_take (i := 7) (v := ?v7_39) rfl (by kernel_rfl) (by kernel_rfl) (by kernel_rfl) (fun _ _ _ h => h) (Or.inl ⟨by rfl, ?hy7_39⟩) (by assumption) ?rest7_39
  case hy7_39 => (intro w9 hSw; obtain ⟨m0, m1, m2, m3⟩ := hSw; refine (ld_v (by rfl) (by kernel_rfl) m3).trans ?_; with_reducible rfl)
  try simp only [Act.put, List.setIfInBounds_toArray, List.set_cons_zero, List.set_cons_succ, List.getElem_toArray, List.getElem_cons_zero, List.getElem_cons_succ]
  refine wpAnyH_ready (rs := [2]) (by kernel_rfl) (by simp) ?_
  refine AllReadyH.cons rfl (fun K hK => ?_) AllReadyH.nil
  go_simp
  with_reducible refine (of_any false hFU.fl HSU.out.1 HSU.out.2).mono ?_
  rintro e w5 ⟨VU, sVU, gVU, capVU, cVU, lVU, rfl, hVU, hb⟩
  replace DU := DU.on hb
  replace DX := DX.on hb
  replace DY := DY.on hb
  replace hFU := hFU.on hb
  replace hFX := hFX.on hb
  replace hFY := hFY.on hb
  replace hVY := hVY.on hb
  replace DVY := DVY.on hb
  replace bz := bz.trans (hb.mono bz.size)
  clear hb
  refine hK.out _ _ ⟨DU, DX, DY, DVY⟩ (fun hH => ?_)
  clear hK K hS
  have hS := hH
  clear hH
  try simp only [Act.put, List.setIfInBounds_toArray, List.set_cons_zero, List.set_cons_succ, List.getElem_toArray, List.getElem_cons_zero, List.getElem_cons_succ]
  refine wpAnyH_ready (rs := [5]) (by kernel_rfl) (by simp) ?_
  refine AllReadyH.cons rfl (fun K hK => ?_) AllReadyH.nil
  go_simp
  with_reducible refine (of_any turned hFX.fl HSX.out.1 HSX.out.2).mono ?_
  rintro e w6 ⟨VX, sVX, gVX, capVX, cVX, lVX, rfl, hVX, hb⟩
  replace DU := DU.on hb
  replace DX := DX.on hb
  replace DY := DY.on hb
  replace hFU := hFU.on hb
  replace hFX := hFX.on hb
  replace hFY := hFY.on hb
  replace hVY := hVY.on hb
  replace DVY := DVY.on hb
  replace hVU := hVU.on hb
  replace bz := bz.trans (hb.mono bz.size)
  clear hb
  refine hK.out _ _ ⟨DU, DX, DY, DVY⟩ (fun hH => ?_)
  clear hK K hS
  have hS := hH
  clear hH
  try simp only [Act.put, List.setIfInBounds_toArray, List.set_cons_zero, List.set_cons_succ, List.getElem_toArray, List.getElem_cons_zero, List.getElem_cons_succ]
  refine wpAnyH_ready (rs := [8]) (by kernel_rfl) (by simp) ?_
  refine AllReadyH.cons rfl (fun K hK => ?_) AllReadyH.nil
  go_simp
  with_reducible refine (gemm_yes ba bb hVU hVX hVY HM.out HQ.out HP.out EY.out HFT.out).mono ?_
  rintro e w66 ⟨ly, G, rfl, hVY2, hI, hg⟩
  replace DU := DU.grown hg (by simp; omega)
  replace hFU := hFU.grown hg (by omega)
  replace DX := DX.grown hg (by simp; omega)
  replace hFX := hFX.grown hg (by omega)
  replace DY := DY.grown hg (by simp; omega)
  replace hFY := hFY.grown hg (by omega)
  replace DVY := DVY.grown hg (by simp; omega)
  replace hVY := hVY2
  replace bz := bz.grown hg bz.size (fun k e => by cases e; omega)
  have HI := Lib.hid hI
  clear hVY2 hg hI
  clear hVU hVX
  refine hK.out _ _ ⟨DU, DX, DY, DVY⟩ (fun hH => ?_)
  clear hK K hS
  have hS := hH
  clear hH
  try simp only [Act.put, List.setIfInBounds_toArray, List.set_cons_zero, List.set_cons_succ, List.getElem_toArray, List.getElem_cons_zero, List.getElem_cons_succ]
  refine wpAnyH_take (i := 9) (v := ?v9_40) rfl (by kernel_rfl) (by kernel_rfl) (by kernel_rfl) (fun _ _ _ h => h) (Or.inl ⟨by rfl, ?hy9_40⟩) (by assumption) ?rest9_40
  case hy9_40 => (intro w9 hSw; clear hSw; go_simp; try with_reducible rfl)
  try simp only [Act.put, List.setIfInBounds_toArray, List.set_cons_zero, List.set_cons_succ, List.getElem_toArray, List.getElem_cons_zero, List.getElem_cons_succ]
  refine wpAnyH_done (by kernel_rfl) ?_ _
  have f0 := F0.out
  have f1 := F1.out
  have f2 := F2.out
  obtain ⟨kU_0, kU_1, kU_2, kU_3, kU_4, kU_5⟩ := Mbx.cells DU
  obtain ⟨kX_0, kX_1, kX_2, kX_3, kX_4, kX_5⟩ := Mbx.cells DX
  obtain ⟨kY_0, kY_1, kY_2, kY_3, kY_4, kY_5⟩ := Mbx.cells DY
  go_wp2_with fail
  clear kU_0 kU_1 kU_2 kU_3 kU_4 kU_5 kX_0 kX_1 kX_2 kX_3 kX_4 kX_5 kY_0 kY_1 kY_2 kY_3 kY_4 kY_5
  clear f0 f1 f2
  replace DU := DU.drew
  replace DX := DX.drew
  replace DY := DY.drew
  replace hFU := hFU.drew
  replace hFX := hFX.drew
  replace hFY := hFY.drew
  replace hVY := hVY.drew
  replace DVY := DVY.drew
  replace bz := bz.drew
  refine wp_region_held_drew (S := fun w9 : World => Mbx w9 w.heap.size RU CU AU nU cU ∧ Mbx w9 (w.heap.size + 1) RX CX AX nX cX ∧ Mbx w9 (w.heap.size + 2) RY CY AY nY cY ∧ Vbx w9 HDVY VY) (by kernel_rfl) ⟨DU, DX, DY, DVY⟩ (fun hS => ?_)
  generalize w66.drew = wd7 at hS DU DX DY hFU hFX hFY hVY DVY  bz ⊢
  refine wpAnyH_take (i := 0) (v := ?v0_41) rfl (by kernel_rfl) (by kernel_rfl) (by kernel_rfl) (fun _ _ _ h => h) (Or.inl ⟨by rfl, ?hy0_41⟩) (by assumption) ?rest0_41
  case hy0_41 => (intro w9 hSw; clear hSw; go_simp; try with_reducible rfl)
  try simp only [Act.put, List.setIfInBounds_toArray, List.set_cons_zero, List.set_cons_succ, List.getElem_toArray, List.getElem_cons_zero, List.getElem_cons_succ]
  refine wpAnyH_ready (rs := [1]) (by kernel_rfl) (by simp) ?_
  refine AllReadyH.cons rfl (fun K hK => ?_) AllReadyH.nil
  go_simp
  with_reducible refine (num_any _ _).mono ?_
  rintro e v7 ⟨rfl, rfl⟩
  refine hK.out _ _ ⟨DU, DX, DY, DVY⟩ (fun hH => ?_)
  clear hK K hS
  have hS := hH
  clear hH
  try simp only [Act.put, List.setIfInBounds_toArray, List.set_cons_zero, List.set_cons_succ, List.getElem_toArray, List.getElem_cons_zero, List.getElem_cons_succ]
  refine wpAnyH_take (i := 2) (v := ?v2_42) rfl (by kernel_rfl) (by kernel_rfl) (by kernel_rfl) (fun _ _ _ h => h) (Or.inl ⟨by rfl, ?hy2_42⟩) (by assumption) ?rest2_42
  case hy2_42 => (intro w9 hSw; clear hSw; go_simp; try with_reducible rfl)
  try simp only [Act.put, List.setIfInBounds_toArray, List.set_cons_zero, List.set_cons_succ, List.getElem_toArray, List.getElem_cons_zero, List.getElem_cons_succ]
  refine wpAnyH_take (i := 3) (v := ?v3_43) rfl (by kernel_rfl) (by kernel_rfl) (by kernel_rfl) (fun _ _ _ h => h) (Or.inl ⟨by rfl, ?hy3_43⟩) (by assumption) ?rest3_43
  case hy3_43 => (intro w9 hSw; clear hSw; go_simp; try with_reducible rfl)
  try simp only [Act.put, List.setIfInBounds_toArray, List.set_cons_zero, List.set_cons_succ, List.getElem_toArray, List.getElem_cons_zero, List.getElem_cons_succ]
  refine wpAnyH_take (i := 4) (v := ?v4_44) rfl (by kernel_rfl) (by kernel_rfl) (by kernel_rfl) (fun _ _ _ h => h) (Or.inl ⟨by rfl, ?hy4_44⟩) (by assumption) ?rest4_44
  case hy4_44 => (intro w9 hSw; obtain ⟨m0, m1, m2, m3⟩ := hSw; refine (ld_v (by rfl) (by kernel_rfl) m3).trans ?_; with_reducible rfl)
  try simp only [Act.put, List.setIfInBounds_toArray, List.set_cons_zero, List.set_cons_succ, List.getElem_toArray, List.getElem_cons_zero, List.getElem_cons_succ]
  refine wpAnyH_take (i := 5) (v := ?v5_45) rfl (by kernel_rfl) (by kernel_rfl) (by kernel_rfl) (fun _ _ _ h => h) (Or.inl ⟨by rfl, ?hy5_45⟩) (by assumption) ?rest5_45
  case hy5_45 => (intro w9 hSw; clear hSw; go_simp; try with_reducible rfl)
  try simp only [Act.put, List.setIfInBounds_toArray, List.set_cons_zero, List.set_cons_succ, List.getElem_toArray, List.getElem_cons_zero, List.getElem_cons_succ]
  refine wpAnyH_take (i := 6) (v := ?v6_46) rfl (by kernel_rfl) (by kernel_rfl) (by kernel_rfl) (fun _ _ _ h => h) (Or.inl ⟨by rfl, ?hy6_46⟩) (by assumption) ?rest6_46
  case hy6_46 => (intro w9 hSw; obtain ⟨m0, m1, m2, m3⟩ := hSw; obtain ⟨q0_0, q0_1, q0_2, q0_3, q0_4, q0_5⟩ := Mbx.cells m0; obtain ⟨q1_0, q1_1, q1_2, q1_3, q1_4, q1_5⟩ := Mbx.cells m1; obtain ⟨q2_0, q2_1, q2_2, q2_3, q2_4, q2_5⟩ := Mbx.cells m2; go_simp; try with_reducible rfl)
  try simp only [Act.put, List.setIfInBounds_toArray, List.set_cons_zero, List.set_cons_succ, List.getElem_toArray, List.getElem_cons_zero, List.getElem_cons_succ]
  refine wpAnyH_take (i := 7) (v := ?v7_47) rfl (by kernel_rfl) (by kernel_rfl) (by kernel_rfl) (fun _ _ _ h => h) (Or.inl ⟨by rfl, ?hy7_47⟩) (by assumption) ?rest7_47
  case hy7_47 => (intro w9 hSw; obtain ⟨m0, m1, m2, m3⟩ := hSw; obtain ⟨q0_0, q0_1, q0_2, q0_3, q0_4, q0_5⟩ := Mbx.cells m0; obtain ⟨q1_0, q1_1, q1_2, q1_3, q1_4, q1_5⟩ := Mbx.cells m1; obtain ⟨q2_0, q2_1, q2_2, q2_3, q2_4, q2_5⟩ := Mbx.cells m2; go_simp; try with_reducible rfl)
  try simp only [Act.put, List.setIfInBounds_toArray, List.set_cons_zero, List.set_cons_succ, List.getElem_toArray, List.getElem_cons_zero, List.getElem_cons_succ]
  refine wpAnyH_take (i := 8) (v := ?v8_48) rfl (by kernel_rfl) (by kernel_rfl) (by kernel_rfl) (fun _ _ _ h => h) (Or.inl ⟨by rfl, ?hy8_48⟩) (by assumption) ?rest8_48
  case hy8_48 => (intro w9 hSw; clear hSw; go_simp; try with_reducible rfl)
  try simp only [Act.put, List.setIfInBounds_toArray, List.set_cons_zero, List.set_cons_succ, List.getElem_toArray, List.getElem_cons_zero, List.getElem_cons_succ]
  refine wpAnyH_take (i := 9) (v := ?v9_49) rfl (by kernel_rfl) (by kernel_rfl) (by kernel_rfl) (fun _ _ _ h => h) (Or.inl ⟨by rfl, ?hy9_49⟩) (by assumption) ?rest9_49
  case hy9_49 => (intro w9 hSw; obtain ⟨m0, m1, m2, m3⟩ := hSw; obtain ⟨q0_0, q0_1, q0_2, q0_3, q0_4, q0_5⟩ := Mbx.cells m0; obtain ⟨q1_0, q1_1, q1_2, q1_3, q1_4, q1_5⟩ := Mbx.cells m1; obtain ⟨q2_0, q2_1, q2_2, q2_3, q2_4, q2_5⟩ := Mbx.cells m2; go_simp; try with_reducible rfl)
  try simp only [Act.put, List.setIfInBounds_toArray, List.set_cons_zero, List.set_cons_succ, List.getElem_toArray, List.getElem_cons_zero, List.getElem_cons_succ]
  refine wpAnyH_ready (rs := [10]) (by kernel_rfl) (by simp) ?_
  refine AllReadyH.cons rfl (fun K hK => ?_) AllReadyH.nil
  go_simp
  have pr := rGemm_any (a := a) (b := b) (m := m) (q := q) (p := p) (lm := LU) (ln := LX) ba bb (l := LY) hFY.fl HNY.out hm5.1 hm5.2.1 hFU.fl HNU.out hm5.2.2 hFX.fl HNX.out
  rw [show mV (m : Int) (p : Int) AU nU cU = mV RU CU AU nU cU by rw [HRU.out, HP.out], show mV (p : Int) (q : Int) AX nX cX = mV RX CX AX nX cX by rw [HRX.out, HCX.out], show mV (m : Int) (q : Int) AY nY cY = mV RY CY AY nY cY by rw [HM.out, HQ.out]] at pr
  with_reducible refine (pr).mono ?_
  rintro e w8 ⟨A8, c8, L8, rfl, hI8, ho8, hb⟩
  replace DU := DU.on hb
  replace DX := DX.on hb
  replace DY := DY.on hb
  replace hFU := hFU.on hb
  replace hFX := hFX.on hb
  replace hFY := hFY.on hb
  replace hVY := hVY.on hb
  replace DVY := DVY.on hb
  replace bz := bz.trans (hb.mono bz.size)
  clear hb
  clear pr
  rw [show mV (m : Int) (q : Int) A8 nY c8 = mV RY CY A8 nY c8 by rw [HM.out, HQ.out]]
  have hF8 := hI8.fl ho8
  have HI8 := Lib.hid hI8
  clear ho8 hI8
  refine hK.out _ _ ⟨DU, DX, DY, DVY⟩ (fun hH => ?_)
  clear hK K hS
  have hS := hH
  clear hH
  try simp only [Act.put, List.setIfInBounds_toArray, List.set_cons_zero, List.set_cons_succ, List.getElem_toArray, List.getElem_cons_zero, List.getElem_cons_succ]
  refine wpAnyH_ready (rs := [11]) (by kernel_rfl) (by simp) ?_
  refine AllReadyH.cons rfl (fun K hK => ?_) AllReadyH.nil
  go_simp
  with_reducible refine (shows_true hVY.sv hF8 hVY.R hVY.C (Is.same HI.out HI8.out)).mono ?_
  rintro e w9 ⟨rfl, hb⟩
  replace DU := DU.on hb
  replace DX := DX.on hb
  replace DY := DY.on hb
  replace hFU := hFU.on hb
  replace hFX := hFX.on hb
  replace hFY := hFY.on hb
  replace hVY := hVY.on hb
  replace DVY := DVY.on hb
  replace hF8 := hF8.on hb
  replace bz := bz.trans (hb.mono bz.size)
  clear hb
  refine hK.out _ _ ⟨DU, DX, DY, DVY⟩ (fun hH => ?_)
  clear hK K hS
  have hS := hH
  clear hH
  try simp only [Act.put, List.setIfInBounds_toArray, List.set_cons_zero, List.set_cons_succ, List.getElem_toArray, List.getElem_cons_zero, List.getElem_cons_succ]
  refine wpAnyH_take (i := 12) (v := ?v12_50) rfl (by kernel_rfl) (by kernel_rfl) (by kernel_rfl) (fun _ _ _ h => h) (Or.inl ⟨by rfl, ?hy12_50⟩) (by assumption) ?rest12_50
  case hy12_50 => (intro w9 hSw; clear hSw; go_simp; try with_reducible rfl)
  try simp only [Act.put, List.setIfInBounds_toArray, List.set_cons_zero, List.set_cons_succ, List.getElem_toArray, List.getElem_cons_zero, List.getElem_cons_succ]
  refine wpAnyH_take (i := 13) (v := ?v13_51) rfl (by kernel_rfl) (by kernel_rfl) (by kernel_rfl) (fun _ _ _ h => h) (Or.inl ⟨by rfl, ?hy13_51⟩) (by assumption) ?rest13_51
  case hy13_51 => (intro w9 hSw; clear hSw; go_simp; try with_reducible rfl)
  try simp only [Act.put, List.setIfInBounds_toArray, List.set_cons_zero, List.set_cons_succ, List.getElem_toArray, List.getElem_cons_zero, List.getElem_cons_succ]
  refine wpAnyH_ready (rs := [14]) (by kernel_rfl) (by simp) ?_
  refine AllReadyH.cons rfl (fun K hK => ?_) AllReadyH.nil
  go_simp
  with_reducible refine (known_any _).mono ?_
  rintro e w10 ⟨rfl, hb⟩
  replace DU := DU.on hb
  replace DX := DX.on hb
  replace DY := DY.on hb
  replace hFU := hFU.on hb
  replace hFX := hFX.on hb
  replace hFY := hFY.on hb
  replace hVY := hVY.on hb
  replace DVY := DVY.on hb
  replace hF8 := hF8.on hb
  replace bz := bz.trans (hb.mono bz.size)
  clear hb
  refine hK.out _ _ ⟨DU, DX, DY, DVY⟩ (fun hH => ?_)
  clear hK K hS
  have hS := hH
  clear hH
  try simp only [Act.put, List.setIfInBounds_toArray, List.set_cons_zero, List.set_cons_succ, List.getElem_toArray, List.getElem_cons_zero, List.getElem_cons_succ]
  refine wpAnyH_take (i := 15) (v := ?v15_52) rfl (by kernel_rfl) (by kernel_rfl) (by kernel_rfl) (fun _ _ _ h => h) (Or.inl ⟨by rfl, ?hy15_52⟩) (by assumption) ?rest15_52
  case hy15_52 => (intro w9 hSw; clear hSw; go_simp; try with_reducible rfl)
  try simp only [Act.put, List.setIfInBounds_toArray, List.set_cons_zero, List.set_cons_succ, List.getElem_toArray, List.getElem_cons_zero, List.getElem_cons_succ]
  refine wpAnyH_take (i := 16) (v := ?v16_53) rfl (by kernel_rfl) (by kernel_rfl) (by kernel_rfl) (fun _ _ _ h => h) (Or.inl ⟨by rfl, ?hy16_53⟩) (by assumption) ?rest16_53
  case hy16_53 => (intro w9 hSw; clear hSw; go_simp; try with_reducible rfl)
  try simp only [Act.put, List.setIfInBounds_toArray, List.set_cons_zero, List.set_cons_succ, List.getElem_toArray, List.getElem_cons_zero, List.getElem_cons_succ]
  refine wpAnyH_done (by kernel_rfl) ?_ _
  go_wp2_with fail
  go_ret
  exact ⟨rfl, bz⟩
theorem KernelsGemm_law {w : World} {RU CU : Int} {AU : Option Addr} {nU cU : Nat} {LU : List Int} {RX CX : Int} {AX : Option Addr} {nX cX : Nat} {LX : List Int} {RY CY : Int} {AY : Option Addr} {nY cY : Nat} {LY : List Int} {a b : Nat} {turned : Bool} (ba : a ≤ 18446744073709551615) (bb : b ≤ 18446744073709551615) (hU : FL w AU nU cU LU) (hX : FL w AX nX cX LX) (hY : FL w AY nY cY LY) : Calls Try.prog 9 #[.float .f64 a, mV RU CU AU nU cU, mV RX CX AX nX cX, .float .f64 b, mV RY CY AY nY cY, .bool turned] w (Ans w (.bool true)) := by
  cases bU : bigM RU CU nU
  · cases bX : bigM RX CX nX
    · cases bY : bigM RY CY nY
      · cases hf : (!(CU != RX) && !(RY != RU) && !(CY != CX))
        · exact KernelsGemm_no ba bb hU hX hY bU bX bY hf
        · exact KernelsGemm_yes ba bb hU hX hY bU bX bY hf
      · exact KernelsGemm_big3 ba bb hU hX hY bU bX bY
    · exact KernelsGemm_big2 ba bb hU hX hY bU bX
  · exact KernelsGemm_big1 ba bb hU hX hY bU
end Go.Proofs.Ytfelmkkkaphkpaa
