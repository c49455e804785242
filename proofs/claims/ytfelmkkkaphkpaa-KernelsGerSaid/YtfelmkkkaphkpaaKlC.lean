/-
  Layer 8: the law KernelsGer. (Written by wip/tools/gen_klc.py.)
-/
import Derived.Test.YtfelmkkkaphkpaaKlA
import Derived.Test.YtfelmkkkaphkpaaKnJC
import Derived.Test.YtfelmkkkaphkpaaKnU
namespace Go.Proofs.Ytfelmkkkaphkpaa
open Go.RowKit Go.Bw Go.Sort Go.Shelf
set_option linter.unusedVariables false
set_option linter.unusedSimpArgs false

section
variable {w : World} {B B2 B3 : Nat} {U X Y : Vu} {s g cap c s2 g2 cap2 c2 s3 g3 cap3 c3 a b : Nat} {l l2 l3 : List Int} {RU CU RX CX RY CY : Int} {LU LX LY : List Int}
theorem ger_fit (hU : Ov w B U s g cap c l RU CU LU) (hX : Ov w B2 X s2 g2 cap2 c2 l2 RX CX LX) (hY : Ov w B3 Y s3 g3 cap3 c3 l3 RY CY LY) {nx ny : Nat} (ex : LX.length = nx) (ey : LY.length = ny) : (X.vec && Y.vec && szd U X.len Y.len) = (vecM RX CX && vecM RY CY && !(RU != (nx : Int)) && !(CU != (ny : Int))) := by
  rw [hX.isvec, hY.isvec]
  cases h1 : vecM RX CX
  · rfl
  · cases h2 : vecM RY CY
    · rfl
    · rw [hY.lenv h2, hX.lenv h1, ex, ey]
      unfold szd
      rw [hU.R, hU.C]
      simp only [bne, Bool.not_not, Bool.true_and]
theorem ger_no (hU : Ov w B U s g cap c l RU CU LU) (hX : Ov w B2 X s2 g2 cap2 c2 l2 RX CX LX) (hY : Ov w B3 Y s3 g3 cap3 c3 l3 RY CY LY) {nx ny : Nat} (ex : LX.length = nx) (ey : LY.length = ny) (hf : (vecM RX CX && vecM RY CY && !(RU != (nx : Int)) && !(CU != (ny : Int))) = false) :
    Calls Try.prog 39 #[.float .f64 a, X.V, Y.V, U.V] w (Ans w (.int .i64 8)) :=
  Ger_no hX.sv hY.sv hU.sv (refE_8 (by rw [ger_fit hU hX hY ex ey]; exact hf) (mem3 hX.ne hY.ne hU.ne)) (by omega)
theorem ger_yes (ba : a ≤ 18446744073709551615) (hU : Ov w B U s g cap c l RU CU LU) (hX : Ov w B2 X s2 g2 cap2 c2 l2 RX CX LX) (hY : Ov w B3 Y s3 g3 cap3 c3 l3 RY CY LY) {m q : Nat} (hm : RU = m) (hq : CU = q) {nx ny nu : Nat} (ex : LX.length = nx) (ey : LY.length = ny) (eu : LU.length = nu) (hf : (vecM RX CX && vecM RY CY && !(RU != (nx : Int)) && !(CU != (ny : Int))) = true) :
    Calls Try.prog 39 #[.float .f64 a, X.V, Y.V, U.V] w (OvK w B U s g cap c RU CU nu (tg (fun _ _ => true) (fun i j => aop .add (ma LU q i j) (aop .mul (aop .mul (af a) (fa (D LX i))) (fa (D LY j)))) LU q)) := by
  refine (Ger_yes (m := m) (q := q) ba hX.sv hY.sv hU.sv (refE_ok (by rw [ger_fit hU hX hY ex ey]; exact hf) (mem3 hX.ne hY.ne hU.ne)) hU.vk hU.st rfl hU.inj (hU.R.trans hm) (hU.C.trans hq)).mono ?_
  intro e w1 h
  exact ovk hU h hq eu (fun k hk => rfl)
end
set_option maxRecDepth 100000 in
set_option maxHeartbeats 8000000 in
theorem KernelsGer_big1 {w : World} {RX CX : Int} {AX : Option Addr} {nX cX : Nat} {LX : List Int} {RY CY : Int} {AY : Option Addr} {nY cY : Nat} {LY : List Int} {RU CU : Int} {AU : Option Addr} {nU cU : Nat} {LU : List Int} {a : Nat} {turned : Bool} (ba : a ≤ 18446744073709551615) (hX : FL w AX nX cX LX) (hY : FL w AY nY cY LY) (hU : FL w AU nU cU LU) (bU : bigM RU CU nU = true) : Calls Try.prog 7 #[.float .f64 a, mV RX CX AX nX cX, mV RY CY AY nY cY, mV RU CU AU nU cU, .bool turned] w (Ans w (.bool true)) := by
  have pbU := fun W => big_any RU CU AU nU cU hU.max W
  rw [bU] at pbU
  clear bU
  have DX := Blk.new w [.int .i64 RX, .int .i64 CX, .slice AX nX cX] 24
  have DY := Blk.new (w.alloc (.cells #[.int .i64 RX, .int .i64 CX, .slice AX nX cX] 24)) [.int .i64 RY, .int .i64 CY, .slice AY nY cY] 24
  replace DX := DX.alloc (.cells #[.int .i64 RY, .int .i64 CY, .slice AY nY cY] 24)
  simp only [World.size_alloc] at DY
  have DU := Blk.new ((w.alloc (.cells #[.int .i64 RX, .int .i64 CX, .slice AX nX cX] 24)).alloc (.cells #[.int .i64 RY, .int .i64 CY, .slice AY nY cY] 24)) [.int .i64 RU, .int .i64 CU, .slice AU nU cU] 24
  replace DX := DX.alloc (.cells #[.int .i64 RU, .int .i64 CU, .slice AU nU cU] 24)
  replace DY := DY.alloc (.cells #[.int .i64 RU, .int .i64 CU, .slice AU nU cU] 24)
  simp only [World.size_alloc] at DU
  have bz := (((Below.refl _ w).alloc (Nat.le_refl _) (.cells #[.int .i64 RX, .int .i64 CX, .slice AX nX cX] 24)).alloc (by simp <;> omega) (.cells #[.int .i64 RY, .int .i64 CY, .slice AY nY cY] 24)).alloc (by simp <;> omega) (.cells #[.int .i64 RU, .int .i64 CU, .slice AU nU cU] 24)
  have hsz0 : (((w.alloc (.cells #[.int .i64 RX, .int .i64 CX, .slice AX nX cX] 24)).alloc (.cells #[.int .i64 RY, .int .i64 CY, .slice AY nY cY] 24)).alloc (.cells #[.int .i64 RU, .int .i64 CU, .slice AU nU cU] 24)).heap.size = w.heap.size + 3 := by simp
  have hFX := hX.lo.on bz
  clear hX
  have hFY := hY.lo.on bz
  clear hY
  have hFU := hU.lo.on bz
  clear hU
  go_enter Try.func7, Try.ntmps7
  obtain ⟨kX_0, kX_1, kX_2, kX_3, kX_4, kX_5⟩ := Mbx.cells DX
  obtain ⟨kY_0, kY_1, kY_2, kY_3, kY_4, kY_5⟩ := Mbx.cells DY
  obtain ⟨kU_0, kU_1, kU_2, kU_3, kU_4, kU_5⟩ := Mbx.cells DU
  go_wp2_with fail
  with_reducible refine (pbU _).mono ?_
  rintro e w1 ⟨rfl, hb⟩
  clear kX_0 kX_1 kX_2 kX_3 kX_4 kX_5 kY_0 kY_1 kY_2 kY_3 kY_4 kY_5 kU_0 kU_1 kU_2 kU_3 kU_4 kU_5
  replace DX := DX.on hb
  replace DY := DY.on hb
  replace DU := DU.on hb
  replace hFX := hFX.on hb
  replace hFY := hFY.on hb
  replace hFU := hFU.on hb
  replace bz := bz.trans (hb.mono bz.size)
  clear hb
  go_wp2_with fail
  with_reducible refine (known_any _).mono ?_
  rintro e w2 ⟨rfl, hb⟩
  replace DX := DX.on hb
  replace DY := DY.on hb
  replace DU := DU.on hb
  replace hFX := hFX.on hb
  replace hFY := hFY.on hb
  replace hFU := hFU.on hb
  replace bz := bz.trans (hb.mono bz.size)
  clear hb
  go_wp2_with fail
  go_ret
  exact ⟨rfl, bz⟩
set_option maxRecDepth 100000 in
set_option maxHeartbeats 8000000 in
theorem KernelsGer_big2 {w : World} {RX CX : Int} {AX : Option Addr} {nX cX : Nat} {LX : List Int} {RY CY : Int} {AY : Option Addr} {nY cY : Nat} {LY : List Int} {RU CU : Int} {AU : Option Addr} {nU cU : Nat} {LU : List Int} {a : Nat} {turned : Bool} (ba : a ≤ 18446744073709551615) (hX : FL w AX nX cX LX) (hY : FL w AY nY cY LY) (hU : FL w AU nU cU LU) (bU : bigM RU CU nU = false) (bX : bigM RX CX nX = true) : Calls Try.prog 7 #[.float .f64 a, mV RX CX AX nX cX, mV RY CY AY nY cY, mV RU CU AU nU cU, .bool turned] w (Ans w (.bool true)) := by
  have pbU := fun W => big_any RU CU AU nU cU hU.max W
  rw [bU] at pbU
  clear bU
  have pbX := fun W => big_any RX CX AX nX cX hX.max W
  rw [bX] at pbX
  clear bX
  have DX := Blk.new w [.int .i64 RX, .int .i64 CX, .slice AX nX cX] 24
  have DY := Blk.new (w.alloc (.cells #[.int .i64 RX, .int .i64 CX, .slice AX nX cX] 24)) [.int .i64 RY, .int .i64 CY, .slice AY nY cY] 24
  replace DX := DX.alloc (.cells #[.int .i64 RY, .int .i64 CY, .slice AY nY cY] 24)
  simp only [World.size_alloc] at DY
  have DU := Blk.new ((w.alloc (.cells #[.int .i64 RX, .int .i64 CX, .slice AX nX cX] 24)).alloc (.cells #[.int .i64 RY, .int .i64 CY, .slice AY nY cY] 24)) [.int .i64 RU, .int .i64 CU, .slice AU nU cU] 24
  replace DX := DX.alloc (.cells #[.int .i64 RU, .int .i64 CU, .slice AU nU cU] 24)
  replace DY := DY.alloc (.cells #[.int .i64 RU, .int .i64 CU, .slice AU nU cU] 24)
  simp only [World.size_alloc] at DU
  have bz := (((Below.refl _ w).alloc (Nat.le_refl _) (.cells #[.int .i64 RX, .int .i64 CX, .slice AX nX cX] 24)).alloc (by simp <;> omega) (.cells #[.int .i64 RY, .int .i64 CY, .slice AY nY cY] 24)).alloc (by simp <;> omega) (.cells #[.int .i64 RU, .int .i64 CU, .slice AU nU cU] 24)
  have hsz0 : (((w.alloc (.cells #[.int .i64 RX, .int .i64 CX, .slice AX nX cX] 24)).alloc (.cells #[.int .i64 RY, .int .i64 CY, .slice AY nY cY] 24)).alloc (.cells #[.int .i64 RU, .int .i64 CU, .slice AU nU cU] 24)).heap.size = w.heap.size + 3 := by simp
  have hFX := hX.lo.on bz
  clear hX
  have hFY := hY.lo.on bz
  clear hY
  have hFU := hU.lo.on bz
  clear hU
  go_enter Try.func7, Try.ntmps7
  obtain ⟨kX_0, kX_1, kX_2, kX_3, kX_4, kX_5⟩ := Mbx.cells DX
  obtain ⟨kY_0, kY_1, kY_2, kY_3, kY_4, kY_5⟩ := Mbx.cells DY
  obtain ⟨kU_0, kU_1, kU_2, kU_3, kU_4, kU_5⟩ := Mbx.cells DU
  go_wp2_with fail
  with_reducible refine (pbU _).mono ?_
  rintro e w1 ⟨rfl, hb⟩
  clear kX_0 kX_1 kX_2 kX_3 kX_4 kX_5 kY_0 kY_1 kY_2 kY_3 kY_4 kY_5 kU_0 kU_1 kU_2 kU_3 kU_4 kU_5
  replace DX := DX.on hb
  replace DY := DY.on hb
  replace DU := DU.on hb
  replace hFX := hFX.on hb
  replace hFY := hFY.on hb
  replace hFU := hFU.on hb
  replace bz := bz.trans (hb.mono bz.size)
  clear hb
  obtain ⟨kX_0, kX_1, kX_2, kX_3, kX_4, kX_5⟩ := Mbx.cells DX
  obtain ⟨kY_0, kY_1, kY_2, kY_3, kY_4, kY_5⟩ := Mbx.cells DY
  obtain ⟨kU_0, kU_1, kU_2, kU_3, kU_4, kU_5⟩ := Mbx.cells DU
  go_wp2_with fail
  with_reducible refine (pbX _).mono ?_
  rintro e w2 ⟨rfl, hb⟩
  clear kX_0 kX_1 kX_2 kX_3 kX_4 kX_5 kY_0 kY_1 kY_2 kY_3 kY_4 kY_5 kU_0 kU_1 kU_2 kU_3 kU_4 kU_5
  replace DX := DX.on hb
  replace DY := DY.on hb
  replace DU := DU.on hb
  replace hFX := hFX.on hb
  replace hFY := hFY.on hb
  replace hFU := hFU.on hb
  replace bz := bz.trans (hb.mono bz.size)
  clear hb
  go_wp2_with fail
  with_reducible refine (known_any _).mono ?_
  rintro e w3 ⟨rfl, hb⟩
  replace DX := DX.on hb
  replace DY := DY.on hb
  replace DU := DU.on hb
  replace hFX := hFX.on hb
  replace hFY := hFY.on hb
  replace hFU := hFU.on hb
  replace bz := bz.trans (hb.mono bz.size)
  clear hb
  go_wp2_with fail
  go_ret
  exact ⟨rfl, bz⟩
set_option maxRecDepth 100000 in
set_option maxHeartbeats 8000000 in
theorem KernelsGer_big3 {w : World} {RX CX : Int} {AX : Option Addr} {nX cX : Nat} {LX : List Int} {RY CY : Int} {AY : Option Addr} {nY cY : Nat} {LY : List Int} {RU CU : Int} {AU : Option Addr} {nU cU : Nat} {LU : List Int} {a : Nat} {turned : Bool} (ba : a ≤ 18446744073709551615) (hX : FL w AX nX cX LX) (hY : FL w AY nY cY LY) (hU : FL w AU nU cU LU) (bU : bigM RU CU nU = false) (bX : bigM RX CX nX = false) (bY : bigM RY CY nY = true) : Calls Try.prog 7 #[.float .f64 a, mV RX CX AX nX cX, mV RY CY AY nY cY, mV RU CU AU nU cU, .bool turned] w (Ans w (.bool true)) := by
  have pbU := fun W => big_any RU CU AU nU cU hU.max W
  rw [bU] at pbU
  clear bU
  have pbX := fun W => big_any RX CX AX nX cX hX.max W
  rw [bX] at pbX
  clear bX
  have pbY := fun W => big_any RY CY AY nY cY hY.max W
  rw [bY] at pbY
  clear bY
  have DX := Blk.new w [.int .i64 RX, .int .i64 CX, .slice AX nX cX] 24
  have DY := Blk.new (w.alloc (.cells #[.int .i64 RX, .int .i64 CX, .slice AX nX cX] 24)) [.int .i64 RY, .int .i64 CY, .slice AY nY cY] 24
  replace DX := DX.alloc (.cells #[.int .i64 RY, .int .i64 CY, .slice AY nY cY] 24)
  simp only [World.size_alloc] at DY
  have DU := Blk.new ((w.alloc (.cells #[.int .i64 RX, .int .i64 CX, .slice AX nX cX] 24)).alloc (.cells #[.int .i64 RY, .int .i64 CY, .slice AY nY cY] 24)) [.int .i64 RU, .int .i64 CU, .slice AU nU cU] 24
  replace DX := DX.alloc (.cells #[.int .i64 RU, .int .i64 CU, .slice AU nU cU] 24)
  replace DY := DY.alloc (.cells #[.int .i64 RU, .int .i64 CU, .slice AU nU cU] 24)
  simp only [World.size_alloc] at DU
  have bz := (((Below.refl _ w).alloc (Nat.le_refl _) (.cells #[.int .i64 RX, .int .i64 CX, .slice AX nX cX] 24)).alloc (by simp <;> omega) (.cells #[.int .i64 RY, .int .i64 CY, .slice AY nY cY] 24)).alloc (by simp <;> omega) (.cells #[.int .i64 RU, .int .i64 CU, .slice AU nU cU] 24)
  have hsz0 : (((w.alloc (.cells #[.int .i64 RX, .int .i64 CX, .slice AX nX cX] 24)).alloc (.cells #[.int .i64 RY, .int .i64 CY, .slice AY nY cY] 24)).alloc (.cells #[.int .i64 RU, .int .i64 CU, .slice AU nU cU] 24)).heap.size = w.heap.size + 3 := by simp
  have hFX := hX.lo.on bz
  clear hX
  have hFY := hY.lo.on bz
  clear hY
  have hFU := hU.lo.on bz
  clear hU
  go_enter Try.func7, Try.ntmps7
  obtain ⟨kX_0, kX_1, kX_2, kX_3, kX_4, kX_5⟩ := Mbx.cells DX
  obtain ⟨kY_0, kY_1, kY_2, kY_3, kY_4, kY_5⟩ := Mbx.cells DY
  obtain ⟨kU_0, kU_1, kU_2, kU_3, kU_4, kU_5⟩ := Mbx.cells DU
  go_wp2_with fail
  with_reducible refine (pbU _).mono ?_
  rintro e w1 ⟨rfl, hb⟩
  clear kX_0 kX_1 kX_2 kX_3 kX_4 kX_5 kY_0 kY_1 kY_2 kY_3 kY_4 kY_5 kU_0 kU_1 kU_2 kU_3 kU_4 kU_5
  replace DX := DX.on hb
  replace DY := DY.on hb
  replace DU := DU.on hb
  replace hFX := hFX.on hb
  replace hFY := hFY.on hb
  replace hFU := hFU.on hb
  replace bz := bz.trans (hb.mono bz.size)
  clear hb
  obtain ⟨kX_0, kX_1, kX_2, kX_3, kX_4, kX_5⟩ := Mbx.cells DX
  obtain ⟨kY_0, kY_1, kY_2, kY_3, kY_4, kY_5⟩ := Mbx.cells DY
  obtain ⟨kU_0, kU_1, kU_2, kU_3, kU_4, kU_5⟩ := Mbx.cells DU
  go_wp2_with fail
  with_reducible refine (pbX _).mono ?_
  rintro e w2 ⟨rfl, hb⟩
  clear kX_0 kX_1 kX_2 kX_3 kX_4 kX_5 kY_0 kY_1 kY_2 kY_3 kY_4 kY_5 kU_0 kU_1 kU_2 kU_3 kU_4 kU_5
  replace DX := DX.on hb
  replace DY := DY.on hb
  replace DU := DU.on hb
  replace hFX := hFX.on hb
  replace hFY := hFY.on hb
  replace hFU := hFU.on hb
  replace bz := bz.trans (hb.mono bz.size)
  clear hb
  obtain ⟨kX_0, kX_1, kX_2, kX_3, kX_4, kX_5⟩ := Mbx.cells DX
  obtain ⟨kY_0, kY_1, kY_2, kY_3, kY_4, kY_5⟩ := Mbx.cells DY
  obtain ⟨kU_0, kU_1, kU_2, kU_3, kU_4, kU_5⟩ := Mbx.cells DU
  go_wp2_with fail
  with_reducible refine (pbY _).mono ?_
  rintro e w3 ⟨rfl, hb⟩
  clear kX_0 kX_1 kX_2 kX_3 kX_4 kX_5 kY_0 kY_1 kY_2 kY_3 kY_4 kY_5 kU_0 kU_1 kU_2 kU_3 kU_4 kU_5
  replace DX := DX.on hb
  replace DY := DY.on hb
  replace DU := DU.on hb
  replace hFX := hFX.on hb
  replace hFY := hFY.on hb
  replace hFU := hFU.on hb
  replace bz := bz.trans (hb.mono bz.size)
  clear hb
  go_wp2_with fail
  with_reducible refine (known_any _).mono ?_
  rintro e w4 ⟨rfl, hb⟩
  replace DX := DX.on hb
  replace DY := DY.on hb
  replace DU := DU.on hb
  replace hFX := hFX.on hb
  replace hFY := hFY.on hb
  replace hFU := hFU.on hb
  replace bz := bz.trans (hb.mono bz.size)
  clear hb
  go_wp2_with fail
  go_ret
  exact ⟨rfl, bz⟩
set_option maxRecDepth 100000 in
set_option maxHeartbeats 8000000 in
theorem KernelsGer_no {w : World} {RX CX : Int} {AX : Option Addr} {nX cX : Nat} {LX : List Int} {RY CY : Int} {AY : Option Addr} {nY cY : Nat} {LY : List Int} {RU CU : Int} {AU : Option Addr} {nU cU : Nat} {LU : List Int} {a : Nat} {turned : Bool} (ba : a ≤ 18446744073709551615) (hX : FL w AX nX cX LX) (hY : FL w AY nY cY LY) (hU : FL w AU nU cU LU) (bU : bigM RU CU nU = false) (bX : bigM RX CX nX = false) (bY : bigM RY CY nY = false) (hf : (vecM RX CX && vecM RY CY && !(RU != (nX : Int)) && !(CU != (nY : Int))) = false) : Calls Try.prog 7 #[.float .f64 a, mV RX CX AX nX cX, mV RY CY AY nY cY, mV RU CU AU nU cU, .bool turned] w (Ans w (.bool true)) := by
  have pbU := fun W => big_any RU CU AU nU cU hU.max W
  rw [bU] at pbU
  obtain ⟨zU, eU, uU⟩ := big_is bU
  have HSU := Lib.hid (And.intro zU eU)
  clear bU zU eU
  have pbX := fun W => big_any RX CX AX nX cX hX.max W
  rw [bX] at pbX
  obtain ⟨zX, eX, uX⟩ := big_is bX
  have HSX := Lib.hid (And.intro zX eX)
  clear bX zX eX
  have pbY := fun W => big_any RY CY AY nY cY hY.max W
  rw [bY] at pbY
  obtain ⟨zY, eY, uY⟩ := big_is bY
  have HSY := Lib.hid (And.intro zY eY)
  clear bY zY eY
  have EX := Lib.hid hX.1
  have mxX := hX.max
  have EY := Lib.hid hY.1
  have mxY := hY.max
  have EU := Lib.hid hU.1
  have mxU := hU.max
  have HFT := Lib.hid hf
  clear hf
  have DX := Blk.new w [.int .i64 RX, .int .i64 CX, .slice AX nX cX] 24
  have DY := Blk.new (w.alloc (.cells #[.int .i64 RX, .int .i64 CX, .slice AX nX cX] 24)) [.int .i64 RY, .int .i64 CY, .slice AY nY cY] 24
  replace DX := DX.alloc (.cells #[.int .i64 RY, .int .i64 CY, .slice AY nY cY] 24)
  simp only [World.size_alloc] at DY
  have DU := Blk.new ((w.alloc (.cells #[.int .i64 RX, .int .i64 CX, .slice AX nX cX] 24)).alloc (.cells #[.int .i64 RY, .int .i64 CY, .slice AY nY cY] 24)) [.int .i64 RU, .int .i64 CU, .slice AU nU cU] 24
  replace DX := DX.alloc (.cells #[.int .i64 RU, .int .i64 CU, .slice AU nU cU] 24)
  replace DY := DY.alloc (.cells #[.int .i64 RU, .int .i64 CU, .slice AU nU cU] 24)
  simp only [World.size_alloc] at DU
  have bz := (((Below.refl _ w).alloc (Nat.le_refl _) (.cells #[.int .i64 RX, .int .i64 CX, .slice AX nX cX] 24)).alloc (by simp <;> omega) (.cells #[.int .i64 RY, .int .i64 CY, .slice AY nY cY] 24)).alloc (by simp <;> omega) (.cells #[.int .i64 RU, .int .i64 CU, .slice AU nU cU] 24)
  have hsz0 : (((w.alloc (.cells #[.int .i64 RX, .int .i64 CX, .slice AX nX cX] 24)).alloc (.cells #[.int .i64 RY, .int .i64 CY, .slice AY nY cY] 24)).alloc (.cells #[.int .i64 RU, .int .i64 CU, .slice AU nU cU] 24)).heap.size = w.heap.size + 3 := by simp
  have hFX := hX.lo.on bz
  clear hX
  have hFY := hY.lo.on bz
  clear hY
  have hFU := hU.lo.on bz
  clear hU
  go_enter Try.func7, Try.ntmps7
  obtain ⟨kX_0, kX_1, kX_2, kX_3, kX_4, kX_5⟩ := Mbx.cells DX
  obtain ⟨kY_0, kY_1, kY_2, kY_3, kY_4, kY_5⟩ := Mbx.cells DY
  obtain ⟨kU_0, kU_1, kU_2, kU_3, kU_4, kU_5⟩ := Mbx.cells DU
  go_wp2_with fail
  with_reducible refine (pbU _).mono ?_
  rintro e w1 ⟨rfl, hb⟩
  clear kX_0 kX_1 kX_2 kX_3 kX_4 kX_5 kY_0 kY_1 kY_2 kY_3 kY_4 kY_5 kU_0 kU_1 kU_2 kU_3 kU_4 kU_5
  replace DX := DX.on hb
  replace DY := DY.on hb
  replace DU := DU.on hb
  replace hFX := hFX.on hb
  replace hFY := hFY.on hb
  replace hFU := hFU.on hb
  replace bz := bz.trans (hb.mono bz.size)
  clear hb
  obtain ⟨kX_0, kX_1, kX_2, kX_3, kX_4, kX_5⟩ := Mbx.cells DX
  obtain ⟨kY_0, kY_1, kY_2, kY_3, kY_4, kY_5⟩ := Mbx.cells DY
  obtain ⟨kU_0, kU_1, kU_2, kU_3, kU_4, kU_5⟩ := Mbx.cells DU
  go_wp2_with fail
  with_reducible refine (pbX _).mono ?_
  rintro e w2 ⟨rfl, hb⟩
  clear kX_0 kX_1 kX_2 kX_3 kX_4 kX_5 kY_0 kY_1 kY_2 kY_3 kY_4 kY_5 kU_0 kU_1 kU_2 kU_3 kU_4 kU_5
  replace DX := DX.on hb
  replace DY := DY.on hb
  replace DU := DU.on hb
  replace hFX := hFX.on hb
  replace hFY := hFY.on hb
  replace hFU := hFU.on hb
  replace bz := bz.trans (hb.mono bz.size)
  clear hb
  obtain ⟨kX_0, kX_1, kX_2, kX_3, kX_4, kX_5⟩ := Mbx.cells DX
  obtain ⟨kY_0, kY_1, kY_2, kY_3, kY_4, kY_5⟩ := Mbx.cells DY
  obtain ⟨kU_0, kU_1, kU_2, kU_3, kU_4, kU_5⟩ := Mbx.cells DU
  go_wp2_with fail
  with_reducible refine (pbY _).mono ?_
  rintro e w3 ⟨rfl, hb⟩
  clear kX_0 kX_1 kX_2 kX_3 kX_4 kX_5 kY_0 kY_1 kY_2 kY_3 kY_4 kY_5 kU_0 kU_1 kU_2 kU_3 kU_4 kU_5
  replace DX := DX.on hb
  replace DY := DY.on hb
  replace DU := DU.on hb
  replace hFX := hFX.on hb
  replace hFY := hFY.on hb
  replace hFU := hFU.on hb
  replace bz := bz.trans (hb.mono bz.size)
  clear hb
  obtain ⟨kX_0, kX_1, kX_2, kX_3, kX_4, kX_5⟩ := Mbx.cells DX
  obtain ⟨kY_0, kY_1, kY_2, kY_3, kY_4, kY_5⟩ := Mbx.cells DY
  obtain ⟨kU_0, kU_1, kU_2, kU_3, kU_4, kU_5⟩ := Mbx.cells DU
  have hszw : w.heap.size + 3 ≤ w3.heap.size := by have := DU.lt; omega
  go_wp2_with fail
  with_reducible refine (of_any turned hFU.fl HSU.out.1 HSU.out.2).mono ?_
  rintro e w4 ⟨VU, sVU, gVU, capVU, cVU, lVU, rfl, hVU, hb⟩
  clear kX_0 kX_1 kX_2 kX_3 kX_4 kX_5 kY_0 kY_1 kY_2 kY_3 kY_4 kY_5 kU_0 kU_1 kU_2 kU_3 kU_4 kU_5
  replace DX := DX.on hb
  replace DY := DY.on hb
  replace DU := DU.on hb
  replace hFX := hFX.on hb
  replace hFY := hFY.on hb
  replace hFU := hFU.on hb
  replace bz := bz.trans (hb.mono bz.size)
  clear hb
  have hgy : w.heap.size + 3 ≤ gVU ∧ w.heap.size + 3 ≤ sVU := by have h1 := hVU.st.lo; have h2 := hVU.st.gt.1; omega
  have hlt := And.intro hVU.st.lt hVU.st.gt.2
  have DVU := Blk.new w4 (VU).L 30
  obtain ⟨HDVU, eHDVU⟩ : ∃ H, w4.heap.size = H := ⟨_, rfl⟩
  rw [eHDVU] at DVU
  replace DX := DX.on ((Below.refl _ _).alloc (Nat.le_refl _) (.cells (VU).L.toArray 30))
  replace DY := DY.on ((Below.refl _ _).alloc (Nat.le_refl _) (.cells (VU).L.toArray 30))
  replace DU := DU.on ((Below.refl _ _).alloc (Nat.le_refl _) (.cells (VU).L.toArray 30))
  replace hFX := hFX.on ((Below.refl _ _).alloc (Nat.le_refl _) (.cells (VU).L.toArray 30))
  replace hFY := hFY.on ((Below.refl _ _).alloc (Nat.le_refl _) (.cells (VU).L.toArray 30))
  replace hFU := hFU.on ((Below.refl _ _).alloc (Nat.le_refl _) (.cells (VU).L.toArray 30))
  replace hVU := hVU.on ((Below.refl _ _).alloc (Nat.le_refl _) (.cells (VU).L.toArray 30))
  replace bz := bz.alloc bz.size (.cells (VU).L.toArray 30)
  have HHDVU := Lib.hid eHDVU
  rw [eHDVU] at hlt
  clear hszw
  go_wp2_with fail
  replace DX := DX.drew
  replace DY := DY.drew
  replace DU := DU.drew
  replace hFX := hFX.drew
  replace hFY := hFY.drew
  replace hFU := hFU.drew
  replace hVU := hVU.drew
  replace DVU := DVU.drew
  replace bz := bz.drew
  refine wp_region_held_drew (S := fun w9 : World => Mbx w9 w.heap.size RX CX AX nX cX ∧ Mbx w9 (w.heap.size + 1) RY CY AY nY cY ∧ Mbx w9 (w.heap.size + 2) RU CU AU nU cU ∧ Vbx w9 HDVU VU) (by kernel_rfl) ⟨DX, DY, DU, DVU⟩ (fun hS => ?_)
  generalize (w4.alloc (.cells (VU).L.toArray 30)).drew = wd4 at hS DX DY DU hFX hFY hFU hVU DVU  bz ⊢
  refine wpAnyH_take (i := 0) (v := ?v0_1) rfl (by kernel_rfl) (by kernel_rfl) (by kernel_rfl) (fun _ _ _ h => h) (Or.inl ⟨by rfl, ?hy0_1⟩) (by assumption) ?rest0_1
  case hy0_1 => (intro w9 hSw; clear hSw; go_simp; try with_reducible rfl)
  try simp only [Act.put, List.setIfInBounds_toArray, List.set_cons_zero, List.set_cons_succ, List.getElem_toArray, List.getElem_cons_zero, List.getElem_cons_succ]
  refine wpAnyH_take (i := 1) (v := ?v1_2) rfl (by kernel_rfl) (by kernel_rfl) (by kernel_rfl) (fun _ _ _ h => h) (Or.inl ⟨by rfl, ?hy1_2⟩) (by assumption) ?rest1_2
  case hy1_2 => (intro w9 hSw; obtain ⟨m0, m1, m2, m3⟩ := hSw; obtain ⟨q0_0, q0_1, q0_2, q0_3, q0_4, q0_5⟩ := Mbx.cells m0; obtain ⟨q1_0, q1_1, q1_2, q1_3, q1_4, q1_5⟩ := Mbx.cells m1; obtain ⟨q2_0, q2_1, q2_2, q2_3, q2_4, q2_5⟩ := Mbx.cells m2; go_simp; try with_reducible rfl)
  try simp only [Act.put, List.setIfInBounds_toArray, List.set_cons_zero, List.set_cons_succ, List.getElem_toArray, List.getElem_cons_zero, List.getElem_cons_succ]
  refine wpAnyH_take (i := 3) (v := ?v3_3) rfl (by kernel_rfl) (by kernel_rfl) (by kernel_rfl) (fun _ _ _ h => h) (Or.inl ⟨by rfl, ?hy3_3⟩) (by assumption) ?rest3_3
  case hy3_3 => (intro w9 hSw; obtain ⟨m0, m1, m2, m3⟩ := hSw; obtain ⟨q0_0, q0_1, q0_2, q0_3, q0_4, q0_5⟩ := Mbx.cells m0; obtain ⟨q1_0, q1_1, q1_2, q1_3, q1_4, q1_5⟩ := Mbx.cells m1; obtain ⟨q2_0, q2_1, q2_2, q2_3, q2_4, q2_5⟩ := Mbx.cells m2; go_simp; try with_reducible rfl)
  try simp only [Act.put, List.setIfInBounds_toArray, List.set_cons_zero, List.set_cons_succ, List.getElem_toArray, List.getElem_cons_zero, List.getElem_cons_succ]
  refine wpAnyH_take (i := 4) (v := ?v4_4) rfl (by kernel_rfl) (by kernel_rfl) (by kernel_rfl) (fun _ _ _ h => h) (Or.inl ⟨by rfl, ?hy4_4⟩) (by assumption) ?rest4_4
  case hy4_4 => (intro w9 hSw; clear hSw; go_simp; try with_reducible rfl)
  try simp only [Act.put, List.setIfInBounds_toArray, List.set_cons_zero, List.set_cons_succ, List.getElem_toArray, List.getElem_cons_zero, List.getElem_cons_succ]
  refine wpAnyH_take (i := 6) (v := ?v6_5) rfl (by kernel_rfl) (by kernel_rfl) (by kernel_rfl) (fun _ _ _ h => h) (Or.inl ⟨by rfl, ?hy6_5⟩) (by assumption) ?rest6_5
  case hy6_5 => (intro w9 hSw; obtain ⟨m0, m1, m2, m3⟩ := hSw; refine (ld_v (by rfl) (by kernel_rfl) m3).trans ?_; with_reducible rfl)
  try simp only [Act.put, List.setIfInBounds_toArray, List.set_cons_zero, List.set_cons_succ, List.getElem_toArray, List.getElem_cons_zero, List.getElem_cons_succ]
  refine wpAnyH_ready (rs := [2]) (by kernel_rfl) (by simp) ?_
  refine AllReadyH.cons rfl (fun K hK => ?_) AllReadyH.nil
  go_simp
  with_reducible refine (of_any false hFX.fl HSX.out.1 HSX.out.2).mono ?_
  rintro e w5 ⟨VX, sVX, gVX, capVX, cVX, lVX, rfl, hVX, hb⟩
  replace DX := DX.on hb
  replace DY := DY.on hb
  replace DU := DU.on hb
  replace hFX := hFX.on hb
  replace hFY := hFY.on hb
  replace hFU := hFU.on hb
  replace hVU := hVU.on hb
  replace DVU := DVU.on hb
  replace bz := bz.trans (hb.mono bz.size)
  clear hb
  refine hK.out _ _ ⟨DX, DY, DU, DVU⟩ (fun hH => ?_)
  clear hK K hS
  have hS := hH
  clear hH
  try simp only [Act.put, List.setIfInBounds_toArray, List.set_cons_zero, List.set_cons_succ, List.getElem_toArray, List.getElem_cons_zero, List.getElem_cons_succ]
  refine wpAnyH_ready (rs := [5]) (by kernel_rfl) (by simp) ?_
  refine AllReadyH.cons rfl (fun K hK => ?_) AllReadyH.nil
  go_simp
  with_reducible refine (of_any turned hFY.fl HSY.out.1 HSY.out.2).mono ?_
  rintro e w6 ⟨VY, sVY, gVY, capVY, cVY, lVY, rfl, hVY, hb⟩
  replace DX := DX.on hb
  replace DY := DY.on hb
  replace DU := DU.on hb
  replace hFX := hFX.on hb
  replace hFY := hFY.on hb
  replace hFU := hFU.on hb
  replace hVU := hVU.on hb
  replace DVU := DVU.on hb
  replace hVX := hVX.on hb
  replace bz := bz.trans (hb.mono bz.size)
  clear hb
  refine hK.out _ _ ⟨DX, DY, DU, DVU⟩ (fun hH => ?_)
  clear hK K hS
  have hS := hH
  clear hH
  try simp only [Act.put, List.setIfInBounds_toArray, List.set_cons_zero, List.set_cons_succ, List.getElem_toArray, List.getElem_cons_zero, List.getElem_cons_succ]
  refine wpAnyH_ready (rs := [7]) (by kernel_rfl) (by simp) ?_
  refine AllReadyH.cons rfl (fun K hK => ?_) AllReadyH.nil
  go_simp
  with_reducible refine (ger_no hVU hVX hVY EX.out EY.out HFT.out).mono ?_
  rintro e w7 ⟨rfl, hb⟩
  replace DX := DX.on hb
  replace DY := DY.on hb
  replace DU := DU.on hb
  replace hFX := hFX.on hb
  replace hFY := hFY.on hb
  replace hFU := hFU.on hb
  replace hVU := hVU.on hb
  replace DVU := DVU.on hb
  replace hVX := hVX.on hb
  replace hVY := hVY.on hb
  replace bz := bz.trans (hb.mono bz.size)
  clear hb
  clear hVX hVY
  refine hK.out _ _ ⟨DX, DY, DU, DVU⟩ (fun hH => ?_)
  clear hK K hS
  have hS := hH
  clear hH
  try simp only [Act.put, List.setIfInBounds_toArray, List.set_cons_zero, List.set_cons_succ, List.getElem_toArray, List.getElem_cons_zero, List.getElem_cons_succ]
  refine wpAnyH_take (i := 8) (v := ?v8_6) rfl (by kernel_rfl) (by kernel_rfl) (by kernel_rfl) (fun _ _ _ h => h) (Or.inl ⟨by rfl, ?hy8_6⟩) (by assumption) ?rest8_6
  case hy8_6 => (intro w9 hSw; clear hSw; go_simp; try with_reducible rfl)
  try simp only [Act.put, List.setIfInBounds_toArray, List.set_cons_zero, List.set_cons_succ, List.getElem_toArray, List.getElem_cons_zero, List.getElem_cons_succ]
  refine wpAnyH_done (by kernel_rfl) ?_ _
  have HFv := HFT.out
  cases f0 : vecM RX CX
  · skip
    have p9 := rVector_any RX CX AX nX cX
    rw [f0] at p9
    obtain ⟨kX_0, kX_1, kX_2, kX_3, kX_4, kX_5⟩ := Mbx.cells DX
    obtain ⟨kY_0, kY_1, kY_2, kY_3, kY_4, kY_5⟩ := Mbx.cells DY
    obtain ⟨kU_0, kU_1, kU_2, kU_3, kU_4, kU_5⟩ := Mbx.cells DU
    go_wp2_with fail
    with_reducible refine (p9 _).mono ?_
    rintro e w8 ⟨rfl, hb⟩
    clear kX_0 kX_1 kX_2 kX_3 kX_4 kX_5 kY_0 kY_1 kY_2 kY_3 kY_4 kY_5 kU_0 kU_1 kU_2 kU_3 kU_4 kU_5
    replace DX := DX.on hb
    replace DY := DY.on hb
    replace DU := DU.on hb
    replace hFX := hFX.on hb
    replace hFY := hFY.on hb
    replace hFU := hFU.on hb
    replace hVU := hVU.on hb
    replace DVU := DVU.on hb
    replace bz := bz.trans (hb.mono bz.size)
    clear hb p9
    obtain ⟨kX_0, kX_1, kX_2, kX_3, kX_4, kX_5⟩ := Mbx.cells DX
    obtain ⟨kY_0, kY_1, kY_2, kY_3, kY_4, kY_5⟩ := Mbx.cells DY
    obtain ⟨kU_0, kU_1, kU_2, kU_3, kU_4, kU_5⟩ := Mbx.cells DU
    go_wp2_with fail
    with_reducible refine (num_any _ _).mono ?_
    rintro e v9 ⟨rfl, rfl⟩
    clear kX_0 kX_1 kX_2 kX_3 kX_4 kX_5 kY_0 kY_1 kY_2 kY_3 kY_4 kY_5 kU_0 kU_1 kU_2 kU_3 kU_4 kU_5
    obtain ⟨kX_0, kX_1, kX_2, kX_3, kX_4, kX_5⟩ := Mbx.cells DX
    obtain ⟨kY_0, kY_1, kY_2, kY_3, kY_4, kY_5⟩ := Mbx.cells DY
    obtain ⟨kU_0, kU_1, kU_2, kU_3, kU_4, kU_5⟩ := Mbx.cells DU
    obtain ⟨cDVU_0, cDVU_1, cDVU_2, cDVU_3, cDVU_4, cDVU_5, cDVU_6, cDVU_7, cDVU_8⟩ := Vbx.cells DVU
    go_wp2_with fail
    with_reducible refine (shows_true hVU.sv hFU.fl hVU.R hVU.C (sameL_refl LU)).mono ?_
    rintro e w10 ⟨rfl, hb⟩
    clear kX_0 kX_1 kX_2 kX_3 kX_4 kX_5 kY_0 kY_1 kY_2 kY_3 kY_4 kY_5 kU_0 kU_1 kU_2 kU_3 kU_4 kU_5 cDVU_0 cDVU_1 cDVU_2 cDVU_3 cDVU_4 cDVU_5 cDVU_6 cDVU_7 cDVU_8
    replace DX := DX.on hb
    replace DY := DY.on hb
    replace DU := DU.on hb
    replace hFX := hFX.on hb
    replace hFY := hFY.on hb
    replace hFU := hFU.on hb
    replace hVU := hVU.on hb
    replace DVU := DVU.on hb
    replace bz := bz.trans (hb.mono bz.size)
    clear hb
    go_wp2_with fail
    with_reducible refine (known_any _).mono ?_
    rintro e w11 ⟨rfl, hb⟩
    replace DX := DX.on hb
    replace DY := DY.on hb
    replace DU := DU.on hb
    replace hFX := hFX.on hb
    replace hFY := hFY.on hb
    replace hFU := hFU.on hb
    replace hVU := hVU.on hb
    replace DVU := DVU.on hb
    replace bz := bz.trans (hb.mono bz.size)
    clear hb
    go_wp2_with fail
    go_ret
    exact ⟨rfl, bz⟩
  · cases f1 : vecM RY CY
    · skip
      have p9 := rVector_any RX CX AX nX cX
      rw [f0] at p9
      obtain ⟨kX_0, kX_1, kX_2, kX_3, kX_4, kX_5⟩ := Mbx.cells DX
      obtain ⟨kY_0, kY_1, kY_2, kY_3, kY_4, kY_5⟩ := Mbx.cells DY
      obtain ⟨kU_0, kU_1, kU_2, kU_3, kU_4, kU_5⟩ := Mbx.cells DU
      go_wp2_with fail
      with_reducible refine (p9 _).mono ?_
      rintro e w8 ⟨rfl, hb⟩
      clear kX_0 kX_1 kX_2 kX_3 kX_4 kX_5 kY_0 kY_1 kY_2 kY_3 kY_4 kY_5 kU_0 kU_1 kU_2 kU_3 kU_4 kU_5
      replace DX := DX.on hb
      replace DY := DY.on hb
      replace DU := DU.on hb
      replace hFX := hFX.on hb
      replace hFY := hFY.on hb
      replace hFU := hFU.on hb
      replace hVU := hVU.on hb
      replace DVU := DVU.on hb
      replace bz := bz.trans (hb.mono bz.size)
      clear hb p9
      have p9 := rVector_any RY CY AY nY cY
      rw [f1] at p9
      obtain ⟨kX_0, kX_1, kX_2, kX_3, kX_4, kX_5⟩ := Mbx.cells DX
      obtain ⟨kY_0, kY_1, kY_2, kY_3, kY_4, kY_5⟩ := Mbx.cells DY
      obtain ⟨kU_0, kU_1, kU_2, kU_3, kU_4, kU_5⟩ := Mbx.cells DU
      go_wp2_with fail
      with_reducible refine (p9 _).mono ?_
      rintro e w9 ⟨rfl, hb⟩
      clear kX_0 kX_1 kX_2 kX_3 kX_4 kX_5 kY_0 kY_1 kY_2 kY_3 kY_4 kY_5 kU_0 kU_1 kU_2 kU_3 kU_4 kU_5
      replace DX := DX.on hb
      replace DY := DY.on hb
      replace DU := DU.on hb
      replace hFX := hFX.on hb
      replace hFY := hFY.on hb
      replace hFU := hFU.on hb
      replace hVU := hVU.on hb
      replace DVU := DVU.on hb
      replace bz := bz.trans (hb.mono bz.size)
      clear hb p9
      obtain ⟨kX_0, kX_1, kX_2, kX_3, kX_4, kX_5⟩ := Mbx.cells DX
      obtain ⟨kY_0, kY_1, kY_2, kY_3, kY_4, kY_5⟩ := Mbx.cells DY
      obtain ⟨kU_0, kU_1, kU_2, kU_3, kU_4, kU_5⟩ := Mbx.cells DU
      go_wp2_with fail
      with_reducible refine (num_any _ _).mono ?_
      rintro e v10 ⟨rfl, rfl⟩
      clear kX_0 kX_1 kX_2 kX_3 kX_4 kX_5 kY_0 kY_1 kY_2 kY_3 kY_4 kY_5 kU_0 kU_1 kU_2 kU_3 kU_4 kU_5
      obtain ⟨kX_0, kX_1, kX_2, kX_3, kX_4, kX_5⟩ := Mbx.cells DX
      obtain ⟨kY_0, kY_1, kY_2, kY_3, kY_4, kY_5⟩ := Mbx.cells DY
      obtain ⟨kU_0, kU_1, kU_2, kU_3, kU_4, kU_5⟩ := Mbx.cells DU
      obtain ⟨cDVU_0, cDVU_1, cDVU_2, cDVU_3, cDVU_4, cDVU_5, cDVU_6, cDVU_7, cDVU_8⟩ := Vbx.cells DVU
      go_wp2_with fail
      with_reducible refine (shows_true hVU.sv hFU.fl hVU.R hVU.C (sameL_refl LU)).mono ?_
      rintro e w11 ⟨rfl, hb⟩
      clear kX_0 kX_1 kX_2 kX_3 kX_4 kX_5 kY_0 kY_1 kY_2 kY_3 kY_4 kY_5 kU_0 kU_1 kU_2 kU_3 kU_4 kU_5 cDVU_0 cDVU_1 cDVU_2 cDVU_3 cDVU_4 cDVU_5 cDVU_6 cDVU_7 cDVU_8
      replace DX := DX.on hb
      replace DY := DY.on hb
      replace DU := DU.on hb
      replace hFX := hFX.on hb
      replace hFY := hFY.on hb
      replace hFU := hFU.on hb
      replace hVU := hVU.on hb
      replace DVU := DVU.on hb
      replace bz := bz.trans (hb.mono bz.size)
      clear hb
      go_wp2_with fail
      with_reducible refine (known_any _).mono ?_
      rintro e w12 ⟨rfl, hb⟩
      replace DX := DX.on hb
      replace DY := DY.on hb
      replace DU := DU.on hb
      replace hFX := hFX.on hb
      replace hFY := hFY.on hb
      replace hFU := hFU.on hb
      replace hVU := hVU.on hb
      replace DVU := DVU.on hb
      replace bz := bz.trans (hb.mono bz.size)
      clear hb
      go_wp2_with fail
      go_ret
      exact ⟨rfl, bz⟩
    · cases f2 : (RU != (nX : Int))
      · cases f3 : (CU != (nY : Int))
        · exfalso; rw [f0, f1, f2, f3] at HFv; cases HFv
        · skip
          have p9 := rVector_any RX CX AX nX cX
          rw [f0] at p9
          obtain ⟨kX_0, kX_1, kX_2, kX_3, kX_4, kX_5⟩ := Mbx.cells DX
          obtain ⟨kY_0, kY_1, kY_2, kY_3, kY_4, kY_5⟩ := Mbx.cells DY
          obtain ⟨kU_0, kU_1, kU_2, kU_3, kU_4, kU_5⟩ := Mbx.cells DU
          go_wp2_with fail
          with_reducible refine (p9 _).mono ?_
          rintro e w8 ⟨rfl, hb⟩
          clear kX_0 kX_1 kX_2 kX_3 kX_4 kX_5 kY_0 kY_1 kY_2 kY_3 kY_4 kY_5 kU_0 kU_1 kU_2 kU_3 kU_4 kU_5
          replace DX := DX.on hb
          replace DY := DY.on hb
          replace DU := DU.on hb
          replace hFX := hFX.on hb
          replace hFY := hFY.on hb
          replace hFU := hFU.on hb
          replace hVU := hVU.on hb
          replace DVU := DVU.on hb
          replace bz := bz.trans (hb.mono bz.size)
          clear hb p9
          have p9 := rVector_any RY CY AY nY cY
          rw [f1] at p9
          obtain ⟨kX_0, kX_1, kX_2, kX_3, kX_4, kX_5⟩ := Mbx.cells DX
          obtain ⟨kY_0, kY_1, kY_2, kY_3, kY_4, kY_5⟩ := Mbx.cells DY
          obtain ⟨kU_0, kU_1, kU_2, kU_3, kU_4, kU_5⟩ := Mbx.cells DU
          go_wp2_with fail
          with_reducible refine (p9 _).mono ?_
          rintro e w9 ⟨rfl, hb⟩
          clear kX_0 kX_1 kX_2 kX_3 kX_4 kX_5 kY_0 kY_1 kY_2 kY_3 kY_4 kY_5 kU_0 kU_1 kU_2 kU_3 kU_4 kU_5
          replace DX := DX.on hb
          replace DY := DY.on hb
          replace DU := DU.on hb
          replace hFX := hFX.on hb
          replace hFY := hFY.on hb
          replace hFU := hFU.on hb
          replace hVU := hVU.on hb
          replace DVU := DVU.on hb
          replace bz := bz.trans (hb.mono bz.size)
          clear hb p9
          obtain ⟨kX_0, kX_1, kX_2, kX_3, kX_4, kX_5⟩ := Mbx.cells DX
          obtain ⟨kY_0, kY_1, kY_2, kY_3, kY_4, kY_5⟩ := Mbx.cells DY
          obtain ⟨kU_0, kU_1, kU_2, kU_3, kU_4, kU_5⟩ := Mbx.cells DU
          go_wp2_with fail
          with_reducible refine (num_any _ _).mono ?_
          rintro e v10 ⟨rfl, rfl⟩
          clear kX_0 kX_1 kX_2 kX_3 kX_4 kX_5 kY_0 kY_1 kY_2 kY_3 kY_4 kY_5 kU_0 kU_1 kU_2 kU_3 kU_4 kU_5
          obtain ⟨kX_0, kX_1, kX_2, kX_3, kX_4, kX_5⟩ := Mbx.cells DX
          obtain ⟨kY_0, kY_1, kY_2, kY_3, kY_4, kY_5⟩ := Mbx.cells DY
          obtain ⟨kU_0, kU_1, kU_2, kU_3, kU_4, kU_5⟩ := Mbx.cells DU
          obtain ⟨cDVU_0, cDVU_1, cDVU_2, cDVU_3, cDVU_4, cDVU_5, cDVU_6, cDVU_7, cDVU_8⟩ := Vbx.cells DVU
          go_wp2_with fail
          with_reducible refine (shows_true hVU.sv hFU.fl hVU.R hVU.C (sameL_refl LU)).mono ?_
          rintro e w11 ⟨rfl, hb⟩
          clear kX_0 kX_1 kX_2 kX_3 kX_4 kX_5 kY_0 kY_1 kY_2 kY_3 kY_4 kY_5 kU_0 kU_1 kU_2 kU_3 kU_4 kU_5 cDVU_0 cDVU_1 cDVU_2 cDVU_3 cDVU_4 cDVU_5 cDVU_6 cDVU_7 cDVU_8
          replace DX := DX.on hb
          replace DY := DY.on hb
          replace DU := DU.on hb
          replace hFX := hFX.on hb
          replace hFY := hFY.on hb
          replace hFU := hFU.on hb
          replace hVU := hVU.on hb
          replace DVU := DVU.on hb
          replace bz := bz.trans (hb.mono bz.size)
          clear hb
          go_wp2_with fail
          with_reducible refine (known_any _).mono ?_
          rintro e w12 ⟨rfl, hb⟩
          replace DX := DX.on hb
          replace DY := DY.on hb
          replace DU := DU.on hb
          replace hFX := hFX.on hb
          replace hFY := hFY.on hb
          replace hFU := hFU.on hb
          replace hVU := hVU.on hb
          replace DVU := DVU.on hb
          replace bz := bz.trans (hb.mono bz.size)
          clear hb
          go_wp2_with fail
          go_ret
          exact ⟨rfl, bz⟩
      · skip
        have p9 := rVector_any RX CX AX nX cX
        rw [f0] at p9
        obtain ⟨kX_0, kX_1, kX_2, kX_3, kX_4, kX_5⟩ := Mbx.cells DX
        obtain ⟨kY_0, kY_1, kY_2, kY_3, kY_4, kY_5⟩ := Mbx.cells DY
        obtain ⟨kU_0, kU_1, kU_2, kU_3, kU_4, kU_5⟩ := Mbx.cells DU
        go_wp2_with fail
        with_reducible refine (p9 _).mono ?_
        rintro e w8 ⟨rfl, hb⟩
        clear kX_0 kX_1 kX_2 kX_3 kX_4 kX_5 kY_0 kY_1 kY_2 kY_3 kY_4 kY_5 kU_0 kU_1 kU_2 kU_3 kU_4 kU_5
        replace DX := DX.on hb
        replace DY := DY.on hb
        replace DU := DU.on hb
        replace hFX := hFX.on hb
        replace hFY := hFY.on hb
        replace hFU := hFU.on hb
        replace hVU := hVU.on hb
        replace DVU := DVU.on hb
        replace bz := bz.trans (hb.mono bz.size)
        clear hb p9
        have p9 := rVector_any RY CY AY nY cY
        rw [f1] at p9
        obtain ⟨kX_0, kX_1, kX_2, kX_3, kX_4, kX_5⟩ := Mbx.cells DX
        obtain ⟨kY_0, kY_1, kY_2, kY_3, kY_4, kY_5⟩ := Mbx.cells DY
        obtain ⟨kU_0, kU_1, kU_2, kU_3, kU_4, kU_5⟩ := Mbx.cells DU
        go_wp2_with fail
        with_reducible refine (p9 _).mono ?_
        rintro e w9 ⟨rfl, hb⟩
        clear kX_0 kX_1 kX_2 kX_3 kX_4 kX_5 kY_0 kY_1 kY_2 kY_3 kY_4 kY_5 kU_0 kU_1 kU_2 kU_3 kU_4 kU_5
        replace DX := DX.on hb
        replace DY := DY.on hb
        replace DU := DU.on hb
        replace hFX := hFX.on hb
        replace hFY := hFY.on hb
        replace hFU := hFU.on hb
        replace hVU := hVU.on hb
        replace DVU := DVU.on hb
        replace bz := bz.trans (hb.mono bz.size)
        clear hb p9
        obtain ⟨kX_0, kX_1, kX_2, kX_3, kX_4, kX_5⟩ := Mbx.cells DX
        obtain ⟨kY_0, kY_1, kY_2, kY_3, kY_4, kY_5⟩ := Mbx.cells DY
        obtain ⟨kU_0, kU_1, kU_2, kU_3, kU_4, kU_5⟩ := Mbx.cells DU
        go_wp2_with fail
        with_reducible refine (num_any _ _).mono ?_
        rintro e v10 ⟨rfl, rfl⟩
        clear kX_0 kX_1 kX_2 kX_3 kX_4 kX_5 kY_0 kY_1 kY_2 kY_3 kY_4 kY_5 kU_0 kU_1 kU_2 kU_3 kU_4 kU_5
        obtain ⟨kX_0, kX_1, kX_2, kX_3, kX_4, kX_5⟩ := Mbx.cells DX
        obtain ⟨kY_0, kY_1, kY_2, kY_3, kY_4, kY_5⟩ := Mbx.cells DY
        obtain ⟨kU_0, kU_1, kU_2, kU_3, kU_4, kU_5⟩ := Mbx.cells DU
        obtain ⟨cDVU_0, cDVU_1, cDVU_2, cDVU_3, cDVU_4, cDVU_5, cDVU_6, cDVU_7, cDVU_8⟩ := Vbx.cells DVU
        go_wp2_with fail
        with_reducible refine (shows_true hVU.sv hFU.fl hVU.R hVU.C (sameL_refl LU)).mono ?_
        rintro e w11 ⟨rfl, hb⟩
        clear kX_0 kX_1 kX_2 kX_3 kX_4 kX_5 kY_0 kY_1 kY_2 kY_3 kY_4 kY_5 kU_0 kU_1 kU_2 kU_3 kU_4 kU_5 cDVU_0 cDVU_1 cDVU_2 cDVU_3 cDVU_4 cDVU_5 cDVU_6 cDVU_7 cDVU_8
        replace DX := DX.on hb
        replace DY := DY.on hb
        replace DU := DU.on hb
        replace hFX := hFX.on hb
        replace hFY := hFY.on hb
        replace hFU := hFU.on hb
        replace hVU := hVU.on hb
        replace DVU := DVU.on hb
        replace bz := bz.trans (hb.mono bz.size)
        clear hb
        go_wp2_with fail
        with_reducible refine (known_any _).mono ?_
        rintro e w12 ⟨rfl, hb⟩
        replace DX := DX.on hb
        replace DY := DY.on hb
        replace DU := DU.on hb
        replace hFX := hFX.on hb
        replace hFY := hFY.on hb
        replace hFU := hFU.on hb
        replace hVU := hVU.on hb
        replace DVU := DVU.on hb
        replace bz := bz.trans (hb.mono bz.size)
        clear hb
        go_wp2_with fail
        go_ret
        exact ⟨rfl, bz⟩
set_option maxRecDepth 100000 in
set_option maxHeartbeats 8000000 in
theorem KernelsGer_yes {w : World} {RX CX : Int} {AX : Option Addr} {nX cX : Nat} {LX : List Int} {RY CY : Int} {AY : Option Addr} {nY cY : Nat} {LY : List Int} {RU CU : Int} {AU : Option Addr} {nU cU : Nat} {LU : List Int} {a : Nat} {turned : Bool} (ba : a ≤ 18446744073709551615) (hX : FL w AX nX cX LX) (hY : FL w AY nY cY LY) (hU : FL w AU nU cU LU) (bU : bigM RU CU nU = false) (bX : bigM RX CX nX = false) (bY : bigM RY CY nY = false) (hf : (vecM RX CX && vecM RY CY && !(RU != (nX : Int)) && !(CU != (nY : Int))) = true) : Calls Try.prog 7 #[.float .f64 a, mV RX CX AX nX cX, mV RY CY AY nY cY, mV RU CU AU nU cU, .bool turned] w (Ans w (.bool true)) := by
  have pbU := fun W => big_any RU CU AU nU cU hU.max W
  rw [bU] at pbU
  obtain ⟨zU, eU, uU⟩ := big_is bU
  have HSU := Lib.hid (And.intro zU eU)
  clear bU zU eU
  have pbX := fun W => big_any RX CX AX nX cX hX.max W
  rw [bX] at pbX
  obtain ⟨zX, eX, uX⟩ := big_is bX
  have HSX := Lib.hid (And.intro zX eX)
  clear bX zX eX
  have pbY := fun W => big_any RY CY AY nY cY hY.max W
  rw [bY] at pbY
  obtain ⟨zY, eY, uY⟩ := big_is bY
  have HSY := Lib.hid (And.intro zY eY)
  clear bY zY eY
  have EX := Lib.hid hX.1
  have mxX := hX.max
  have EY := Lib.hid hY.1
  have mxY := hY.max
  have EU := Lib.hid hU.1
  have mxU := hU.max
  have hfs := hf
  simp only [Bool.and_eq_true] at hfs
  obtain ⟨⟨⟨f0, f1⟩, f2⟩, f3⟩ := hfs
  replace f2 : (RU != (nX : Int)) = false := by simpa using f2
  replace f3 : (CU != (nY : Int)) = false := by simpa using f3
  have zU := (szB_bd HSU.out.1).1
  obtain ⟨m, hm⟩ := Int.eq_ofNat_of_zero_le zU.1
  obtain ⟨q, hq⟩ := Int.eq_ofNat_of_zero_le zU.2.2.1
  have hnU : nU = m * q := by have := HSU.out.2; rw [hm, hq] at this; exact_mod_cast this
  have hmx : m = nX := by have h := f2; rw [hm] at h; have h2 : (m : Int) = nX := by { simpa using h }; omega
  have hqy : q = nY := by have h := f3; rw [hq] at h; have h2 : (q : Int) = nY := by { simpa using h }; omega
  have hm5 : m ≤ 512 ∧ q ≤ 512 := by omega
  have HM := Lib.hid hm
  have HQ := Lib.hid hq
  have HN := Lib.hid hnU
  have HMX := Lib.hid hmx
  have HQY := Lib.hid hqy
  clear zU hm hq hnU hmx hqy
  have F0 := Lib.hid f0
  clear f0
  have F1 := Lib.hid f1
  clear f1
  have F2 := Lib.hid f2
  clear f2
  have F3 := Lib.hid f3
  clear f3
  have HFT := Lib.hid hf
  clear hf
  have DX := Blk.new w [.int .i64 RX, .int .i64 CX, .slice AX nX cX] 24
  have DY := Blk.new (w.alloc (.cells #[.int .i64 RX, .int .i64 CX, .slice AX nX cX] 24)) [.int .i64 RY, .int .i64 CY, .slice AY nY cY] 24
  replace DX := DX.alloc (.cells #[.int .i64 RY, .int .i64 CY, .slice AY nY cY] 24)
  simp only [World.size_alloc] at DY
  have DU := Blk.new ((w.alloc (.cells #[.int .i64 RX, .int .i64 CX, .slice AX nX cX] 24)).alloc (.cells #[.int .i64 RY, .int .i64 CY, .slice AY nY cY] 24)) [.int .i64 RU, .int .i64 CU, .slice AU nU cU] 24
  replace DX := DX.alloc (.cells #[.int .i64 RU, .int .i64 CU, .slice AU nU cU] 24)
  replace DY := DY.alloc (.cells #[.int .i64 RU, .int .i64 CU, .slice AU nU cU] 24)
  simp only [World.size_alloc] at DU
  have bz := (((Below.refl _ w).alloc (Nat.le_refl _) (.cells #[.int .i64 RX, .int .i64 CX, .slice AX nX cX] 24)).alloc (by simp <;> omega) (.cells #[.int .i64 RY, .int .i64 CY, .slice AY nY cY] 24)).alloc (by simp <;> omega) (.cells #[.int .i64 RU, .int .i64 CU, .slice AU nU cU] 24)
  have hsz0 : (((w.alloc (.cells #[.int .i64 RX, .int .i64 CX, .slice AX nX cX] 24)).alloc (.cells #[.int .i64 RY, .int .i64 CY, .slice AY nY cY] 24)).alloc (.cells #[.int .i64 RU, .int .i64 CU, .slice AU nU cU] 24)).heap.size = w.heap.size + 3 := by simp
  have hFX := hX.lo.on bz
  clear hX
  have hFY := hY.lo.on bz
  clear hY
  have hFU := hU.lo.on bz
  clear hU
  go_enter Try.func7, Try.ntmps7
  obtain ⟨kX_0, kX_1, kX_2, kX_3, kX_4, kX_5⟩ := Mbx.cells DX
  obtain ⟨kY_0, kY_1, kY_2, kY_3, kY_4, kY_5⟩ := Mbx.cells DY
  obtain ⟨kU_0, kU_1, kU_2, kU_3, kU_4, kU_5⟩ := Mbx.cells DU
  go_wp2_with fail
  with_reducible refine (pbU _).mono ?_
  rintro e w1 ⟨rfl, hb⟩
  clear kX_0 kX_1 kX_2 kX_3 kX_4 kX_5 kY_0 kY_1 kY_2 kY_3 kY_4 kY_5 kU_0 kU_1 kU_2 kU_3 kU_4 kU_5
  replace DX := DX.on hb
  replace DY := DY.on hb
  replace DU := DU.on hb
  replace hFX := hFX.on hb
  replace hFY := hFY.on hb
  replace hFU := hFU.on hb
  replace bz := bz.trans (hb.mono bz.size)
  clear hb
  obtain ⟨kX_0, kX_1, kX_2, kX_3, kX_4, kX_5⟩ := Mbx.cells DX
  obtain ⟨kY_0, kY_1, kY_2, kY_3, kY_4, kY_5⟩ := Mbx.cells DY
  obtain ⟨kU_0, kU_1, kU_2, kU_3, kU_4, kU_5⟩ := Mbx.cells DU
  go_wp2_with fail
  with_reducible refine (pbX _).mono ?_
  rintro e w2 ⟨rfl, hb⟩
  clear kX_0 kX_1 kX_2 kX_3 kX_4 kX_5 kY_0 kY_1 kY_2 kY_3 kY_4 kY_5 kU_0 kU_1 kU_2 kU_3 kU_4 kU_5
  replace DX := DX.on hb
  replace DY := DY.on hb
  replace DU := DU.on hb
  replace hFX := hFX.on hb
  replace hFY := hFY.on hb
  replace hFU := hFU.on hb
  replace bz := bz.trans (hb.mono bz.size)
  clear hb
  obtain ⟨kX_0, kX_1, kX_2, kX_3, kX_4, kX_5⟩ := Mbx.cells DX
  obtain ⟨kY_0, kY_1, kY_2, kY_3, kY_4, kY_5⟩ := Mbx.cells DY
  obtain ⟨kU_0, kU_1, kU_2, kU_3, kU_4, kU_5⟩ := Mbx.cells DU
  go_wp2_with fail
  with_reducible refine (pbY _).mono ?_
  rintro e w3 ⟨rfl, hb⟩
  clear kX_0 kX_1 kX_2 kX_3 kX_4 kX_5 kY_0 kY_1 kY_2 kY_3 kY_4 kY_5 kU_0 kU_1 kU_2 kU_3 kU_4 kU_5
  replace DX := DX.on hb
  replace DY := DY.on hb
  replace DU := DU.on hb
  replace hFX := hFX.on hb
  replace hFY := hFY.on hb
  replace hFU := hFU.on hb
  replace bz := bz.trans (hb.mono bz.size)
  clear hb
  obtain ⟨kX_0, kX_1, kX_2, kX_3, kX_4, kX_5⟩ := Mbx.cells DX
  obtain ⟨kY_0, kY_1, kY_2, kY_3, kY_4, kY_5⟩ := Mbx.cells DY
  obtain ⟨kU_0, kU_1, kU_2, kU_3, kU_4, kU_5⟩ := Mbx.cells DU
  have hszw : w.heap.size + 3 ≤ w3.heap.size := by have := DU.lt; omega
  go_wp2_with fail
  with_reducible refine (of_any turned hFU.fl HSU.out.1 HSU.out.2).mono ?_
  rintro e w4 ⟨VU, sVU, gVU, capVU, cVU, lVU, rfl, hVU, hb⟩
  clear kX_0 kX_1 kX_2 kX_3 kX_4 kX_5 kY_0 kY_1 kY_2 kY_3 kY_4 kY_5 kU_0 kU_1 kU_2 kU_3 kU_4 kU_5
  replace DX := DX.on hb
  replace DY := DY.on hb
  replace DU := DU.on hb
  replace hFX := hFX.on hb
  replace hFY := hFY.on hb
  replace hFU := hFU.on hb
  replace bz := bz.trans (hb.mono bz.size)
  clear hb
  have hgy : w.heap.size + 3 ≤ gVU ∧ w.heap.size + 3 ≤ sVU := by have h1 := hVU.st.lo; have h2 := hVU.st.gt.1; omega
  have hlt := And.intro hVU.st.lt hVU.st.gt.2
  have DVU := Blk.new w4 (VU).L 30
  obtain ⟨HDVU, eHDVU⟩ : ∃ H, w4.heap.size = H := ⟨_, rfl⟩
  rw [eHDVU] at DVU
  replace DX := DX.on ((Below.refl _ _).alloc (Nat.le_refl _) (.cells (VU).L.toArray 30))
  replace DY := DY.on ((Below.refl _ _).alloc (Nat.le_refl _) (.cells (VU).L.toArray 30))
  replace DU := DU.on ((Below.refl _ _).alloc (Nat.le_refl _) (.cells (VU).L.toArray 30))
  replace hFX := hFX.on ((Below.refl _ _).alloc (Nat.le_refl _) (.cells (VU).L.toArray 30))
  replace hFY := hFY.on ((Below.refl _ _).alloc (Nat.le_refl _) (.cells (VU).L.toArray 30))
  replace hFU := hFU.on ((Below.refl _ _).alloc (Nat.le_refl _) (.cells (VU).L.toArray 30))
  replace hVU := hVU.on ((Below.refl _ _).alloc (Nat.le_refl _) (.cells (VU).L.toArray 30))
  replace bz := bz.alloc bz.size (.cells (VU).L.toArray 30)
  have HHDVU := Lib.hid eHDVU
  rw [eHDVU] at hlt
  clear hszw
  go_wp2_with fail
  replace DX := DX.drew
  replace DY := DY.drew
  replace DU := DU.drew
  replace hFX := hFX.drew
  replace hFY := hFY.drew
  replace hFU := hFU.drew
  replace hVU := hVU.drew
  replace DVU := DVU.drew
  replace bz := bz.drew
  refine wp_region_held_drew (S := fun w9 : World => Mbx w9 w.heap.size RX CX AX nX cX ∧ Mbx w9 (w.heap.size + 1) RY CY AY nY cY ∧ Mbx w9 (w.heap.size + 2) RU CU AU nU cU ∧ Vbx w9 HDVU VU) (by kernel_rfl) ⟨DX, DY, DU, DVU⟩ (fun hS => ?_)
  generalize (w4.alloc (.cells (VU).L.toArray 30)).drew = wd4 at hS DX DY DU hFX hFY hFU hVU DVU  bz ⊢
  refine wpAnyH_take (i := 0) (v := ?v0_7) rfl (by kernel_rfl) (by kernel_rfl) (by kernel_rfl) (fun _ _ _ h => h) (Or.inl ⟨by rfl, ?hy0_7⟩) (by assumption) ?rest0_7
  case hy0_7 => (intro w9 hSw; clear hSw; go_simp; try with_reducible rfl)
  try simp only [Act.put, List.setIfInBounds_toArray, List.set_cons_zero, List.set_cons_succ, List.getElem_toArray, List.getElem_cons_zero, List.getElem_cons_succ]
  refine wpAnyH_take (i := 1) (v := ?v1_8) rfl (by kernel_rfl) (by kernel_rfl) (by kernel_rfl) (fun _ _ _ h => h) (Or.inl ⟨by rfl, ?hy1_8⟩) (by assumption) ?rest1_8
  case hy1_8 => (intro w9 hSw; obtain ⟨m0, m1, m2, m3⟩ := hSw; obtain ⟨q0_0, q0_1, q0_2, q0_3, q0_4, q0_5⟩ := Mbx.cells m0; obtain ⟨q1_0, q1_1, q1_2, q1_3, q1_4, q1_5⟩ := Mbx.cells m1; obtain ⟨q2_0, q2_1, q2_2, q2_3, q2_4, q2_5⟩ := Mbx.cells m2; go_simp; try with_reducible rfl)
  try simp only [Act.put, List.setIfInBounds_toArray, List.set_cons_zero, List.set_cons_succ, List.getElem_toArray, List.getElem_cons_zero, List.getElem_cons_succ]
  refine wpAnyH_take (i := 3) (v := ?v3_9) rfl (by kernel_rfl) (by kernel_rfl) (by kernel_rfl) (fun _ _ _ h => h) (Or.inl ⟨by rfl, ?hy3_9⟩) (by assumption) ?rest3_9
  case hy3_9 => (intro w9 hSw; obtain ⟨m0, m1, m2, m3⟩ := hSw; obtain ⟨q0_0, q0_1, q0_2, q0_3, q0_4, q0_5⟩ := Mbx.cells m0; obtain ⟨q1_0, q1_1, q1_2, q1_3, q1_4, q1_5⟩ := Mbx.cells m1; obtain ⟨q2_0, q2_1, q2_2, q2_3, q2_4, q2_5⟩ := Mbx.cells m2; go_simp; try with_reducible rfl)
  try simp only [Act.put, List.setIfInBounds_toArray, List.set_cons_zero, List.set_cons_succ, List.getElem_toArray, List.getElem_cons_zero, List.getElem_cons_succ]
  refine wpAnyH_take (i := 4) (v := ?v4_10) rfl (by kernel_rfl) (by kernel_rfl) (by kernel_rfl) (fun _ _ _ h => h) (Or.inl ⟨by rfl, ?hy4_10⟩) (by assumption) ?rest4_10
  case hy4_10 => (intro w9 hSw; clear hSw; go_simp; try with_reducible rfl)
  try simp only [Act.put, List.setIfInBounds_toArray, List.set_cons_zero, List.set_cons_succ, List.getElem_toArray, List.getElem_cons_zero, List.getElem_cons_succ]
  refine wpAnyH_take (i := 6) (v := ?v6_11) rfl (by kernel_rfl) (by kernel_rfl) (by kernel_rfl) (fun _ _ _ h => h) (Or.inl ⟨by rfl, ?hy6_11⟩) (by assumption) ?rest6_11
  case hy6_11 => (intro w9 hSw; obtain ⟨m0, m1, m2, m3⟩ := hSw; refine (ld_v (by rfl) (by kernel_rfl) m3).trans ?_; with_reducible rfl)
  try simp only [Act.put, List.setIfInBounds_toArray, List.set_cons_zero, List.set_cons_succ, List.getElem_toArray, List.getElem_cons_zero, List.getElem_cons_succ]
  refine wpAnyH_ready (rs := [2]) (by kernel_rfl) (by simp) ?_
  refine AllReadyH.cons rfl (fun K hK => ?_) AllReadyH.nil
  go_simp
  with_reducible refine (of_any false hFX.fl HSX.out.1 HSX.out.2).mono ?_
  rintro e w5 ⟨VX, sVX, gVX, capVX, cVX, lVX, rfl, hVX, hb⟩
  replace DX := DX.on hb
  replace DY := DY.on hb
  replace DU := DU.on hb
  replace hFX := hFX.on hb
  replace hFY := hFY.on hb
  replace hFU := hFU.on hb
  replace hVU := hVU.on hb
  replace DVU := DVU.on hb
  replace bz := bz.trans (hb.mono bz.size)
  clear hb
  refine hK.out _ _ ⟨DX, DY, DU, DVU⟩ (fun hH => ?_)
  clear hK K hS
  have hS := hH
  clear hH
  try simp only [Act.put, List.setIfInBounds_toArray, List.set_cons_zero, List.set_cons_succ, List.getElem_toArray, List.getElem_cons_zero, List.getElem_cons_succ]
  refine wpAnyH_ready (rs := [5]) (by kernel_rfl) (by simp) ?_
  refine AllReadyH.cons rfl (fun K hK => ?_) AllReadyH.nil
  go_simp
  with_reducible refine (of_any turned hFY.fl HSY.out.1 HSY.out.2).mono ?_
  rintro e w6 ⟨VY, sVY, gVY, capVY, cVY, lVY, rfl, hVY, hb⟩
  replace DX := DX.on hb
  replace DY := DY.on hb
  replace DU := DU.on hb
  replace hFX := hFX.on hb
  replace hFY := hFY.on hb
  replace hFU := hFU.on hb
  replace hVU := hVU.on hb
  replace DVU := DVU.on hb
  replace hVX := hVX.on hb
  replace bz := bz.trans (hb.mono bz.size)
  clear hb
  refine hK.out _ _ ⟨DX, DY, DU, DVU⟩ (fun hH => ?_)
  clear hK K hS
  have hS := hH
  clear hH
  try simp only [Act.put, List.setIfInBounds_toArray, List.set_cons_zero, List.set_cons_succ, List.getElem_toArray, List.getElem_cons_zero, List.getElem_cons_succ]
  refine wpAnyH_ready (rs := [7]) (by kernel_rfl) (by simp) ?_
  refine AllReadyH.cons rfl (fun K hK => ?_) AllReadyH.nil
  go_simp
  with_reducible refine (ger_yes ba hVU hVX hVY HM.out HQ.out EX.out EY.out EU.out HFT.out).mono ?_
  rintro e w66 ⟨ly, G, rfl, hVU2, hI, hg⟩
  replace DX := DX.grown hg (by simp; omega)
  replace hFX := hFX.grown hg (by omega)
  replace DY := DY.grown hg (by simp; omega)
  replace hFY := hFY.grown hg (by omega)
  replace DU := DU.grown hg (by simp; omega)
  replace hFU := hFU.grown hg (by omega)
  replace DVU := DVU.grown hg (by simp; omega)
  replace hVU := hVU2
  replace bz := bz.grown hg bz.size (fun k e => by cases e; omega)
  have HI := Lib.hid hI
  clear hVU2 hg hI
  clear hVX hVY
  refine hK.out _ _ ⟨DX, DY, DU, DVU⟩ (fun hH => ?_)
  clear hK K hS
  have hS := hH
  clear hH
  try simp only [Act.put, List.setIfInBounds_toArray, List.set_cons_zero, List.set_cons_succ, List.getElem_toArray, List.getElem_cons_zero, List.getElem_cons_succ]
  refine wpAnyH_take (i := 8) (v := ?v8_12) rfl (by kernel_rfl) (by kernel_rfl) (by kernel_rfl) (fun _ _ _ h => h) (Or.inl ⟨by rfl, ?hy8_12⟩) (by assumption) ?rest8_12
  case hy8_12 => (intro w9 hSw; clear hSw; go_simp; try with_reducible rfl)
  try simp only [Act.put, List.setIfInBounds_toArray, List.set_cons_zero, List.set_cons_succ, List.getElem_toArray, List.getElem_cons_zero, List.getElem_cons_succ]
  refine wpAnyH_done (by kernel_rfl) ?_ _
  have f0 := F0.out
  have f1 := F1.out
  have f2 := F2.out
  have f3 := F3.out
  have p9 := rVector_any RX CX AX nX cX
  rw [f0] at p9
  obtain ⟨kX_0, kX_1, kX_2, kX_3, kX_4, kX_5⟩ := Mbx.cells DX
  obtain ⟨kY_0, kY_1, kY_2, kY_3, kY_4, kY_5⟩ := Mbx.cells DY
  obtain ⟨kU_0, kU_1, kU_2, kU_3, kU_4, kU_5⟩ := Mbx.cells DU
  go_wp2_with fail
  with_reducible refine (p9 _).mono ?_
  rintro e w7 ⟨rfl, hb⟩
  clear kX_0 kX_1 kX_2 kX_3 kX_4 kX_5 kY_0 kY_1 kY_2 kY_3 kY_4 kY_5 kU_0 kU_1 kU_2 kU_3 kU_4 kU_5
  replace DX := DX.on hb
  replace DY := DY.on hb
  replace DU := DU.on hb
  replace hFX := hFX.on hb
  replace hFY := hFY.on hb
  replace hFU := hFU.on hb
  replace hVU := hVU.on hb
  replace DVU := DVU.on hb
  replace bz := bz.trans (hb.mono bz.size)
  clear hb p9
  have p9 := rVector_any RY CY AY nY cY
  rw [f1] at p9
  obtain ⟨kX_0, kX_1, kX_2, kX_3, kX_4, kX_5⟩ := Mbx.cells DX
  obtain ⟨kY_0, kY_1, kY_2, kY_3, kY_4, kY_5⟩ := Mbx.cells DY
  obtain ⟨kU_0, kU_1, kU_2, kU_3, kU_4, kU_5⟩ := Mbx.cells DU
  go_wp2_with fail
  with_reducible refine (p9 _).mono ?_
  rintro e w8 ⟨rfl, hb⟩
  clear kX_0 kX_1 kX_2 kX_3 kX_4 kX_5 kY_0 kY_1 kY_2 kY_3 kY_4 kY_5 kU_0 kU_1 kU_2 kU_3 kU_4 kU_5
  replace DX := DX.on hb
  replace DY := DY.on hb
  replace DU := DU.on hb
  replace hFX := hFX.on hb
  replace hFY := hFY.on hb
  replace hFU := hFU.on hb
  replace hVU := hVU.on hb
  replace DVU := DVU.on hb
  replace bz := bz.trans (hb.mono bz.size)
  clear hb p9
  obtain ⟨kX_0, kX_1, kX_2, kX_3, kX_4, kX_5⟩ := Mbx.cells DX
  obtain ⟨kY_0, kY_1, kY_2, kY_3, kY_4, kY_5⟩ := Mbx.cells DY
  obtain ⟨kU_0, kU_1, kU_2, kU_3, kU_4, kU_5⟩ := Mbx.cells DU
  go_wp2_with fail
  clear kX_0 kX_1 kX_2 kX_3 kX_4 kX_5 kY_0 kY_1 kY_2 kY_3 kY_4 kY_5 kU_0 kU_1 kU_2 kU_3 kU_4 kU_5
  clear f0 f1 f2 f3
  replace DX := DX.drew
  replace DY := DY.drew
  replace DU := DU.drew
  replace hFX := hFX.drew
  replace hFY := hFY.drew
  replace hFU := hFU.drew
  replace hVU := hVU.drew
  replace DVU := DVU.drew
  replace bz := bz.drew
  refine wp_region_held_drew (S := fun w9 : World => Mbx w9 w.heap.size RX CX AX nX cX ∧ Mbx w9 (w.heap.size + 1) RY CY AY nY cY ∧ Mbx w9 (w.heap.size + 2) RU CU AU nU cU ∧ Vbx w9 HDVU VU) (by kernel_rfl) ⟨DX, DY, DU, DVU⟩ (fun hS => ?_)
  generalize w8.drew = wd7 at hS DX DY DU hFX hFY hFU hVU DVU  bz ⊢
  refine wpAnyH_take (i := 0) (v := ?v0_13) rfl (by kernel_rfl) (by kernel_rfl) (by kernel_rfl) (fun _ _ _ h => h) (Or.inl ⟨by rfl, ?hy0_13⟩) (by assumption) ?rest0_13
  case hy0_13 => (intro w9 hSw; clear hSw; go_simp; try with_reducible rfl)
  try simp only [Act.put, List.setIfInBounds_toArray, List.set_cons_zero, List.set_cons_succ, List.getElem_toArray, List.getElem_cons_zero, List.getElem_cons_succ]
  refine wpAnyH_ready (rs := [1]) (by kernel_rfl) (by simp) ?_
  refine AllReadyH.cons rfl (fun K hK => ?_) AllReadyH.nil
  go_simp
  with_reducible refine (num_any _ _).mono ?_
  rintro e v9 ⟨rfl, rfl⟩
  refine hK.out _ _ ⟨DX, DY, DU, DVU⟩ (fun hH => ?_)
  clear hK K hS
  have hS := hH
  clear hH
  try simp only [Act.put, List.setIfInBounds_toArray, List.set_cons_zero, List.set_cons_succ, List.getElem_toArray, List.getElem_cons_zero, List.getElem_cons_succ]
  refine wpAnyH_take (i := 2) (v := ?v2_14) rfl (by kernel_rfl) (by kernel_rfl) (by kernel_rfl) (fun _ _ _ h => h) (Or.inl ⟨by rfl, ?hy2_14⟩) (by assumption) ?rest2_14
  case hy2_14 => (intro w9 hSw; clear hSw; go_simp; try with_reducible rfl)
  try simp only [Act.put, List.setIfInBounds_toArray, List.set_cons_zero, List.set_cons_succ, List.getElem_toArray, List.getElem_cons_zero, List.getElem_cons_succ]
  refine wpAnyH_take (i := 3) (v := ?v3_15) rfl (by kernel_rfl) (by kernel_rfl) (by kernel_rfl) (fun _ _ _ h => h) (Or.inl ⟨by rfl, ?hy3_15⟩) (by assumption) ?rest3_15
  case hy3_15 => (intro w9 hSw; clear hSw; go_simp; try with_reducible rfl)
  try simp only [Act.put, List.setIfInBounds_toArray, List.set_cons_zero, List.set_cons_succ, List.getElem_toArray, List.getElem_cons_zero, List.getElem_cons_succ]
  refine wpAnyH_take (i := 4) (v := ?v4_16) rfl (by kernel_rfl) (by kernel_rfl) (by kernel_rfl) (fun _ _ _ h => h) (Or.inl ⟨by rfl, ?hy4_16⟩) (by assumption) ?rest4_16
  case hy4_16 => (intro w9 hSw; obtain ⟨m0, m1, m2, m3⟩ := hSw; refine (ld_v (by rfl) (by kernel_rfl) m3).trans ?_; with_reducible rfl)
  try simp only [Act.put, List.setIfInBounds_toArray, List.set_cons_zero, List.set_cons_succ, List.getElem_toArray, List.getElem_cons_zero, List.getElem_cons_succ]
  refine wpAnyH_take (i := 5) (v := ?v5_17) rfl (by kernel_rfl) (by kernel_rfl) (by kernel_rfl) (fun _ _ _ h => h) (Or.inl ⟨by rfl, ?hy5_17⟩) (by assumption) ?rest5_17
  case hy5_17 => (intro w9 hSw; clear hSw; go_simp; try with_reducible rfl)
  try simp only [Act.put, List.setIfInBounds_toArray, List.set_cons_zero, List.set_cons_succ, List.getElem_toArray, List.getElem_cons_zero, List.getElem_cons_succ]
  refine wpAnyH_take (i := 6) (v := ?v6_18) rfl (by kernel_rfl) (by kernel_rfl) (by kernel_rfl) (fun _ _ _ h => h) (Or.inl ⟨by rfl, ?hy6_18⟩) (by assumption) ?rest6_18
  case hy6_18 => (intro w9 hSw; clear hSw; go_simp; try with_reducible rfl)
  try simp only [Act.put, List.setIfInBounds_toArray, List.set_cons_zero, List.set_cons_succ, List.getElem_toArray, List.getElem_cons_zero, List.getElem_cons_succ]
  refine wpAnyH_take (i := 7) (v := ?v7_19) rfl (by kernel_rfl) (by kernel_rfl) (by kernel_rfl) (fun _ _ _ h => h) (Or.inl ⟨by rfl, ?hy7_19⟩) (by assumption) ?rest7_19
  case hy7_19 => (intro w9 hSw; obtain ⟨m0, m1, m2, m3⟩ := hSw; obtain ⟨q0_0, q0_1, q0_2, q0_3, q0_4, q0_5⟩ := Mbx.cells m0; obtain ⟨q1_0, q1_1, q1_2, q1_3, q1_4, q1_5⟩ := Mbx.cells m1; obtain ⟨q2_0, q2_1, q2_2, q2_3, q2_4, q2_5⟩ := Mbx.cells m2; go_simp; try with_reducible rfl)
  try simp only [Act.put, List.setIfInBounds_toArray, List.set_cons_zero, List.set_cons_succ, List.getElem_toArray, List.getElem_cons_zero, List.getElem_cons_succ]
  refine wpAnyH_take (i := 8) (v := ?v8_20) rfl (by kernel_rfl) (by kernel_rfl) (by kernel_rfl) (fun _ _ _ h => h) (Or.inl ⟨by rfl, ?hy8_20⟩) (by assumption) ?rest8_20
  case hy8_20 => (intro w9 hSw; clear hSw; go_simp; try with_reducible rfl)
  try simp only [Act.put, List.setIfInBounds_toArray, List.set_cons_zero, List.set_cons_succ, List.getElem_toArray, List.getElem_cons_zero, List.getElem_cons_succ]
  refine wpAnyH_take (i := 9) (v := ?v9_21) rfl (by kernel_rfl) (by kernel_rfl) (by kernel_rfl) (fun _ _ _ h => h) (Or.inl ⟨by rfl, ?hy9_21⟩) (by assumption) ?rest9_21
  case hy9_21 => (intro w9 hSw; obtain ⟨m0, m1, m2, m3⟩ := hSw; obtain ⟨q0_0, q0_1, q0_2, q0_3, q0_4, q0_5⟩ := Mbx.cells m0; obtain ⟨q1_0, q1_1, q1_2, q1_3, q1_4, q1_5⟩ := Mbx.cells m1; obtain ⟨q2_0, q2_1, q2_2, q2_3, q2_4, q2_5⟩ := Mbx.cells m2; go_simp; try with_reducible rfl)
  try simp only [Act.put, List.setIfInBounds_toArray, List.set_cons_zero, List.set_cons_succ, List.getElem_toArray, List.getElem_cons_zero, List.getElem_cons_succ]
  refine wpAnyH_take (i := 10) (v := ?v10_22) rfl (by kernel_rfl) (by kernel_rfl) (by kernel_rfl) (fun _ _ _ h => h) (Or.inl ⟨by rfl, ?hy10_22⟩) (by assumption) ?rest10_22
  case hy10_22 => (intro w9 hSw; obtain ⟨m0, m1, m2, m3⟩ := hSw; obtain ⟨q0_0, q0_1, q0_2, q0_3, q0_4, q0_5⟩ := Mbx.cells m0; obtain ⟨q1_0, q1_1, q1_2, q1_3, q1_4, q1_5⟩ := Mbx.cells m1; obtain ⟨q2_0, q2_1, q2_2, q2_3, q2_4, q2_5⟩ := Mbx.cells m2; go_simp; try with_reducible rfl)
  try simp only [Act.put, List.setIfInBounds_toArray, List.set_cons_zero, List.set_cons_succ, List.getElem_toArray, List.getElem_cons_zero, List.getElem_cons_succ]
  refine wpAnyH_ready (rs := [11]) (by kernel_rfl) (by simp) ?_
  refine AllReadyH.cons rfl (fun K hK => ?_) AllReadyH.nil
  go_simp
  have pr := rGer_any (a := a) (m := m) (q := q) (x := LX) (y := LY) ba (l := LU) hFU.fl HN.out hm5.1 hm5.2 hFX.fl hFY.fl (by have := HMX.out; omega) (by have := HQY.out; omega)
  rw [show mV (m : Int) (q : Int) AU nU cU = mV RU CU AU nU cU by rw [HM.out, HQ.out]] at pr
  with_reducible refine (pr).mono ?_
  rintro e w10 ⟨A8, c8, L8, rfl, hI8, ho8, hb⟩
  replace DX := DX.on hb
  replace DY := DY.on hb
  replace DU := DU.on hb
  replace hFX := hFX.on hb
  replace hFY := hFY.on hb
  replace hFU := hFU.on hb
  replace hVU := hVU.on hb
  replace DVU := DVU.on hb
  replace bz := bz.trans (hb.mono bz.size)
  clear hb
  clear pr
  rw [show mV (m : Int) (q : Int) A8 nU c8 = mV RU CU A8 nU c8 by rw [HM.out, HQ.out]]
  have hF8 := hI8.fl ho8
  have HI8 := Lib.hid hI8
  clear ho8 hI8
  refine hK.out _ _ ⟨DX, DY, DU, DVU⟩ (fun hH => ?_)
  clear hK K hS
  have hS := hH
  clear hH
  try simp only [Act.put, List.setIfInBounds_toArray, List.set_cons_zero, List.set_cons_succ, List.getElem_toArray, List.getElem_cons_zero, List.getElem_cons_succ]
  refine wpAnyH_ready (rs := [12]) (by kernel_rfl) (by simp) ?_
  refine AllReadyH.cons rfl (fun K hK => ?_) AllReadyH.nil
  go_simp
  with_reducible refine (shows_true hVU.sv hF8 hVU.R hVU.C (Is.same HI.out HI8.out)).mono ?_
  rintro e w11 ⟨rfl, hb⟩
  replace DX := DX.on hb
  replace DY := DY.on hb
  replace DU := DU.on hb
  replace hFX := hFX.on hb
  replace hFY := hFY.on hb
  replace hFU := hFU.on hb
  replace hVU := hVU.on hb
  replace DVU := DVU.on hb
  replace hF8 := hF8.on hb
  replace bz := bz.trans (hb.mono bz.size)
  clear hb
  refine hK.out _ _ ⟨DX, DY, DU, DVU⟩ (fun hH => ?_)
  clear hK K hS
  have hS := hH
  clear hH
  try simp only [Act.put, List.setIfInBounds_toArray, List.set_cons_zero, List.set_cons_succ, List.getElem_toArray, List.getElem_cons_zero, List.getElem_cons_succ]
  refine wpAnyH_take (i := 13) (v := ?v13_23) rfl (by kernel_rfl) (by kernel_rfl) (by kernel_rfl) (fun _ _ _ h => h) (Or.inl ⟨by rfl, ?hy13_23⟩) (by assumption) ?rest13_23
  case hy13_23 => (intro w9 hSw; clear hSw; go_simp; try with_reducible rfl)
  try simp only [Act.put, List.setIfInBounds_toArray, List.set_cons_zero, List.set_cons_succ, List.getElem_toArray, List.getElem_cons_zero, List.getElem_cons_succ]
  refine wpAnyH_take (i := 14) (v := ?v14_24) rfl (by kernel_rfl) (by kernel_rfl) (by kernel_rfl) (fun _ _ _ h => h) (Or.inl ⟨by rfl, ?hy14_24⟩) (by assumption) ?rest14_24
  case hy14_24 => (intro w9 hSw; clear hSw; go_simp; try with_reducible rfl)
  try simp only [Act.put, List.setIfInBounds_toArray, List.set_cons_zero, List.set_cons_succ, List.getElem_toArray, List.getElem_cons_zero, List.getElem_cons_succ]
  refine wpAnyH_ready (rs := [15]) (by kernel_rfl) (by simp) ?_
  refine AllReadyH.cons rfl (fun K hK => ?_) AllReadyH.nil
  go_simp
  with_reducible refine (known_any _).mono ?_
  rintro e w12 ⟨rfl, hb⟩
  replace DX := DX.on hb
  replace DY := DY.on hb
  replace DU := DU.on hb
  replace hFX := hFX.on hb
  replace hFY := hFY.on hb
  replace hFU := hFU.on hb
  replace hVU := hVU.on hb
  replace DVU := DVU.on hb
  replace hF8 := hF8.on hb
  replace bz := bz.trans (hb.mono bz.size)
  clear hb
  refine hK.out _ _ ⟨DX, DY, DU, DVU⟩ (fun hH => ?_)
  clear hK K hS
  have hS := hH
  clear hH
  try simp only [Act.put, List.setIfInBounds_toArray, List.set_cons_zero, List.set_cons_succ, List.getElem_toArray, List.getElem_cons_zero, List.getElem_cons_succ]
  refine wpAnyH_take (i := 16) (v := ?v16_25) rfl (by kernel_rfl) (by kernel_rfl) (by kernel_rfl) (fun _ _ _ h => h) (Or.inl ⟨by rfl, ?hy16_25⟩) (by assumption) ?rest16_25
  case hy16_25 => (intro w9 hSw; clear hSw; go_simp; try with_reducible rfl)
  try simp only [Act.put, List.setIfInBounds_toArray, List.set_cons_zero, List.set_cons_succ, List.getElem_toArray, List.getElem_cons_zero, List.getElem_cons_succ]
  refine wpAnyH_take (i := 17) (v := ?v17_26) rfl (by kernel_rfl) (by kernel_rfl) (by kernel_rfl) (fun _ _ _ h => h) (Or.inl ⟨by rfl, ?hy17_26⟩) (by assumption) ?rest17_26
  case hy17_26 => (intro w9 hSw; clear hSw; go_simp; try with_reducible rfl)
  try simp only [Act.put, List.setIfInBounds_toArray, List.set_cons_zero, List.set_cons_succ, List.getElem_toArray, List.getElem_cons_zero, List.getElem_cons_succ]
  refine wpAnyH_done (by kernel_rfl) ?_ _
  go_wp2_with fail
  go_ret
  exact ⟨rfl, bz⟩
theorem KernelsGer_law {w : World} {RX CX : Int} {AX : Option Addr} {nX cX : Nat} {LX : List Int} {RY CY : Int} {AY : Option Addr} {nY cY : Nat} {LY : List Int} {RU CU : Int} {AU : Option Addr} {nU cU : Nat} {LU : List Int} {a : Nat} {turned : Bool} (ba : a ≤ 18446744073709551615) (hX : FL w AX nX cX LX) (hY : FL w AY nY cY LY) (hU : FL w AU nU cU LU) : Calls Try.prog 7 #[.float .f64 a, mV RX CX AX nX cX, mV RY CY AY nY cY, mV RU CU AU nU cU, .bool turned] w (Ans w (.bool true)) := by
  cases bU : bigM RU CU nU
  · cases bX : bigM RX CX nX
    · cases bY : bigM RY CY nY
      · cases hf : (vecM RX CX && vecM RY CY && !(RU != (nX : Int)) && !(CU != (nY : Int)))
        · exact KernelsGer_no ba hX hY hU bU bX bY hf
        · exact KernelsGer_yes ba hX hY hU bU bX bY hf
      · exact KernelsGer_big3 ba hX hY hU bU bX bY
    · exact KernelsGer_big2 ba hX hY hU bU bX
  · exact KernelsGer_big1 ba hX hY hU bU
end Go.Proofs.Ytfelmkkkaphkpaa
