/-
  Layer 8: the law KernelsSums. (Written by wip/tools/gen_klf.py.)
-/
import Derived.Test.YtfelmkkkaphkpaaKlA
namespace Go.Proofs.Ytfelmkkkaphkpaa
open Go.RowKit Go.Bw Go.Sort Go.Shelf
set_option linter.unusedVariables false
set_option linter.unusedSimpArgs false

section
variable {w : World} {B B2 : Nat} {X Y : Vu} {s2 g2 cap2 c2 s3 g3 cap3 c3 : Nat} {l2 l3 : List Int} {RX CX RY CY : Int} {LX LY : List Int} {nx ny : Nat}
theorem alk_is (hX : Ov w B X s2 g2 cap2 c2 l2 RX CX LX) (hY : Ov w B2 Y s3 g3 cap3 c3 l3 RY CY LY) (ex : LX.length = nx) (ey : LY.length = ny) : alk X Y = (vecM RX CX && vecM RY CY && ((nx : Int) == (ny : Int))) := by
  unfold alk
  rw [hX.isvec, hY.isvec]
  cases h1 : vecM RX CX
  · rfl
  · cases h2 : vecM RY CY
    · rfl
    · rw [hX.lenv h1, hY.lenv h2, ex, ey]
theorem dot_no8 (hX : Ov w B X s2 g2 cap2 c2 l2 RX CX LX) (hY : Ov w B2 Y s3 g3 cap3 c3 l3 RY CY LY) (ex : LX.length = nx) (ey : LY.length = ny) (hf : (vecM RX CX && vecM RY CY && ((nx : Int) == (ny : Int))) = false) : Calls Try.prog 18 #[X.V, Y.V] w (Ans w (.tuple #[.float .f64 0, .int .i64 8])) :=
  Dot_no hX.sv hY.sv (refE_8 (by rw [alk_is hX hY ex ey]; exact hf) (mem2 hX.ne hY.ne)) (by omega)
theorem dot_yes0 (hX : Ov w B X s2 g2 cap2 c2 l2 RX CX LX) (hY : Ov w B2 Y s3 g3 cap3 c3 l3 RY CY LY) (ex : LX.length = nx) (ey : LY.length = ny) (hf : (vecM RX CX && vecM RY CY && ((nx : Int) == (ny : Int))) = true) : Calls Try.prog 18 #[X.V, Y.V] w (fun e w' => ∃ r, e = .returned (.tuple #[.float .f64 r, .int .i64 0]) ∧ af r = dotA LX LY nx ∧ r ≤ 18446744073709551615 ∧ Below w.heap.size w w') := by
  have h9 := (Bool.and_eq_true_iff.1 hf).2
  have := Dot_yes hX.sv hY.sv (refE_ok (by rw [alk_is hX hY ex ey]; exact hf) (mem2 hX.ne hY.ne)) (by have := eq_of_beq h9; omega)
  rwa [ex] at this
theorem asum_no8 (hX : Ov w B X s2 g2 cap2 c2 l2 RX CX LX) (hv : vecM RX CX = false) : Calls Try.prog 19 #[X.V] w (Ans w (.tuple #[.float .f64 0, .int .i64 8])) :=
  Asum_no hX.sv (refE_8 (by rw [hX.isvec]; exact hv) (mem1 hX.ne)) (by omega)
theorem asum_yes0 (hX : Ov w B X s2 g2 cap2 c2 l2 RX CX LX) (ex : LX.length = nx) (hv : vecM RX CX = true) : Calls Try.prog 19 #[X.V] w (fun e w' => ∃ r, e = .returned (.tuple #[.float .f64 r, .int .i64 0]) ∧ af r = asumA LX nx ∧ r ≤ 18446744073709551615 ∧ Below w.heap.size w w') := by
  have := Asum_yes hX.sv (refE_ok (by rw [hX.isvec]; exact hv) (mem1 hX.ne))
  rwa [ex] at this
theorem amax_no8 (hX : Ov w B X s2 g2 cap2 c2 l2 RX CX LX) (hv : vecM RX CX = false) : Calls Try.prog 20 #[X.V] w (Ans w (.tuple #[.int .i64 0, .float .f64 0, .int .i64 8])) :=
  Amax_no hX.sv (refE_8 (by rw [hX.isvec]; exact hv) (mem1 hX.ne)) (by omega)
theorem amax_yes0 (hX : Ov w B X s2 g2 cap2 c2 l2 RX CX LX) (ex : LX.length = nx) (hv : vecM RX CX = true) : Calls Try.prog 20 #[X.V] w (fun e w' => ∃ (p : Int) (P : Nat), e = .returned (.tuple #[.int .i64 p, .float .f64 P, .int .i64 0]) ∧ (p, af P) = amxA LX nx ∧ P ≤ 18446744073709551615 ∧ Below w.heap.size w w') := by
  have := Amax_yes hX.sv (refE_ok (by rw [hX.isvec]; exact hv) (mem1 hX.ne))
  rwa [ex] at this
end
set_option maxRecDepth 100000 in
set_option maxHeartbeats 8000000 in
theorem KernelsSums_big1 {w : World} {RX CX : Int} {AX : Option Addr} {nX cX : Nat} {LX : List Int} {RY CY : Int} {AY : Option Addr} {nY cY : Nat} {LY : List Int} {turned : Bool} (hX : FL w AX nX cX LX) (hY : FL w AY nY cY LY) (b0 : bigM RX CX nX = true) : Calls Try.prog 3 #[mV RX CX AX nX cX, mV RY CY AY nY cY, .bool turned] w (Ans w (.bool true)) := by
  have pbX := fun W => big_any RX CX AX nX cX hX.max W
  rw [b0] at pbX
  clear b0
  have DX := Blk.new w [.int .i64 RX, .int .i64 CX, .slice AX nX cX] 24
  have DY := Blk.new (w.alloc (.cells #[.int .i64 RX, .int .i64 CX, .slice AX nX cX] 24)) [.int .i64 RY, .int .i64 CY, .slice AY nY cY] 24
  replace DX := DX.alloc (.cells #[.int .i64 RY, .int .i64 CY, .slice AY nY cY] 24)
  simp only [World.size_alloc] at DY
  have bz := ((Below.refl _ w).alloc (Nat.le_refl _) (.cells #[.int .i64 RX, .int .i64 CX, .slice AX nX cX] 24)).alloc (by simp <;> omega) (.cells #[.int .i64 RY, .int .i64 CY, .slice AY nY cY] 24)
  have hsz0 : ((w.alloc (.cells #[.int .i64 RX, .int .i64 CX, .slice AX nX cX] 24)).alloc (.cells #[.int .i64 RY, .int .i64 CY, .slice AY nY cY] 24)).heap.size = w.heap.size + 2 := by simp
  have hFX := hX.lo.on bz
  clear hX
  have hFY := hY.lo.on bz
  clear hY
  go_enter Try.func3, Try.ntmps3
  obtain ⟨kX_0, kX_1, kX_2, kX_3, kX_4, kX_5⟩ := Mbx.cells DX
  obtain ⟨kY_0, kY_1, kY_2, kY_3, kY_4, kY_5⟩ := Mbx.cells DY
  go_wp2_with fail
  with_reducible refine (pbX _).mono ?_
  rintro e w1 ⟨rfl, hb⟩
  clear kX_0 kX_1 kX_2 kX_3 kX_4 kX_5 kY_0 kY_1 kY_2 kY_3 kY_4 kY_5
  replace DX := DX.on hb
  replace DY := DY.on hb
  replace hFX := hFX.on hb
  replace hFY := hFY.on hb
  replace bz := bz.trans (hb.mono bz.size)
  clear hb
  go_wp2_with fail
  with_reducible refine (known_any _).mono ?_
  rintro e w2 ⟨rfl, hb⟩
  replace DX := DX.on hb
  replace DY := DY.on hb
  replace hFX := hFX.on hb
  replace hFY := hFY.on hb
  replace bz := bz.trans (hb.mono bz.size)
  clear hb
  go_wp2_with fail
  go_ret
  exact ⟨rfl, bz⟩
set_option maxRecDepth 100000 in
set_option maxHeartbeats 8000000 in
theorem KernelsSums_big2 {w : World} {RX CX : Int} {AX : Option Addr} {nX cX : Nat} {LX : List Int} {RY CY : Int} {AY : Option Addr} {nY cY : Nat} {LY : List Int} {turned : Bool} (hX : FL w AX nX cX LX) (hY : FL w AY nY cY LY) (b0 : bigM RX CX nX = false) (b1 : bigM RY CY nY = true) : Calls Try.prog 3 #[mV RX CX AX nX cX, mV RY CY AY nY cY, .bool turned] w (Ans w (.bool true)) := by
  have pbX := fun W => big_any RX CX AX nX cX hX.max W
  rw [b0] at pbX
  clear b0
  have pbY := fun W => big_any RY CY AY nY cY hY.max W
  rw [b1] at pbY
  clear b1
  have DX := Blk.new w [.int .i64 RX, .int .i64 CX, .slice AX nX cX] 24
  have DY := Blk.new (w.alloc (.cells #[.int .i64 RX, .int .i64 CX, .slice AX nX cX] 24)) [.int .i64 RY, .int .i64 CY, .slice AY nY cY] 24
  replace DX := DX.alloc (.cells #[.int .i64 RY, .int .i64 CY, .slice AY nY cY] 24)
  simp only [World.size_alloc] at DY
  have bz := ((Below.refl _ w).alloc (Nat.le_refl _) (.cells #[.int .i64 RX, .int .i64 CX, .slice AX nX cX] 24)).alloc (by simp <;> omega) (.cells #[.int .i64 RY, .int .i64 CY, .slice AY nY cY] 24)
  have hsz0 : ((w.alloc (.cells #[.int .i64 RX, .int .i64 CX, .slice AX nX cX] 24)).alloc (.cells #[.int .i64 RY, .int .i64 CY, .slice AY nY cY] 24)).heap.size = w.heap.size + 2 := by simp
  have hFX := hX.lo.on bz
  clear hX
  have hFY := hY.lo.on bz
  clear hY
  go_enter Try.func3, Try.ntmps3
  obtain ⟨kX_0, kX_1, kX_2, kX_3, kX_4, kX_5⟩ := Mbx.cells DX
  obtain ⟨kY_0, kY_1, kY_2, kY_3, kY_4, kY_5⟩ := Mbx.cells DY
  go_wp2_with fail
  with_reducible refine (pbX _).mono ?_
  rintro e w1 ⟨rfl, hb⟩
  clear kX_0 kX_1 kX_2 kX_3 kX_4 kX_5 kY_0 kY_1 kY_2 kY_3 kY_4 kY_5
  replace DX := DX.on hb
  replace DY := DY.on hb
  replace hFX := hFX.on hb
  replace hFY := hFY.on hb
  replace bz := bz.trans (hb.mono bz.size)
  clear hb
  obtain ⟨kX_0, kX_1, kX_2, kX_3, kX_4, kX_5⟩ := Mbx.cells DX
  obtain ⟨kY_0, kY_1, kY_2, kY_3, kY_4, kY_5⟩ := Mbx.cells DY
  go_wp2_with fail
  with_reducible refine (pbY _).mono ?_
  rintro e w2 ⟨rfl, hb⟩
  clear kX_0 kX_1 kX_2 kX_3 kX_4 kX_5 kY_0 kY_1 kY_2 kY_3 kY_4 kY_5
  replace DX := DX.on hb
  replace DY := DY.on hb
  replace hFX := hFX.on hb
  replace hFY := hFY.on hb
  replace bz := bz.trans (hb.mono bz.size)
  clear hb
  go_wp2_with fail
  with_reducible refine (known_any _).mono ?_
  rintro e w3 ⟨rfl, hb⟩
  replace DX := DX.on hb
  replace DY := DY.on hb
  replace hFX := hFX.on hb
  replace hFY := hFY.on hb
  replace bz := bz.trans (hb.mono bz.size)
  clear hb
  go_wp2_with fail
  go_ret
  exact ⟨rfl, bz⟩
set_option maxRecDepth 100000 in
set_option maxHeartbeats 8000000 in
theorem KernelsSums_main {w : World} {RX CX : Int} {AX : Option Addr} {nX cX : Nat} {LX : List Int} {RY CY : Int} {AY : Option Addr} {nY cY : Nat} {LY : List Int} {turned : Bool} (hX : FL w AX nX cX LX) (hY : FL w AY nY cY LY) (b0 : bigM RX CX nX = false) (b1 : bigM RY CY nY = false) : Calls Try.prog 3 #[mV RX CX AX nX cX, mV RY CY AY nY cY, .bool turned] w (Ans w (.bool true)) := by
  have pbX := fun W => big_any RX CX AX nX cX hX.max W
  rw [b0] at pbX
  obtain ⟨zX, eX, uX⟩ := big_is b0
  have HSX := Lib.hid (And.intro zX eX)
  clear b0 zX eX
  have pbY := fun W => big_any RY CY AY nY cY hY.max W
  rw [b1] at pbY
  obtain ⟨zY, eY, uY⟩ := big_is b1
  have HSY := Lib.hid (And.intro zY eY)
  clear b1 zY eY
  have EX := Lib.hid hX.1
  have mxX := hX.max
  have EY := Lib.hid hY.1
  have mxY := hY.max
  have b0 : (0 : Nat) ≤ 18446744073709551615 := by omega
  have DX := Blk.new w [.int .i64 RX, .int .i64 CX, .slice AX nX cX] 24
  have DY := Blk.new (w.alloc (.cells #[.int .i64 RX, .int .i64 CX, .slice AX nX cX] 24)) [.int .i64 RY, .int .i64 CY, .slice AY nY cY] 24
  replace DX := DX.alloc (.cells #[.int .i64 RY, .int .i64 CY, .slice AY nY cY] 24)
  simp only [World.size_alloc] at DY
  have bz := ((Below.refl _ w).alloc (Nat.le_refl _) (.cells #[.int .i64 RX, .int .i64 CX, .slice AX nX cX] 24)).alloc (by simp <;> omega) (.cells #[.int .i64 RY, .int .i64 CY, .slice AY nY cY] 24)
  have hsz0 : ((w.alloc (.cells #[.int .i64 RX, .int .i64 CX, .slice AX nX cX] 24)).alloc (.cells #[.int .i64 RY, .int .i64 CY, .slice AY nY cY] 24)).heap.size = w.heap.size + 2 := by simp
  have hFX := hX.lo.on bz
  clear hX
  have hFY := hY.lo.on bz
  clear hY
  go_enter Try.func3, Try.ntmps3
  obtain ⟨kX_0, kX_1, kX_2, kX_3, kX_4, kX_5⟩ := Mbx.cells DX
  obtain ⟨kY_0, kY_1, kY_2, kY_3, kY_4, kY_5⟩ := Mbx.cells DY
  go_wp2_with fail
  with_reducible refine (pbX _).mono ?_
  rintro e w1 ⟨rfl, hb⟩
  clear kX_0 kX_1 kX_2 kX_3 kX_4 kX_5 kY_0 kY_1 kY_2 kY_3 kY_4 kY_5
  replace DX := DX.on hb
  replace DY := DY.on hb
  replace hFX := hFX.on hb
  replace hFY := hFY.on hb
  replace bz := bz.trans (hb.mono bz.size)
  clear hb
  obtain ⟨kX_0, kX_1, kX_2, kX_3, kX_4, kX_5⟩ := Mbx.cells DX
  obtain ⟨kY_0, kY_1, kY_2, kY_3, kY_4, kY_5⟩ := Mbx.cells DY
  go_wp2_with fail
  with_reducible refine (pbY _).mono ?_
  rintro e w2 ⟨rfl, hb⟩
  clear kX_0 kX_1 kX_2 kX_3 kX_4 kX_5 kY_0 kY_1 kY_2 kY_3 kY_4 kY_5
  replace DX := DX.on hb
  replace DY := DY.on hb
  replace hFX := hFX.on hb
  replace hFY := hFY.on hb
  replace bz := bz.trans (hb.mono bz.size)
  clear hb
  obtain ⟨kX_0, kX_1, kX_2, kX_3, kX_4, kX_5⟩ := Mbx.cells DX
  obtain ⟨kY_0, kY_1, kY_2, kY_3, kY_4, kY_5⟩ := Mbx.cells DY
  go_wp2_with fail
  clear kX_0 kX_1 kX_2 kX_3 kX_4 kX_5 kY_0 kY_1 kY_2 kY_3 kY_4 kY_5
  replace DX := DX.drew
  replace DY := DY.drew
  replace hFX := hFX.drew
  replace hFY := hFY.drew
  replace bz := bz.drew
  rename_i K0 hK0
  have key : ∀ (HDa HDb : Nat) (W9 : World) (VX : Vu) (sVX gVX capVX cVX BVX : Nat) (lVX : List Int) (VY : Vu) (sVY gVY capVY cVY BVY : Nat) (lVY : List Int) (X5 X6 X9 X10 X11 X12 X13 X14 X15 X16 X17 X18 X19 X20 X21 X22 X23 X24 X25 X26 X27 X28 X29 X30 X31 X32 X33 X34 X35 X36 X37 X38 X39 X40 X41 X42 X43 X44 X45 X46 X47 X48 X49 X50 X51 X52 X53 X54 X55 X56 X57 X58 X59 X60 X61 X62 X63 X64 X65 X66 X67 X68 X69 X70 X71 X72 X73 X74 X75 X76 X77 X78 X79 X80 X81 X82 X83 X84 X85 X86 X87 X88 X89 X90 X91 X92 X93 X94 X95 X96 X97 X98 X99 X100 X101 X102 X103 X104 X105 X106 X107 X108 X109 X110 X111 X112 X113 X114 X115 X116 X117 X118 X119 X120 X121 X122 X123 X124 X125 X126 X127 X128 X129 X130 X131 X132 X133 X134 X135 X136 X137 X138 X139 X140 X141 X142 X143 X144 X145 X146 X147 X148 X149 : Value), Mbx W9 w.heap.size RX CX AX nX cX → Mbx W9 (w.heap.size + 1) RY CY AY nY cY → FLo W9 w.heap.size AX nX cX LX → FLo W9 w.heap.size AY nY cY LY → Ov W9 BVX VX sVX gVX capVX cVX lVX RX CX LX → Ov W9 BVY VY sVY gVY capVY cVY lVY RY CY LY → Vbx W9 HDa VX → Vbx W9 HDb VY → Below w.heap.size w W9 → K0 { tmps := #[mV RX CX AX nX cX, mV RY CY AY nY cY, .bool turned, .pointer (some ⟨w.heap.size, 0, none⟩), .pointer (some ⟨w.heap.size + 1, 0, none⟩), X5, X6, .pointer (some ⟨HDa, 0, none⟩), .pointer (some ⟨HDb, 0, none⟩), X9, X10, X11, X12, X13, X14, X15, X16, X17, X18, X19, X20, X21, X22, X23, X24, X25, X26, X27, X28, X29, X30, X31, X32, X33, X34, X35, X36, X37, X38, X39, X40, X41, X42, X43, X44, X45, X46, X47, X48, X49, X50, X51, X52, X53, X54, X55, X56, X57, X58, X59, X60, X61, X62, X63, X64, X65, X66, X67, X68, X69, X70, X71, X72, X73, X74, X75, X76, X77, X78, X79, X80, X81, X82, X83, X84, X85, X86, X87, X88, X89, X90, X91, X92, X93, X94, X95, X96, X97, X98, X99, X100, X101, X102, X103, X104, X105, X106, X107, X108, X109, X110, X111, X112, X113, X114, X115, X116, X117, X118, X119, X120, X121, X122, X123, X124, X125, X126, X127, X128, X129, X130, X131, X132, X133, X134, X135, X136, X137, X138, X139, X140, X141, X142, X143, X144, X145, X146, X147, X148, X149], defers := [] } W9 := by
    intro HDa HDb W9 VX sVX gVX capVX cVX BVX lVX VY sVY gVY capVY cVY BVY lVY X5 X6 X9 X10 X11 X12 X13 X14 X15 X16 X17 X18 X19 X20 X21 X22 X23 X24 X25 X26 X27 X28 X29 X30 X31 X32 X33 X34 X35 X36 X37 X38 X39 X40 X41 X42 X43 X44 X45 X46 X47 X48 X49 X50 X51 X52 X53 X54 X55 X56 X57 X58 X59 X60 X61 X62 X63 X64 X65 X66 X67 X68 X69 X70 X71 X72 X73 X74 X75 X76 X77 X78 X79 X80 X81 X82 X83 X84 X85 X86 X87 X88 X89 X90 X91 X92 X93 X94 X95 X96 X97 X98 X99 X100 X101 X102 X103 X104 X105 X106 X107 X108 X109 X110 X111 X112 X113 X114 X115 X116 X117 X118 X119 X120 X121 X122 X123 X124 X125 X126 X127 X128 X129 X130 X131 X132 X133 X134 X135 X136 X137 X138 X139 X140 X141 X142 X143 X144 X145 X146 X147 X148 X149 DX DY hFX hFY hVX hVY Da Db bz
    cases hv : vecM RX CX
    · skip
      have hf : (vecM RX CX && vecM RY CY && ((nX : Int) == (nY : Int))) = false := by rw [hv]; rfl
      have HFT := Lib.hid hf
      have HV := Lib.hid hv
      clear hf hv
      obtain ⟨cDa_0, cDa_1, cDa_2, cDa_3, cDa_4, cDa_5, cDa_6, cDa_7, cDa_8⟩ := Vbx.cells Da
      obtain ⟨cDb_0, cDb_1, cDb_2, cDb_3, cDb_4, cDb_5, cDb_6, cDb_7, cDb_8⟩ := Vbx.cells Db
      go_wp2_with fail
      with_reducible refine (dot_no8 hVX hVY EX.out EY.out HFT.out).mono ?_
      rintro e w3 ⟨rfl, hb⟩
      clear cDa_0 cDa_1 cDa_2 cDa_3 cDa_4 cDa_5 cDa_6 cDa_7 cDa_8 cDb_0 cDb_1 cDb_2 cDb_3 cDb_4 cDb_5 cDb_6 cDb_7 cDb_8
      replace DX := DX.on hb
      replace DY := DY.on hb
      replace hFX := hFX.on hb
      replace hFY := hFY.on hb
      replace hVX := hVX.on hb
      replace hVY := hVY.on hb
      replace Da := Da.on hb
      replace Db := Db.on hb
      replace bz := bz.trans (hb.mono bz.size)
      clear hb
      obtain ⟨cDa_0, cDa_1, cDa_2, cDa_3, cDa_4, cDa_5, cDa_6, cDa_7, cDa_8⟩ := Vbx.cells Da
      go_wp2_with fail
      with_reducible refine (asum_no8 hVX HV.out).mono ?_
      rintro e w4 ⟨rfl, hb⟩
      clear cDa_0 cDa_1 cDa_2 cDa_3 cDa_4 cDa_5 cDa_6 cDa_7 cDa_8
      replace DX := DX.on hb
      replace DY := DY.on hb
      replace hFX := hFX.on hb
      replace hFY := hFY.on hb
      replace hVX := hVX.on hb
      replace hVY := hVY.on hb
      replace Da := Da.on hb
      replace Db := Db.on hb
      replace bz := bz.trans (hb.mono bz.size)
      clear hb
      obtain ⟨cDa_0, cDa_1, cDa_2, cDa_3, cDa_4, cDa_5, cDa_6, cDa_7, cDa_8⟩ := Vbx.cells Da
      go_wp2_with fail
      with_reducible refine (amax_no8 hVX HV.out).mono ?_
      rintro e w5 ⟨rfl, hb⟩
      clear cDa_0 cDa_1 cDa_2 cDa_3 cDa_4 cDa_5 cDa_6 cDa_7 cDa_8
      replace DX := DX.on hb
      replace DY := DY.on hb
      replace hFX := hFX.on hb
      replace hFY := hFY.on hb
      replace hVX := hVX.on hb
      replace hVY := hVY.on hb
      replace Da := Da.on hb
      replace Db := Db.on hb
      replace bz := bz.trans (hb.mono bz.size)
      clear hb
      obtain ⟨kX_0, kX_1, kX_2, kX_3, kX_4, kX_5⟩ := Mbx.cells DX
      obtain ⟨kY_0, kY_1, kY_2, kY_3, kY_4, kY_5⟩ := Mbx.cells DY
      have p9 := rVector_any RX CX AX nX cX
      rw [HV.out] at p9
      go_wp2_with fail
      with_reducible refine (p9 _).mono ?_
      rintro e w6 ⟨rfl, hb⟩
      clear kX_0 kX_1 kX_2 kX_3 kX_4 kX_5 kY_0 kY_1 kY_2 kY_3 kY_4 kY_5
      replace DX := DX.on hb
      replace DY := DY.on hb
      replace hFX := hFX.on hb
      replace hFY := hFY.on hb
      replace hVX := hVX.on hb
      replace hVY := hVY.on hb
      replace Da := Da.on hb
      replace Db := Db.on hb
      replace bz := bz.trans (hb.mono bz.size)
      clear hb p9
      go_wp2_with fail
      with_reducible refine (num_any _ _).mono ?_
      rintro e v7 ⟨rfl, rfl⟩
      go_wp2_with fail
      with_reducible refine (num_any _ _).mono ?_
      rintro e v8 ⟨rfl, rfl⟩
      go_wp2_with fail
      with_reducible refine (num_any _ _).mono ?_
      rintro e v9 ⟨rfl, rfl⟩
      go_wp2_with fail
      with_reducible refine (float_true b0 b0 rfl _).mono ?_
      rintro e v10 ⟨rfl, rfl⟩
      go_wp2_with fail
      with_reducible refine (float_true b0 b0 rfl _).mono ?_
      rintro e v11 ⟨rfl, rfl⟩
      go_wp2_with fail
      with_reducible refine (float_true b0 b0 rfl _).mono ?_
      rintro e v12 ⟨rfl, rfl⟩
      go_wp2_with fail
      with_reducible refine (known_any _).mono ?_
      rintro e w13 ⟨rfl, hb⟩
      replace DX := DX.on hb
      replace DY := DY.on hb
      replace hFX := hFX.on hb
      replace hFY := hFY.on hb
      replace hVX := hVX.on hb
      replace hVY := hVY.on hb
      replace Da := Da.on hb
      replace Db := Db.on hb
      replace bz := bz.trans (hb.mono bz.size)
      clear hb
      go_wp2_with fail
      go_ret
      exact ⟨by first | rfl | simp, bz⟩
    · have HV := Lib.hid hv
      clear hv
      cases hy : vecM RY CY
      · skip
        have hf : (vecM RX CX && vecM RY CY && ((nX : Int) == (nY : Int))) = false := by rw [HV.out, hy]; rfl
        have HFT := Lib.hid hf
        have HVY := Lib.hid hy
        clear hf hy
        obtain ⟨cDa_0, cDa_1, cDa_2, cDa_3, cDa_4, cDa_5, cDa_6, cDa_7, cDa_8⟩ := Vbx.cells Da
        obtain ⟨cDb_0, cDb_1, cDb_2, cDb_3, cDb_4, cDb_5, cDb_6, cDb_7, cDb_8⟩ := Vbx.cells Db
        go_wp2_with fail
        with_reducible refine (dot_no8 hVX hVY EX.out EY.out HFT.out).mono ?_
        rintro e w3 ⟨rfl, hb⟩
        clear cDa_0 cDa_1 cDa_2 cDa_3 cDa_4 cDa_5 cDa_6 cDa_7 cDa_8 cDb_0 cDb_1 cDb_2 cDb_3 cDb_4 cDb_5 cDb_6 cDb_7 cDb_8
        replace DX := DX.on hb
        replace DY := DY.on hb
        replace hFX := hFX.on hb
        replace hFY := hFY.on hb
        replace hVX := hVX.on hb
        replace hVY := hVY.on hb
        replace Da := Da.on hb
        replace Db := Db.on hb
        replace bz := bz.trans (hb.mono bz.size)
        clear hb
        obtain ⟨cDa_0, cDa_1, cDa_2, cDa_3, cDa_4, cDa_5, cDa_6, cDa_7, cDa_8⟩ := Vbx.cells Da
        go_wp2_with fail
        with_reducible refine (asum_yes0 hVX EX.out HV.out).mono ?_
        rintro e w4 ⟨rs, rfl, hs, bs, hb⟩
        clear cDa_0 cDa_1 cDa_2 cDa_3 cDa_4 cDa_5 cDa_6 cDa_7 cDa_8
        replace DX := DX.on hb
        replace DY := DY.on hb
        replace hFX := hFX.on hb
        replace hFY := hFY.on hb
        replace hVX := hVX.on hb
        replace hVY := hVY.on hb
        replace Da := Da.on hb
        replace Db := Db.on hb
        replace bz := bz.trans (hb.mono bz.size)
        have HS := Lib.hid hs
        clear hb hs
        obtain ⟨cDa_0, cDa_1, cDa_2, cDa_3, cDa_4, cDa_5, cDa_6, cDa_7, cDa_8⟩ := Vbx.cells Da
        go_wp2_with fail
        with_reducible refine (amax_yes0 hVX EX.out HV.out).mono ?_
        rintro e w5 ⟨pm, Pm, rfl, hm, bm, hb⟩
        clear cDa_0 cDa_1 cDa_2 cDa_3 cDa_4 cDa_5 cDa_6 cDa_7 cDa_8
        replace DX := DX.on hb
        replace DY := DY.on hb
        replace hFX := hFX.on hb
        replace hFY := hFY.on hb
        replace hVX := hVX.on hb
        replace hVY := hVY.on hb
        replace Da := Da.on hb
        replace Db := Db.on hb
        replace bz := bz.trans (hb.mono bz.size)
        have HM := Lib.hid hm
        clear hb hm
        obtain ⟨kX_0, kX_1, kX_2, kX_3, kX_4, kX_5⟩ := Mbx.cells DX
        obtain ⟨kY_0, kY_1, kY_2, kY_3, kY_4, kY_5⟩ := Mbx.cells DY
        have p9 := rVector_any RX CX AX nX cX
        rw [HV.out] at p9
        go_wp2_with fail
        with_reducible refine (p9 _).mono ?_
        rintro e w6 ⟨rfl, hb⟩
        clear kX_0 kX_1 kX_2 kX_3 kX_4 kX_5 kY_0 kY_1 kY_2 kY_3 kY_4 kY_5
        replace DX := DX.on hb
        replace DY := DY.on hb
        replace hFX := hFX.on hb
        replace hFY := hFY.on hb
        replace hVX := hVX.on hb
        replace hVY := hVY.on hb
        replace Da := Da.on hb
        replace Db := Db.on hb
        replace bz := bz.trans (hb.mono bz.size)
        clear hb p9
        obtain ⟨kX_0, kX_1, kX_2, kX_3, kX_4, kX_5⟩ := Mbx.cells DX
        obtain ⟨kY_0, kY_1, kY_2, kY_3, kY_4, kY_5⟩ := Mbx.cells DY
        go_wp2_with fail
        with_reducible refine (rAmax_any hFX.fl).mono ?_
        rintro e v0 ⟨pk, Pk, rfl, hk, bk, rfl⟩
        have hkm := HM.out.trans hk.symm
        injection hkm with hk1 hk2
        subst hk1
        have HK := Lib.hid hk2
        clear hk hk2
        go_wp2_with fail
        with_reducible refine (num_any _ _).mono ?_
        rintro e v7 ⟨rfl, rfl⟩
        go_wp2_with fail
        with_reducible refine (num_any _ _).mono ?_
        rintro e v8 ⟨rfl, rfl⟩
        go_wp2_with fail
        with_reducible refine (rAsum_any hFX.fl).mono ?_
        rintro e w70 ⟨rs2, rfl, hs2, bs2, d2⟩
        have HSS := Lib.hid (HS.out.trans hs2.symm)
        clear hs2
        clear kX_0 kX_1 kX_2 kX_3 kX_4 kX_5 kY_0 kY_1 kY_2 kY_3 kY_4 kY_5
        replace DX := DX.on d2.below
        replace DY := DY.on d2.below
        replace hFX := hFX.on d2.below
        replace hFY := hFY.on d2.below
        replace hVX := hVX.on d2.below
        replace hVY := hVY.on d2.below
        replace Da := Da.on d2.below
        replace Db := Db.on d2.below
        replace bz := bz.trans (d2.below.mono bz.size)
        clear d2
        go_wp2_with fail
        with_reducible refine (float_true bs bs2 HSS.out _).mono ?_
        rintro e v9 ⟨rfl, rfl⟩
        have hpp : (pm != pm) = false := by simp
        go_wp2_with fail
        with_reducible refine (float_true bm bk HK.out _).mono ?_
        rintro e v10 ⟨rfl, rfl⟩
        obtain ⟨kX_0, kX_1, kX_2, kX_3, kX_4, kX_5⟩ := Mbx.cells DX
        obtain ⟨kY_0, kY_1, kY_2, kY_3, kY_4, kY_5⟩ := Mbx.cells DY
        have p9 := rVector_any RY CY AY nY cY
        rw [HVY.out] at p9
        go_wp2_with fail
        with_reducible refine (p9 _).mono ?_
        rintro e w11 ⟨rfl, hb⟩
        clear kX_0 kX_1 kX_2 kX_3 kX_4 kX_5 kY_0 kY_1 kY_2 kY_3 kY_4 kY_5
        replace DX := DX.on hb
        replace DY := DY.on hb
        replace hFX := hFX.on hb
        replace hFY := hFY.on hb
        replace hVX := hVX.on hb
        replace hVY := hVY.on hb
        replace Da := Da.on hb
        replace Db := Db.on hb
        replace bz := bz.trans (hb.mono bz.size)
        clear hb p9
        go_wp2_with fail
        with_reducible refine (num_any _ _).mono ?_
        rintro e v12 ⟨rfl, rfl⟩
        go_wp2_with fail
        with_reducible refine (float_true b0 b0 rfl _).mono ?_
        rintro e v13 ⟨rfl, rfl⟩
        go_wp2_with fail
        with_reducible refine (known_any _).mono ?_
        rintro e w14 ⟨rfl, hb⟩
        replace DX := DX.on hb
        replace DY := DY.on hb
        replace hFX := hFX.on hb
        replace hFY := hFY.on hb
        replace hVX := hVX.on hb
        replace hVY := hVY.on hb
        replace Da := Da.on hb
        replace Db := Db.on hb
        replace bz := bz.trans (hb.mono bz.size)
        clear hb
        go_wp2_with fail
        go_ret
        exact ⟨by first | rfl | simp, bz⟩
      · have HVY := Lib.hid hy
        clear hy
        cases hn : ((nX : Int) == (nY : Int))
        · skip
          have hf : (vecM RX CX && vecM RY CY && ((nX : Int) == (nY : Int))) = false := by rw [HV.out, HVY.out, hn]; rfl
          have HFT := Lib.hid hf
          have hne : ((nX : Int) != (nY : Int)) = true := by rw [bne, hn]; rfl
          clear hf hn
          obtain ⟨cDa_0, cDa_1, cDa_2, cDa_3, cDa_4, cDa_5, cDa_6, cDa_7, cDa_8⟩ := Vbx.cells Da
          obtain ⟨cDb_0, cDb_1, cDb_2, cDb_3, cDb_4, cDb_5, cDb_6, cDb_7, cDb_8⟩ := Vbx.cells Db
          go_wp2_with fail
          with_reducible refine (dot_no8 hVX hVY EX.out EY.out HFT.out).mono ?_
          rintro e w3 ⟨rfl, hb⟩
          clear cDa_0 cDa_1 cDa_2 cDa_3 cDa_4 cDa_5 cDa_6 cDa_7 cDa_8 cDb_0 cDb_1 cDb_2 cDb_3 cDb_4 cDb_5 cDb_6 cDb_7 cDb_8
          replace DX := DX.on hb
          replace DY := DY.on hb
          replace hFX := hFX.on hb
          replace hFY := hFY.on hb
          replace hVX := hVX.on hb
          replace hVY := hVY.on hb
          replace Da := Da.on hb
          replace Db := Db.on hb
          replace bz := bz.trans (hb.mono bz.size)
          clear hb
          obtain ⟨cDa_0, cDa_1, cDa_2, cDa_3, cDa_4, cDa_5, cDa_6, cDa_7, cDa_8⟩ := Vbx.cells Da
          go_wp2_with fail
          with_reducible refine (asum_yes0 hVX EX.out HV.out).mono ?_
          rintro e w4 ⟨rs, rfl, hs, bs, hb⟩
          clear cDa_0 cDa_1 cDa_2 cDa_3 cDa_4 cDa_5 cDa_6 cDa_7 cDa_8
          replace DX := DX.on hb
          replace DY := DY.on hb
          replace hFX := hFX.on hb
          replace hFY := hFY.on hb
          replace hVX := hVX.on hb
          replace hVY := hVY.on hb
          replace Da := Da.on hb
          replace Db := Db.on hb
          replace bz := bz.trans (hb.mono bz.size)
          have HS := Lib.hid hs
          clear hb hs
          obtain ⟨cDa_0, cDa_1, cDa_2, cDa_3, cDa_4, cDa_5, cDa_6, cDa_7, cDa_8⟩ := Vbx.cells Da
          go_wp2_with fail
          with_reducible refine (amax_yes0 hVX EX.out HV.out).mono ?_
          rintro e w5 ⟨pm, Pm, rfl, hm, bm, hb⟩
          clear cDa_0 cDa_1 cDa_2 cDa_3 cDa_4 cDa_5 cDa_6 cDa_7 cDa_8
          replace DX := DX.on hb
          replace DY := DY.on hb
          replace hFX := hFX.on hb
          replace hFY := hFY.on hb
          replace hVX := hVX.on hb
          replace hVY := hVY.on hb
          replace Da := Da.on hb
          replace Db := Db.on hb
          replace bz := bz.trans (hb.mono bz.size)
          have HM := Lib.hid hm
          clear hb hm
          obtain ⟨kX_0, kX_1, kX_2, kX_3, kX_4, kX_5⟩ := Mbx.cells DX
          obtain ⟨kY_0, kY_1, kY_2, kY_3, kY_4, kY_5⟩ := Mbx.cells DY
          have p9 := rVector_any RX CX AX nX cX
          rw [HV.out] at p9
          go_wp2_with fail
          with_reducible refine (p9 _).mono ?_
          rintro e w6 ⟨rfl, hb⟩
          clear kX_0 kX_1 kX_2 kX_3 kX_4 kX_5 kY_0 kY_1 kY_2 kY_3 kY_4 kY_5
          replace DX := DX.on hb
          replace DY := DY.on hb
          replace hFX := hFX.on hb
          replace hFY := hFY.on hb
          replace hVX := hVX.on hb
          replace hVY := hVY.on hb
          replace Da := Da.on hb
          replace Db := Db.on hb
          replace bz := bz.trans (hb.mono bz.size)
          clear hb p9
          obtain ⟨kX_0, kX_1, kX_2, kX_3, kX_4, kX_5⟩ := Mbx.cells DX
          obtain ⟨kY_0, kY_1, kY_2, kY_3, kY_4, kY_5⟩ := Mbx.cells DY
          go_wp2_with fail
          with_reducible refine (rAmax_any hFX.fl).mono ?_
          rintro e v0 ⟨pk, Pk, rfl, hk, bk, rfl⟩
          have hkm := HM.out.trans hk.symm
          injection hkm with hk1 hk2
          subst hk1
          have HK := Lib.hid hk2
          clear hk hk2
          go_wp2_with fail
          with_reducible refine (num_any _ _).mono ?_
          rintro e v7 ⟨rfl, rfl⟩
          go_wp2_with fail
          with_reducible refine (num_any _ _).mono ?_
          rintro e v8 ⟨rfl, rfl⟩
          go_wp2_with fail
          with_reducible refine (rAsum_any hFX.fl).mono ?_
          rintro e w70 ⟨rs2, rfl, hs2, bs2, d2⟩
          have HSS := Lib.hid (HS.out.trans hs2.symm)
          clear hs2
          clear kX_0 kX_1 kX_2 kX_3 kX_4 kX_5 kY_0 kY_1 kY_2 kY_3 kY_4 kY_5
          replace DX := DX.on d2.below
          replace DY := DY.on d2.below
          replace hFX := hFX.on d2.below
          replace hFY := hFY.on d2.below
          replace hVX := hVX.on d2.below
          replace hVY := hVY.on d2.below
          replace Da := Da.on d2.below
          replace Db := Db.on d2.below
          replace bz := bz.trans (d2.below.mono bz.size)
          clear d2
          go_wp2_with fail
          with_reducible refine (float_true bs bs2 HSS.out _).mono ?_
          rintro e v9 ⟨rfl, rfl⟩
          have hpp : (pm != pm) = false := by simp
          go_wp2_with fail
          with_reducible refine (float_true bm bk HK.out _).mono ?_
          rintro e v10 ⟨rfl, rfl⟩
          obtain ⟨kX_0, kX_1, kX_2, kX_3, kX_4, kX_5⟩ := Mbx.cells DX
          obtain ⟨kY_0, kY_1, kY_2, kY_3, kY_4, kY_5⟩ := Mbx.cells DY
          have p9 := rVector_any RY CY AY nY cY
          rw [HVY.out] at p9
          go_wp2_with fail
          with_reducible refine (p9 _).mono ?_
          rintro e w11 ⟨rfl, hb⟩
          clear kX_0 kX_1 kX_2 kX_3 kX_4 kX_5 kY_0 kY_1 kY_2 kY_3 kY_4 kY_5
          replace DX := DX.on hb
          replace DY := DY.on hb
          replace hFX := hFX.on hb
          replace hFY := hFY.on hb
          replace hVX := hVX.on hb
          replace hVY := hVY.on hb
          replace Da := Da.on hb
          replace Db := Db.on hb
          replace bz := bz.trans (hb.mono bz.size)
          clear hb p9
          obtain ⟨kX_0, kX_1, kX_2, kX_3, kX_4, kX_5⟩ := Mbx.cells DX
          obtain ⟨kY_0, kY_1, kY_2, kY_3, kY_4, kY_5⟩ := Mbx.cells DY
          go_wp2_with fail
          with_reducible refine (num_any _ _).mono ?_
          rintro e v12 ⟨rfl, rfl⟩
          clear kX_0 kX_1 kX_2 kX_3 kX_4 kX_5 kY_0 kY_1 kY_2 kY_3 kY_4 kY_5
          go_wp2_with fail
          with_reducible refine (float_true b0 b0 rfl _).mono ?_
          rintro e v13 ⟨rfl, rfl⟩
          go_wp2_with fail
          with_reducible refine (known_any _).mono ?_
          rintro e w14 ⟨rfl, hb⟩
          replace DX := DX.on hb
          replace DY := DY.on hb
          replace hFX := hFX.on hb
          replace hFY := hFY.on hb
          replace hVX := hVX.on hb
          replace hVY := hVY.on hb
          replace Da := Da.on hb
          replace Db := Db.on hb
          replace bz := bz.trans (hb.mono bz.size)
          clear hb
          go_wp2_with fail
          go_ret
          exact ⟨by first | rfl | simp, bz⟩
        · skip
          have hf : (vecM RX CX && vecM RY CY && ((nX : Int) == (nY : Int))) = true := by rw [HV.out, HVY.out, hn]; rfl
          have HFT := Lib.hid hf
          have hne : ((nX : Int) != (nY : Int)) = false := by rw [bne, hn]; rfl
          have HN := Lib.hid hn
          clear hf hn
          obtain ⟨cDa_0, cDa_1, cDa_2, cDa_3, cDa_4, cDa_5, cDa_6, cDa_7, cDa_8⟩ := Vbx.cells Da
          obtain ⟨cDb_0, cDb_1, cDb_2, cDb_3, cDb_4, cDb_5, cDb_6, cDb_7, cDb_8⟩ := Vbx.cells Db
          go_wp2_with fail
          with_reducible refine (dot_yes0 hVX hVY EX.out EY.out HFT.out).mono ?_
          rintro e w3 ⟨rd, rfl, hd, bd, hb⟩
          clear cDa_0 cDa_1 cDa_2 cDa_3 cDa_4 cDa_5 cDa_6 cDa_7 cDa_8 cDb_0 cDb_1 cDb_2 cDb_3 cDb_4 cDb_5 cDb_6 cDb_7 cDb_8
          replace DX := DX.on hb
          replace DY := DY.on hb
          replace hFX := hFX.on hb
          replace hFY := hFY.on hb
          replace hVX := hVX.on hb
          replace hVY := hVY.on hb
          replace Da := Da.on hb
          replace Db := Db.on hb
          replace bz := bz.trans (hb.mono bz.size)
          have HD := Lib.hid hd
          clear hb hd
          obtain ⟨cDa_0, cDa_1, cDa_2, cDa_3, cDa_4, cDa_5, cDa_6, cDa_7, cDa_8⟩ := Vbx.cells Da
          go_wp2_with fail
          with_reducible refine (asum_yes0 hVX EX.out HV.out).mono ?_
          rintro e w4 ⟨rs, rfl, hs, bs, hb⟩
          clear cDa_0 cDa_1 cDa_2 cDa_3 cDa_4 cDa_5 cDa_6 cDa_7 cDa_8
          replace DX := DX.on hb
          replace DY := DY.on hb
          replace hFX := hFX.on hb
          replace hFY := hFY.on hb
          replace hVX := hVX.on hb
          replace hVY := hVY.on hb
          replace Da := Da.on hb
          replace Db := Db.on hb
          replace bz := bz.trans (hb.mono bz.size)
          have HS := Lib.hid hs
          clear hb hs
          obtain ⟨cDa_0, cDa_1, cDa_2, cDa_3, cDa_4, cDa_5, cDa_6, cDa_7, cDa_8⟩ := Vbx.cells Da
          go_wp2_with fail
          with_reducible refine (amax_yes0 hVX EX.out HV.out).mono ?_
          rintro e w5 ⟨pm, Pm, rfl, hm, bm, hb⟩
          clear cDa_0 cDa_1 cDa_2 cDa_3 cDa_4 cDa_5 cDa_6 cDa_7 cDa_8
          replace DX := DX.on hb
          replace DY := DY.on hb
          replace hFX := hFX.on hb
          replace hFY := hFY.on hb
          replace hVX := hVX.on hb
          replace hVY := hVY.on hb
          replace Da := Da.on hb
          replace Db := Db.on hb
          replace bz := bz.trans (hb.mono bz.size)
          have HM := Lib.hid hm
          clear hb hm
          obtain ⟨kX_0, kX_1, kX_2, kX_3, kX_4, kX_5⟩ := Mbx.cells DX
          obtain ⟨kY_0, kY_1, kY_2, kY_3, kY_4, kY_5⟩ := Mbx.cells DY
          have p9 := rVector_any RX CX AX nX cX
          rw [HV.out] at p9
          go_wp2_with fail
          with_reducible refine (p9 _).mono ?_
          rintro e w6 ⟨rfl, hb⟩
          clear kX_0 kX_1 kX_2 kX_3 kX_4 kX_5 kY_0 kY_1 kY_2 kY_3 kY_4 kY_5
          replace DX := DX.on hb
          replace DY := DY.on hb
          replace hFX := hFX.on hb
          replace hFY := hFY.on hb
          replace hVX := hVX.on hb
          replace hVY := hVY.on hb
          replace Da := Da.on hb
          replace Db := Db.on hb
          replace bz := bz.trans (hb.mono bz.size)
          clear hb p9
          obtain ⟨kX_0, kX_1, kX_2, kX_3, kX_4, kX_5⟩ := Mbx.cells DX
          obtain ⟨kY_0, kY_1, kY_2, kY_3, kY_4, kY_5⟩ := Mbx.cells DY
          go_wp2_with fail
          with_reducible refine (rAmax_any hFX.fl).mono ?_
          rintro e v0 ⟨pk, Pk, rfl, hk, bk, rfl⟩
          have hkm := HM.out.trans hk.symm
          injection hkm with hk1 hk2
          subst hk1
          have HK := Lib.hid hk2
          clear hk hk2
          go_wp2_with fail
          with_reducible refine (num_any _ _).mono ?_
          rintro e v7 ⟨rfl, rfl⟩
          go_wp2_with fail
          with_reducible refine (num_any _ _).mono ?_
          rintro e v8 ⟨rfl, rfl⟩
          go_wp2_with fail
          with_reducible refine (rAsum_any hFX.fl).mono ?_
          rintro e w70 ⟨rs2, rfl, hs2, bs2, d2⟩
          have HSS := Lib.hid (HS.out.trans hs2.symm)
          clear hs2
          clear kX_0 kX_1 kX_2 kX_3 kX_4 kX_5 kY_0 kY_1 kY_2 kY_3 kY_4 kY_5
          replace DX := DX.on d2.below
          replace DY := DY.on d2.below
          replace hFX := hFX.on d2.below
          replace hFY := hFY.on d2.below
          replace hVX := hVX.on d2.below
          replace hVY := hVY.on d2.below
          replace Da := Da.on d2.below
          replace Db := Db.on d2.below
          replace bz := bz.trans (d2.below.mono bz.size)
          clear d2
          go_wp2_with fail
          with_reducible refine (float_true bs bs2 HSS.out _).mono ?_
          rintro e v9 ⟨rfl, rfl⟩
          have hpp : (pm != pm) = false := by simp
          go_wp2_with fail
          with_reducible refine (float_true bm bk HK.out _).mono ?_
          rintro e v10 ⟨rfl, rfl⟩
          obtain ⟨kX_0, kX_1, kX_2, kX_3, kX_4, kX_5⟩ := Mbx.cells DX
          obtain ⟨kY_0, kY_1, kY_2, kY_3, kY_4, kY_5⟩ := Mbx.cells DY
          have p9 := rVector_any RY CY AY nY cY
          rw [HVY.out] at p9
          go_wp2_with fail
          with_reducible refine (p9 _).mono ?_
          rintro e w11 ⟨rfl, hb⟩
          clear kX_0 kX_1 kX_2 kX_3 kX_4 kX_5 kY_0 kY_1 kY_2 kY_3 kY_4 kY_5
          replace DX := DX.on hb
          replace DY := DY.on hb
          replace hFX := hFX.on hb
          replace hFY := hFY.on hb
          replace hVX := hVX.on hb
          replace hVY := hVY.on hb
          replace Da := Da.on hb
          replace Db := Db.on hb
          replace bz := bz.trans (hb.mono bz.size)
          clear hb p9
          obtain ⟨kX_0, kX_1, kX_2, kX_3, kX_4, kX_5⟩ := Mbx.cells DX
          obtain ⟨kY_0, kY_1, kY_2, kY_3, kY_4, kY_5⟩ := Mbx.cells DY
          go_wp2_with fail
          with_reducible refine (num_any _ _).mono ?_
          rintro e v12 ⟨rfl, rfl⟩
          go_wp2_with fail
          with_reducible refine (rDot_any (y := LY) hFX.fl hFY.fl (by have := eq_of_beq HN.out; omega)).mono ?_
          rintro e w71 ⟨rd2, rfl, hd2, bd2, d3⟩
          have HDD := Lib.hid (HD.out.trans hd2.symm)
          clear hd2
          clear kX_0 kX_1 kX_2 kX_3 kX_4 kX_5 kY_0 kY_1 kY_2 kY_3 kY_4 kY_5
          replace DX := DX.on d3.below
          replace DY := DY.on d3.below
          replace hFX := hFX.on d3.below
          replace hFY := hFY.on d3.below
          replace hVX := hVX.on d3.below
          replace hVY := hVY.on d3.below
          replace Da := Da.on d3.below
          replace Db := Db.on d3.below
          replace bz := bz.trans (d3.below.mono bz.size)
          clear d3
          go_wp2_with fail
          with_reducible refine (float_true bd bd2 HDD.out _).mono ?_
          rintro e v13 ⟨rfl, rfl⟩
          go_wp2_with fail
          with_reducible refine (known_any _).mono ?_
          rintro e w14 ⟨rfl, hb⟩
          replace DX := DX.on hb
          replace DY := DY.on hb
          replace hFX := hFX.on hb
          replace hFY := hFY.on hb
          replace hVX := hVX.on hb
          replace hVY := hVY.on hb
          replace Da := Da.on hb
          replace Db := Db.on hb
          replace bz := bz.trans (hb.mono bz.size)
          clear hb
          go_wp2_with fail
          go_ret
          exact ⟨by first | rfl | simp, bz⟩
  refine wp_region_held_drew (S := fun w9 : World => Mbx w9 w.heap.size RX CX AX nX cX ∧ Mbx w9 (w.heap.size + 1) RY CY AY nY cY) (by kernel_rfl) ⟨DX, DY⟩ (fun hS => ?_)
  generalize w2.drew = wd3 at hS DX DY hFX hFY  bz ⊢
  refine wpAnyH_take (i := 0) (v := ?v0_1) rfl (by kernel_rfl) (by kernel_rfl) (by kernel_rfl) (fun _ _ _ h => h) (Or.inl ⟨by rfl, ?hy0_1⟩) (by assumption) ?rest0_1
  case hy0_1 => (intro w9 hSw; obtain ⟨m0, m1⟩ := hSw; obtain ⟨q0_0, q0_1, q0_2, q0_3, q0_4, q0_5⟩ := Mbx.cells m0; obtain ⟨q1_0, q1_1, q1_2, q1_3, q1_4, q1_5⟩ := Mbx.cells m1; go_simp; try with_reducible rfl)
  try simp only [Act.put, List.setIfInBounds_toArray, List.set_cons_zero, List.set_cons_succ, List.getElem_toArray, List.getElem_cons_zero, List.getElem_cons_succ]
  refine wpAnyH_take (i := 1) (v := ?v1_2) rfl (by kernel_rfl) (by kernel_rfl) (by kernel_rfl) (fun _ _ _ h => h) (Or.inl ⟨by rfl, ?hy1_2⟩) (by assumption) ?rest1_2
  case hy1_2 => (intro w9 hSw; clear hSw; go_simp; try with_reducible rfl)
  try simp only [Act.put, List.setIfInBounds_toArray, List.set_cons_zero, List.set_cons_succ, List.getElem_toArray, List.getElem_cons_zero, List.getElem_cons_succ]
  refine wpAnyH_take (i := 3) (v := ?v3_3) rfl (by kernel_rfl) (by kernel_rfl) (by kernel_rfl) (fun _ _ _ h => h) (Or.inl ⟨by rfl, ?hy3_3⟩) (by assumption) ?rest3_3
  case hy3_3 => (intro w9 hSw; obtain ⟨m0, m1⟩ := hSw; obtain ⟨q0_0, q0_1, q0_2, q0_3, q0_4, q0_5⟩ := Mbx.cells m0; obtain ⟨q1_0, q1_1, q1_2, q1_3, q1_4, q1_5⟩ := Mbx.cells m1; go_simp; try with_reducible rfl)
  try simp only [Act.put, List.setIfInBounds_toArray, List.set_cons_zero, List.set_cons_succ, List.getElem_toArray, List.getElem_cons_zero, List.getElem_cons_succ]
  refine wpAnyH_ready (rs := [2, 5, 6]) (by kernel_rfl) (by simp) ?_
  refine (AllReadyH.cons rfl (fun K hK => ?_) (AllReadyH.cons rfl (fun K hK => ?_) (AllReadyH.cons rfl (fun K hK => ?_) AllReadyH.nil)))
  · go_simp
    with_reducible refine (of_any turned hFX.fl HSX.out.1 HSX.out.2).mono ?_
    rintro e w3 ⟨VX, sVX, gVX, capVX, cVX, lVX, rfl, hVX, hb⟩
    replace DX := DX.on hb
    replace DY := DY.on hb
    replace hFX := hFX.on hb
    replace hFY := hFY.on hb
    replace bz := bz.trans (hb.mono bz.size)
    clear hb
    have lX := And.intro hVX.st.lt hVX.st.gt.2
    have mX := And.intro hVX.st.lo hVX.st.gt.1
    refine hK.out _ _ ⟨DX, DY⟩ (fun hH => ?_)
    clear hK K hS
    have hS := hH
    clear hH
    try simp only [Act.put, List.setIfInBounds_toArray, List.set_cons_zero, List.set_cons_succ, List.getElem_toArray, List.getElem_cons_zero, List.getElem_cons_succ]
    refine wpAnyH_ready (rs := [4, 5, 6]) (by kernel_rfl) (by simp) ?_
    refine (AllReadyH.cons rfl (fun K hK => ?_) (AllReadyH.cons rfl (fun K hK => ?_) (AllReadyH.cons rfl (fun K hK => ?_) AllReadyH.nil)))
    · go_simp
      with_reducible refine (of_any false hFY.fl HSY.out.1 HSY.out.2).mono ?_
      rintro e w4 ⟨VY, sVY, gVY, capVY, cVY, lVY, rfl, hVY, hb⟩
      replace DX := DX.on hb
      replace DY := DY.on hb
      replace hFX := hFX.on hb
      replace hFY := hFY.on hb
      replace hVX := hVX.on hb
      replace bz := bz.trans (hb.mono bz.size)
      clear hb
      have lY := And.intro hVY.st.lt hVY.st.gt.2
      have mY := And.intro hVY.st.lo hVY.st.gt.1
      refine hK.out _ _ ⟨DX, DY⟩ (fun hH => ?_)
      clear hK K hS
      have hS := hH
      clear hH
      try simp only [Act.put, List.setIfInBounds_toArray, List.set_cons_zero, List.set_cons_succ, List.getElem_toArray, List.getElem_cons_zero, List.getElem_cons_succ]
      refine wpAnyH_ready (rs := [5, 6]) (by kernel_rfl) (by simp) ?_
      refine (AllReadyH.cons rfl (fun K hK => ?_) (AllReadyH.cons rfl (fun K hK => ?_) AllReadyH.nil))
      · go_simp
        have yDa := DY.lt
        have pDaVX := And.intro hVX.st.lt hVX.st.gt.2
        have pDaVY := And.intro hVY.st.lt hVY.st.gt.2
        have Da := Blk.new w4 (Vu.zero).L 30
        obtain ⟨HDa, eHDa⟩ : ∃ H, w4.heap.size = H := ⟨_, rfl⟩
        rw [eHDa] at Da
        replace DX := DX.on ((Below.refl _ _).alloc (Nat.le_refl _) (.cells (Vu.zero).L.toArray 30))
        replace DY := DY.on ((Below.refl _ _).alloc (Nat.le_refl _) (.cells (Vu.zero).L.toArray 30))
        replace hFX := hFX.on ((Below.refl _ _).alloc (Nat.le_refl _) (.cells (Vu.zero).L.toArray 30))
        replace hFY := hFY.on ((Below.refl _ _).alloc (Nat.le_refl _) (.cells (Vu.zero).L.toArray 30))
        replace hVX := hVX.on ((Below.refl _ _).alloc (Nat.le_refl _) (.cells (Vu.zero).L.toArray 30))
        replace hVY := hVY.on ((Below.refl _ _).alloc (Nat.le_refl _) (.cells (Vu.zero).L.toArray 30))
        replace bz := bz.alloc bz.size (.cells (Vu.zero).L.toArray 30)
        have HHDa := Lib.hid eHDa
        simp only [eHDa] at yDa pDaVX pDaVY ⊢
        clear eHDa
        generalize (w4.alloc (.cells (Vu.zero).L.toArray 30)) = WaDa at DX DY hFX hFY hVX hVY Da bz ⊢
        refine hK.out _ _ ⟨DX, DY⟩ (fun hH => ?_)
        clear hK K hS
        have hS := hH
        clear hH
        try simp only [Act.put, List.setIfInBounds_toArray, List.set_cons_zero, List.set_cons_succ, List.getElem_toArray, List.getElem_cons_zero, List.getElem_cons_succ]
        refine wpAnyH_ready (rs := [6]) (by kernel_rfl) (by simp) ?_
        refine AllReadyH.cons rfl (fun K hK => ?_) AllReadyH.nil
        go_simp
        have yDb := DY.lt
        have pDbVX := And.intro hVX.st.lt hVX.st.gt.2
        have pDbVY := And.intro hVY.st.lt hVY.st.gt.2
        have qDbDa := Da.lt
        have Db := Blk.new WaDa (Vu.zero).L 30
        obtain ⟨HDb, eHDb⟩ : ∃ H, WaDa.heap.size = H := ⟨_, rfl⟩
        rw [eHDb] at Db
        replace DX := DX.on ((Below.refl _ _).alloc (Nat.le_refl _) (.cells (Vu.zero).L.toArray 30))
        replace DY := DY.on ((Below.refl _ _).alloc (Nat.le_refl _) (.cells (Vu.zero).L.toArray 30))
        replace hFX := hFX.on ((Below.refl _ _).alloc (Nat.le_refl _) (.cells (Vu.zero).L.toArray 30))
        replace hFY := hFY.on ((Below.refl _ _).alloc (Nat.le_refl _) (.cells (Vu.zero).L.toArray 30))
        replace hVX := hVX.on ((Below.refl _ _).alloc (Nat.le_refl _) (.cells (Vu.zero).L.toArray 30))
        replace hVY := hVY.on ((Below.refl _ _).alloc (Nat.le_refl _) (.cells (Vu.zero).L.toArray 30))
        replace Da := Da.on ((Below.refl _ _).alloc (Nat.le_refl _) (.cells (Vu.zero).L.toArray 30))
        replace bz := bz.alloc bz.size (.cells (Vu.zero).L.toArray 30)
        have HHDb := Lib.hid eHDb
        simp only [eHDb] at yDb pDbVX pDbVY qDbDa ⊢
        clear eHDb
        generalize (WaDa.alloc (.cells (Vu.zero).L.toArray 30)) = WaDb at DX DY hFX hFY hVX hVY Da Db bz ⊢
        refine hK.out _ _ ⟨DX, DY⟩ (fun hH => ?_)
        clear hK K hS
        have hS := hH
        clear hH
        try simp only [Act.put, List.setIfInBounds_toArray, List.set_cons_zero, List.set_cons_succ, List.getElem_toArray, List.getElem_cons_zero, List.getElem_cons_succ]
        obtain ⟨fc0, fc1, fc2, fc3, fc4, fc5, fc6, fc7, fc8⟩ := Vbx.cells Da
        obtain ⟨fr0, fr1, fr2, fr3, fr4, fr5, fr6, fr7, fr8⟩ := Vbx.free Da
        refine wpAnyH_ready (rs := [7]) (by kernel_rfl) (by simp) ?_
        refine AllReadyH.cons rfl (fun K hK => ?_) AllReadyH.nil
        go_simp
        clear fc0 fr0 fc1 fr1 fc2 fr2 fc3 fr3 fc4 fr4 fc5 fr5 fc6 fr6 fc7 fr7 fc8 fr8
        have hgS := set9_grown WaDb (HDa) (.pointer (VX).p) (.int .i64 (VX).f0) (.int .i64 (VX).f1) (.int .i64 (VX).d0) (.int .i64 (VX).d1) (.int .i64 (VX).r0) (.int .i64 (VX).r1) (.int .i64 (VX).R) (.int .i64 (VX).C)
        replace Da := Vbx.put Da (VX)
        replace DX := DX.grown hgS (by simp <;> omega)
        replace DY := DY.grown hgS (by simp <;> omega)
        replace hFX := hFX.grown hgS (by omega)
        replace hFY := hFY.grown hgS (by omega)
        replace hVX := hVX.grown hgS (by omega) (by omega)
        replace hVY := hVY.grown hgS (by omega) (by omega)
        replace Db := Db.grown hgS (by simp <;> omega)
        replace bz := bz.grown hgS bz.size (fun k e => by cases e; omega)
        generalize (((((((((WaDb.setCell ⟨HDa, 0, none⟩ (.pointer (VX).p)).setCell ⟨HDa, 1, none⟩ (.int .i64 (VX).f0)).setCell ⟨HDa, 2, none⟩ (.int .i64 (VX).f1)).setCell ⟨HDa, 3, none⟩ (.int .i64 (VX).d0)).setCell ⟨HDa, 4, none⟩ (.int .i64 (VX).d1)).setCell ⟨HDa, 5, none⟩ (.int .i64 (VX).r0)).setCell ⟨HDa, 6, none⟩ (.int .i64 (VX).r1)).setCell ⟨HDa, 7, none⟩ (.int .i64 (VX).R)).setCell ⟨HDa, 8, none⟩ (.int .i64 (VX).C)) = WsDa at DX DY hFX hFY hVX hVY Da Db bz ⊢
        clear hgS
        refine hK.out _ _ ⟨DX, DY⟩ (fun hH => ?_)
        clear hK K hS
        have hS := hH
        clear hH
        try simp only [Act.put, List.setIfInBounds_toArray, List.set_cons_zero, List.set_cons_succ, List.getElem_toArray, List.getElem_cons_zero, List.getElem_cons_succ]
        obtain ⟨fc0, fc1, fc2, fc3, fc4, fc5, fc6, fc7, fc8⟩ := Vbx.cells Db
        obtain ⟨fr0, fr1, fr2, fr3, fr4, fr5, fr6, fr7, fr8⟩ := Vbx.free Db
        refine wpAnyH_ready (rs := [8]) (by kernel_rfl) (by simp) ?_
        refine AllReadyH.cons rfl (fun K hK => ?_) AllReadyH.nil
        go_simp
        clear fc0 fr0 fc1 fr1 fc2 fr2 fc3 fr3 fc4 fr4 fc5 fr5 fc6 fr6 fc7 fr7 fc8 fr8
        have hgS := set9_grown WsDa (HDb) (.pointer (VY).p) (.int .i64 (VY).f0) (.int .i64 (VY).f1) (.int .i64 (VY).d0) (.int .i64 (VY).d1) (.int .i64 (VY).r0) (.int .i64 (VY).r1) (.int .i64 (VY).R) (.int .i64 (VY).C)
        replace Db := Vbx.put Db (VY)
        replace DX := DX.grown hgS (by simp <;> omega)
        replace DY := DY.grown hgS (by simp <;> omega)
        replace hFX := hFX.grown hgS (by omega)
        replace hFY := hFY.grown hgS (by omega)
        replace hVX := hVX.grown hgS (by omega) (by omega)
        replace hVY := hVY.grown hgS (by omega) (by omega)
        replace Da := Da.grown hgS (by simp <;> omega)
        replace bz := bz.grown hgS bz.size (fun k e => by cases e; omega)
        generalize (((((((((WsDa.setCell ⟨HDb, 0, none⟩ (.pointer (VY).p)).setCell ⟨HDb, 1, none⟩ (.int .i64 (VY).f0)).setCell ⟨HDb, 2, none⟩ (.int .i64 (VY).f1)).setCell ⟨HDb, 3, none⟩ (.int .i64 (VY).d0)).setCell ⟨HDb, 4, none⟩ (.int .i64 (VY).d1)).setCell ⟨HDb, 5, none⟩ (.int .i64 (VY).r0)).setCell ⟨HDb, 6, none⟩ (.int .i64 (VY).r1)).setCell ⟨HDb, 7, none⟩ (.int .i64 (VY).R)).setCell ⟨HDb, 8, none⟩ (.int .i64 (VY).C)) = WsDb at DX DY hFX hFY hVX hVY Da Db bz ⊢
        clear hgS
        refine hK.out _ _ ⟨DX, DY⟩ (fun hH => ?_)
        clear hK K hS
        have hS := hH
        clear hH
        try simp only [Act.put, List.setIfInBounds_toArray, List.set_cons_zero, List.set_cons_succ, List.getElem_toArray, List.getElem_cons_zero, List.getElem_cons_succ]
        refine wpAnyH_done (by kernel_rfl) ?_ _
        exact key _ _ _ _ _ _ _ _ _ _ _ _ _ _ _ _ _ _ _ _ _ _ _ _ _ _ _ _ _ _ _ _ _ _ _ _ _ _ _ _ _ _ _ _ _ _ _ _ _ _ _ _ _ _ _ _ _ _ _ _ _ _ _ _ _ _ _ _ _ _ _ _ _ _ _ _ _ _ _ _ _ _ _ _ _ _ _ _ _ _ _ _ _ _ _ _ _ _ _ _ _ _ _ _ _ _ _ _ _ _ _ _ _ _ _ _ _ _ _ _ _ _ _ _ _ _ _ _ _ _ _ _ _ _ _ _ _ _ _ _ _ _ _ _ _ _ _ _ _ _ _ _ _ _ _ _ _ _ _ _ DX DY hFX hFY hVX hVY Da Db bz
      · go_simp
        have yDb := DY.lt
        have pDbVX := And.intro hVX.st.lt hVX.st.gt.2
        have pDbVY := And.intro hVY.st.lt hVY.st.gt.2
        have Db := Blk.new w4 (Vu.zero).L 30
        obtain ⟨HDb, eHDb⟩ : ∃ H, w4.heap.size = H := ⟨_, rfl⟩
        rw [eHDb] at Db
        replace DX := DX.on ((Below.refl _ _).alloc (Nat.le_refl _) (.cells (Vu.zero).L.toArray 30))
        replace DY := DY.on ((Below.refl _ _).alloc (Nat.le_refl _) (.cells (Vu.zero).L.toArray 30))
        replace hFX := hFX.on ((Below.refl _ _).alloc (Nat.le_refl _) (.cells (Vu.zero).L.toArray 30))
        replace hFY := hFY.on ((Below.refl _ _).alloc (Nat.le_refl _) (.cells (Vu.zero).L.toArray 30))
        replace hVX := hVX.on ((Below.refl _ _).alloc (Nat.le_refl _) (.cells (Vu.zero).L.toArray 30))
        replace hVY := hVY.on ((Below.refl _ _).alloc (Nat.le_refl _) (.cells (Vu.zero).L.toArray 30))
        replace bz := bz.alloc bz.size (.cells (Vu.zero).L.toArray 30)
        have HHDb := Lib.hid eHDb
        simp only [eHDb] at yDb pDbVX pDbVY ⊢
        clear eHDb
        generalize (w4.alloc (.cells (Vu.zero).L.toArray 30)) = WaDb at DX DY hFX hFY hVX hVY Db bz ⊢
        refine hK.out _ _ ⟨DX, DY⟩ (fun hH => ?_)
        clear hK K hS
        have hS := hH
        clear hH
        try simp only [Act.put, List.setIfInBounds_toArray, List.set_cons_zero, List.set_cons_succ, List.getElem_toArray, List.getElem_cons_zero, List.getElem_cons_succ]
        refine wpAnyH_ready (rs := [5]) (by kernel_rfl) (by simp) ?_
        refine AllReadyH.cons rfl (fun K hK => ?_) AllReadyH.nil
        go_simp
        have yDa := DY.lt
        have pDaVX := And.intro hVX.st.lt hVX.st.gt.2
        have pDaVY := And.intro hVY.st.lt hVY.st.gt.2
        have qDaDb := Db.lt
        have Da := Blk.new WaDb (Vu.zero).L 30
        obtain ⟨HDa, eHDa⟩ : ∃ H, WaDb.heap.size = H := ⟨_, rfl⟩
        rw [eHDa] at Da
        replace DX := DX.on ((Below.refl _ _).alloc (Nat.le_refl _) (.cells (Vu.zero).L.toArray 30))
        replace DY := DY.on ((Below.refl _ _).alloc (Nat.le_refl _) (.cells (Vu.zero).L.toArray 30))
        replace hFX := hFX.on ((Below.refl _ _).alloc (Nat.le_refl _) (.cells (Vu.zero).L.toArray 30))
        replace hFY := hFY.on ((Below.refl _ _).alloc (Nat.le_refl _) (.cells (Vu.zero).L.toArray 30))
        replace hVX := hVX.on ((Below.refl _ _).alloc (Nat.le_refl _) (.cells (Vu.zero).L.toArray 30))
        replace hVY := hVY.on ((Below.refl _ _).alloc (Nat.le_refl _) (.cells (Vu.zero).L.toArray 30))
        replace Db := Db.on ((Below.refl _ _).alloc (Nat.le_refl _) (.cells (Vu.zero).L.toArray 30))
        replace bz := bz.alloc bz.size (.cells (Vu.zero).L.toArray 30)
        have HHDa := Lib.hid eHDa
        simp only [eHDa] at yDa pDaVX pDaVY qDaDb ⊢
        clear eHDa
        generalize (WaDb.alloc (.cells (Vu.zero).L.toArray 30)) = WaDa at DX DY hFX hFY hVX hVY Db Da bz ⊢
        refine hK.out _ _ ⟨DX, DY⟩ (fun hH => ?_)
        clear hK K hS
        have hS := hH
        clear hH
        try simp only [Act.put, List.setIfInBounds_toArray, List.set_cons_zero, List.set_cons_succ, List.getElem_toArray, List.getElem_cons_zero, List.getElem_cons_succ]
        obtain ⟨fc0, fc1, fc2, fc3, fc4, fc5, fc6, fc7, fc8⟩ := Vbx.cells Da
        obtain ⟨fr0, fr1, fr2, fr3, fr4, fr5, fr6, fr7, fr8⟩ := Vbx.free Da
        refine wpAnyH_ready (rs := [7]) (by kernel_rfl) (by simp) ?_
        refine AllReadyH.cons rfl (fun K hK => ?_) AllReadyH.nil
        go_simp
        clear fc0 fr0 fc1 fr1 fc2 fr2 fc3 fr3 fc4 fr4 fc5 fr5 fc6 fr6 fc7 fr7 fc8 fr8
        have hgS := set9_grown WaDa (HDa) (.pointer (VX).p) (.int .i64 (VX).f0) (.int .i64 (VX).f1) (.int .i64 (VX).d0) (.int .i64 (VX).d1) (.int .i64 (VX).r0) (.int .i64 (VX).r1) (.int .i64 (VX).R) (.int .i64 (VX).C)
        replace Da := Vbx.put Da (VX)
        replace DX := DX.grown hgS (by simp <;> omega)
        replace DY := DY.grown hgS (by simp <;> omega)
        replace hFX := hFX.grown hgS (by omega)
        replace hFY := hFY.grown hgS (by omega)
        replace hVX := hVX.grown hgS (by omega) (by omega)
        replace hVY := hVY.grown hgS (by omega) (by omega)
        replace Db := Db.grown hgS (by simp <;> omega)
        replace bz := bz.grown hgS bz.size (fun k e => by cases e; omega)
        generalize (((((((((WaDa.setCell ⟨HDa, 0, none⟩ (.pointer (VX).p)).setCell ⟨HDa, 1, none⟩ (.int .i64 (VX).f0)).setCell ⟨HDa, 2, none⟩ (.int .i64 (VX).f1)).setCell ⟨HDa, 3, none⟩ (.int .i64 (VX).d0)).setCell ⟨HDa, 4, none⟩ (.int .i64 (VX).d1)).setCell ⟨HDa, 5, none⟩ (.int .i64 (VX).r0)).setCell ⟨HDa, 6, none⟩ (.int .i64 (VX).r1)).setCell ⟨HDa, 7, none⟩ (.int .i64 (VX).R)).setCell ⟨HDa, 8, none⟩ (.int .i64 (VX).C)) = WsDa at DX DY hFX hFY hVX hVY Db Da bz ⊢
        clear hgS
        refine hK.out _ _ ⟨DX, DY⟩ (fun hH => ?_)
        clear hK K hS
        have hS := hH
        clear hH
        try simp only [Act.put, List.setIfInBounds_toArray, List.set_cons_zero, List.set_cons_succ, List.getElem_toArray, List.getElem_cons_zero, List.getElem_cons_succ]
        obtain ⟨fc0, fc1, fc2, fc3, fc4, fc5, fc6, fc7, fc8⟩ := Vbx.cells Db
        obtain ⟨fr0, fr1, fr2, fr3, fr4, fr5, fr6, fr7, fr8⟩ := Vbx.free Db
        refine wpAnyH_ready (rs := [8]) (by kernel_rfl) (by simp) ?_
        refine AllReadyH.cons rfl (fun K hK => ?_) AllReadyH.nil
        go_simp
        clear fc0 fr0 fc1 fr1 fc2 fr2 fc3 fr3 fc4 fr4 fc5 fr5 fc6 fr6 fc7 fr7 fc8 fr8
        have hgS := set9_grown WsDa (HDb) (.pointer (VY).p) (.int .i64 (VY).f0) (.int .i64 (VY).f1) (.int .i64 (VY).d0) (.int .i64 (VY).d1) (.int .i64 (VY).r0) (.int .i64 (VY).r1) (.int .i64 (VY).R) (.int .i64 (VY).C)
        replace Db := Vbx.put Db (VY)
        replace DX := DX.grown hgS (by simp <;> omega)
        replace DY := DY.grown hgS (by simp <;> omega)
        replace hFX := hFX.grown hgS (by omega)
        replace hFY := hFY.grown hgS (by omega)
        replace hVX := hVX.grown hgS (by omega) (by omega)
        replace hVY := hVY.grown hgS (by omega) (by omega)
        replace Da := Da.grown hgS (by simp <;> omega)
        replace bz := bz.grown hgS bz.size (fun k e => by cases e; omega)
        generalize (((((((((WsDa.setCell ⟨HDb, 0, none⟩ (.pointer (VY).p)).setCell ⟨HDb, 1, none⟩ (.int .i64 (VY).f0)).setCell ⟨HDb, 2, none⟩ (.int .i64 (VY).f1)).setCell ⟨HDb, 3, none⟩ (.int .i64 (VY).d0)).setCell ⟨HDb, 4, none⟩ (.int .i64 (VY).d1)).setCell ⟨HDb, 5, none⟩ (.int .i64 (VY).r0)).setCell ⟨HDb, 6, none⟩ (.int .i64 (VY).r1)).setCell ⟨HDb, 7, none⟩ (.int .i64 (VY).R)).setCell ⟨HDb, 8, none⟩ (.int .i64 (VY).C)) = WsDb at DX DY hFX hFY hVX hVY Db Da bz ⊢
        clear hgS
        refine hK.out _ _ ⟨DX, DY⟩ (fun hH => ?_)
        clear hK K hS
        have hS := hH
        clear hH
        try simp only [Act.put, List.setIfInBounds_toArray, List.set_cons_zero, List.set_cons_succ, List.getElem_toArray, List.getElem_cons_zero, List.getElem_cons_succ]
        refine wpAnyH_done (by kernel_rfl) ?_ _
        exact key _ _ _ _ _ _ _ _ _ _ _ _ _ _ _ _ _ _ _ _ _ _ _ _ _ _ _ _ _ _ _ _ _ _ _ _ _ _ _ _ _ _ _ _ _ _ _ _ _ _ _ _ _ _ _ _ _ _ _ _ _ _ _ _ _ _ _ _ _ _ _ _ _ _ _ _ _ _ _ _ _ _ _ _ _ _ _ _ _ _ _ _ _ _ _ _ _ _ _ _ _ _ _ _ _ _ _ _ _ _ _ _ _ _ _ _ _ _ _ _ _ _ _ _ _ _ _ _ _ _ _ _ _ _ _ _ _ _ _ _ _ _ _ _ _ _ _ _ _ _ _ _ _ _ _ _ _ _ _ _ DX DY hFX hFY hVX hVY Da Db bz
    · go_simp
      have yDa := DY.lt
      have pDaVX := And.intro hVX.st.lt hVX.st.gt.2
      have Da := Blk.new w3 (Vu.zero).L 30
      obtain ⟨HDa, eHDa⟩ : ∃ H, w3.heap.size = H := ⟨_, rfl⟩
      rw [eHDa] at Da
      replace DX := DX.on ((Below.refl _ _).alloc (Nat.le_refl _) (.cells (Vu.zero).L.toArray 30))
      replace DY := DY.on ((Below.refl _ _).alloc (Nat.le_refl _) (.cells (Vu.zero).L.toArray 30))
      replace hFX := hFX.on ((Below.refl _ _).alloc (Nat.le_refl _) (.cells (Vu.zero).L.toArray 30))
      replace hFY := hFY.on ((Below.refl _ _).alloc (Nat.le_refl _) (.cells (Vu.zero).L.toArray 30))
      replace hVX := hVX.on ((Below.refl _ _).alloc (Nat.le_refl _) (.cells (Vu.zero).L.toArray 30))
      replace bz := bz.alloc bz.size (.cells (Vu.zero).L.toArray 30)
      have HHDa := Lib.hid eHDa
      simp only [eHDa] at yDa pDaVX ⊢
      clear eHDa
      generalize (w3.alloc (.cells (Vu.zero).L.toArray 30)) = WaDa at DX DY hFX hFY hVX Da bz ⊢
      refine hK.out _ _ ⟨DX, DY⟩ (fun hH => ?_)
      clear hK K hS
      have hS := hH
      clear hH
      try simp only [Act.put, List.setIfInBounds_toArray, List.set_cons_zero, List.set_cons_succ, List.getElem_toArray, List.getElem_cons_zero, List.getElem_cons_succ]
      refine wpAnyH_ready (rs := [4, 6]) (by kernel_rfl) (by simp) ?_
      refine (AllReadyH.cons rfl (fun K hK => ?_) (AllReadyH.cons rfl (fun K hK => ?_) AllReadyH.nil))
      · go_simp
        have zDaY := Da.lt
        with_reducible refine (of_any false hFY.fl HSY.out.1 HSY.out.2).mono ?_
        rintro e w4 ⟨VY, sVY, gVY, capVY, cVY, lVY, rfl, hVY, hb⟩
        replace DX := DX.on hb
        replace DY := DY.on hb
        replace hFX := hFX.on hb
        replace hFY := hFY.on hb
        replace hVX := hVX.on hb
        replace Da := Da.on hb
        replace bz := bz.trans (hb.mono bz.size)
        clear hb
        have lY := And.intro hVY.st.lt hVY.st.gt.2
        have mY := And.intro hVY.st.lo hVY.st.gt.1
        refine hK.out _ _ ⟨DX, DY⟩ (fun hH => ?_)
        clear hK K hS
        have hS := hH
        clear hH
        try simp only [Act.put, List.setIfInBounds_toArray, List.set_cons_zero, List.set_cons_succ, List.getElem_toArray, List.getElem_cons_zero, List.getElem_cons_succ]
        refine wpAnyH_ready (rs := [6]) (by kernel_rfl) (by simp) ?_
        refine AllReadyH.cons rfl (fun K hK => ?_) AllReadyH.nil
        go_simp
        have yDb := DY.lt
        have pDbVX := And.intro hVX.st.lt hVX.st.gt.2
        have pDbVY := And.intro hVY.st.lt hVY.st.gt.2
        have qDbDa := Da.lt
        have Db := Blk.new w4 (Vu.zero).L 30
        obtain ⟨HDb, eHDb⟩ : ∃ H, w4.heap.size = H := ⟨_, rfl⟩
        rw [eHDb] at Db
        replace DX := DX.on ((Below.refl _ _).alloc (Nat.le_refl _) (.cells (Vu.zero).L.toArray 30))
        replace DY := DY.on ((Below.refl _ _).alloc (Nat.le_refl _) (.cells (Vu.zero).L.toArray 30))
        replace hFX := hFX.on ((Below.refl _ _).alloc (Nat.le_refl _) (.cells (Vu.zero).L.toArray 30))
        replace hFY := hFY.on ((Below.refl _ _).alloc (Nat.le_refl _) (.cells (Vu.zero).L.toArray 30))
        replace hVX := hVX.on ((Below.refl _ _).alloc (Nat.le_refl _) (.cells (Vu.zero).L.toArray 30))
        replace Da := Da.on ((Below.refl _ _).alloc (Nat.le_refl _) (.cells (Vu.zero).L.toArray 30))
        replace hVY := hVY.on ((Below.refl _ _).alloc (Nat.le_refl _) (.cells (Vu.zero).L.toArray 30))
        replace bz := bz.alloc bz.size (.cells (Vu.zero).L.toArray 30)
        have HHDb := Lib.hid eHDb
        simp only [eHDb] at yDb pDbVX pDbVY qDbDa ⊢
        clear eHDb
        generalize (w4.alloc (.cells (Vu.zero).L.toArray 30)) = WaDb at DX DY hFX hFY hVX Da hVY Db bz ⊢
        refine hK.out _ _ ⟨DX, DY⟩ (fun hH => ?_)
        clear hK K hS
        have hS := hH
        clear hH
        try simp only [Act.put, List.setIfInBounds_toArray, List.set_cons_zero, List.set_cons_succ, List.getElem_toArray, List.getElem_cons_zero, List.getElem_cons_succ]
        obtain ⟨fc0, fc1, fc2, fc3, fc4, fc5, fc6, fc7, fc8⟩ := Vbx.cells Da
        obtain ⟨fr0, fr1, fr2, fr3, fr4, fr5, fr6, fr7, fr8⟩ := Vbx.free Da
        refine wpAnyH_ready (rs := [7]) (by kernel_rfl) (by simp) ?_
        refine AllReadyH.cons rfl (fun K hK => ?_) AllReadyH.nil
        go_simp
        clear fc0 fr0 fc1 fr1 fc2 fr2 fc3 fr3 fc4 fr4 fc5 fr5 fc6 fr6 fc7 fr7 fc8 fr8
        have hgS := set9_grown WaDb (HDa) (.pointer (VX).p) (.int .i64 (VX).f0) (.int .i64 (VX).f1) (.int .i64 (VX).d0) (.int .i64 (VX).d1) (.int .i64 (VX).r0) (.int .i64 (VX).r1) (.int .i64 (VX).R) (.int .i64 (VX).C)
        replace Da := Vbx.put Da (VX)
        replace DX := DX.grown hgS (by simp <;> omega)
        replace DY := DY.grown hgS (by simp <;> omega)
        replace hFX := hFX.grown hgS (by omega)
        replace hFY := hFY.grown hgS (by omega)
        replace hVX := hVX.grown hgS (by omega) (by omega)
        replace hVY := hVY.grown hgS (by omega) (by omega)
        replace Db := Db.grown hgS (by simp <;> omega)
        replace bz := bz.grown hgS bz.size (fun k e => by cases e; omega)
        generalize (((((((((WaDb.setCell ⟨HDa, 0, none⟩ (.pointer (VX).p)).setCell ⟨HDa, 1, none⟩ (.int .i64 (VX).f0)).setCell ⟨HDa, 2, none⟩ (.int .i64 (VX).f1)).setCell ⟨HDa, 3, none⟩ (.int .i64 (VX).d0)).setCell ⟨HDa, 4, none⟩ (.int .i64 (VX).d1)).setCell ⟨HDa, 5, none⟩ (.int .i64 (VX).r0)).setCell ⟨HDa, 6, none⟩ (.int .i64 (VX).r1)).setCell ⟨HDa, 7, none⟩ (.int .i64 (VX).R)).setCell ⟨HDa, 8, none⟩ (.int .i64 (VX).C)) = WsDa at DX DY hFX hFY hVX Da hVY Db bz ⊢
        clear hgS
        refine hK.out _ _ ⟨DX, DY⟩ (fun hH => ?_)
        clear hK K hS
        have hS := hH
        clear hH
        try simp only [Act.put, List.setIfInBounds_toArray, List.set_cons_zero, List.set_cons_succ, List.getElem_toArray, List.getElem_cons_zero, List.getElem_cons_succ]
        obtain ⟨fc0, fc1, fc2, fc3, fc4, fc5, fc6, fc7, fc8⟩ := Vbx.cells Db
        obtain ⟨fr0, fr1, fr2, fr3, fr4, fr5, fr6, fr7, fr8⟩ := Vbx.free Db
        refine wpAnyH_ready (rs := [8]) (by kernel_rfl) (by simp) ?_
        refine AllReadyH.cons rfl (fun K hK => ?_) AllReadyH.nil
        go_simp
        clear fc0 fr0 fc1 fr1 fc2 fr2 fc3 fr3 fc4 fr4 fc5 fr5 fc6 fr6 fc7 fr7 fc8 fr8
        have hgS := set9_grown WsDa (HDb) (.pointer (VY).p) (.int .i64 (VY).f0) (.int .i64 (VY).f1) (.int .i64 (VY).d0) (.int .i64 (VY).d1) (.int .i64 (VY).r0) (.int .i64 (VY).r1) (.int .i64 (VY).R) (.int .i64 (VY).C)
        replace Db := Vbx.put Db (VY)
        replace DX := DX.grown hgS (by simp <;> omega)
        replace DY := DY.grown hgS (by simp <;> omega)
        replace hFX := hFX.grown hgS (by omega)
        replace hFY := hFY.grown hgS (by omega)
        replace hVX := hVX.grown hgS (by omega) (by omega)
        replace Da := Da.grown hgS (by simp <;> omega)
        replace hVY := hVY.grown hgS (by omega) (by omega)
        replace bz := bz.grown hgS bz.size (fun k e => by cases e; omega)
        generalize (((((((((WsDa.setCell ⟨HDb, 0, none⟩ (.pointer (VY).p)).setCell ⟨HDb, 1, none⟩ (.int .i64 (VY).f0)).setCell ⟨HDb, 2, none⟩ (.int .i64 (VY).f1)).setCell ⟨HDb, 3, none⟩ (.int .i64 (VY).d0)).setCell ⟨HDb, 4, none⟩ (.int .i64 (VY).d1)).setCell ⟨HDb, 5, none⟩ (.int .i64 (VY).r0)).setCell ⟨HDb, 6, none⟩ (.int .i64 (VY).r1)).setCell ⟨HDb, 7, none⟩ (.int .i64 (VY).R)).setCell ⟨HDb, 8, none⟩ (.int .i64 (VY).C)) = WsDb at DX DY hFX hFY hVX Da hVY Db bz ⊢
        clear hgS
        refine hK.out _ _ ⟨DX, DY⟩ (fun hH => ?_)
        clear hK K hS
        have hS := hH
        clear hH
        try simp only [Act.put, List.setIfInBounds_toArray, List.set_cons_zero, List.set_cons_succ, List.getElem_toArray, List.getElem_cons_zero, List.getElem_cons_succ]
        refine wpAnyH_done (by kernel_rfl) ?_ _
        exact key _ _ _ _ _ _ _ _ _ _ _ _ _ _ _ _ _ _ _ _ _ _ _ _ _ _ _ _ _ _ _ _ _ _ _ _ _ _ _ _ _ _ _ _ _ _ _ _ _ _ _ _ _ _ _ _ _ _ _ _ _ _ _ _ _ _ _ _ _ _ _ _ _ _ _ _ _ _ _ _ _ _ _ _ _ _ _ _ _ _ _ _ _ _ _ _ _ _ _ _ _ _ _ _ _ _ _ _ _ _ _ _ _ _ _ _ _ _ _ _ _ _ _ _ _ _ _ _ _ _ _ _ _ _ _ _ _ _ _ _ _ _ _ _ _ _ _ _ _ _ _ _ _ _ _ _ _ _ _ _ DX DY hFX hFY hVX hVY Da Db bz
      · go_simp
        have yDb := DY.lt
        have pDbVX := And.intro hVX.st.lt hVX.st.gt.2
        have qDbDa := Da.lt
        have Db := Blk.new WaDa (Vu.zero).L 30
        obtain ⟨HDb, eHDb⟩ : ∃ H, WaDa.heap.size = H := ⟨_, rfl⟩
        rw [eHDb] at Db
        replace DX := DX.on ((Below.refl _ _).alloc (Nat.le_refl _) (.cells (Vu.zero).L.toArray 30))
        replace DY := DY.on ((Below.refl _ _).alloc (Nat.le_refl _) (.cells (Vu.zero).L.toArray 30))
        replace hFX := hFX.on ((Below.refl _ _).alloc (Nat.le_refl _) (.cells (Vu.zero).L.toArray 30))
        replace hFY := hFY.on ((Below.refl _ _).alloc (Nat.le_refl _) (.cells (Vu.zero).L.toArray 30))
        replace hVX := hVX.on ((Below.refl _ _).alloc (Nat.le_refl _) (.cells (Vu.zero).L.toArray 30))
        replace Da := Da.on ((Below.refl _ _).alloc (Nat.le_refl _) (.cells (Vu.zero).L.toArray 30))
        replace bz := bz.alloc bz.size (.cells (Vu.zero).L.toArray 30)
        have HHDb := Lib.hid eHDb
        simp only [eHDb] at yDb pDbVX qDbDa ⊢
        clear eHDb
        generalize (WaDa.alloc (.cells (Vu.zero).L.toArray 30)) = WaDb at DX DY hFX hFY hVX Da Db bz ⊢
        refine hK.out _ _ ⟨DX, DY⟩ (fun hH => ?_)
        clear hK K hS
        have hS := hH
        clear hH
        try simp only [Act.put, List.setIfInBounds_toArray, List.set_cons_zero, List.set_cons_succ, List.getElem_toArray, List.getElem_cons_zero, List.getElem_cons_succ]
        refine wpAnyH_ready (rs := [4]) (by kernel_rfl) (by simp) ?_
        refine AllReadyH.cons rfl (fun K hK => ?_) AllReadyH.nil
        go_simp
        have zDaY := Da.lt
        have zDbY := Db.lt
        with_reducible refine (of_any false hFY.fl HSY.out.1 HSY.out.2).mono ?_
        rintro e w4 ⟨VY, sVY, gVY, capVY, cVY, lVY, rfl, hVY, hb⟩
        replace DX := DX.on hb
        replace DY := DY.on hb
        replace hFX := hFX.on hb
        replace hFY := hFY.on hb
        replace hVX := hVX.on hb
        replace Da := Da.on hb
        replace Db := Db.on hb
        replace bz := bz.trans (hb.mono bz.size)
        clear hb
        have lY := And.intro hVY.st.lt hVY.st.gt.2
        have mY := And.intro hVY.st.lo hVY.st.gt.1
        refine hK.out _ _ ⟨DX, DY⟩ (fun hH => ?_)
        clear hK K hS
        have hS := hH
        clear hH
        try simp only [Act.put, List.setIfInBounds_toArray, List.set_cons_zero, List.set_cons_succ, List.getElem_toArray, List.getElem_cons_zero, List.getElem_cons_succ]
        obtain ⟨fc0, fc1, fc2, fc3, fc4, fc5, fc6, fc7, fc8⟩ := Vbx.cells Da
        obtain ⟨fr0, fr1, fr2, fr3, fr4, fr5, fr6, fr7, fr8⟩ := Vbx.free Da
        refine wpAnyH_ready (rs := [7]) (by kernel_rfl) (by simp) ?_
        refine AllReadyH.cons rfl (fun K hK => ?_) AllReadyH.nil
        go_simp
        clear fc0 fr0 fc1 fr1 fc2 fr2 fc3 fr3 fc4 fr4 fc5 fr5 fc6 fr6 fc7 fr7 fc8 fr8
        have hgS := set9_grown w4 (HDa) (.pointer (VX).p) (.int .i64 (VX).f0) (.int .i64 (VX).f1) (.int .i64 (VX).d0) (.int .i64 (VX).d1) (.int .i64 (VX).r0) (.int .i64 (VX).r1) (.int .i64 (VX).R) (.int .i64 (VX).C)
        replace Da := Vbx.put Da (VX)
        replace DX := DX.grown hgS (by simp <;> omega)
        replace DY := DY.grown hgS (by simp <;> omega)
        replace hFX := hFX.grown hgS (by omega)
        replace hFY := hFY.grown hgS (by omega)
        replace hVX := hVX.grown hgS (by omega) (by omega)
        replace Db := Db.grown hgS (by simp <;> omega)
        replace hVY := hVY.grown hgS (by omega) (by omega)
        replace bz := bz.grown hgS bz.size (fun k e => by cases e; omega)
        generalize (((((((((w4.setCell ⟨HDa, 0, none⟩ (.pointer (VX).p)).setCell ⟨HDa, 1, none⟩ (.int .i64 (VX).f0)).setCell ⟨HDa, 2, none⟩ (.int .i64 (VX).f1)).setCell ⟨HDa, 3, none⟩ (.int .i64 (VX).d0)).setCell ⟨HDa, 4, none⟩ (.int .i64 (VX).d1)).setCell ⟨HDa, 5, none⟩ (.int .i64 (VX).r0)).setCell ⟨HDa, 6, none⟩ (.int .i64 (VX).r1)).setCell ⟨HDa, 7, none⟩ (.int .i64 (VX).R)).setCell ⟨HDa, 8, none⟩ (.int .i64 (VX).C)) = WsDa at DX DY hFX hFY hVX Da Db hVY bz ⊢
        clear hgS
        refine hK.out _ _ ⟨DX, DY⟩ (fun hH => ?_)
        clear hK K hS
        have hS := hH
        clear hH
        try simp only [Act.put, List.setIfInBounds_toArray, List.set_cons_zero, List.set_cons_succ, List.getElem_toArray, List.getElem_cons_zero, List.getElem_cons_succ]
        obtain ⟨fc0, fc1, fc2, fc3, fc4, fc5, fc6, fc7, fc8⟩ := Vbx.cells Db
        obtain ⟨fr0, fr1, fr2, fr3, fr4, fr5, fr6, fr7, fr8⟩ := Vbx.free Db
        refine wpAnyH_ready (rs := [8]) (by kernel_rfl) (by simp) ?_
        refine AllReadyH.cons rfl (fun K hK => ?_) AllReadyH.nil
        go_simp
        clear fc0 fr0 fc1 fr1 fc2 fr2 fc3 fr3 fc4 fr4 fc5 fr5 fc6 fr6 fc7 fr7 fc8 fr8
        have hgS := set9_grown WsDa (HDb) (.pointer (VY).p) (.int .i64 (VY).f0) (.int .i64 (VY).f1) (.int .i64 (VY).d0) (.int .i64 (VY).d1) (.int .i64 (VY).r0) (.int .i64 (VY).r1) (.int .i64 (VY).R) (.int .i64 (VY).C)
        replace Db := Vbx.put Db (VY)
        replace DX := DX.grown hgS (by simp <;> omega)
        replace DY := DY.grown hgS (by simp <;> omega)
        replace hFX := hFX.grown hgS (by omega)
        replace hFY := hFY.grown hgS (by omega)
        replace hVX := hVX.grown hgS (by omega) (by omega)
        replace Da := Da.grown hgS (by simp <;> omega)
        replace hVY := hVY.grown hgS (by omega) (by omega)
        replace bz := bz.grown hgS bz.size (fun k e => by cases e; omega)
        generalize (((((((((WsDa.setCell ⟨HDb, 0, none⟩ (.pointer (VY).p)).setCell ⟨HDb, 1, none⟩ (.int .i64 (VY).f0)).setCell ⟨HDb, 2, none⟩ (.int .i64 (VY).f1)).setCell ⟨HDb, 3, none⟩ (.int .i64 (VY).d0)).setCell ⟨HDb, 4, none⟩ (.int .i64 (VY).d1)).setCell ⟨HDb, 5, none⟩ (.int .i64 (VY).r0)).setCell ⟨HDb, 6, none⟩ (.int .i64 (VY).r1)).setCell ⟨HDb, 7, none⟩ (.int .i64 (VY).R)).setCell ⟨HDb, 8, none⟩ (.int .i64 (VY).C)) = WsDb at DX DY hFX hFY hVX Da Db hVY bz ⊢
        clear hgS
        refine hK.out _ _ ⟨DX, DY⟩ (fun hH => ?_)
        clear hK K hS
        have hS := hH
        clear hH
        try simp only [Act.put, List.setIfInBounds_toArray, List.set_cons_zero, List.set_cons_succ, List.getElem_toArray, List.getElem_cons_zero, List.getElem_cons_succ]
        refine wpAnyH_done (by kernel_rfl) ?_ _
        exact key _ _ _ _ _ _ _ _ _ _ _ _ _ _ _ _ _ _ _ _ _ _ _ _ _ _ _ _ _ _ _ _ _ _ _ _ _ _ _ _ _ _ _ _ _ _ _ _ _ _ _ _ _ _ _ _ _ _ _ _ _ _ _ _ _ _ _ _ _ _ _ _ _ _ _ _ _ _ _ _ _ _ _ _ _ _ _ _ _ _ _ _ _ _ _ _ _ _ _ _ _ _ _ _ _ _ _ _ _ _ _ _ _ _ _ _ _ _ _ _ _ _ _ _ _ _ _ _ _ _ _ _ _ _ _ _ _ _ _ _ _ _ _ _ _ _ _ _ _ _ _ _ _ _ _ _ _ _ _ _ DX DY hFX hFY hVX hVY Da Db bz
    · go_simp
      have yDb := DY.lt
      have pDbVX := And.intro hVX.st.lt hVX.st.gt.2
      have Db := Blk.new w3 (Vu.zero).L 30
      obtain ⟨HDb, eHDb⟩ : ∃ H, w3.heap.size = H := ⟨_, rfl⟩
      rw [eHDb] at Db
      replace DX := DX.on ((Below.refl _ _).alloc (Nat.le_refl _) (.cells (Vu.zero).L.toArray 30))
      replace DY := DY.on ((Below.refl _ _).alloc (Nat.le_refl _) (.cells (Vu.zero).L.toArray 30))
      replace hFX := hFX.on ((Below.refl _ _).alloc (Nat.le_refl _) (.cells (Vu.zero).L.toArray 30))
      replace hFY := hFY.on ((Below.refl _ _).alloc (Nat.le_refl _) (.cells (Vu.zero).L.toArray 30))
      replace hVX := hVX.on ((Below.refl _ _).alloc (Nat.le_refl _) (.cells (Vu.zero).L.toArray 30))
      replace bz := bz.alloc bz.size (.cells (Vu.zero).L.toArray 30)
      have HHDb := Lib.hid eHDb
      simp only [eHDb] at yDb pDbVX ⊢
      clear eHDb
      generalize (w3.alloc (.cells (Vu.zero).L.toArray 30)) = WaDb at DX DY hFX hFY hVX Db bz ⊢
      refine hK.out _ _ ⟨DX, DY⟩ (fun hH => ?_)
      clear hK K hS
      have hS := hH
      clear hH
      try simp only [Act.put, List.setIfInBounds_toArray, List.set_cons_zero, List.set_cons_succ, List.getElem_toArray, List.getElem_cons_zero, List.getElem_cons_succ]
      refine wpAnyH_ready (rs := [4, 5]) (by kernel_rfl) (by simp) ?_
      refine (AllReadyH.cons rfl (fun K hK => ?_) (AllReadyH.cons rfl (fun K hK => ?_) AllReadyH.nil))
      · go_simp
        have zDbY := Db.lt
        with_reducible refine (of_any false hFY.fl HSY.out.1 HSY.out.2).mono ?_
        rintro e w4 ⟨VY, sVY, gVY, capVY, cVY, lVY, rfl, hVY, hb⟩
        replace DX := DX.on hb
        replace DY := DY.on hb
        replace hFX := hFX.on hb
        replace hFY := hFY.on hb
        replace hVX := hVX.on hb
        replace Db := Db.on hb
        replace bz := bz.trans (hb.mono bz.size)
        clear hb
        have lY := And.intro hVY.st.lt hVY.st.gt.2
        have mY := And.intro hVY.st.lo hVY.st.gt.1
        refine hK.out _ _ ⟨DX, DY⟩ (fun hH => ?_)
        clear hK K hS
        have hS := hH
        clear hH
        try simp only [Act.put, List.setIfInBounds_toArray, List.set_cons_zero, List.set_cons_succ, List.getElem_toArray, List.getElem_cons_zero, List.getElem_cons_succ]
        refine wpAnyH_ready (rs := [5]) (by kernel_rfl) (by simp) ?_
        refine AllReadyH.cons rfl (fun K hK => ?_) AllReadyH.nil
        go_simp
        have yDa := DY.lt
        have pDaVX := And.intro hVX.st.lt hVX.st.gt.2
        have pDaVY := And.intro hVY.st.lt hVY.st.gt.2
        have qDaDb := Db.lt
        have Da := Blk.new w4 (Vu.zero).L 30
        obtain ⟨HDa, eHDa⟩ : ∃ H, w4.heap.size = H := ⟨_, rfl⟩
        rw [eHDa] at Da
        replace DX := DX.on ((Below.refl _ _).alloc (Nat.le_refl _) (.cells (Vu.zero).L.toArray 30))
        replace DY := DY.on ((Below.refl _ _).alloc (Nat.le_refl _) (.cells (Vu.zero).L.toArray 30))
        replace hFX := hFX.on ((Below.refl _ _).alloc (Nat.le_refl _) (.cells (Vu.zero).L.toArray 30))
        replace hFY := hFY.on ((Below.refl _ _).alloc (Nat.le_refl _) (.cells (Vu.zero).L.toArray 30))
        replace hVX := hVX.on ((Below.refl _ _).alloc (Nat.le_refl _) (.cells (Vu.zero).L.toArray 30))
        replace Db := Db.on ((Below.refl _ _).alloc (Nat.le_refl _) (.cells (Vu.zero).L.toArray 30))
        replace hVY := hVY.on ((Below.refl _ _).alloc (Nat.le_refl _) (.cells (Vu.zero).L.toArray 30))
        replace bz := bz.alloc bz.size (.cells (Vu.zero).L.toArray 30)
        have HHDa := Lib.hid eHDa
        simp only [eHDa] at yDa pDaVX pDaVY qDaDb ⊢
        clear eHDa
        generalize (w4.alloc (.cells (Vu.zero).L.toArray 30)) = WaDa at DX DY hFX hFY hVX Db hVY Da bz ⊢
        refine hK.out _ _ ⟨DX, DY⟩ (fun hH => ?_)
        clear hK K hS
        have hS := hH
        clear hH
        try simp only [Act.put, List.setIfInBounds_toArray, List.set_cons_zero, List.set_cons_succ, List.getElem_toArray, List.getElem_cons_zero, List.getElem_cons_succ]
        obtain ⟨fc0, fc1, fc2, fc3, fc4, fc5, fc6, fc7, fc8⟩ := Vbx.cells Da
        obtain ⟨fr0, fr1, fr2, fr3, fr4, fr5, fr6, fr7, fr8⟩ := Vbx.free Da
        refine wpAnyH_ready (rs := [7]) (by kernel_rfl) (by simp) ?_
        refine AllReadyH.cons rfl (fun K hK => ?_) AllReadyH.nil
        go_simp
        clear fc0 fr0 fc1 fr1 fc2 fr2 fc3 fr3 fc4 fr4 fc5 fr5 fc6 fr6 fc7 fr7 fc8 fr8
        have hgS := set9_grown WaDa (HDa) (.pointer (VX).p) (.int .i64 (VX).f0) (.int .i64 (VX).f1) (.int .i64 (VX).d0) (.int .i64 (VX).d1) (.int .i64 (VX).r0) (.int .i64 (VX).r1) (.int .i64 (VX).R) (.int .i64 (VX).C)
        replace Da := Vbx.put Da (VX)
        replace DX := DX.grown hgS (by simp <;> omega)
        replace DY := DY.grown hgS (by simp <;> omega)
        replace hFX := hFX.grown hgS (by omega)
        replace hFY := hFY.grown hgS (by omega)
        replace hVX := hVX.grown hgS (by omega) (by omega)
        replace Db := Db.grown hgS (by simp <;> omega)
        replace hVY := hVY.grown hgS (by omega) (by omega)
        replace bz := bz.grown hgS bz.size (fun k e => by cases e; omega)
        generalize (((((((((WaDa.setCell ⟨HDa, 0, none⟩ (.pointer (VX).p)).setCell ⟨HDa, 1, none⟩ (.int .i64 (VX).f0)).setCell ⟨HDa, 2, none⟩ (.int .i64 (VX).f1)).setCell ⟨HDa, 3, none⟩ (.int .i64 (VX).d0)).setCell ⟨HDa, 4, none⟩ (.int .i64 (VX).d1)).setCell ⟨HDa, 5, none⟩ (.int .i64 (VX).r0)).setCell ⟨HDa, 6, none⟩ (.int .i64 (VX).r1)).setCell ⟨HDa, 7, none⟩ (.int .i64 (VX).R)).setCell ⟨HDa, 8, none⟩ (.int .i64 (VX).C)) = WsDa at DX DY hFX hFY hVX Db hVY Da bz ⊢
        clear hgS
        refine hK.out _ _ ⟨DX, DY⟩ (fun hH => ?_)
        clear hK K hS
        have hS := hH
        clear hH
        try simp only [Act.put, List.setIfInBounds_toArray, List.set_cons_zero, List.set_cons_succ, List.getElem_toArray, List.getElem_cons_zero, List.getElem_cons_succ]
        obtain ⟨fc0, fc1, fc2, fc3, fc4, fc5, fc6, fc7, fc8⟩ := Vbx.cells Db
        obtain ⟨fr0, fr1, fr2, fr3, fr4, fr5, fr6, fr7, fr8⟩ := Vbx.free Db
        refine wpAnyH_ready (rs := [8]) (by kernel_rfl) (by simp) ?_
        refine AllReadyH.cons rfl (fun K hK => ?_) AllReadyH.nil
        go_simp
        clear fc0 fr0 fc1 fr1 fc2 fr2 fc3 fr3 fc4 fr4 fc5 fr5 fc6 fr6 fc7 fr7 fc8 fr8
        have hgS := set9_grown WsDa (HDb) (.pointer (VY).p) (.int .i64 (VY).f0) (.int .i64 (VY).f1) (.int .i64 (VY).d0) (.int .i64 (VY).d1) (.int .i64 (VY).r0) (.int .i64 (VY).r1) (.int .i64 (VY).R) (.int .i64 (VY).C)
        replace Db := Vbx.put Db (VY)
        replace DX := DX.grown hgS (by simp <;> omega)
        replace DY := DY.grown hgS (by simp <;> omega)
        replace hFX := hFX.grown hgS (by omega)
        replace hFY := hFY.grown hgS (by omega)
        replace hVX := hVX.grown hgS (by omega) (by omega)
        replace hVY := hVY.grown hgS (by omega) (by omega)
        replace Da := Da.grown hgS (by simp <;> omega)
        replace bz := bz.grown hgS bz.size (fun k e => by cases e; omega)
        generalize (((((((((WsDa.setCell ⟨HDb, 0, none⟩ (.pointer (VY).p)).setCell ⟨HDb, 1, none⟩ (.int .i64 (VY).f0)).setCell ⟨HDb, 2, none⟩ (.int .i64 (VY).f1)).setCell ⟨HDb, 3, none⟩ (.int .i64 (VY).d0)).setCell ⟨HDb, 4, none⟩ (.int .i64 (VY).d1)).setCell ⟨HDb, 5, none⟩ (.int .i64 (VY).r0)).setCell ⟨HDb, 6, none⟩ (.int .i64 (VY).r1)).setCell ⟨HDb, 7, none⟩ (.int .i64 (VY).R)).setCell ⟨HDb, 8, none⟩ (.int .i64 (VY).C)) = WsDb at DX DY hFX hFY hVX Db hVY Da bz ⊢
        clear hgS
        refine hK.out _ _ ⟨DX, DY⟩ (fun hH => ?_)
        clear hK K hS
        have hS := hH
        clear hH
        try simp only [Act.put, List.setIfInBounds_toArray, List.set_cons_zero, List.set_cons_succ, List.getElem_toArray, List.getElem_cons_zero, List.getElem_cons_succ]
        refine wpAnyH_done (by kernel_rfl) ?_ _
        exact key _ _ _ _ _ _ _ _ _ _ _ _ _ _ _ _ _ _ _ _ _ _ _ _ _ _ _ _ _ _ _ _ _ _ _ _ _ _ _ _ _ _ _ _ _ _ _ _ _ _ _ _ _ _ _ _ _ _ _ _ _ _ _ _ _ _ _ _ _ _ _ _ _ _ _ _ _ _ _ _ _ _ _ _ _ _ _ _ _ _ _ _ _ _ _ _ _ _ _ _ _ _ _ _ _ _ _ _ _ _ _ _ _ _ _ _ _ _ _ _ _ _ _ _ _ _ _ _ _ _ _ _ _ _ _ _ _ _ _ _ _ _ _ _ _ _ _ _ _ _ _ _ _ _ _ _ _ _ _ _ DX DY hFX hFY hVX hVY Da Db bz
      · go_simp
        have yDa := DY.lt
        have pDaVX := And.intro hVX.st.lt hVX.st.gt.2
        have qDaDb := Db.lt
        have Da := Blk.new WaDb (Vu.zero).L 30
        obtain ⟨HDa, eHDa⟩ : ∃ H, WaDb.heap.size = H := ⟨_, rfl⟩
        rw [eHDa] at Da
        replace DX := DX.on ((Below.refl _ _).alloc (Nat.le_refl _) (.cells (Vu.zero).L.toArray 30))
        replace DY := DY.on ((Below.refl _ _).alloc (Nat.le_refl _) (.cells (Vu.zero).L.toArray 30))
        replace hFX := hFX.on ((Below.refl _ _).alloc (Nat.le_refl _) (.cells (Vu.zero).L.toArray 30))
        replace hFY := hFY.on ((Below.refl _ _).alloc (Nat.le_refl _) (.cells (Vu.zero).L.toArray 30))
        replace hVX := hVX.on ((Below.refl _ _).alloc (Nat.le_refl _) (.cells (Vu.zero).L.toArray 30))
        replace Db := Db.on ((Below.refl _ _).alloc (Nat.le_refl _) (.cells (Vu.zero).L.toArray 30))
        replace bz := bz.alloc bz.size (.cells (Vu.zero).L.toArray 30)
        have HHDa := Lib.hid eHDa
        simp only [eHDa] at yDa pDaVX qDaDb ⊢
        clear eHDa
        generalize (WaDb.alloc (.cells (Vu.zero).L.toArray 30)) = WaDa at DX DY hFX hFY hVX Db Da bz ⊢
        refine hK.out _ _ ⟨DX, DY⟩ (fun hH => ?_)
        clear hK K hS
        have hS := hH
        clear hH
        try simp only [Act.put, List.setIfInBounds_toArray, List.set_cons_zero, List.set_cons_succ, List.getElem_toArray, List.getElem_cons_zero, List.getElem_cons_succ]
        refine wpAnyH_ready (rs := [4]) (by kernel_rfl) (by simp) ?_
        refine AllReadyH.cons rfl (fun K hK => ?_) AllReadyH.nil
        go_simp
        have zDaY := Da.lt
        have zDbY := Db.lt
        with_reducible refine (of_any false hFY.fl HSY.out.1 HSY.out.2).mono ?_
        rintro e w4 ⟨VY, sVY, gVY, capVY, cVY, lVY, rfl, hVY, hb⟩
        replace DX := DX.on hb
        replace DY := DY.on hb
        replace hFX := hFX.on hb
        replace hFY := hFY.on hb
        replace hVX := hVX.on hb
        replace Db := Db.on hb
        replace Da := Da.on hb
        replace bz := bz.trans (hb.mono bz.size)
        clear hb
        have lY := And.intro hVY.st.lt hVY.st.gt.2
        have mY := And.intro hVY.st.lo hVY.st.gt.1
        refine hK.out _ _ ⟨DX, DY⟩ (fun hH => ?_)
        clear hK K hS
        have hS := hH
        clear hH
        try simp only [Act.put, List.setIfInBounds_toArray, List.set_cons_zero, List.set_cons_succ, List.getElem_toArray, List.getElem_cons_zero, List.getElem_cons_succ]
        obtain ⟨fc0, fc1, fc2, fc3, fc4, fc5, fc6, fc7, fc8⟩ := Vbx.cells Da
        obtain ⟨fr0, fr1, fr2, fr3, fr4, fr5, fr6, fr7, fr8⟩ := Vbx.free Da
        refine wpAnyH_ready (rs := [7]) (by kernel_rfl) (by simp) ?_
        refine AllReadyH.cons rfl (fun K hK => ?_) AllReadyH.nil
        go_simp
        clear fc0 fr0 fc1 fr1 fc2 fr2 fc3 fr3 fc4 fr4 fc5 fr5 fc6 fr6 fc7 fr7 fc8 fr8
        have hgS := set9_grown w4 (HDa) (.pointer (VX).p) (.int .i64 (VX).f0) (.int .i64 (VX).f1) (.int .i64 (VX).d0) (.int .i64 (VX).d1) (.int .i64 (VX).r0) (.int .i64 (VX).r1) (.int .i64 (VX).R) (.int .i64 (VX).C)
        replace Da := Vbx.put Da (VX)
        replace DX := DX.grown hgS (by simp <;> omega)
        replace DY := DY.grown hgS (by simp <;> omega)
        replace hFX := hFX.grown hgS (by omega)
        replace hFY := hFY.grown hgS (by omega)
        replace hVX := hVX.grown hgS (by omega) (by omega)
        replace Db := Db.grown hgS (by simp <;> omega)
        replace hVY := hVY.grown hgS (by omega) (by omega)
        replace bz := bz.grown hgS bz.size (fun k e => by cases e; omega)
        generalize (((((((((w4.setCell ⟨HDa, 0, none⟩ (.pointer (VX).p)).setCell ⟨HDa, 1, none⟩ (.int .i64 (VX).f0)).setCell ⟨HDa, 2, none⟩ (.int .i64 (VX).f1)).setCell ⟨HDa, 3, none⟩ (.int .i64 (VX).d0)).setCell ⟨HDa, 4, none⟩ (.int .i64 (VX).d1)).setCell ⟨HDa, 5, none⟩ (.int .i64 (VX).r0)).setCell ⟨HDa, 6, none⟩ (.int .i64 (VX).r1)).setCell ⟨HDa, 7, none⟩ (.int .i64 (VX).R)).setCell ⟨HDa, 8, none⟩ (.int .i64 (VX).C)) = WsDa at DX DY hFX hFY hVX Db Da hVY bz ⊢
        clear hgS
        refine hK.out _ _ ⟨DX, DY⟩ (fun hH => ?_)
        clear hK K hS
        have hS := hH
        clear hH
        try simp only [Act.put, List.setIfInBounds_toArray, List.set_cons_zero, List.set_cons_succ, List.getElem_toArray, List.getElem_cons_zero, List.getElem_cons_succ]
        obtain ⟨fc0, fc1, fc2, fc3, fc4, fc5, fc6, fc7, fc8⟩ := Vbx.cells Db
        obtain ⟨fr0, fr1, fr2, fr3, fr4, fr5, fr6, fr7, fr8⟩ := Vbx.free Db
        refine wpAnyH_ready (rs := [8]) (by kernel_rfl) (by simp) ?_
        refine AllReadyH.cons rfl (fun K hK => ?_) AllReadyH.nil
        go_simp
        clear fc0 fr0 fc1 fr1 fc2 fr2 fc3 fr3 fc4 fr4 fc5 fr5 fc6 fr6 fc7 fr7 fc8 fr8
        have hgS := set9_grown WsDa (HDb) (.pointer (VY).p) (.int .i64 (VY).f0) (.int .i64 (VY).f1) (.int .i64 (VY).d0) (.int .i64 (VY).d1) (.int .i64 (VY).r0) (.int .i64 (VY).r1) (.int .i64 (VY).R) (.int .i64 (VY).C)
        replace Db := Vbx.put Db (VY)
        replace DX := DX.grown hgS (by simp <;> omega)
        replace DY := DY.grown hgS (by simp <;> omega)
        replace hFX := hFX.grown hgS (by omega)
        replace hFY := hFY.grown hgS (by omega)
        replace hVX := hVX.grown hgS (by omega) (by omega)
        replace Da := Da.grown hgS (by simp <;> omega)
        replace hVY := hVY.grown hgS (by omega) (by omega)
        replace bz := bz.grown hgS bz.size (fun k e => by cases e; omega)
        generalize (((((((((WsDa.setCell ⟨HDb, 0, none⟩ (.pointer (VY).p)).setCell ⟨HDb, 1, none⟩ (.int .i64 (VY).f0)).setCell ⟨HDb, 2, none⟩ (.int .i64 (VY).f1)).setCell ⟨HDb, 3, none⟩ (.int .i64 (VY).d0)).setCell ⟨HDb, 4, none⟩ (.int .i64 (VY).d1)).setCell ⟨HDb, 5, none⟩ (.int .i64 (VY).r0)).setCell ⟨HDb, 6, none⟩ (.int .i64 (VY).r1)).setCell ⟨HDb, 7, none⟩ (.int .i64 (VY).R)).setCell ⟨HDb, 8, none⟩ (.int .i64 (VY).C)) = WsDb at DX DY hFX hFY hVX Db Da hVY bz ⊢
        clear hgS
        refine hK.out _ _ ⟨DX, DY⟩ (fun hH => ?_)
        clear hK K hS
        have hS := hH
        clear hH
        try simp only [Act.put, List.setIfInBounds_toArray, List.set_cons_zero, List.set_cons_succ, List.getElem_toArray, List.getElem_cons_zero, List.getElem_cons_succ]
        refine wpAnyH_done (by kernel_rfl) ?_ _
        exact key _ _ _ _ _ _ _ _ _ _ _ _ _ _ _ _ _ _ _ _ _ _ _ _ _ _ _ _ _ _ _ _ _ _ _ _ _ _ _ _ _ _ _ _ _ _ _ _ _ _ _ _ _ _ _ _ _ _ _ _ _ _ _ _ _ _ _ _ _ _ _ _ _ _ _ _ _ _ _ _ _ _ _ _ _ _ _ _ _ _ _ _ _ _ _ _ _ _ _ _ _ _ _ _ _ _ _ _ _ _ _ _ _ _ _ _ _ _ _ _ _ _ _ _ _ _ _ _ _ _ _ _ _ _ _ _ _ _ _ _ _ _ _ _ _ _ _ _ _ _ _ _ _ _ _ _ _ _ _ _ DX DY hFX hFY hVX hVY Da Db bz
  · go_simp
    have yDa := DY.lt
    have Da := Blk.new wd3 (Vu.zero).L 30
    obtain ⟨HDa, eHDa⟩ : ∃ H, wd3.heap.size = H := ⟨_, rfl⟩
    rw [eHDa] at Da
    replace DX := DX.on ((Below.refl _ _).alloc (Nat.le_refl _) (.cells (Vu.zero).L.toArray 30))
    replace DY := DY.on ((Below.refl _ _).alloc (Nat.le_refl _) (.cells (Vu.zero).L.toArray 30))
    replace hFX := hFX.on ((Below.refl _ _).alloc (Nat.le_refl _) (.cells (Vu.zero).L.toArray 30))
    replace hFY := hFY.on ((Below.refl _ _).alloc (Nat.le_refl _) (.cells (Vu.zero).L.toArray 30))
    replace bz := bz.alloc bz.size (.cells (Vu.zero).L.toArray 30)
    have HHDa := Lib.hid eHDa
    simp only [eHDa] at yDa ⊢
    clear eHDa
    generalize (wd3.alloc (.cells (Vu.zero).L.toArray 30)) = WaDa at DX DY hFX hFY Da bz ⊢
    refine hK.out _ _ ⟨DX, DY⟩ (fun hH => ?_)
    clear hK K hS
    have hS := hH
    clear hH
    try simp only [Act.put, List.setIfInBounds_toArray, List.set_cons_zero, List.set_cons_succ, List.getElem_toArray, List.getElem_cons_zero, List.getElem_cons_succ]
    refine wpAnyH_ready (rs := [2, 6]) (by kernel_rfl) (by simp) ?_
    refine (AllReadyH.cons rfl (fun K hK => ?_) (AllReadyH.cons rfl (fun K hK => ?_) AllReadyH.nil))
    · go_simp
      have zDaX := Da.lt
      with_reducible refine (of_any turned hFX.fl HSX.out.1 HSX.out.2).mono ?_
      rintro e w3 ⟨VX, sVX, gVX, capVX, cVX, lVX, rfl, hVX, hb⟩
      replace DX := DX.on hb
      replace DY := DY.on hb
      replace hFX := hFX.on hb
      replace hFY := hFY.on hb
      replace Da := Da.on hb
      replace bz := bz.trans (hb.mono bz.size)
      clear hb
      have lX := And.intro hVX.st.lt hVX.st.gt.2
      have mX := And.intro hVX.st.lo hVX.st.gt.1
      refine hK.out _ _ ⟨DX, DY⟩ (fun hH => ?_)
      clear hK K hS
      have hS := hH
      clear hH
      try simp only [Act.put, List.setIfInBounds_toArray, List.set_cons_zero, List.set_cons_succ, List.getElem_toArray, List.getElem_cons_zero, List.getElem_cons_succ]
      refine wpAnyH_ready (rs := [4, 6]) (by kernel_rfl) (by simp) ?_
      refine (AllReadyH.cons rfl (fun K hK => ?_) (AllReadyH.cons rfl (fun K hK => ?_) AllReadyH.nil))
      · go_simp
        have zDaY := Da.lt
        with_reducible refine (of_any false hFY.fl HSY.out.1 HSY.out.2).mono ?_
        rintro e w4 ⟨VY, sVY, gVY, capVY, cVY, lVY, rfl, hVY, hb⟩
        replace DX := DX.on hb
        replace DY := DY.on hb
        replace hFX := hFX.on hb
        replace hFY := hFY.on hb
        replace Da := Da.on hb
        replace hVX := hVX.on hb
        replace bz := bz.trans (hb.mono bz.size)
        clear hb
        have lY := And.intro hVY.st.lt hVY.st.gt.2
        have mY := And.intro hVY.st.lo hVY.st.gt.1
        refine hK.out _ _ ⟨DX, DY⟩ (fun hH => ?_)
        clear hK K hS
        have hS := hH
        clear hH
        try simp only [Act.put, List.setIfInBounds_toArray, List.set_cons_zero, List.set_cons_succ, List.getElem_toArray, List.getElem_cons_zero, List.getElem_cons_succ]
        refine wpAnyH_ready (rs := [6]) (by kernel_rfl) (by simp) ?_
        refine AllReadyH.cons rfl (fun K hK => ?_) AllReadyH.nil
        go_simp
        have yDb := DY.lt
        have pDbVX := And.intro hVX.st.lt hVX.st.gt.2
        have pDbVY := And.intro hVY.st.lt hVY.st.gt.2
        have qDbDa := Da.lt
        have Db := Blk.new w4 (Vu.zero).L 30
        obtain ⟨HDb, eHDb⟩ : ∃ H, w4.heap.size = H := ⟨_, rfl⟩
        rw [eHDb] at Db
        replace DX := DX.on ((Below.refl _ _).alloc (Nat.le_refl _) (.cells (Vu.zero).L.toArray 30))
        replace DY := DY.on ((Below.refl _ _).alloc (Nat.le_refl _) (.cells (Vu.zero).L.toArray 30))
        replace hFX := hFX.on ((Below.refl _ _).alloc (Nat.le_refl _) (.cells (Vu.zero).L.toArray 30))
        replace hFY := hFY.on ((Below.refl _ _).alloc (Nat.le_refl _) (.cells (Vu.zero).L.toArray 30))
        replace Da := Da.on ((Below.refl _ _).alloc (Nat.le_refl _) (.cells (Vu.zero).L.toArray 30))
        replace hVX := hVX.on ((Below.refl _ _).alloc (Nat.le_refl _) (.cells (Vu.zero).L.toArray 30))
        replace hVY := hVY.on ((Below.refl _ _).alloc (Nat.le_refl _) (.cells (Vu.zero).L.toArray 30))
        replace bz := bz.alloc bz.size (.cells (Vu.zero).L.toArray 30)
        have HHDb := Lib.hid eHDb
        simp only [eHDb] at yDb pDbVX pDbVY qDbDa ⊢
        clear eHDb
        generalize (w4.alloc (.cells (Vu.zero).L.toArray 30)) = WaDb at DX DY hFX hFY Da hVX hVY Db bz ⊢
        refine hK.out _ _ ⟨DX, DY⟩ (fun hH => ?_)
        clear hK K hS
        have hS := hH
        clear hH
        try simp only [Act.put, List.setIfInBounds_toArray, List.set_cons_zero, List.set_cons_succ, List.getElem_toArray, List.getElem_cons_zero, List.getElem_cons_succ]
        obtain ⟨fc0, fc1, fc2, fc3, fc4, fc5, fc6, fc7, fc8⟩ := Vbx.cells Da
        obtain ⟨fr0, fr1, fr2, fr3, fr4, fr5, fr6, fr7, fr8⟩ := Vbx.free Da
        refine wpAnyH_ready (rs := [7]) (by kernel_rfl) (by simp) ?_
        refine AllReadyH.cons rfl (fun K hK => ?_) AllReadyH.nil
        go_simp
        clear fc0 fr0 fc1 fr1 fc2 fr2 fc3 fr3 fc4 fr4 fc5 fr5 fc6 fr6 fc7 fr7 fc8 fr8
        have hgS := set9_grown WaDb (HDa) (.pointer (VX).p) (.int .i64 (VX).f0) (.int .i64 (VX).f1) (.int .i64 (VX).d0) (.int .i64 (VX).d1) (.int .i64 (VX).r0) (.int .i64 (VX).r1) (.int .i64 (VX).R) (.int .i64 (VX).C)
        replace Da := Vbx.put Da (VX)
        replace DX := DX.grown hgS (by simp <;> omega)
        replace DY := DY.grown hgS (by simp <;> omega)
        replace hFX := hFX.grown hgS (by omega)
        replace hFY := hFY.grown hgS (by omega)
        replace hVX := hVX.grown hgS (by omega) (by omega)
        replace hVY := hVY.grown hgS (by omega) (by omega)
        replace Db := Db.grown hgS (by simp <;> omega)
        replace bz := bz.grown hgS bz.size (fun k e => by cases e; omega)
        generalize (((((((((WaDb.setCell ⟨HDa, 0, none⟩ (.pointer (VX).p)).setCell ⟨HDa, 1, none⟩ (.int .i64 (VX).f0)).setCell ⟨HDa, 2, none⟩ (.int .i64 (VX).f1)).setCell ⟨HDa, 3, none⟩ (.int .i64 (VX).d0)).setCell ⟨HDa, 4, none⟩ (.int .i64 (VX).d1)).setCell ⟨HDa, 5, none⟩ (.int .i64 (VX).r0)).setCell ⟨HDa, 6, none⟩ (.int .i64 (VX).r1)).setCell ⟨HDa, 7, none⟩ (.int .i64 (VX).R)).setCell ⟨HDa, 8, none⟩ (.int .i64 (VX).C)) = WsDa at DX DY hFX hFY Da hVX hVY Db bz ⊢
        clear hgS
        refine hK.out _ _ ⟨DX, DY⟩ (fun hH => ?_)
        clear hK K hS
        have hS := hH
        clear hH
        try simp only [Act.put, List.setIfInBounds_toArray, List.set_cons_zero, List.set_cons_succ, List.getElem_toArray, List.getElem_cons_zero, List.getElem_cons_succ]
        obtain ⟨fc0, fc1, fc2, fc3, fc4, fc5, fc6, fc7, fc8⟩ := Vbx.cells Db
        obtain ⟨fr0, fr1, fr2, fr3, fr4, fr5, fr6, fr7, fr8⟩ := Vbx.free Db
        refine wpAnyH_ready (rs := [8]) (by kernel_rfl) (by simp) ?_
        refine AllReadyH.cons rfl (fun K hK => ?_) AllReadyH.nil
        go_simp
        clear fc0 fr0 fc1 fr1 fc2 fr2 fc3 fr3 fc4 fr4 fc5 fr5 fc6 fr6 fc7 fr7 fc8 fr8
        have hgS := set9_grown WsDa (HDb) (.pointer (VY).p) (.int .i64 (VY).f0) (.int .i64 (VY).f1) (.int .i64 (VY).d0) (.int .i64 (VY).d1) (.int .i64 (VY).r0) (.int .i64 (VY).r1) (.int .i64 (VY).R) (.int .i64 (VY).C)
        replace Db := Vbx.put Db (VY)
        replace DX := DX.grown hgS (by simp <;> omega)
        replace DY := DY.grown hgS (by simp <;> omega)
        replace hFX := hFX.grown hgS (by omega)
        replace hFY := hFY.grown hgS (by omega)
        replace Da := Da.grown hgS (by simp <;> omega)
        replace hVX := hVX.grown hgS (by omega) (by omega)
        replace hVY := hVY.grown hgS (by omega) (by omega)
        replace bz := bz.grown hgS bz.size (fun k e => by cases e; omega)
        generalize (((((((((WsDa.setCell ⟨HDb, 0, none⟩ (.pointer (VY).p)).setCell ⟨HDb, 1, none⟩ (.int .i64 (VY).f0)).setCell ⟨HDb, 2, none⟩ (.int .i64 (VY).f1)).setCell ⟨HDb, 3, none⟩ (.int .i64 (VY).d0)).setCell ⟨HDb, 4, none⟩ (.int .i64 (VY).d1)).setCell ⟨HDb, 5, none⟩ (.int .i64 (VY).r0)).setCell ⟨HDb, 6, none⟩ (.int .i64 (VY).r1)).setCell ⟨HDb, 7, none⟩ (.int .i64 (VY).R)).setCell ⟨HDb, 8, none⟩ (.int .i64 (VY).C)) = WsDb at DX DY hFX hFY Da hVX hVY Db bz ⊢
        clear hgS
        refine hK.out _ _ ⟨DX, DY⟩ (fun hH => ?_)
        clear hK K hS
        have hS := hH
        clear hH
        try simp only [Act.put, List.setIfInBounds_toArray, List.set_cons_zero, List.set_cons_succ, List.getElem_toArray, List.getElem_cons_zero, List.getElem_cons_succ]
        refine wpAnyH_done (by kernel_rfl) ?_ _
        exact key _ _ _ _ _ _ _ _ _ _ _ _ _ _ _ _ _ _ _ _ _ _ _ _ _ _ _ _ _ _ _ _ _ _ _ _ _ _ _ _ _ _ _ _ _ _ _ _ _ _ _ _ _ _ _ _ _ _ _ _ _ _ _ _ _ _ _ _ _ _ _ _ _ _ _ _ _ _ _ _ _ _ _ _ _ _ _ _ _ _ _ _ _ _ _ _ _ _ _ _ _ _ _ _ _ _ _ _ _ _ _ _ _ _ _ _ _ _ _ _ _ _ _ _ _ _ _ _ _ _ _ _ _ _ _ _ _ _ _ _ _ _ _ _ _ _ _ _ _ _ _ _ _ _ _ _ _ _ _ _ DX DY hFX hFY hVX hVY Da Db bz
      · go_simp
        have yDb := DY.lt
        have pDbVX := And.intro hVX.st.lt hVX.st.gt.2
        have qDbDa := Da.lt
        have Db := Blk.new w3 (Vu.zero).L 30
        obtain ⟨HDb, eHDb⟩ : ∃ H, w3.heap.size = H := ⟨_, rfl⟩
        rw [eHDb] at Db
        replace DX := DX.on ((Below.refl _ _).alloc (Nat.le_refl _) (.cells (Vu.zero).L.toArray 30))
        replace DY := DY.on ((Below.refl _ _).alloc (Nat.le_refl _) (.cells (Vu.zero).L.toArray 30))
        replace hFX := hFX.on ((Below.refl _ _).alloc (Nat.le_refl _) (.cells (Vu.zero).L.toArray 30))
        replace hFY := hFY.on ((Below.refl _ _).alloc (Nat.le_refl _) (.cells (Vu.zero).L.toArray 30))
        replace Da := Da.on ((Below.refl _ _).alloc (Nat.le_refl _) (.cells (Vu.zero).L.toArray 30))
        replace hVX := hVX.on ((Below.refl _ _).alloc (Nat.le_refl _) (.cells (Vu.zero).L.toArray 30))
        replace bz := bz.alloc bz.size (.cells (Vu.zero).L.toArray 30)
        have HHDb := Lib.hid eHDb
        simp only [eHDb] at yDb pDbVX qDbDa ⊢
        clear eHDb
        generalize (w3.alloc (.cells (Vu.zero).L.toArray 30)) = WaDb at DX DY hFX hFY Da hVX Db bz ⊢
        refine hK.out _ _ ⟨DX, DY⟩ (fun hH => ?_)
        clear hK K hS
        have hS := hH
        clear hH
        try simp only [Act.put, List.setIfInBounds_toArray, List.set_cons_zero, List.set_cons_succ, List.getElem_toArray, List.getElem_cons_zero, List.getElem_cons_succ]
        refine wpAnyH_ready (rs := [4]) (by kernel_rfl) (by simp) ?_
        refine AllReadyH.cons rfl (fun K hK => ?_) AllReadyH.nil
        go_simp
        have zDaY := Da.lt
        have zDbY := Db.lt
        with_reducible refine (of_any false hFY.fl HSY.out.1 HSY.out.2).mono ?_
        rintro e w4 ⟨VY, sVY, gVY, capVY, cVY, lVY, rfl, hVY, hb⟩
        replace DX := DX.on hb
        replace DY := DY.on hb
        replace hFX := hFX.on hb
        replace hFY := hFY.on hb
        replace Da := Da.on hb
        replace hVX := hVX.on hb
        replace Db := Db.on hb
        replace bz := bz.trans (hb.mono bz.size)
        clear hb
        have lY := And.intro hVY.st.lt hVY.st.gt.2
        have mY := And.intro hVY.st.lo hVY.st.gt.1
        refine hK.out _ _ ⟨DX, DY⟩ (fun hH => ?_)
        clear hK K hS
        have hS := hH
        clear hH
        try simp only [Act.put, List.setIfInBounds_toArray, List.set_cons_zero, List.set_cons_succ, List.getElem_toArray, List.getElem_cons_zero, List.getElem_cons_succ]
        obtain ⟨fc0, fc1, fc2, fc3, fc4, fc5, fc6, fc7, fc8⟩ := Vbx.cells Da
        obtain ⟨fr0, fr1, fr2, fr3, fr4, fr5, fr6, fr7, fr8⟩ := Vbx.free Da
        refine wpAnyH_ready (rs := [7]) (by kernel_rfl) (by simp) ?_
        refine AllReadyH.cons rfl (fun K hK => ?_) AllReadyH.nil
        go_simp
        clear fc0 fr0 fc1 fr1 fc2 fr2 fc3 fr3 fc4 fr4 fc5 fr5 fc6 fr6 fc7 fr7 fc8 fr8
        have hgS := set9_grown w4 (HDa) (.pointer (VX).p) (.int .i64 (VX).f0) (.int .i64 (VX).f1) (.int .i64 (VX).d0) (.int .i64 (VX).d1) (.int .i64 (VX).r0) (.int .i64 (VX).r1) (.int .i64 (VX).R) (.int .i64 (VX).C)
        replace Da := Vbx.put Da (VX)
        replace DX := DX.grown hgS (by simp <;> omega)
        replace DY := DY.grown hgS (by simp <;> omega)
        replace hFX := hFX.grown hgS (by omega)
        replace hFY := hFY.grown hgS (by omega)
        replace hVX := hVX.grown hgS (by omega) (by omega)
        replace Db := Db.grown hgS (by simp <;> omega)
        replace hVY := hVY.grown hgS (by omega) (by omega)
        replace bz := bz.grown hgS bz.size (fun k e => by cases e; omega)
        generalize (((((((((w4.setCell ⟨HDa, 0, none⟩ (.pointer (VX).p)).setCell ⟨HDa, 1, none⟩ (.int .i64 (VX).f0)).setCell ⟨HDa, 2, none⟩ (.int .i64 (VX).f1)).setCell ⟨HDa, 3, none⟩ (.int .i64 (VX).d0)).setCell ⟨HDa, 4, none⟩ (.int .i64 (VX).d1)).setCell ⟨HDa, 5, none⟩ (.int .i64 (VX).r0)).setCell ⟨HDa, 6, none⟩ (.int .i64 (VX).r1)).setCell ⟨HDa, 7, none⟩ (.int .i64 (VX).R)).setCell ⟨HDa, 8, none⟩ (.int .i64 (VX).C)) = WsDa at DX DY hFX hFY Da hVX Db hVY bz ⊢
        clear hgS
        refine hK.out _ _ ⟨DX, DY⟩ (fun hH => ?_)
        clear hK K hS
        have hS := hH
        clear hH
        try simp only [Act.put, List.setIfInBounds_toArray, List.set_cons_zero, List.set_cons_succ, List.getElem_toArray, List.getElem_cons_zero, List.getElem_cons_succ]
        obtain ⟨fc0, fc1, fc2, fc3, fc4, fc5, fc6, fc7, fc8⟩ := Vbx.cells Db
        obtain ⟨fr0, fr1, fr2, fr3, fr4, fr5, fr6, fr7, fr8⟩ := Vbx.free Db
        refine wpAnyH_ready (rs := [8]) (by kernel_rfl) (by simp) ?_
        refine AllReadyH.cons rfl (fun K hK => ?_) AllReadyH.nil
        go_simp
        clear fc0 fr0 fc1 fr1 fc2 fr2 fc3 fr3 fc4 fr4 fc5 fr5 fc6 fr6 fc7 fr7 fc8 fr8
        have hgS := set9_grown WsDa (HDb) (.pointer (VY).p) (.int .i64 (VY).f0) (.int .i64 (VY).f1) (.int .i64 (VY).d0) (.int .i64 (VY).d1) (.int .i64 (VY).r0) (.int .i64 (VY).r1) (.int .i64 (VY).R) (.int .i64 (VY).C)
        replace Db := Vbx.put Db (VY)
        replace DX := DX.grown hgS (by simp <;> omega)
        replace DY := DY.grown hgS (by simp <;> omega)
        replace hFX := hFX.grown hgS (by omega)
        replace hFY := hFY.grown hgS (by omega)
        replace Da := Da.grown hgS (by simp <;> omega)
        replace hVX := hVX.grown hgS (by omega) (by omega)
        replace hVY := hVY.grown hgS (by omega) (by omega)
        replace bz := bz.grown hgS bz.size (fun k e => by cases e; omega)
        generalize (((((((((WsDa.setCell ⟨HDb, 0, none⟩ (.pointer (VY).p)).setCell ⟨HDb, 1, none⟩ (.int .i64 (VY).f0)).setCell ⟨HDb, 2, none⟩ (.int .i64 (VY).f1)).setCell ⟨HDb, 3, none⟩ (.int .i64 (VY).d0)).setCell ⟨HDb, 4, none⟩ (.int .i64 (VY).d1)).setCell ⟨HDb, 5, none⟩ (.int .i64 (VY).r0)).setCell ⟨HDb, 6, none⟩ (.int .i64 (VY).r1)).setCell ⟨HDb, 7, none⟩ (.int .i64 (VY).R)).setCell ⟨HDb, 8, none⟩ (.int .i64 (VY).C)) = WsDb at DX DY hFX hFY Da hVX Db hVY bz ⊢
        clear hgS
        refine hK.out _ _ ⟨DX, DY⟩ (fun hH => ?_)
        clear hK K hS
        have hS := hH
        clear hH
        try simp only [Act.put, List.setIfInBounds_toArray, List.set_cons_zero, List.set_cons_succ, List.getElem_toArray, List.getElem_cons_zero, List.getElem_cons_succ]
        refine wpAnyH_done (by kernel_rfl) ?_ _
        exact key _ _ _ _ _ _ _ _ _ _ _ _ _ _ _ _ _ _ _ _ _ _ _ _ _ _ _ _ _ _ _ _ _ _ _ _ _ _ _ _ _ _ _ _ _ _ _ _ _ _ _ _ _ _ _ _ _ _ _ _ _ _ _ _ _ _ _ _ _ _ _ _ _ _ _ _ _ _ _ _ _ _ _ _ _ _ _ _ _ _ _ _ _ _ _ _ _ _ _ _ _ _ _ _ _ _ _ _ _ _ _ _ _ _ _ _ _ _ _ _ _ _ _ _ _ _ _ _ _ _ _ _ _ _ _ _ _ _ _ _ _ _ _ _ _ _ _ _ _ _ _ _ _ _ _ _ _ _ _ _ DX DY hFX hFY hVX hVY Da Db bz
    · go_simp
      have yDb := DY.lt
      have qDbDa := Da.lt
      have Db := Blk.new WaDa (Vu.zero).L 30
      obtain ⟨HDb, eHDb⟩ : ∃ H, WaDa.heap.size = H := ⟨_, rfl⟩
      rw [eHDb] at Db
      replace DX := DX.on ((Below.refl _ _).alloc (Nat.le_refl _) (.cells (Vu.zero).L.toArray 30))
      replace DY := DY.on ((Below.refl _ _).alloc (Nat.le_refl _) (.cells (Vu.zero).L.toArray 30))
      replace hFX := hFX.on ((Below.refl _ _).alloc (Nat.le_refl _) (.cells (Vu.zero).L.toArray 30))
      replace hFY := hFY.on ((Below.refl _ _).alloc (Nat.le_refl _) (.cells (Vu.zero).L.toArray 30))
      replace Da := Da.on ((Below.refl _ _).alloc (Nat.le_refl _) (.cells (Vu.zero).L.toArray 30))
      replace bz := bz.alloc bz.size (.cells (Vu.zero).L.toArray 30)
      have HHDb := Lib.hid eHDb
      simp only [eHDb] at yDb qDbDa ⊢
      clear eHDb
      generalize (WaDa.alloc (.cells (Vu.zero).L.toArray 30)) = WaDb at DX DY hFX hFY Da Db bz ⊢
      refine hK.out _ _ ⟨DX, DY⟩ (fun hH => ?_)
      clear hK K hS
      have hS := hH
      clear hH
      try simp only [Act.put, List.setIfInBounds_toArray, List.set_cons_zero, List.set_cons_succ, List.getElem_toArray, List.getElem_cons_zero, List.getElem_cons_succ]
      refine wpAnyH_ready (rs := [2]) (by kernel_rfl) (by simp) ?_
      refine AllReadyH.cons rfl (fun K hK => ?_) AllReadyH.nil
      go_simp
      have zDaX := Da.lt
      have zDbX := Db.lt
      with_reducible refine (of_any turned hFX.fl HSX.out.1 HSX.out.2).mono ?_
      rintro e w3 ⟨VX, sVX, gVX, capVX, cVX, lVX, rfl, hVX, hb⟩
      replace DX := DX.on hb
      replace DY := DY.on hb
      replace hFX := hFX.on hb
      replace hFY := hFY.on hb
      replace Da := Da.on hb
      replace Db := Db.on hb
      replace bz := bz.trans (hb.mono bz.size)
      clear hb
      have lX := And.intro hVX.st.lt hVX.st.gt.2
      have mX := And.intro hVX.st.lo hVX.st.gt.1
      refine hK.out _ _ ⟨DX, DY⟩ (fun hH => ?_)
      clear hK K hS
      have hS := hH
      clear hH
      try simp only [Act.put, List.setIfInBounds_toArray, List.set_cons_zero, List.set_cons_succ, List.getElem_toArray, List.getElem_cons_zero, List.getElem_cons_succ]
      refine wpAnyH_ready (rs := [4]) (by kernel_rfl) (by simp) ?_
      refine AllReadyH.cons rfl (fun K hK => ?_) AllReadyH.nil
      go_simp
      have zDaY := Da.lt
      have zDbY := Db.lt
      with_reducible refine (of_any false hFY.fl HSY.out.1 HSY.out.2).mono ?_
      rintro e w4 ⟨VY, sVY, gVY, capVY, cVY, lVY, rfl, hVY, hb⟩
      replace DX := DX.on hb
      replace DY := DY.on hb
      replace hFX := hFX.on hb
      replace hFY := hFY.on hb
      replace Da := Da.on hb
      replace Db := Db.on hb
      replace hVX := hVX.on hb
      replace bz := bz.trans (hb.mono bz.size)
      clear hb
      have lY := And.intro hVY.st.lt hVY.st.gt.2
      have mY := And.intro hVY.st.lo hVY.st.gt.1
      refine hK.out _ _ ⟨DX, DY⟩ (fun hH => ?_)
      clear hK K hS
      have hS := hH
      clear hH
      try simp only [Act.put, List.setIfInBounds_toArray, List.set_cons_zero, List.set_cons_succ, List.getElem_toArray, List.getElem_cons_zero, List.getElem_cons_succ]
      obtain ⟨fc0, fc1, fc2, fc3, fc4, fc5, fc6, fc7, fc8⟩ := Vbx.cells Da
      obtain ⟨fr0, fr1, fr2, fr3, fr4, fr5, fr6, fr7, fr8⟩ := Vbx.free Da
      refine wpAnyH_ready (rs := [7]) (by kernel_rfl) (by simp) ?_
      refine AllReadyH.cons rfl (fun K hK => ?_) AllReadyH.nil
      go_simp
      clear fc0 fr0 fc1 fr1 fc2 fr2 fc3 fr3 fc4 fr4 fc5 fr5 fc6 fr6 fc7 fr7 fc8 fr8
      have hgS := set9_grown w4 (HDa) (.pointer (VX).p) (.int .i64 (VX).f0) (.int .i64 (VX).f1) (.int .i64 (VX).d0) (.int .i64 (VX).d1) (.int .i64 (VX).r0) (.int .i64 (VX).r1) (.int .i64 (VX).R) (.int .i64 (VX).C)
      replace Da := Vbx.put Da (VX)
      replace DX := DX.grown hgS (by simp <;> omega)
      replace DY := DY.grown hgS (by simp <;> omega)
      replace hFX := hFX.grown hgS (by omega)
      replace hFY := hFY.grown hgS (by omega)
      replace Db := Db.grown hgS (by simp <;> omega)
      replace hVX := hVX.grown hgS (by omega) (by omega)
      replace hVY := hVY.grown hgS (by omega) (by omega)
      replace bz := bz.grown hgS bz.size (fun k e => by cases e; omega)
      generalize (((((((((w4.setCell ⟨HDa, 0, none⟩ (.pointer (VX).p)).setCell ⟨HDa, 1, none⟩ (.int .i64 (VX).f0)).setCell ⟨HDa, 2, none⟩ (.int .i64 (VX).f1)).setCell ⟨HDa, 3, none⟩ (.int .i64 (VX).d0)).setCell ⟨HDa, 4, none⟩ (.int .i64 (VX).d1)).setCell ⟨HDa, 5, none⟩ (.int .i64 (VX).r0)).setCell ⟨HDa, 6, none⟩ (.int .i64 (VX).r1)).setCell ⟨HDa, 7, none⟩ (.int .i64 (VX).R)).setCell ⟨HDa, 8, none⟩ (.int .i64 (VX).C)) = WsDa at DX DY hFX hFY Da Db hVX hVY bz ⊢
      clear hgS
      refine hK.out _ _ ⟨DX, DY⟩ (fun hH => ?_)
      clear hK K hS
      have hS := hH
      clear hH
      try simp only [Act.put, List.setIfInBounds_toArray, List.set_cons_zero, List.set_cons_succ, List.getElem_toArray, List.getElem_cons_zero, List.getElem_cons_succ]
      obtain ⟨fc0, fc1, fc2, fc3, fc4, fc5, fc6, fc7, fc8⟩ := Vbx.cells Db
      obtain ⟨fr0, fr1, fr2, fr3, fr4, fr5, fr6, fr7, fr8⟩ := Vbx.free Db
      refine wpAnyH_ready (rs := [8]) (by kernel_rfl) (by simp) ?_
      refine AllReadyH.cons rfl (fun K hK => ?_) AllReadyH.nil
      go_simp
      clear fc0 fr0 fc1 fr1 fc2 fr2 fc3 fr3 fc4 fr4 fc5 fr5 fc6 fr6 fc7 fr7 fc8 fr8
      have hgS := set9_grown WsDa (HDb) (.pointer (VY).p) (.int .i64 (VY).f0) (.int .i64 (VY).f1) (.int .i64 (VY).d0) (.int .i64 (VY).d1) (.int .i64 (VY).r0) (.int .i64 (VY).r1) (.int .i64 (VY).R) (.int .i64 (VY).C)
      replace Db := Vbx.put Db (VY)
      replace DX := DX.grown hgS (by simp <;> omega)
      replace DY := DY.grown hgS (by simp <;> omega)
      replace hFX := hFX.grown hgS (by omega)
      replace hFY := hFY.grown hgS (by omega)
      replace Da := Da.grown hgS (by simp <;> omega)
      replace hVX := hVX.grown hgS (by omega) (by omega)
      replace hVY := hVY.grown hgS (by omega) (by omega)
      replace bz := bz.grown hgS bz.size (fun k e => by cases e; omega)
      generalize (((((((((WsDa.setCell ⟨HDb, 0, none⟩ (.pointer (VY).p)).setCell ⟨HDb, 1, none⟩ (.int .i64 (VY).f0)).setCell ⟨HDb, 2, none⟩ (.int .i64 (VY).f1)).setCell ⟨HDb, 3, none⟩ (.int .i64 (VY).d0)).setCell ⟨HDb, 4, none⟩ (.int .i64 (VY).d1)).setCell ⟨HDb, 5, none⟩ (.int .i64 (VY).r0)).setCell ⟨HDb, 6, none⟩ (.int .i64 (VY).r1)).setCell ⟨HDb, 7, none⟩ (.int .i64 (VY).R)).setCell ⟨HDb, 8, none⟩ (.int .i64 (VY).C)) = WsDb at DX DY hFX hFY Da Db hVX hVY bz ⊢
      clear hgS
      refine hK.out _ _ ⟨DX, DY⟩ (fun hH => ?_)
      clear hK K hS
      have hS := hH
      clear hH
      try simp only [Act.put, List.setIfInBounds_toArray, List.set_cons_zero, List.set_cons_succ, List.getElem_toArray, List.getElem_cons_zero, List.getElem_cons_succ]
      refine wpAnyH_done (by kernel_rfl) ?_ _
      exact key _ _ _ _ _ _ _ _ _ _ _ _ _ _ _ _ _ _ _ _ _ _ _ _ _ _ _ _ _ _ _ _ _ _ _ _ _ _ _ _ _ _ _ _ _ _ _ _ _ _ _ _ _ _ _ _ _ _ _ _ _ _ _ _ _ _ _ _ _ _ _ _ _ _ _ _ _ _ _ _ _ _ _ _ _ _ _ _ _ _ _ _ _ _ _ _ _ _ _ _ _ _ _ _ _ _ _ _ _ _ _ _ _ _ _ _ _ _ _ _ _ _ _ _ _ _ _ _ _ _ _ _ _ _ _ _ _ _ _ _ _ _ _ _ _ _ _ _ _ _ _ _ _ _ _ _ _ _ _ _ DX DY hFX hFY hVX hVY Da Db bz
  · go_simp
    have yDb := DY.lt
    have Db := Blk.new wd3 (Vu.zero).L 30
    obtain ⟨HDb, eHDb⟩ : ∃ H, wd3.heap.size = H := ⟨_, rfl⟩
    rw [eHDb] at Db
    replace DX := DX.on ((Below.refl _ _).alloc (Nat.le_refl _) (.cells (Vu.zero).L.toArray 30))
    replace DY := DY.on ((Below.refl _ _).alloc (Nat.le_refl _) (.cells (Vu.zero).L.toArray 30))
    replace hFX := hFX.on ((Below.refl _ _).alloc (Nat.le_refl _) (.cells (Vu.zero).L.toArray 30))
    replace hFY := hFY.on ((Below.refl _ _).alloc (Nat.le_refl _) (.cells (Vu.zero).L.toArray 30))
    replace bz := bz.alloc bz.size (.cells (Vu.zero).L.toArray 30)
    have HHDb := Lib.hid eHDb
    simp only [eHDb] at yDb ⊢
    clear eHDb
    generalize (wd3.alloc (.cells (Vu.zero).L.toArray 30)) = WaDb at DX DY hFX hFY Db bz ⊢
    refine hK.out _ _ ⟨DX, DY⟩ (fun hH => ?_)
    clear hK K hS
    have hS := hH
    clear hH
    try simp only [Act.put, List.setIfInBounds_toArray, List.set_cons_zero, List.set_cons_succ, List.getElem_toArray, List.getElem_cons_zero, List.getElem_cons_succ]
    refine wpAnyH_ready (rs := [2, 5]) (by kernel_rfl) (by simp) ?_
    refine (AllReadyH.cons rfl (fun K hK => ?_) (AllReadyH.cons rfl (fun K hK => ?_) AllReadyH.nil))
    · go_simp
      have zDbX := Db.lt
      with_reducible refine (of_any turned hFX.fl HSX.out.1 HSX.out.2).mono ?_
      rintro e w3 ⟨VX, sVX, gVX, capVX, cVX, lVX, rfl, hVX, hb⟩
      replace DX := DX.on hb
      replace DY := DY.on hb
      replace hFX := hFX.on hb
      replace hFY := hFY.on hb
      replace Db := Db.on hb
      replace bz := bz.trans (hb.mono bz.size)
      clear hb
      have lX := And.intro hVX.st.lt hVX.st.gt.2
      have mX := And.intro hVX.st.lo hVX.st.gt.1
      refine hK.out _ _ ⟨DX, DY⟩ (fun hH => ?_)
      clear hK K hS
      have hS := hH
      clear hH
      try simp only [Act.put, List.setIfInBounds_toArray, List.set_cons_zero, List.set_cons_succ, List.getElem_toArray, List.getElem_cons_zero, List.getElem_cons_succ]
      refine wpAnyH_ready (rs := [4, 5]) (by kernel_rfl) (by simp) ?_
      refine (AllReadyH.cons rfl (fun K hK => ?_) (AllReadyH.cons rfl (fun K hK => ?_) AllReadyH.nil))
      · go_simp
        have zDbY := Db.lt
        with_reducible refine (of_any false hFY.fl HSY.out.1 HSY.out.2).mono ?_
        rintro e w4 ⟨VY, sVY, gVY, capVY, cVY, lVY, rfl, hVY, hb⟩
        replace DX := DX.on hb
        replace DY := DY.on hb
        replace hFX := hFX.on hb
        replace hFY := hFY.on hb
        replace Db := Db.on hb
        replace hVX := hVX.on hb
        replace bz := bz.trans (hb.mono bz.size)
        clear hb
        have lY := And.intro hVY.st.lt hVY.st.gt.2
        have mY := And.intro hVY.st.lo hVY.st.gt.1
        refine hK.out _ _ ⟨DX, DY⟩ (fun hH => ?_)
        clear hK K hS
        have hS := hH
        clear hH
        try simp only [Act.put, List.setIfInBounds_toArray, List.set_cons_zero, List.set_cons_succ, List.getElem_toArray, List.getElem_cons_zero, List.getElem_cons_succ]
        refine wpAnyH_ready (rs := [5]) (by kernel_rfl) (by simp) ?_
        refine AllReadyH.cons rfl (fun K hK => ?_) AllReadyH.nil
        go_simp
        have yDa := DY.lt
        have pDaVX := And.intro hVX.st.lt hVX.st.gt.2
        have pDaVY := And.intro hVY.st.lt hVY.st.gt.2
        have qDaDb := Db.lt
        have Da := Blk.new w4 (Vu.zero).L 30
        obtain ⟨HDa, eHDa⟩ : ∃ H, w4.heap.size = H := ⟨_, rfl⟩
        rw [eHDa] at Da
        replace DX := DX.on ((Below.refl _ _).alloc (Nat.le_refl _) (.cells (Vu.zero).L.toArray 30))
        replace DY := DY.on ((Below.refl _ _).alloc (Nat.le_refl _) (.cells (Vu.zero).L.toArray 30))
        replace hFX := hFX.on ((Below.refl _ _).alloc (Nat.le_refl _) (.cells (Vu.zero).L.toArray 30))
        replace hFY := hFY.on ((Below.refl _ _).alloc (Nat.le_refl _) (.cells (Vu.zero).L.toArray 30))
        replace Db := Db.on ((Below.refl _ _).alloc (Nat.le_refl _) (.cells (Vu.zero).L.toArray 30))
        replace hVX := hVX.on ((Below.refl _ _).alloc (Nat.le_refl _) (.cells (Vu.zero).L.toArray 30))
        replace hVY := hVY.on ((Below.refl _ _).alloc (Nat.le_refl _) (.cells (Vu.zero).L.toArray 30))
        replace bz := bz.alloc bz.size (.cells (Vu.zero).L.toArray 30)
        have HHDa := Lib.hid eHDa
        simp only [eHDa] at yDa pDaVX pDaVY qDaDb ⊢
        clear eHDa
        generalize (w4.alloc (.cells (Vu.zero).L.toArray 30)) = WaDa at DX DY hFX hFY Db hVX hVY Da bz ⊢
        refine hK.out _ _ ⟨DX, DY⟩ (fun hH => ?_)
        clear hK K hS
        have hS := hH
        clear hH
        try simp only [Act.put, List.setIfInBounds_toArray, List.set_cons_zero, List.set_cons_succ, List.getElem_toArray, List.getElem_cons_zero, List.getElem_cons_succ]
        obtain ⟨fc0, fc1, fc2, fc3, fc4, fc5, fc6, fc7, fc8⟩ := Vbx.cells Da
        obtain ⟨fr0, fr1, fr2, fr3, fr4, fr5, fr6, fr7, fr8⟩ := Vbx.free Da
        refine wpAnyH_ready (rs := [7]) (by kernel_rfl) (by simp) ?_
        refine AllReadyH.cons rfl (fun K hK => ?_) AllReadyH.nil
        go_simp
        clear fc0 fr0 fc1 fr1 fc2 fr2 fc3 fr3 fc4 fr4 fc5 fr5 fc6 fr6 fc7 fr7 fc8 fr8
        have hgS := set9_grown WaDa (HDa) (.pointer (VX).p) (.int .i64 (VX).f0) (.int .i64 (VX).f1) (.int .i64 (VX).d0) (.int .i64 (VX).d1) (.int .i64 (VX).r0) (.int .i64 (VX).r1) (.int .i64 (VX).R) (.int .i64 (VX).C)
        replace Da := Vbx.put Da (VX)
        replace DX := DX.grown hgS (by simp <;> omega)
        replace DY := DY.grown hgS (by simp <;> omega)
        replace hFX := hFX.grown hgS (by omega)
        replace hFY := hFY.grown hgS (by omega)
        replace Db := Db.grown hgS (by simp <;> omega)
        replace hVX := hVX.grown hgS (by omega) (by omega)
        replace hVY := hVY.grown hgS (by omega) (by omega)
        replace bz := bz.grown hgS bz.size (fun k e => by cases e; omega)
        generalize (((((((((WaDa.setCell ⟨HDa, 0, none⟩ (.pointer (VX).p)).setCell ⟨HDa, 1, none⟩ (.int .i64 (VX).f0)).setCell ⟨HDa, 2, none⟩ (.int .i64 (VX).f1)).setCell ⟨HDa, 3, none⟩ (.int .i64 (VX).d0)).setCell ⟨HDa, 4, none⟩ (.int .i64 (VX).d1)).setCell ⟨HDa, 5, none⟩ (.int .i64 (VX).r0)).setCell ⟨HDa, 6, none⟩ (.int .i64 (VX).r1)).setCell ⟨HDa, 7, none⟩ (.int .i64 (VX).R)).setCell ⟨HDa, 8, none⟩ (.int .i64 (VX).C)) = WsDa at DX DY hFX hFY Db hVX hVY Da bz ⊢
        clear hgS
        refine hK.out _ _ ⟨DX, DY⟩ (fun hH => ?_)
        clear hK K hS
        have hS := hH
        clear hH
        try simp only [Act.put, List.setIfInBounds_toArray, List.set_cons_zero, List.set_cons_succ, List.getElem_toArray, List.getElem_cons_zero, List.getElem_cons_succ]
        obtain ⟨fc0, fc1, fc2, fc3, fc4, fc5, fc6, fc7, fc8⟩ := Vbx.cells Db
        obtain ⟨fr0, fr1, fr2, fr3, fr4, fr5, fr6, fr7, fr8⟩ := Vbx.free Db
        refine wpAnyH_ready (rs := [8]) (by kernel_rfl) (by simp) ?_
        refine AllReadyH.cons rfl (fun K hK => ?_) AllReadyH.nil
        go_simp
        clear fc0 fr0 fc1 fr1 fc2 fr2 fc3 fr3 fc4 fr4 fc5 fr5 fc6 fr6 fc7 fr7 fc8 fr8
        have hgS := set9_grown WsDa (HDb) (.pointer (VY).p) (.int .i64 (VY).f0) (.int .i64 (VY).f1) (.int .i64 (VY).d0) (.int .i64 (VY).d1) (.int .i64 (VY).r0) (.int .i64 (VY).r1) (.int .i64 (VY).R) (.int .i64 (VY).C)
        replace Db := Vbx.put Db (VY)
        replace DX := DX.grown hgS (by simp <;> omega)
        replace DY := DY.grown hgS (by simp <;> omega)
        replace hFX := hFX.grown hgS (by omega)
        replace hFY := hFY.grown hgS (by omega)
        replace hVX := hVX.grown hgS (by omega) (by omega)
        replace hVY := hVY.grown hgS (by omega) (by omega)
        replace Da := Da.grown hgS (by simp <;> omega)
        replace bz := bz.grown hgS bz.size (fun k e => by cases e; omega)
        generalize (((((((((WsDa.setCell ⟨HDb, 0, none⟩ (.pointer (VY).p)).setCell ⟨HDb, 1, none⟩ (.int .i64 (VY).f0)).setCell ⟨HDb, 2, none⟩ (.int .i64 (VY).f1)).setCell ⟨HDb, 3, none⟩ (.int .i64 (VY).d0)).setCell ⟨HDb, 4, none⟩ (.int .i64 (VY).d1)).setCell ⟨HDb, 5, none⟩ (.int .i64 (VY).r0)).setCell ⟨HDb, 6, none⟩ (.int .i64 (VY).r1)).setCell ⟨HDb, 7, none⟩ (.int .i64 (VY).R)).setCell ⟨HDb, 8, none⟩ (.int .i64 (VY).C)) = WsDb at DX DY hFX hFY Db hVX hVY Da bz ⊢
        clear hgS
        refine hK.out _ _ ⟨DX, DY⟩ (fun hH => ?_)
        clear hK K hS
        have hS := hH
        clear hH
        try simp only [Act.put, List.setIfInBounds_toArray, List.set_cons_zero, List.set_cons_succ, List.getElem_toArray, List.getElem_cons_zero, List.getElem_cons_succ]
        refine wpAnyH_done (by kernel_rfl) ?_ _
        exact key _ _ _ _ _ _ _ _ _ _ _ _ _ _ _ _ _ _ _ _ _ _ _ _ _ _ _ _ _ _ _ _ _ _ _ _ _ _ _ _ _ _ _ _ _ _ _ _ _ _ _ _ _ _ _ _ _ _ _ _ _ _ _ _ _ _ _ _ _ _ _ _ _ _ _ _ _ _ _ _ _ _ _ _ _ _ _ _ _ _ _ _ _ _ _ _ _ _ _ _ _ _ _ _ _ _ _ _ _ _ _ _ _ _ _ _ _ _ _ _ _ _ _ _ _ _ _ _ _ _ _ _ _ _ _ _ _ _ _ _ _ _ _ _ _ _ _ _ _ _ _ _ _ _ _ _ _ _ _ _ DX DY hFX hFY hVX hVY Da Db bz
      · go_simp
        have yDa := DY.lt
        have pDaVX := And.intro hVX.st.lt hVX.st.gt.2
        have qDaDb := Db.lt
        have Da := Blk.new w3 (Vu.zero).L 30
        obtain ⟨HDa, eHDa⟩ : ∃ H, w3.heap.size = H := ⟨_, rfl⟩
        rw [eHDa] at Da
        replace DX := DX.on ((Below.refl _ _).alloc (Nat.le_refl _) (.cells (Vu.zero).L.toArray 30))
        replace DY := DY.on ((Below.refl _ _).alloc (Nat.le_refl _) (.cells (Vu.zero).L.toArray 30))
        replace hFX := hFX.on ((Below.refl _ _).alloc (Nat.le_refl _) (.cells (Vu.zero).L.toArray 30))
        replace hFY := hFY.on ((Below.refl _ _).alloc (Nat.le_refl _) (.cells (Vu.zero).L.toArray 30))
        replace Db := Db.on ((Below.refl _ _).alloc (Nat.le_refl _) (.cells (Vu.zero).L.toArray 30))
        replace hVX := hVX.on ((Below.refl _ _).alloc (Nat.le_refl _) (.cells (Vu.zero).L.toArray 30))
        replace bz := bz.alloc bz.size (.cells (Vu.zero).L.toArray 30)
        have HHDa := Lib.hid eHDa
        simp only [eHDa] at yDa pDaVX qDaDb ⊢
        clear eHDa
        generalize (w3.alloc (.cells (Vu.zero).L.toArray 30)) = WaDa at DX DY hFX hFY Db hVX Da bz ⊢
        refine hK.out _ _ ⟨DX, DY⟩ (fun hH => ?_)
        clear hK K hS
        have hS := hH
        clear hH
        try simp only [Act.put, List.setIfInBounds_toArray, List.set_cons_zero, List.set_cons_succ, List.getElem_toArray, List.getElem_cons_zero, List.getElem_cons_succ]
        refine wpAnyH_ready (rs := [4]) (by kernel_rfl) (by simp) ?_
        refine AllReadyH.cons rfl (fun K hK => ?_) AllReadyH.nil
        go_simp
        have zDaY := Da.lt
        have zDbY := Db.lt
        with_reducible refine (of_any false hFY.fl HSY.out.1 HSY.out.2).mono ?_
        rintro e w4 ⟨VY, sVY, gVY, capVY, cVY, lVY, rfl, hVY, hb⟩
        replace DX := DX.on hb
        replace DY := DY.on hb
        replace hFX := hFX.on hb
        replace hFY := hFY.on hb
        replace Db := Db.on hb
        replace hVX := hVX.on hb
        replace Da := Da.on hb
        replace bz := bz.trans (hb.mono bz.size)
        clear hb
        have lY := And.intro hVY.st.lt hVY.st.gt.2
        have mY := And.intro hVY.st.lo hVY.st.gt.1
        refine hK.out _ _ ⟨DX, DY⟩ (fun hH => ?_)
        clear hK K hS
        have hS := hH
        clear hH
        try simp only [Act.put, List.setIfInBounds_toArray, List.set_cons_zero, List.set_cons_succ, List.getElem_toArray, List.getElem_cons_zero, List.getElem_cons_succ]
        obtain ⟨fc0, fc1, fc2, fc3, fc4, fc5, fc6, fc7, fc8⟩ := Vbx.cells Da
        obtain ⟨fr0, fr1, fr2, fr3, fr4, fr5, fr6, fr7, fr8⟩ := Vbx.free Da
        refine wpAnyH_ready (rs := [7]) (by kernel_rfl) (by simp) ?_
        refine AllReadyH.cons rfl (fun K hK => ?_) AllReadyH.nil
        go_simp
        clear fc0 fr0 fc1 fr1 fc2 fr2 fc3 fr3 fc4 fr4 fc5 fr5 fc6 fr6 fc7 fr7 fc8 fr8
        have hgS := set9_grown w4 (HDa) (.pointer (VX).p) (.int .i64 (VX).f0) (.int .i64 (VX).f1) (.int .i64 (VX).d0) (.int .i64 (VX).d1) (.int .i64 (VX).r0) (.int .i64 (VX).r1) (.int .i64 (VX).R) (.int .i64 (VX).C)
        replace Da := Vbx.put Da (VX)
        replace DX := DX.grown hgS (by simp <;> omega)
        replace DY := DY.grown hgS (by simp <;> omega)
        replace hFX := hFX.grown hgS (by omega)
        replace hFY := hFY.grown hgS (by omega)
        replace Db := Db.grown hgS (by simp <;> omega)
        replace hVX := hVX.grown hgS (by omega) (by omega)
        replace hVY := hVY.grown hgS (by omega) (by omega)
        replace bz := bz.grown hgS bz.size (fun k e => by cases e; omega)
        generalize (((((((((w4.setCell ⟨HDa, 0, none⟩ (.pointer (VX).p)).setCell ⟨HDa, 1, none⟩ (.int .i64 (VX).f0)).setCell ⟨HDa, 2, none⟩ (.int .i64 (VX).f1)).setCell ⟨HDa, 3, none⟩ (.int .i64 (VX).d0)).setCell ⟨HDa, 4, none⟩ (.int .i64 (VX).d1)).setCell ⟨HDa, 5, none⟩ (.int .i64 (VX).r0)).setCell ⟨HDa, 6, none⟩ (.int .i64 (VX).r1)).setCell ⟨HDa, 7, none⟩ (.int .i64 (VX).R)).setCell ⟨HDa, 8, none⟩ (.int .i64 (VX).C)) = WsDa at DX DY hFX hFY Db hVX Da hVY bz ⊢
        clear hgS
        refine hK.out _ _ ⟨DX, DY⟩ (fun hH => ?_)
        clear hK K hS
        have hS := hH
        clear hH
        try simp only [Act.put, List.setIfInBounds_toArray, List.set_cons_zero, List.set_cons_succ, List.getElem_toArray, List.getElem_cons_zero, List.getElem_cons_succ]
        obtain ⟨fc0, fc1, fc2, fc3, fc4, fc5, fc6, fc7, fc8⟩ := Vbx.cells Db
        obtain ⟨fr0, fr1, fr2, fr3, fr4, fr5, fr6, fr7, fr8⟩ := Vbx.free Db
        refine wpAnyH_ready (rs := [8]) (by kernel_rfl) (by simp) ?_
        refine AllReadyH.cons rfl (fun K hK => ?_) AllReadyH.nil
        go_simp
        clear fc0 fr0 fc1 fr1 fc2 fr2 fc3 fr3 fc4 fr4 fc5 fr5 fc6 fr6 fc7 fr7 fc8 fr8
        have hgS := set9_grown WsDa (HDb) (.pointer (VY).p) (.int .i64 (VY).f0) (.int .i64 (VY).f1) (.int .i64 (VY).d0) (.int .i64 (VY).d1) (.int .i64 (VY).r0) (.int .i64 (VY).r1) (.int .i64 (VY).R) (.int .i64 (VY).C)
        replace Db := Vbx.put Db (VY)
        replace DX := DX.grown hgS (by simp <;> omega)
        replace DY := DY.grown hgS (by simp <;> omega)
        replace hFX := hFX.grown hgS (by omega)
        replace hFY := hFY.grown hgS (by omega)
        replace hVX := hVX.grown hgS (by omega) (by omega)
        replace Da := Da.grown hgS (by simp <;> omega)
        replace hVY := hVY.grown hgS (by omega) (by omega)
        replace bz := bz.grown hgS bz.size (fun k e => by cases e; omega)
        generalize (((((((((WsDa.setCell ⟨HDb, 0, none⟩ (.pointer (VY).p)).setCell ⟨HDb, 1, none⟩ (.int .i64 (VY).f0)).setCell ⟨HDb, 2, none⟩ (.int .i64 (VY).f1)).setCell ⟨HDb, 3, none⟩ (.int .i64 (VY).d0)).setCell ⟨HDb, 4, none⟩ (.int .i64 (VY).d1)).setCell ⟨HDb, 5, none⟩ (.int .i64 (VY).r0)).setCell ⟨HDb, 6, none⟩ (.int .i64 (VY).r1)).setCell ⟨HDb, 7, none⟩ (.int .i64 (VY).R)).setCell ⟨HDb, 8, none⟩ (.int .i64 (VY).C)) = WsDb at DX DY hFX hFY Db hVX Da hVY bz ⊢
        clear hgS
        refine hK.out _ _ ⟨DX, DY⟩ (fun hH => ?_)
        clear hK K hS
        have hS := hH
        clear hH
        try simp only [Act.put, List.setIfInBounds_toArray, List.set_cons_zero, List.set_cons_succ, List.getElem_toArray, List.getElem_cons_zero, List.getElem_cons_succ]
        refine wpAnyH_done (by kernel_rfl) ?_ _
        exact key _ _ _ _ _ _ _ _ _ _ _ _ _ _ _ _ _ _ _ _ _ _ _ _ _ _ _ _ _ _ _ _ _ _ _ _ _ _ _ _ _ _ _ _ _ _ _ _ _ _ _ _ _ _ _ _ _ _ _ _ _ _ _ _ _ _ _ _ _ _ _ _ _ _ _ _ _ _ _ _ _ _ _ _ _ _ _ _ _ _ _ _ _ _ _ _ _ _ _ _ _ _ _ _ _ _ _ _ _ _ _ _ _ _ _ _ _ _ _ _ _ _ _ _ _ _ _ _ _ _ _ _ _ _ _ _ _ _ _ _ _ _ _ _ _ _ _ _ _ _ _ _ _ _ _ _ _ _ _ _ DX DY hFX hFY hVX hVY Da Db bz
    · go_simp
      have yDa := DY.lt
      have qDaDb := Db.lt
      have Da := Blk.new WaDb (Vu.zero).L 30
      obtain ⟨HDa, eHDa⟩ : ∃ H, WaDb.heap.size = H := ⟨_, rfl⟩
      rw [eHDa] at Da
      replace DX := DX.on ((Below.refl _ _).alloc (Nat.le_refl _) (.cells (Vu.zero).L.toArray 30))
      replace DY := DY.on ((Below.refl _ _).alloc (Nat.le_refl _) (.cells (Vu.zero).L.toArray 30))
      replace hFX := hFX.on ((Below.refl _ _).alloc (Nat.le_refl _) (.cells (Vu.zero).L.toArray 30))
      replace hFY := hFY.on ((Below.refl _ _).alloc (Nat.le_refl _) (.cells (Vu.zero).L.toArray 30))
      replace Db := Db.on ((Below.refl _ _).alloc (Nat.le_refl _) (.cells (Vu.zero).L.toArray 30))
      replace bz := bz.alloc bz.size (.cells (Vu.zero).L.toArray 30)
      have HHDa := Lib.hid eHDa
      simp only [eHDa] at yDa qDaDb ⊢
      clear eHDa
      generalize (WaDb.alloc (.cells (Vu.zero).L.toArray 30)) = WaDa at DX DY hFX hFY Db Da bz ⊢
      refine hK.out _ _ ⟨DX, DY⟩ (fun hH => ?_)
      clear hK K hS
      have hS := hH
      clear hH
      try simp only [Act.put, List.setIfInBounds_toArray, List.set_cons_zero, List.set_cons_succ, List.getElem_toArray, List.getElem_cons_zero, List.getElem_cons_succ]
      refine wpAnyH_ready (rs := [2]) (by kernel_rfl) (by simp) ?_
      refine AllReadyH.cons rfl (fun K hK => ?_) AllReadyH.nil
      go_simp
      have zDaX := Da.lt
      have zDbX := Db.lt
      with_reducible refine (of_any turned hFX.fl HSX.out.1 HSX.out.2).mono ?_
      rintro e w3 ⟨VX, sVX, gVX, capVX, cVX, lVX, rfl, hVX, hb⟩
      replace DX := DX.on hb
      replace DY := DY.on hb
      replace hFX := hFX.on hb
      replace hFY := hFY.on hb
      replace Db := Db.on hb
      replace Da := Da.on hb
      replace bz := bz.trans (hb.mono bz.size)
      clear hb
      have lX := And.intro hVX.st.lt hVX.st.gt.2
      have mX := And.intro hVX.st.lo hVX.st.gt.1
      refine hK.out _ _ ⟨DX, DY⟩ (fun hH => ?_)
      clear hK K hS
      have hS := hH
      clear hH
      try simp only [Act.put, List.setIfInBounds_toArray, List.set_cons_zero, List.set_cons_succ, List.getElem_toArray, List.getElem_cons_zero, List.getElem_cons_succ]
      refine wpAnyH_ready (rs := [4]) (by kernel_rfl) (by simp) ?_
      refine AllReadyH.cons rfl (fun K hK => ?_) AllReadyH.nil
      go_simp
      have zDaY := Da.lt
      have zDbY := Db.lt
      with_reducible refine (of_any false hFY.fl HSY.out.1 HSY.out.2).mono ?_
      rintro e w4 ⟨VY, sVY, gVY, capVY, cVY, lVY, rfl, hVY, hb⟩
      replace DX := DX.on hb
      replace DY := DY.on hb
      replace hFX := hFX.on hb
      replace hFY := hFY.on hb
      replace Db := Db.on hb
      replace Da := Da.on hb
      replace hVX := hVX.on hb
      replace bz := bz.trans (hb.mono bz.size)
      clear hb
      have lY := And.intro hVY.st.lt hVY.st.gt.2
      have mY := And.intro hVY.st.lo hVY.st.gt.1
      refine hK.out _ _ ⟨DX, DY⟩ (fun hH => ?_)
      clear hK K hS
      have hS := hH
      clear hH
      try simp only [Act.put, List.setIfInBounds_toArray, List.set_cons_zero, List.set_cons_succ, List.getElem_toArray, List.getElem_cons_zero, List.getElem_cons_succ]
      obtain ⟨fc0, fc1, fc2, fc3, fc4, fc5, fc6, fc7, fc8⟩ := Vbx.cells Da
      obtain ⟨fr0, fr1, fr2, fr3, fr4, fr5, fr6, fr7, fr8⟩ := Vbx.free Da
      refine wpAnyH_ready (rs := [7]) (by kernel_rfl) (by simp) ?_
      refine AllReadyH.cons rfl (fun K hK => ?_) AllReadyH.nil
      go_simp
      clear fc0 fr0 fc1 fr1 fc2 fr2 fc3 fr3 fc4 fr4 fc5 fr5 fc6 fr6 fc7 fr7 fc8 fr8
      have hgS := set9_grown w4 (HDa) (.pointer (VX).p) (.int .i64 (VX).f0) (.int .i64 (VX).f1) (.int .i64 (VX).d0) (.int .i64 (VX).d1) (.int .i64 (VX).r0) (.int .i64 (VX).r1) (.int .i64 (VX).R) (.int .i64 (VX).C)
      replace Da := Vbx.put Da (VX)
      replace DX := DX.grown hgS (by simp <;> omega)
      replace DY := DY.grown hgS (by simp <;> omega)
      replace hFX := hFX.grown hgS (by omega)
      replace hFY := hFY.grown hgS (by omega)
      replace Db := Db.grown hgS (by simp <;> omega)
      replace hVX := hVX.grown hgS (by omega) (by omega)
      replace hVY := hVY.grown hgS (by omega) (by omega)
      replace bz := bz.grown hgS bz.size (fun k e => by cases e; omega)
      generalize (((((((((w4.setCell ⟨HDa, 0, none⟩ (.pointer (VX).p)).setCell ⟨HDa, 1, none⟩ (.int .i64 (VX).f0)).setCell ⟨HDa, 2, none⟩ (.int .i64 (VX).f1)).setCell ⟨HDa, 3, none⟩ (.int .i64 (VX).d0)).setCell ⟨HDa, 4, none⟩ (.int .i64 (VX).d1)).setCell ⟨HDa, 5, none⟩ (.int .i64 (VX).r0)).setCell ⟨HDa, 6, none⟩ (.int .i64 (VX).r1)).setCell ⟨HDa, 7, none⟩ (.int .i64 (VX).R)).setCell ⟨HDa, 8, none⟩ (.int .i64 (VX).C)) = WsDa at DX DY hFX hFY Db Da hVX hVY bz ⊢
      clear hgS
      refine hK.out _ _ ⟨DX, DY⟩ (fun hH => ?_)
      clear hK K hS
      have hS := hH
      clear hH
      try simp only [Act.put, List.setIfInBounds_toArray, List.set_cons_zero, List.set_cons_succ, List.getElem_toArray, List.getElem_cons_zero, List.getElem_cons_succ]
      obtain ⟨fc0, fc1, fc2, fc3, fc4, fc5, fc6, fc7, fc8⟩ := Vbx.cells Db
      obtain ⟨fr0, fr1, fr2, fr3, fr4, fr5, fr6, fr7, fr8⟩ := Vbx.free Db
      refine wpAnyH_ready (rs := [8]) (by kernel_rfl) (by simp) ?_
      refine AllReadyH.cons rfl (fun K hK => ?_) AllReadyH.nil
      go_simp
      clear fc0 fr0 fc1 fr1 fc2 fr2 fc3 fr3 fc4 fr4 fc5 fr5 fc6 fr6 fc7 fr7 fc8 fr8
      have hgS := set9_grown WsDa (HDb) (.pointer (VY).p) (.int .i64 (VY).f0) (.int .i64 (VY).f1) (.int .i64 (VY).d0) (.int .i64 (VY).d1) (.int .i64 (VY).r0) (.int .i64 (VY).r1) (.int .i64 (VY).R) (.int .i64 (VY).C)
      replace Db := Vbx.put Db (VY)
      replace DX := DX.grown hgS (by simp <;> omega)
      replace DY := DY.grown hgS (by simp <;> omega)
      replace hFX := hFX.grown hgS (by omega)
      replace hFY := hFY.grown hgS (by omega)
      replace Da := Da.grown hgS (by simp <;> omega)
      replace hVX := hVX.grown hgS (by omega) (by omega)
      replace hVY := hVY.grown hgS (by omega) (by omega)
      replace bz := bz.grown hgS bz.size (fun k e => by cases e; omega)
      generalize (((((((((WsDa.setCell ⟨HDb, 0, none⟩ (.pointer (VY).p)).setCell ⟨HDb, 1, none⟩ (.int .i64 (VY).f0)).setCell ⟨HDb, 2, none⟩ (.int .i64 (VY).f1)).setCell ⟨HDb, 3, none⟩ (.int .i64 (VY).d0)).setCell ⟨HDb, 4, none⟩ (.int .i64 (VY).d1)).setCell ⟨HDb, 5, none⟩ (.int .i64 (VY).r0)).setCell ⟨HDb, 6, none⟩ (.int .i64 (VY).r1)).setCell ⟨HDb, 7, none⟩ (.int .i64 (VY).R)).setCell ⟨HDb, 8, none⟩ (.int .i64 (VY).C)) = WsDb at DX DY hFX hFY Db Da hVX hVY bz ⊢
      clear hgS
      refine hK.out _ _ ⟨DX, DY⟩ (fun hH => ?_)
      clear hK K hS
      have hS := hH
      clear hH
      try simp only [Act.put, List.setIfInBounds_toArray, List.set_cons_zero, List.set_cons_succ, List.getElem_toArray, List.getElem_cons_zero, List.getElem_cons_succ]
      refine wpAnyH_done (by kernel_rfl) ?_ _
      exact key _ _ _ _ _ _ _ _ _ _ _ _ _ _ _ _ _ _ _ _ _ _ _ _ _ _ _ _ _ _ _ _ _ _ _ _ _ _ _ _ _ _ _ _ _ _ _ _ _ _ _ _ _ _ _ _ _ _ _ _ _ _ _ _ _ _ _ _ _ _ _ _ _ _ _ _ _ _ _ _ _ _ _ _ _ _ _ _ _ _ _ _ _ _ _ _ _ _ _ _ _ _ _ _ _ _ _ _ _ _ _ _ _ _ _ _ _ _ _ _ _ _ _ _ _ _ _ _ _ _ _ _ _ _ _ _ _ _ _ _ _ _ _ _ _ _ _ _ _ _ _ _ _ _ _ _ _ _ _ _ DX DY hFX hFY hVX hVY Da Db bz
theorem KernelsSums_law {w : World} {RX CX : Int} {AX : Option Addr} {nX cX : Nat} {LX : List Int} {RY CY : Int} {AY : Option Addr} {nY cY : Nat} {LY : List Int} {turned : Bool} (hX : FL w AX nX cX LX) (hY : FL w AY nY cY LY) : Calls Try.prog 3 #[mV RX CX AX nX cX, mV RY CY AY nY cY, .bool turned] w (Ans w (.bool true)) := by
  cases b0 : bigM RX CX nX
  · cases b1 : bigM RY CY nY
    · exact KernelsSums_main hX hY b0 b1
    · exact KernelsSums_big2 hX hY b0 b1
  · exact KernelsSums_big1 hX hY b0
end Go.Proofs.Ytfelmkkkaphkpaa
