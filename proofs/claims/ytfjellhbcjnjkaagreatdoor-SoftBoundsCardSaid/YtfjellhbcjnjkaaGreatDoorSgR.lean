/-
  Layer 4, the laws: the closed sentence. (Written by wip/tools/gen_sfr.py.)
-/
import Derived.Test.YtfjellhbcjnjkaaGreatDoorSgQ
namespace Go.Proofs.YtfjellhbcjnjkaaGreatDoor
open Go Go.RowKit Go.Sort Go.Bw
set_option linter.unusedVariables false
set_option linter.unusedSimpArgs false

section
variable {w : World}
theorem big_is {Z l : List Int} (hZ : List.replicate (2048 + 1) 0 = Z) (hl : (Z.set 2048 1).set 0 1 = l) : l.length = 2049 ∧ Lim 18446744073709551616 l ∧ 0 < val 18446744073709551616 l ∧ IsBits (val 18446744073709551616 l) 131073 := by
  have hZl : Z.length = 2049 := by rw [← hZ, List.length_replicate]
  have hZ0 : Lim 18446744073709551616 Z := by rw [← hZ]; exact Lim.zeros (by omega) _
  have hD : ∀ j, D Z j = 0 := fun j => by rw [← hZ, D_replicate]
  have hV : val 18446744073709551616 Z = 0 := by rw [← hZ, val_replicate]
  clear hZ
  have h1 : Lim 18446744073709551616 (Z.set 2048 1) := Lim.set hZ0 2048 (by omega) (by omega)
  have v1 : val 18446744073709551616 (Z.set 2048 1) = 2 ^ 131072 := by
    rw [val_set _ _ _ _ (by omega), hV, hD, pow64]
    rw [show 64 * 2048 = 131072 from rfl]
    generalize (2 : Int) ^ 131072 = P
    omega
  have l1 : (Z.set 2048 1).length = 2049 := by rw [List.length_set]; exact hZl
  have v2 : val 18446744073709551616 l = 2 ^ 131072 + 1 := by
    rw [← hl, val_set _ _ _ _ (by omega), v1, D_set _ _ (by omega), if_neg (by omega), hD, Int.pow_zero]
    generalize (2 : Int) ^ 131072 = P
    omega
  have hp := Int.pow_pos (n := (2 : Int)) (m := 131072) (by omega)
  have h2 : Lim 18446744073709551616 l := by rw [← hl]; exact Lim.set h1 0 (by omega) (by omega)
  have e : (2 : Int) ^ 131073 = 2 ^ 131072 * 2 := Int.pow_succ _ _
  have e2 : (2 : Int) ≤ 2 ^ 131072 := by
    have := pw_mono (a := 1) (b := 131072) (by omega)
    rwa [Int.pow_succ, Int.pow_zero, Int.one_mul] at this
  refine ⟨by rw [← hl, List.length_set]; exact l1, h2, ?_, ?_⟩
  · rw [v2]; generalize (2 : Int) ^ 131072 = P at *; omega
  · rw [v2]
    unfold IsBits
    rw [e, show 131073 - 1 = 131072 from rfl]
    generalize (2 : Int) ^ 131072 = P at *
    exact ⟨by omega, by omega, fun _ => by omega⟩
theorem bits_one : Hid (IsBits (val 18446744073709551616 [1]) 1) := Lib.hid ⟨by decide, by decide, fun _ => by decide⟩
theorem L_set9 (l : List Int) (q : Nat) (p : Int) : L (l.set q p) = (L l).set q (.int .u64 p) := by simp [L, List.map_set]
set_option maxRecDepth 100000 in
set_option maxHeartbeats 16000000 in
theorem SoftBounds_law (w : World) (hT : Tab w) :
    Calls Tryz.prog 11 #[] w fun e w' => e = .returned (.bool true) ∧ Below w.heap.size w w' := by
  have R1 : ∀ W : World, (binOp .mul 24 (.float .f64 1) (.float .f64 4613937818241073152)).run Tryz.prog W = .ok (.float .f64 3) W := fun W => run_float_arith W .mul _ .f64 1 4613937818241073152 3 (by kernel_rfl)
  have R2 : ∀ W : World, (binOp .mul 24 (.float .f64 1) (.float .f64 4611686018427387904)).run Tryz.prog W = .ok (.float .f64 2) W := fun W => run_float_arith W .mul _ .f64 1 4611686018427387904 2 (by kernel_rfl)
  have R5 : ∀ W : World, (Op.unary UnOp.neg (.float .f64 1)).run Tryz.prog W = .ok (.float .f64 9223372036854775809) W := fun W => by kernel_rfl
  have R6 : ∀ W : World, (Op.unary UnOp.neg (.float .f64 9218868437227405311)).run Tryz.prog W = .ok (.float .f64 18442240474082181119) W := fun W => by kernel_rfl
  have Q1 := fun W => run_sqrt_some 1 2188749418902061056 (by kernel_rfl) W
  have Q2 := fun W => run_sqrt_some 9218868437227405311 6913025428013711359 (by kernel_rfl) W
  obtain ⟨Z, hZ⟩ : ∃ Z : List Int, List.replicate (2048 + 1) 0 = Z := ⟨_, rfl⟩
  obtain ⟨l, hl⟩ : ∃ l, (Z.set 2048 1).set 0 1 = l := ⟨_, rfl⟩
  have f := big_is hZ hl
  have hZl : Z.length = 2049 := by rw [← hZ, List.length_replicate]
  have hmk : ∀ W : World, (Instr.makeSlice 33 (.int .i64 2049) (.int .i64 2049)).run Tryz.prog W = .ok (.slice (some ⟨W.heap.size, 0, none⟩) 2049 2049) (W.alloc (.cells (L Z).toArray 22)) := fun W => by
    have := run_make 2049 (by omega) W
    rw [show (2049 : Nat) = 2048 + 1 from rfl, hZ] at this
    exact this
  have hrow := Row.new w Z
  have c0 := hrow.cell (k := 2048) (by rw [hZl]; omega)
  have f0 := hrow.frozen 2048
  have hrow2 := Row.new w (Z.set 2048 1)
  rw [L_set9] at hrow2
  have c9 := hrow2.cell (k := 0) (by rw [List.length_set, hZl]; omega)
  have f9 := hrow2.frozen 0
  have m_big : Lv (w.alloc (Obj.cells (((L Z).set 2048 (.int .u64 1)).set 0 (.int .u64 1)).toArray 22)) (some ⟨w.heap.size, 0, none⟩) 2049 2049 l := Lv.row w l 2049 w.heap.size rfl f.1 (by omega) f.2.1 (Obj.cells (((L Z).set 2048 (.int .u64 1)).set 0 (.int .u64 1)).toArray 22) (by rw [← L_set9, ← L_set9, hl])
  have HF := Lib.hid f
  have ll := f.1
  have HM := Lib.hid m_big
  have HZ := Lib.hid hZl
  have bw : Below w.heap.size w w := Below.refl _ w
  clear f hl hZ m_big ll
  go_enter Tryz.func11, Tryz.ntmps11
  go_wp2_with fail
  with_reducible refine (mldexp_b _).mono ?_
  rintro e v0 ⟨rfl, rfl⟩
  go_wp2_with fail
  have m_big := HM.out
  replace bw : Below w.heap.size w (w.alloc (Obj.cells (((L Z).set 2048 (.int .u64 1)).set 0 (.int .u64 1)).toArray 22)) := bw.alloc (Nat.le_refl _) _
  have hZ1 := HZ.out
  go_wp2_with fail
  have m0 := Lv.row (w.alloc (Obj.cells (((L Z).set 2048 (.int .u64 1)).set 0 (.int .u64 1)).toArray 22)) [1] 1 (w.alloc (Obj.cells (((L Z).set 2048 (.int .u64 1)).set 0 (.int .u64 1)).toArray 22)).heap.size rfl rfl (by omega) lim_one (Obj.cells #[.int .u64 1] 22) rfl
  try simp only [World.size_alloc] at m0
  have m_b := m_big.on (by go_grown : Below (w.alloc (Obj.cells (((L Z).set 2048 (.int .u64 1)).set 0 (.int .u64 1)).toArray 22)).heap.size (w.alloc (Obj.cells (((L Z).set 2048 (.int .u64 1)).set 0 (.int .u64 1)).toArray 22)) ((w.alloc (Obj.cells (((L Z).set 2048 (.int .u64 1)).set 0 (.int .u64 1)).toArray 22)).alloc (Obj.cells #[.int .u64 1] 22)))
  with_reducible refine (quot_l (b := false) (x := 0) (b2 := false) (x2 := 0) m_b (by omega) m0 (by omega) (hT.onD (by go_grown)) rfl rfl (by decide) (Lib.hid HF.out.2.2.2) (by omega)).mono ?_
  rintro e w1 ⟨rfl, hb⟩
  have hs1 := hb.size
  try simp only [World.size_alloc] at hs1
  have hb9 : Below (w.alloc (Obj.cells (((L Z).set 2048 (.int .u64 1)).set 0 (.int .u64 1)).toArray 22)).heap.size (w.alloc (Obj.cells (((L Z).set 2048 (.int .u64 1)).set 0 (.int .u64 1)).toArray 22)) w1 := dy_end (by go_grown) hb
  replace bw : Below w.heap.size w w1 := dy_end bw hb9
  replace m_big := m_big.on hb9
  clear hb hb9 m0 m_b
  go_wp2_with fail
  have m_b := m_big.on (by go_grown : Below w1.heap.size w1 w1)
  with_reducible refine (root_l (x := 0) m_big (by omega) (hT.onD (by go_grown)) rfl HF.out.2.2.1 (Lib.hid HF.out.2.2.2) (by omega)).mono ?_
  rintro e w2 ⟨rfl, hb⟩
  have hs2 := hb.size
  try simp only [World.size_alloc] at hs2
  have hb9 : Below w1.heap.size w1 w2 := dy_end (by go_grown) hb
  replace bw : Below w.heap.size w w2 := dy_end bw hb9
  replace m_big := m_big.on hb9
  clear hb hb9  m_b
  have pr : ∀ (W : World) (AA : Option Addr), Lv W AA 1 1 [1] → Tab W → Calls Tryz.prog 28 #[dyV false AA 1 1 2046] W fun e w' => e = .returned (.tuple #[.float .f64 9214364837600034816, .int .i64 0]) ∧ Below W.heap.size W w' := fun W AA mm tt => by
    have := root_mf (x := 2046) mm (by omega) tt (by omega) rfl (by decide) bits_one (by omega) (by kernel_rfl)
    rwa [show rootW (val 18446744073709551616 [1]).toNat 2046 = 9214364837600034816 by kernel_rfl] at this
  go_wp2_with fail
  have m0 := Lv.row w2 [1] 1 (w2).heap.size rfl rfl (by omega) lim_one (Obj.cells #[.int .u64 1] 22) rfl
  try simp only [World.size_alloc] at m0
  with_reducible refine (pr _ _ m0 (hT.onD (by go_grown))).mono ?_
  rintro e w3 ⟨rfl, hb⟩
  have hs3 := hb.size
  try simp only [World.size_alloc] at hs3
  have hb9 : Below w2.heap.size w2 w3 := dy_end (by go_grown) hb
  replace bw : Below w.heap.size w w3 := dy_end bw hb9
  replace m_big := m_big.on hb9
  clear hb hb9 m0
  have pa : ∀ (W : World) (AA A2 : Option Addr), Lv W AA 1 1 [1] → Lv W A2 1 1 [1] → Tab W → Calls Tryz.prog 24 #[dyV false AA 1 1 (-262144), dyV false A2 1 1 (262144)] W fun e w' => e = .returned (.tuple #[.float .f64 0, .int .i64 0]) ∧ Below W.heap.size W w' := fun W AA A2 mm m2 tt => by
    have := quot_mf (b := false) (x := (-262144)) (b2 := false) (x2 := (262144)) mm (by omega) m2 (by omega) tt (by omega) rfl rfl (by decide) (by decide) bits_one (by omega) bits_one (by omega) (by kernel_rfl)
    rwa [show quotW (false != false) (val 18446744073709551616 [1]).toNat (val 18446744073709551616 [1]).toNat ((-262144) - (262144)) = 0 by kernel_rfl] at this
  go_wp2_with fail
  have m0 := Lv.row w3 [1] 1 (w3).heap.size rfl rfl (by omega) lim_one (Obj.cells #[.int .u64 1] 22) rfl
  have m1 := Lv.row (w3.alloc (Obj.cells #[.int .u64 1] 22)) [1] 1 (w3.alloc (Obj.cells #[.int .u64 1] 22)).heap.size rfl rfl (by omega) lim_one (Obj.cells #[.int .u64 1] 22) rfl
  replace m0 := m0.alloc (Obj.cells #[.int .u64 1] 22)
  try simp only [World.size_alloc] at m0
  try simp only [World.size_alloc] at m1
  with_reducible refine (pa _ _ _ m0 m1 (hT.onD (by go_grown))).mono ?_
  rintro e w4 ⟨rfl, hb⟩
  have hs4 := hb.size
  try simp only [World.size_alloc] at hs4
  have hb9 : Below w3.heap.size w3 w4 := dy_end (by go_grown) hb
  replace bw : Below w.heap.size w w4 := dy_end bw hb9
  replace m_big := m_big.on hb9
  clear hb hb9 m0 m1
  have pb : ∀ (W : World) (AA A2 : Option Addr), Lv W AA 1 1 [1] → Lv W A2 1 1 [1] → Tab W → Calls Tryz.prog 24 #[dyV true AA 1 1 (262144), dyV false A2 1 1 (-262144)] W fun e w' => e = .returned (.tuple #[.float .f64 18442240474082181120, .int .i64 0]) ∧ Below W.heap.size W w' := fun W AA A2 mm m2 tt => by
    have := quot_mf (b := true) (x := (262144)) (b2 := false) (x2 := (-262144)) mm (by omega) m2 (by omega) tt (by omega) rfl rfl (by decide) (by decide) bits_one (by omega) bits_one (by omega) (by kernel_rfl)
    rwa [show quotW (true != false) (val 18446744073709551616 [1]).toNat (val 18446744073709551616 [1]).toNat ((262144) - (-262144)) = 18442240474082181120 by kernel_rfl] at this
  go_wp2_with fail
  have m0 := Lv.row w4 [1] 1 (w4).heap.size rfl rfl (by omega) lim_one (Obj.cells #[.int .u64 1] 22) rfl
  have m1 := Lv.row (w4.alloc (Obj.cells #[.int .u64 1] 22)) [1] 1 (w4.alloc (Obj.cells #[.int .u64 1] 22)).heap.size rfl rfl (by omega) lim_one (Obj.cells #[.int .u64 1] 22) rfl
  replace m0 := m0.alloc (Obj.cells #[.int .u64 1] 22)
  try simp only [World.size_alloc] at m0
  try simp only [World.size_alloc] at m1
  with_reducible refine (pb _ _ _ m0 m1 (hT.onD (by go_grown))).mono ?_
  rintro e w5 ⟨rfl, hb⟩
  have hs5 := hb.size
  try simp only [World.size_alloc] at hs5
  have hb9 : Below w4.heap.size w4 w5 := dy_end (by go_grown) hb
  replace bw : Below w.heap.size w w5 := dy_end bw hb9
  replace m_big := m_big.on hb9
  clear hb hb9 m0 m1
  go_wp2_with fail
  have m0 := Lv.row w5 [1] 1 (w5).heap.size rfl rfl (by omega) lim_one (Obj.cells #[.int .u64 1] 22) rfl
  try simp only [World.size_alloc] at m0
  with_reducible refine (root_b (x := 0) m0 (by omega) (hT.onD (by go_grown)) rfl (by decide)).mono ?_
  rintro e w6 ⟨rfl, hb⟩
  have hs6 := hb.size
  try simp only [World.size_alloc] at hs6
  have hb9 : Below w5.heap.size w5 w6 := dy_end (by go_grown) hb
  replace bw : Below w.heap.size w w6 := dy_end bw hb9
  replace m_big := m_big.on hb9
  clear hb hb9 m0
  clear m_big hmk hrow hrow2 c0 f0 c9 f9 pr pa pb
  go_wp2_with fail
  with_reducible refine (sDiv_is 1 4611686018427387904 0 (by decide) (by decide) (by kernel_rfl) (hT.onD (by go_grown))).mono ?_
  rintro e w7 ⟨rfl, hb⟩
  have hs7 := hb.size
  try simp only [World.size_alloc, World.size_setCell] at hs7
  replace bw : Below w.heap.size w w7 := dy_end (by go_grown) hb
  clear hb
  go_wp2_with fail
  with_reducible refine (lsame_yes 0 0 (by decide) (by decide) (by kernel_rfl) _).mono ?_
  rintro e v0 ⟨rfl, rfl⟩
  go_wp2_with fail
  with_reducible refine (sDiv_is 9223372036854775809 4611686018427387904 9223372036854775808 (by decide) (by decide) (by kernel_rfl) (hT.onD (by go_grown))).mono ?_
  rintro e w8 ⟨rfl, hb⟩
  have hs8 := hb.size
  try simp only [World.size_alloc, World.size_setCell] at hs8
  replace bw : Below w.heap.size w w8 := dy_end (by go_grown) hb
  clear hb
  go_wp2_with fail
  with_reducible refine (mcopy_any _).mono ?_
  rintro e v0 ⟨rfl, rfl⟩
  go_wp2_with fail
  with_reducible refine (lsame_yes 9223372036854775808 9223372036854775808 (by decide) (by decide) (by kernel_rfl) _).mono ?_
  rintro e v0 ⟨rfl, rfl⟩
  go_wp2_with fail
  with_reducible refine (sDiv_is 3 4611686018427387904 2 (by decide) (by decide) (by kernel_rfl) (hT.onD (by go_grown))).mono ?_
  rintro e w9 ⟨rfl, hb⟩
  have hs9 := hb.size
  try simp only [World.size_alloc, World.size_setCell] at hs9
  replace bw : Below w.heap.size w w9 := dy_end (by go_grown) hb
  clear hb
  go_wp2_with fail
  with_reducible refine (lsame_yes 2 2 (by decide) (by decide) (by kernel_rfl) _).mono ?_
  rintro e v0 ⟨rfl, rfl⟩
  go_wp2_with fail
  with_reducible refine (sMul_is 9218868437227405311 4611686018427387904 9218868437227405312 (by decide) (by decide) (by kernel_rfl) (hT.onD (by go_grown))).mono ?_
  rintro e w10 ⟨rfl, hb⟩
  have hs10 := hb.size
  try simp only [World.size_alloc, World.size_setCell] at hs10
  replace bw : Below w.heap.size w w10 := dy_end (by go_grown) hb
  clear hb
  go_wp2_with fail
  with_reducible refine (minf_any _).mono ?_
  rintro e v0 ⟨rfl, rfl⟩
  go_wp2_with fail
  with_reducible refine (lsame_yes 9218868437227405312 9218868437227405312 (by decide) (by decide) (by kernel_rfl) _).mono ?_
  rintro e v0 ⟨rfl, rfl⟩
  go_wp2_with fail
  with_reducible refine (sSqrt_is 1 2188749418902061056 (by decide) (by kernel_rfl) (hT.onD (by go_grown))).mono ?_
  rintro e w11 ⟨rfl, hb⟩
  have hs11 := hb.size
  try simp only [World.size_alloc, World.size_setCell] at hs11
  replace bw : Below w.heap.size w w11 := dy_end (by go_grown) hb
  clear hb
  go_wp2_with fail
  with_reducible refine (msqrt_some 1 2188749418902061056 Q1 _).mono ?_
  rintro e v0 ⟨rfl, rfl⟩
  go_wp2_with fail
  with_reducible refine (lsame_yes 2188749418902061056 2188749418902061056 (by decide) (by decide) (by kernel_rfl) _).mono ?_
  rintro e v0 ⟨rfl, rfl⟩
  go_wp2_with fail
  with_reducible refine (sSqrt_is 9218868437227405311 6913025428013711359 (by decide) (by kernel_rfl) (hT.onD (by go_grown))).mono ?_
  rintro e w12 ⟨rfl, hb⟩
  have hs12 := hb.size
  try simp only [World.size_alloc, World.size_setCell] at hs12
  replace bw : Below w.heap.size w w12 := dy_end (by go_grown) hb
  clear hb
  go_wp2_with fail
  with_reducible refine (msqrt_some 9218868437227405311 6913025428013711359 Q2 _).mono ?_
  rintro e v0 ⟨rfl, rfl⟩
  go_wp2_with fail
  with_reducible refine (lsame_yes 6913025428013711359 6913025428013711359 (by decide) (by decide) (by kernel_rfl) _).mono ?_
  rintro e v0 ⟨rfl, rfl⟩
  go_wp2_with fail
  with_reducible refine (sSub_is 9218868437227405311 18442240474082181119 9218868437227405312 (by decide) (by decide) (by kernel_rfl) (hT.onD (by go_grown))).mono ?_
  rintro e w13 ⟨rfl, hb⟩
  have hs13 := hb.size
  try simp only [World.size_alloc, World.size_setCell] at hs13
  replace bw : Below w.heap.size w w13 := dy_end (by go_grown) hb
  clear hb
  go_wp2_with fail
  with_reducible refine (minf_any _).mono ?_
  rintro e v0 ⟨rfl, rfl⟩
  go_wp2_with fail
  with_reducible refine (lsame_yes 9218868437227405312 9218868437227405312 (by decide) (by decide) (by kernel_rfl) _).mono ?_
  rintro e v0 ⟨rfl, rfl⟩
  go_wp2_with fail
  with_reducible refine (lnum_any 3 _).mono ?_
  rintro e v0 ⟨rfl, rfl⟩
  go_wp2_with fail
  with_reducible refine (lnum_any 3 _).mono ?_
  rintro e v0 ⟨rfl, rfl⟩
  go_wp2_with fail
  with_reducible refine (mldexp_c _).mono ?_
  rintro e v0 ⟨rfl, rfl⟩
  go_wp2_with fail
  with_reducible refine (lsame_yes 9214364837600034816 9214364837600034816 (by decide) (by decide) (by kernel_rfl) _).mono ?_
  rintro e v0 ⟨rfl, rfl⟩
  go_wp2_with fail
  with_reducible refine (lsame_yes 0 0 (by decide) (by decide) (by kernel_rfl) _).mono ?_
  rintro e v0 ⟨rfl, rfl⟩
  go_wp2_with fail
  with_reducible refine (minfn_any _).mono ?_
  rintro e v0 ⟨rfl, rfl⟩
  go_wp2_with fail
  with_reducible refine (lsame_yes 18442240474082181120 18442240474082181120 (by decide) (by decide) (by kernel_rfl) _).mono ?_
  rintro e v0 ⟨rfl, rfl⟩
  go_wp2_with fail
  with_reducible refine (lnum_any 0 _).mono ?_
  rintro e v0 ⟨rfl, rfl⟩
  go_wp2_with fail
  with_reducible refine (lnum_any 0 _).mono ?_
  rintro e v0 ⟨rfl, rfl⟩
  go_wp2_with fail
  with_reducible refine (lnum_any 0 _).mono ?_
  rintro e v0 ⟨rfl, rfl⟩
  go_wp2_with fail
  with_reducible refine (lnum_any 2 _).mono ?_
  rintro e v0 ⟨rfl, rfl⟩
  go_wp2_with fail
  with_reducible refine (known_any (hT.onD (by go_grown))).mono ?_
  rintro e w14 ⟨rfl, hb⟩
  have hs14 := hb.size
  try simp only [World.size_alloc, World.size_setCell] at hs14
  replace bw : Below w.heap.size w w14 := dy_end (by go_grown) hb
  clear hb
  go_wp2_with fail
  go_ret
  exact ⟨rfl, by go_grown⟩

end
end Go.Proofs.YtfjellhbcjnjkaaGreatDoor
