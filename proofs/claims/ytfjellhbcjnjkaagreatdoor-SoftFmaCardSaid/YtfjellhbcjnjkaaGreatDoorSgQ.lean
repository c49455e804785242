/-
  Layer 4, the laws: each operation of floats is the machine's.
-/
import Derived.Test.YtfjellhbcjnjkaaGreatDoorSgO
namespace Go.Proofs.YtfjellhbcjnjkaaGreatDoor
open Go Go.RowKit Go.Sort Go.Bw
set_option linter.unusedVariables false
set_option linter.unusedSimpArgs false

section
variable {w : World}
/-- a word of a NaN -/
def NaNs (N : World → Nat) : Prop := ∀ W, N W ≤ 18446744073709551615 ∧ one (N W : Int) = one (nanW : Int)
theorem NaNs.le {N : World → Nat} (h : NaNs N) (W : World) : N W ≤ 18446744073709551615 := (h W).1
theorem NaNs.eq {N : World → Nat} (h : NaNs N) (W : World) : one (nanW : Int) = one (N W : Int) := (h W).2.symm
theorem nan_word (t : Nat) : (t % 2) * 2 ^ 63 + 0x7ff0000000000000 + 1 + (t / 2) % (2 ^ 52 - 1) ≤ 18446744073709551615 ∧ one (((t % 2) * 2 ^ 63 + 0x7ff0000000000000 + 1 + (t / 2) % (2 ^ 52 - 1) : Nat) : Int) = one (nanW : Int) := by
  have h1 : t % 2 < 2 := Nat.mod_lt _ (by omega)
  have h2 : (t / 2) % (2 ^ 52 - 1) < 2 ^ 52 - 1 := Nat.mod_lt _ (by omega)
  generalize t % 2 = a at *
  generalize (t / 2) % (2 ^ 52 - 1) = b at *
  have hb : a * 2 ^ 63 + 0x7ff0000000000000 + 1 + b ≤ 18446744073709551615 := by omega
  refine ⟨hb, ?_⟩
  have hc : cls ((a * 2 ^ 63 + 0x7ff0000000000000 + 1 + b : Nat) : Int) = 5 := by
    rw [cls_nan_iff _ (by omega) (by omega)]
    unfold mag
    omega
  have e1 : one ((a * 2 ^ 63 + 0x7ff0000000000000 + 1 + b : Nat) : Int) = nan := by unfold one; rw [if_pos hc]
  rw [e1]
  decide
/-- a choice of a NaN's word -/
theorem ext_sqrt (y : Nat) : Extern.MathSqrt.sqrt #[.float .f64 y] = (match FloatKind.f64.format.sqrt y with
    | some r => pure (.float .f64 r)
    | none => do pure (.float .f64 (← choose (.nanBits .f64 y y)))) := rfl
theorem ext_fma (u y z : Nat) : Extern.MathFMA.fma #[.float .f64 u, .float .f64 y, .float .f64 z] = (match FloatKind.f64.format.fma u y z with
    | some r => pure (.float .f64 r)
    | none => do
      let (a, b) := if Extern.MathFMA.isNaN u then (u, y) else if Extern.MathFMA.isNaN y then (y, z) else (z, z)
      pure (.float .f64 (← choose (.nanBits .f64 a b)))) := rfl
def pick (q : Question) (W : World) : Nat := q.cut (W.tape W.drawn q)
theorem pick_nan (x y : Nat) : NaNs (pick (.nanBits .f64 x y)) := fun W => nan_word _
theorem run_arith_nan (P : Program) (op : BinOp) (t : TypeId) (x y : Nat) (h : floatBits op .f64 x y = none) (ho : op = .add ∨ op = .sub ∨ op = .mul ∨ op = .quo) (W : World) :
    (binOp op t (.float .f64 x) (.float .f64 y)).run P W = .ok (.float .f64 (pick (.nanBits .f64 x y) W)) W.drew := by
  unfold floatBits at h
  rcases ho with rfl | rfl | rfl | rfl
  all_goals
    simp only at h
    simp [binOp, Op.floatArith, h, run_choose_drew, Question.forced, pick, Result.andThen]
theorem run_sqrt_some (y r : Nat) (h : Ieee.double.sqrt y = some r) (W : World) : (callFunc 44 #[.float .f64 y]).run Tryz.prog W = .ok (.value (.float .f64 r)) W := by
  have h2 : FloatKind.f64.format.sqrt y = some r := h
  rw [run_callFunc_extern (e := Extern.MathSqrt.sqrt) Tryz.func44 (by kernel_rfl) (by kernel_rfl) (by kernel_rfl) (by kernel_rfl)]
  rw [ext_sqrt, h2]
  rfl
theorem run_sqrt_none (y : Nat) (h : Ieee.double.sqrt y = none) : ∃ N, NaNs N ∧ ∀ W : World, (callFunc 44 #[.float .f64 y]).run Tryz.prog W = .ok (.value (.float .f64 (N W))) W.drew := by
  have h2 : FloatKind.f64.format.sqrt y = none := h
  refine ⟨pick (.nanBits .f64 y y), pick_nan _ _, fun W => ?_⟩
  rw [run_callFunc_extern (e := Extern.MathSqrt.sqrt) Tryz.func44 (by kernel_rfl) (by kernel_rfl) (by kernel_rfl) (by kernel_rfl)]
  rw [ext_sqrt, h2]
  simp [run_choose_drew, Question.forced, pick, Result.andThen]
theorem run_fma_some (u y z r : Nat) (h : Ieee.double.fma u y z = some r) (W : World) : (callFunc 22 #[.float .f64 u, .float .f64 y, .float .f64 z]).run Tryz.prog W = .ok (.value (.float .f64 r)) W := by
  have h2 : FloatKind.f64.format.fma u y z = some r := h
  rw [run_callFunc_extern (e := Extern.MathFMA.fma) Tryz.func22 (by kernel_rfl) (by kernel_rfl) (by kernel_rfl) (by kernel_rfl)]
  rw [ext_fma, h2]
  rfl
theorem run_fma_none (u y z : Nat) (h : Ieee.double.fma u y z = none) : ∃ N, NaNs N ∧ ∀ W : World, (callFunc 22 #[.float .f64 u, .float .f64 y, .float .f64 z]).run Tryz.prog W = .ok (.value (.float .f64 (N W))) W.drew := by
  have h2 : FloatKind.f64.format.fma u y z = none := h
  refine ⟨pick (.nanBits .f64 (if Extern.MathFMA.isNaN u then (u, y) else if Extern.MathFMA.isNaN y then (y, z) else (z, z)).1 (if Extern.MathFMA.isNaN u then (u, y) else if Extern.MathFMA.isNaN y then (y, z) else (z, z)).2), pick_nan _ _, fun W => ?_⟩
  rw [run_callFunc_extern (e := Extern.MathFMA.fma) Tryz.func22 (by kernel_rfl) (by kernel_rfl) (by kernel_rfl) (by kernel_rfl)]
  rw [ext_fma, h2]
  simp [run_choose_drew, Question.forced, pick, Result.andThen]
set_option maxRecDepth 100000 in
set_option maxHeartbeats 4000000 in
theorem msqrt_some (y ra : Nat) (R1 : ∀ W : World, (callFunc 44 #[.float .f64 y]).run Tryz.prog W = .ok (.value (.float .f64 ra)) W) (w : World) :
    Calls Tryz.prog 20 #[.float .f64 y] w fun e w' => e = .returned (.float .f64 ra) ∧ w = w' := by
  go_enter Tryz.func20, Tryz.ntmps20
  go_wp2_with fail
  go_ret
  exact ⟨rfl, rfl⟩

set_option maxRecDepth 100000 in
set_option maxHeartbeats 4000000 in
theorem msqrt_none (y : Nat) (N : World → Nat) (R1 : ∀ W : World, (callFunc 44 #[.float .f64 y]).run Tryz.prog W = .ok (.value (.float .f64 (N W))) W.drew) (w : World) :
    Calls Tryz.prog 20 #[.float .f64 y] w fun e w' => e = .returned (.float .f64 (N w)) ∧ w.drew = w' := by
  go_enter Tryz.func20, Tryz.ntmps20
  go_wp2_with fail
  go_ret
  exact ⟨rfl, rfl⟩

set_option maxRecDepth 100000 in
set_option maxHeartbeats 4000000 in
theorem SoftAdd_s (y : Nat) (z : Nat) (hy : y ≤ 18446744073709551615) (hz : z ≤ 18446744073709551615) (hT : Tab w) (hr : ∃ ra, Ieee.double.add y z = some ra) :
    Calls Tryz.prog 3 #[.int .u64 (y : Int), .int .u64 (z : Int)] w fun e w' => e = .returned (.bool true) ∧ Below w.heap.size w w' := by
  obtain ⟨ra, hr⟩ := hr
  have hlt : ra < 2 ^ Ieee.double.width := Ieee.Format.add_lt Ieee.double hr
  have hrb : ra ≤ 18446744073709551615 := by rw [show (2 : Nat) ^ Ieee.double.width = 18446744073709551616 by decide] at hlt; omega
  have hd : (Ieee.double.add y z).getD nanW = ra := by rw [hr]; rfl
  have R1 : ∀ W : World, (binOp .add 24 (.float .f64 y) (.float .f64 z)).run Tryz.prog W = .ok (.float .f64 ra) W := fun W => run_float_arith W .add _ .f64 y z ra hr
  have hs := fun W (tt : Tab W) => sAdd_is y z _ hy hz hd tt
  clear hd hr hlt
  have bw : Below w.heap.size w w := Below.refl _ _
  go_enter Tryz.func3, Tryz.ntmps3
  go_wp2_with fail
  with_reducible refine (lf_any y _).mono ?_
  rintro e v0 ⟨rfl, rfl⟩
  go_wp2_with fail
  with_reducible refine (lf_any z _).mono ?_
  rintro e v0 ⟨rfl, rfl⟩
  go_wp2_with fail
  with_reducible refine (hs _ (hT.onD (by go_grown))).mono ?_
  rintro e w1 ⟨rfl, hb⟩
  have hs1 := hb.size
  try simp only [World.size_alloc, World.size_setCell] at hs1
  replace bw : Below w.heap.size w w1 := dy_end (by go_grown) hb
  clear hb
  go_wp2_with fail
  with_reducible refine (lf_any y _).mono ?_
  rintro e v0 ⟨rfl, rfl⟩
  go_wp2_with fail
  with_reducible refine (lf_any z _).mono ?_
  rintro e v0 ⟨rfl, rfl⟩
  go_wp2_with fail
  with_reducible refine (lsame_yes ra ra hrb hrb rfl _).mono ?_
  rintro e v0 ⟨rfl, rfl⟩
  go_wp2_with fail
  with_reducible refine (known_any (hT.onD (by go_grown))).mono ?_
  rintro e w2 ⟨rfl, hb⟩
  have hs2 := hb.size
  try simp only [World.size_alloc, World.size_setCell] at hs2
  replace bw : Below w.heap.size w w2 := dy_end (by go_grown) hb
  clear hb
  go_wp2_with fail
  go_ret
  exact ⟨rfl, by go_grown⟩

set_option maxRecDepth 100000 in
set_option maxHeartbeats 4000000 in
theorem SoftAdd_n (y : Nat) (z : Nat) (hy : y ≤ 18446744073709551615) (hz : z ≤ 18446744073709551615) (hT : Tab w) (hr : Ieee.double.add y z = none) :
    Calls Tryz.prog 3 #[.int .u64 (y : Int), .int .u64 (z : Int)] w fun e w' => e = .returned (.bool true) ∧ Below w.heap.size w w' := by
  have hd : (Ieee.double.add y z).getD nanW = nanW := by rw [hr]; rfl
  have hN := pick_nan y z
  have R1 : ∀ W : World, (binOp .add 24 (.float .f64 y) (.float .f64 z)).run Tryz.prog W = .ok (.float .f64 (pick (.nanBits .f64 y z) W)) W.drew := fun W => run_arith_nan _ .add _ y z hr (by simp) W
  generalize pick (.nanBits .f64 y z) = N at hN R1
  have hs := fun W (tt : Tab W) => sAdd_is y z _ hy hz hd tt
  clear hd hr
  have bw : Below w.heap.size w w := Below.refl _ _
  go_enter Tryz.func3, Tryz.ntmps3
  go_wp2_with fail
  with_reducible refine (lf_any y _).mono ?_
  rintro e v0 ⟨rfl, rfl⟩
  go_wp2_with fail
  with_reducible refine (lf_any z _).mono ?_
  rintro e v0 ⟨rfl, rfl⟩
  go_wp2_with fail
  with_reducible refine (hs _ (hT.onD (by go_grown))).mono ?_
  rintro e w1 ⟨rfl, hb⟩
  have hs1 := hb.size
  try simp only [World.size_alloc, World.size_setCell] at hs1
  replace bw : Below w.heap.size w w1 := dy_end (by go_grown) hb
  clear hb
  go_wp2_with fail
  with_reducible refine (lf_any y _).mono ?_
  rintro e v0 ⟨rfl, rfl⟩
  go_wp2_with fail
  with_reducible refine (lf_any z _).mono ?_
  rintro e v0 ⟨rfl, rfl⟩
  go_wp2_with fail
  with_reducible refine (lsame_yes nanW (N _) (by decide) (NaNs.le hN _) (NaNs.eq hN _) _).mono ?_
  rintro e v0 ⟨rfl, rfl⟩
  go_wp2_with fail
  with_reducible refine (known_any (hT.onD (by go_grown))).mono ?_
  rintro e w2 ⟨rfl, hb⟩
  have hs2 := hb.size
  try simp only [World.size_alloc, World.size_setCell] at hs2
  replace bw : Below w.heap.size w w2 := dy_end (by go_grown) hb
  clear hb
  go_wp2_with fail
  go_ret
  exact ⟨rfl, by go_grown⟩

theorem SoftAdd_law (a0 a1 : Int) (w : World) (h0 : 0 ≤ a0) (j0 : a0 ≤ 18446744073709551615) (h1 : 0 ≤ a1) (j1 : a1 ≤ 18446744073709551615) (hT : Tab w) :
    Calls Tryz.prog 3 #[.int .u64 a0, .int .u64 a1] w fun e w' => e = .returned (.bool true) ∧ Below w.heap.size w w' := by
  obtain ⟨y, rfl⟩ := Int.eq_ofNat_of_zero_le h0
  obtain ⟨z, rfl⟩ := Int.eq_ofNat_of_zero_le h1
  cases hr : Ieee.double.add y z with
  | none => exact SoftAdd_n y z (by omega) (by omega) hT hr
  | some ra => exact SoftAdd_s y z (by omega) (by omega) hT ⟨ra, hr⟩
set_option maxRecDepth 100000 in
set_option maxHeartbeats 4000000 in
theorem SoftSub_s (y : Nat) (z : Nat) (hy : y ≤ 18446744073709551615) (hz : z ≤ 18446744073709551615) (hT : Tab w) (hr : ∃ ra, Ieee.double.sub y z = some ra) :
    Calls Tryz.prog 4 #[.int .u64 (y : Int), .int .u64 (z : Int)] w fun e w' => e = .returned (.bool true) ∧ Below w.heap.size w w' := by
  obtain ⟨ra, hr⟩ := hr
  have hlt : ra < 2 ^ Ieee.double.width := Ieee.Format.sub_lt Ieee.double hr
  have hrb : ra ≤ 18446744073709551615 := by rw [show (2 : Nat) ^ Ieee.double.width = 18446744073709551616 by decide] at hlt; omega
  have hd : (Ieee.double.sub y z).getD nanW = ra := by rw [hr]; rfl
  have R1 : ∀ W : World, (binOp .sub 24 (.float .f64 y) (.float .f64 z)).run Tryz.prog W = .ok (.float .f64 ra) W := fun W => run_float_arith W .sub _ .f64 y z ra hr
  have hs := fun W (tt : Tab W) => sSub_is y z _ hy hz hd tt
  clear hd hr hlt
  have bw : Below w.heap.size w w := Below.refl _ _
  go_enter Tryz.func4, Tryz.ntmps4
  go_wp2_with fail
  with_reducible refine (lf_any y _).mono ?_
  rintro e v0 ⟨rfl, rfl⟩
  go_wp2_with fail
  with_reducible refine (lf_any z _).mono ?_
  rintro e v0 ⟨rfl, rfl⟩
  go_wp2_with fail
  with_reducible refine (hs _ (hT.onD (by go_grown))).mono ?_
  rintro e w1 ⟨rfl, hb⟩
  have hs1 := hb.size
  try simp only [World.size_alloc, World.size_setCell] at hs1
  replace bw : Below w.heap.size w w1 := dy_end (by go_grown) hb
  clear hb
  go_wp2_with fail
  with_reducible refine (lf_any y _).mono ?_
  rintro e v0 ⟨rfl, rfl⟩
  go_wp2_with fail
  with_reducible refine (lf_any z _).mono ?_
  rintro e v0 ⟨rfl, rfl⟩
  go_wp2_with fail
  with_reducible refine (lsame_yes ra ra hrb hrb rfl _).mono ?_
  rintro e v0 ⟨rfl, rfl⟩
  go_wp2_with fail
  with_reducible refine (known_any (hT.onD (by go_grown))).mono ?_
  rintro e w2 ⟨rfl, hb⟩
  have hs2 := hb.size
  try simp only [World.size_alloc, World.size_setCell] at hs2
  replace bw : Below w.heap.size w w2 := dy_end (by go_grown) hb
  clear hb
  go_wp2_with fail
  go_ret
  exact ⟨rfl, by go_grown⟩

set_option maxRecDepth 100000 in
set_option maxHeartbeats 4000000 in
theorem SoftSub_n (y : Nat) (z : Nat) (hy : y ≤ 18446744073709551615) (hz : z ≤ 18446744073709551615) (hT : Tab w) (hr : Ieee.double.sub y z = none) :
    Calls Tryz.prog 4 #[.int .u64 (y : Int), .int .u64 (z : Int)] w fun e w' => e = .returned (.bool true) ∧ Below w.heap.size w w' := by
  have hd : (Ieee.double.sub y z).getD nanW = nanW := by rw [hr]; rfl
  have hN := pick_nan y z
  have R1 : ∀ W : World, (binOp .sub 24 (.float .f64 y) (.float .f64 z)).run Tryz.prog W = .ok (.float .f64 (pick (.nanBits .f64 y z) W)) W.drew := fun W => run_arith_nan _ .sub _ y z hr (by simp) W
  generalize pick (.nanBits .f64 y z) = N at hN R1
  have hs := fun W (tt : Tab W) => sSub_is y z _ hy hz hd tt
  clear hd hr
  have bw : Below w.heap.size w w := Below.refl _ _
  go_enter Tryz.func4, Tryz.ntmps4
  go_wp2_with fail
  with_reducible refine (lf_any y _).mono ?_
  rintro e v0 ⟨rfl, rfl⟩
  go_wp2_with fail
  with_reducible refine (lf_any z _).mono ?_
  rintro e v0 ⟨rfl, rfl⟩
  go_wp2_with fail
  with_reducible refine (hs _ (hT.onD (by go_grown))).mono ?_
  rintro e w1 ⟨rfl, hb⟩
  have hs1 := hb.size
  try simp only [World.size_alloc, World.size_setCell] at hs1
  replace bw : Below w.heap.size w w1 := dy_end (by go_grown) hb
  clear hb
  go_wp2_with fail
  with_reducible refine (lf_any y _).mono ?_
  rintro e v0 ⟨rfl, rfl⟩
  go_wp2_with fail
  with_reducible refine (lf_any z _).mono ?_
  rintro e v0 ⟨rfl, rfl⟩
  go_wp2_with fail
  with_reducible refine (lsame_yes nanW (N _) (by decide) (NaNs.le hN _) (NaNs.eq hN _) _).mono ?_
  rintro e v0 ⟨rfl, rfl⟩
  go_wp2_with fail
  with_reducible refine (known_any (hT.onD (by go_grown))).mono ?_
  rintro e w2 ⟨rfl, hb⟩
  have hs2 := hb.size
  try simp only [World.size_alloc, World.size_setCell] at hs2
  replace bw : Below w.heap.size w w2 := dy_end (by go_grown) hb
  clear hb
  go_wp2_with fail
  go_ret
  exact ⟨rfl, by go_grown⟩

theorem SoftSub_law (a0 a1 : Int) (w : World) (h0 : 0 ≤ a0) (j0 : a0 ≤ 18446744073709551615) (h1 : 0 ≤ a1) (j1 : a1 ≤ 18446744073709551615) (hT : Tab w) :
    Calls Tryz.prog 4 #[.int .u64 a0, .int .u64 a1] w fun e w' => e = .returned (.bool true) ∧ Below w.heap.size w w' := by
  obtain ⟨y, rfl⟩ := Int.eq_ofNat_of_zero_le h0
  obtain ⟨z, rfl⟩ := Int.eq_ofNat_of_zero_le h1
  cases hr : Ieee.double.sub y z with
  | none => exact SoftSub_n y z (by omega) (by omega) hT hr
  | some ra => exact SoftSub_s y z (by omega) (by omega) hT ⟨ra, hr⟩
set_option maxRecDepth 100000 in
set_option maxHeartbeats 4000000 in
theorem SoftMul_s (y : Nat) (z : Nat) (hy : y ≤ 18446744073709551615) (hz : z ≤ 18446744073709551615) (hT : Tab w) (hr : ∃ ra, Ieee.double.mul y z = some ra) :
    Calls Tryz.prog 5 #[.int .u64 (y : Int), .int .u64 (z : Int)] w fun e w' => e = .returned (.bool true) ∧ Below w.heap.size w w' := by
  obtain ⟨ra, hr⟩ := hr
  have hlt : ra < 2 ^ Ieee.double.width := Ieee.Format.mul_lt Ieee.double hr
  have hrb : ra ≤ 18446744073709551615 := by rw [show (2 : Nat) ^ Ieee.double.width = 18446744073709551616 by decide] at hlt; omega
  have hd : (Ieee.double.mul y z).getD nanW = ra := by rw [hr]; rfl
  have R1 : ∀ W : World, (binOp .mul 24 (.float .f64 y) (.float .f64 z)).run Tryz.prog W = .ok (.float .f64 ra) W := fun W => run_float_arith W .mul _ .f64 y z ra hr
  have hs := fun W (tt : Tab W) => sMul_is y z _ hy hz hd tt
  clear hd hr hlt
  have bw : Below w.heap.size w w := Below.refl _ _
  go_enter Tryz.func5, Tryz.ntmps5
  go_wp2_with fail
  with_reducible refine (lf_any y _).mono ?_
  rintro e v0 ⟨rfl, rfl⟩
  go_wp2_with fail
  with_reducible refine (lf_any z _).mono ?_
  rintro e v0 ⟨rfl, rfl⟩
  go_wp2_with fail
  with_reducible refine (hs _ (hT.onD (by go_grown))).mono ?_
  rintro e w1 ⟨rfl, hb⟩
  have hs1 := hb.size
  try simp only [World.size_alloc, World.size_setCell] at hs1
  replace bw : Below w.heap.size w w1 := dy_end (by go_grown) hb
  clear hb
  go_wp2_with fail
  with_reducible refine (lf_any y _).mono ?_
  rintro e v0 ⟨rfl, rfl⟩
  go_wp2_with fail
  with_reducible refine (lf_any z _).mono ?_
  rintro e v0 ⟨rfl, rfl⟩
  go_wp2_with fail
  with_reducible refine (lsame_yes ra ra hrb hrb rfl _).mono ?_
  rintro e v0 ⟨rfl, rfl⟩
  go_wp2_with fail
  with_reducible refine (known_any (hT.onD (by go_grown))).mono ?_
  rintro e w2 ⟨rfl, hb⟩
  have hs2 := hb.size
  try simp only [World.size_alloc, World.size_setCell] at hs2
  replace bw : Below w.heap.size w w2 := dy_end (by go_grown) hb
  clear hb
  go_wp2_with fail
  go_ret
  exact ⟨rfl, by go_grown⟩

set_option maxRecDepth 100000 in
set_option maxHeartbeats 4000000 in
theorem SoftMul_n (y : Nat) (z : Nat) (hy : y ≤ 18446744073709551615) (hz : z ≤ 18446744073709551615) (hT : Tab w) (hr : Ieee.double.mul y z = none) :
    Calls Tryz.prog 5 #[.int .u64 (y : Int), .int .u64 (z : Int)] w fun e w' => e = .returned (.bool true) ∧ Below w.heap.size w w' := by
  have hd : (Ieee.double.mul y z).getD nanW = nanW := by rw [hr]; rfl
  have hN := pick_nan y z
  have R1 : ∀ W : World, (binOp .mul 24 (.float .f64 y) (.float .f64 z)).run Tryz.prog W = .ok (.float .f64 (pick (.nanBits .f64 y z) W)) W.drew := fun W => run_arith_nan _ .mul _ y z hr (by simp) W
  generalize pick (.nanBits .f64 y z) = N at hN R1
  have hs := fun W (tt : Tab W) => sMul_is y z _ hy hz hd tt
  clear hd hr
  have bw : Below w.heap.size w w := Below.refl _ _
  go_enter Tryz.func5, Tryz.ntmps5
  go_wp2_with fail
  with_reducible refine (lf_any y _).mono ?_
  rintro e v0 ⟨rfl, rfl⟩
  go_wp2_with fail
  with_reducible refine (lf_any z _).mono ?_
  rintro e v0 ⟨rfl, rfl⟩
  go_wp2_with fail
  with_reducible refine (hs _ (hT.onD (by go_grown))).mono ?_
  rintro e w1 ⟨rfl, hb⟩
  have hs1 := hb.size
  try simp only [World.size_alloc, World.size_setCell] at hs1
  replace bw : Below w.heap.size w w1 := dy_end (by go_grown) hb
  clear hb
  go_wp2_with fail
  with_reducible refine (lf_any y _).mono ?_
  rintro e v0 ⟨rfl, rfl⟩
  go_wp2_with fail
  with_reducible refine (lf_any z _).mono ?_
  rintro e v0 ⟨rfl, rfl⟩
  go_wp2_with fail
  with_reducible refine (lsame_yes nanW (N _) (by decide) (NaNs.le hN _) (NaNs.eq hN _) _).mono ?_
  rintro e v0 ⟨rfl, rfl⟩
  go_wp2_with fail
  with_reducible refine (known_any (hT.onD (by go_grown))).mono ?_
  rintro e w2 ⟨rfl, hb⟩
  have hs2 := hb.size
  try simp only [World.size_alloc, World.size_setCell] at hs2
  replace bw : Below w.heap.size w w2 := dy_end (by go_grown) hb
  clear hb
  go_wp2_with fail
  go_ret
  exact ⟨rfl, by go_grown⟩

theorem SoftMul_law (a0 a1 : Int) (w : World) (h0 : 0 ≤ a0) (j0 : a0 ≤ 18446744073709551615) (h1 : 0 ≤ a1) (j1 : a1 ≤ 18446744073709551615) (hT : Tab w) :
    Calls Tryz.prog 5 #[.int .u64 a0, .int .u64 a1] w fun e w' => e = .returned (.bool true) ∧ Below w.heap.size w w' := by
  obtain ⟨y, rfl⟩ := Int.eq_ofNat_of_zero_le h0
  obtain ⟨z, rfl⟩ := Int.eq_ofNat_of_zero_le h1
  cases hr : Ieee.double.mul y z with
  | none => exact SoftMul_n y z (by omega) (by omega) hT hr
  | some ra => exact SoftMul_s y z (by omega) (by omega) hT ⟨ra, hr⟩
set_option maxRecDepth 100000 in
set_option maxHeartbeats 4000000 in
theorem SoftDiv_s (y : Nat) (z : Nat) (hy : y ≤ 18446744073709551615) (hz : z ≤ 18446744073709551615) (hT : Tab w) (hr : ∃ ra, Ieee.double.div y z = some ra) :
    Calls Tryz.prog 6 #[.int .u64 (y : Int), .int .u64 (z : Int)] w fun e w' => e = .returned (.bool true) ∧ Below w.heap.size w w' := by
  obtain ⟨ra, hr⟩ := hr
  have hlt : ra < 2 ^ Ieee.double.width := Ieee.Format.div_lt Ieee.double hr
  have hrb : ra ≤ 18446744073709551615 := by rw [show (2 : Nat) ^ Ieee.double.width = 18446744073709551616 by decide] at hlt; omega
  have hd : (Ieee.double.div y z).getD nanW = ra := by rw [hr]; rfl
  have R1 : ∀ W : World, (binOp .quo 24 (.float .f64 y) (.float .f64 z)).run Tryz.prog W = .ok (.float .f64 ra) W := fun W => run_float_arith W .quo _ .f64 y z ra hr
  have hs := fun W (tt : Tab W) => sDiv_is y z _ hy hz hd tt
  clear hd hr hlt
  have bw : Below w.heap.size w w := Below.refl _ _
  go_enter Tryz.func6, Tryz.ntmps6
  go_wp2_with fail
  with_reducible refine (lf_any y _).mono ?_
  rintro e v0 ⟨rfl, rfl⟩
  go_wp2_with fail
  with_reducible refine (lf_any z _).mono ?_
  rintro e v0 ⟨rfl, rfl⟩
  go_wp2_with fail
  with_reducible refine (hs _ (hT.onD (by go_grown))).mono ?_
  rintro e w1 ⟨rfl, hb⟩
  have hs1 := hb.size
  try simp only [World.size_alloc, World.size_setCell] at hs1
  replace bw : Below w.heap.size w w1 := dy_end (by go_grown) hb
  clear hb
  go_wp2_with fail
  with_reducible refine (lf_any y _).mono ?_
  rintro e v0 ⟨rfl, rfl⟩
  go_wp2_with fail
  with_reducible refine (lf_any z _).mono ?_
  rintro e v0 ⟨rfl, rfl⟩
  go_wp2_with fail
  with_reducible refine (lsame_yes ra ra hrb hrb rfl _).mono ?_
  rintro e v0 ⟨rfl, rfl⟩
  go_wp2_with fail
  with_reducible refine (known_any (hT.onD (by go_grown))).mono ?_
  rintro e w2 ⟨rfl, hb⟩
  have hs2 := hb.size
  try simp only [World.size_alloc, World.size_setCell] at hs2
  replace bw : Below w.heap.size w w2 := dy_end (by go_grown) hb
  clear hb
  go_wp2_with fail
  go_ret
  exact ⟨rfl, by go_grown⟩

set_option maxRecDepth 100000 in
set_option maxHeartbeats 4000000 in
theorem SoftDiv_n (y : Nat) (z : Nat) (hy : y ≤ 18446744073709551615) (hz : z ≤ 18446744073709551615) (hT : Tab w) (hr : Ieee.double.div y z = none) :
    Calls Tryz.prog 6 #[.int .u64 (y : Int), .int .u64 (z : Int)] w fun e w' => e = .returned (.bool true) ∧ Below w.heap.size w w' := by
  have hd : (Ieee.double.div y z).getD nanW = nanW := by rw [hr]; rfl
  have hN := pick_nan y z
  have R1 : ∀ W : World, (binOp .quo 24 (.float .f64 y) (.float .f64 z)).run Tryz.prog W = .ok (.float .f64 (pick (.nanBits .f64 y z) W)) W.drew := fun W => run_arith_nan _ .quo _ y z hr (by simp) W
  generalize pick (.nanBits .f64 y z) = N at hN R1
  have hs := fun W (tt : Tab W) => sDiv_is y z _ hy hz hd tt
  clear hd hr
  have bw : Below w.heap.size w w := Below.refl _ _
  go_enter Tryz.func6, Tryz.ntmps6
  go_wp2_with fail
  with_reducible refine (lf_any y _).mono ?_
  rintro e v0 ⟨rfl, rfl⟩
  go_wp2_with fail
  with_reducible refine (lf_any z _).mono ?_
  rintro e v0 ⟨rfl, rfl⟩
  go_wp2_with fail
  with_reducible refine (hs _ (hT.onD (by go_grown))).mono ?_
  rintro e w1 ⟨rfl, hb⟩
  have hs1 := hb.size
  try simp only [World.size_alloc, World.size_setCell] at hs1
  replace bw : Below w.heap.size w w1 := dy_end (by go_grown) hb
  clear hb
  go_wp2_with fail
  with_reducible refine (lf_any y _).mono ?_
  rintro e v0 ⟨rfl, rfl⟩
  go_wp2_with fail
  with_reducible refine (lf_any z _).mono ?_
  rintro e v0 ⟨rfl, rfl⟩
  go_wp2_with fail
  with_reducible refine (lsame_yes nanW (N _) (by decide) (NaNs.le hN _) (NaNs.eq hN _) _).mono ?_
  rintro e v0 ⟨rfl, rfl⟩
  go_wp2_with fail
  with_reducible refine (known_any (hT.onD (by go_grown))).mono ?_
  rintro e w2 ⟨rfl, hb⟩
  have hs2 := hb.size
  try simp only [World.size_alloc, World.size_setCell] at hs2
  replace bw : Below w.heap.size w w2 := dy_end (by go_grown) hb
  clear hb
  go_wp2_with fail
  go_ret
  exact ⟨rfl, by go_grown⟩

theorem SoftDiv_law (a0 a1 : Int) (w : World) (h0 : 0 ≤ a0) (j0 : a0 ≤ 18446744073709551615) (h1 : 0 ≤ a1) (j1 : a1 ≤ 18446744073709551615) (hT : Tab w) :
    Calls Tryz.prog 6 #[.int .u64 a0, .int .u64 a1] w fun e w' => e = .returned (.bool true) ∧ Below w.heap.size w w' := by
  obtain ⟨y, rfl⟩ := Int.eq_ofNat_of_zero_le h0
  obtain ⟨z, rfl⟩ := Int.eq_ofNat_of_zero_le h1
  cases hr : Ieee.double.div y z with
  | none => exact SoftDiv_n y z (by omega) (by omega) hT hr
  | some ra => exact SoftDiv_s y z (by omega) (by omega) hT ⟨ra, hr⟩
set_option maxRecDepth 100000 in
set_option maxHeartbeats 4000000 in
theorem SoftSqrt_s (y : Nat) (hy : y ≤ 18446744073709551615) (hT : Tab w) (hr : ∃ ra, Ieee.double.sqrt y = some ra) :
    Calls Tryz.prog 7 #[.int .u64 (y : Int)] w fun e w' => e = .returned (.bool true) ∧ Below w.heap.size w w' := by
  obtain ⟨ra, hr⟩ := hr
  have hlt : ra < 2 ^ Ieee.double.width := Ieee.Format.sqrt_lt Ieee.double hr
  have hrb : ra ≤ 18446744073709551615 := by rw [show (2 : Nat) ^ Ieee.double.width = 18446744073709551616 by decide] at hlt; omega
  have hd : (Ieee.double.sqrt y).getD nanW = ra := by rw [hr]; rfl
  have R1 := fun W => run_sqrt_some y ra hr W
  have hs := fun W (tt : Tab W) => sSqrt_is y _ hy hd tt
  clear hd hr hlt
  have bw : Below w.heap.size w w := Below.refl _ _
  go_enter Tryz.func7, Tryz.ntmps7
  go_wp2_with fail
  with_reducible refine (lf_any y _).mono ?_
  rintro e v0 ⟨rfl, rfl⟩
  go_wp2_with fail
  with_reducible refine (hs _ (hT.onD (by go_grown))).mono ?_
  rintro e w1 ⟨rfl, hb⟩
  have hs1 := hb.size
  try simp only [World.size_alloc, World.size_setCell] at hs1
  replace bw : Below w.heap.size w w1 := dy_end (by go_grown) hb
  clear hb
  go_wp2_with fail
  with_reducible refine (lf_any y _).mono ?_
  rintro e v0 ⟨rfl, rfl⟩
  go_wp2_with fail
  with_reducible refine (msqrt_some y ra R1 _).mono ?_
  rintro e v0 ⟨rfl, rfl⟩
  go_wp2_with fail
  with_reducible refine (lsame_yes ra ra hrb hrb rfl _).mono ?_
  rintro e v0 ⟨rfl, rfl⟩
  go_wp2_with fail
  with_reducible refine (known_any (hT.onD (by go_grown))).mono ?_
  rintro e w2 ⟨rfl, hb⟩
  have hs2 := hb.size
  try simp only [World.size_alloc, World.size_setCell] at hs2
  replace bw : Below w.heap.size w w2 := dy_end (by go_grown) hb
  clear hb
  go_wp2_with fail
  go_ret
  exact ⟨rfl, by go_grown⟩

set_option maxRecDepth 100000 in
set_option maxHeartbeats 4000000 in
theorem SoftSqrt_n (y : Nat) (hy : y ≤ 18446744073709551615) (hT : Tab w) (hr : Ieee.double.sqrt y = none) :
    Calls Tryz.prog 7 #[.int .u64 (y : Int)] w fun e w' => e = .returned (.bool true) ∧ Below w.heap.size w w' := by
  have hd : (Ieee.double.sqrt y).getD nanW = nanW := by rw [hr]; rfl
  obtain ⟨N, hN, R1⟩ := run_sqrt_none y hr
  have hs := fun W (tt : Tab W) => sSqrt_is y _ hy hd tt
  clear hd hr
  have bw : Below w.heap.size w w := Below.refl _ _
  go_enter Tryz.func7, Tryz.ntmps7
  go_wp2_with fail
  with_reducible refine (lf_any y _).mono ?_
  rintro e v0 ⟨rfl, rfl⟩
  go_wp2_with fail
  with_reducible refine (hs _ (hT.onD (by go_grown))).mono ?_
  rintro e w1 ⟨rfl, hb⟩
  have hs1 := hb.size
  try simp only [World.size_alloc, World.size_setCell] at hs1
  replace bw : Below w.heap.size w w1 := dy_end (by go_grown) hb
  clear hb
  go_wp2_with fail
  with_reducible refine (lf_any y _).mono ?_
  rintro e v0 ⟨rfl, rfl⟩
  go_wp2_with fail
  with_reducible refine (msqrt_none y N R1 _).mono ?_
  rintro e v0 ⟨rfl, rfl⟩
  go_wp2_with fail
  with_reducible refine (lsame_yes nanW (N _) (by decide) (NaNs.le hN _) (NaNs.eq hN _) _).mono ?_
  rintro e v0 ⟨rfl, rfl⟩
  go_wp2_with fail
  with_reducible refine (known_any (hT.onD (by go_grown))).mono ?_
  rintro e w2 ⟨rfl, hb⟩
  have hs2 := hb.size
  try simp only [World.size_alloc, World.size_setCell] at hs2
  replace bw : Below w.heap.size w w2 := dy_end (by go_grown) hb
  clear hb
  go_wp2_with fail
  go_ret
  exact ⟨rfl, by go_grown⟩

theorem SoftSqrt_law (a0 : Int) (w : World) (h0 : 0 ≤ a0) (j0 : a0 ≤ 18446744073709551615) (hT : Tab w) :
    Calls Tryz.prog 7 #[.int .u64 a0] w fun e w' => e = .returned (.bool true) ∧ Below w.heap.size w w' := by
  obtain ⟨y, rfl⟩ := Int.eq_ofNat_of_zero_le h0
  cases hr : Ieee.double.sqrt y with
  | none => exact SoftSqrt_n y (by omega) hT hr
  | some ra => exact SoftSqrt_s y (by omega) hT ⟨ra, hr⟩
set_option maxRecDepth 100000 in
set_option maxHeartbeats 4000000 in
theorem SoftFma_s (u : Nat) (y : Nat) (z : Nat) (hu : u ≤ 18446744073709551615) (hy : y ≤ 18446744073709551615) (hz : z ≤ 18446744073709551615) (hT : Tab w) (hr : ∃ ra, Ieee.double.fma u y z = some ra) :
    Calls Tryz.prog 8 #[.int .u64 (u : Int), .int .u64 (y : Int), .int .u64 (z : Int)] w fun e w' => e = .returned (.bool true) ∧ Below w.heap.size w w' := by
  obtain ⟨ra, hr⟩ := hr
  have hlt : ra < 2 ^ Ieee.double.width := Ieee.Format.fma_lt Ieee.double hr
  have hrb : ra ≤ 18446744073709551615 := by rw [show (2 : Nat) ^ Ieee.double.width = 18446744073709551616 by decide] at hlt; omega
  have hd : (Ieee.double.fma u y z).getD nanW = ra := by rw [hr]; rfl
  have R1 := fun W => run_fma_some u y z ra hr W
  have hs := fun W (tt : Tab W) => sFma_is u y z _ hu hy hz hd tt
  clear hd hr hlt
  have bw : Below w.heap.size w w := Below.refl _ _
  go_enter Tryz.func8, Tryz.ntmps8
  go_wp2_with fail
  with_reducible refine (lf_any u _).mono ?_
  rintro e v0 ⟨rfl, rfl⟩
  go_wp2_with fail
  with_reducible refine (lf_any y _).mono ?_
  rintro e v0 ⟨rfl, rfl⟩
  go_wp2_with fail
  with_reducible refine (lf_any z _).mono ?_
  rintro e v0 ⟨rfl, rfl⟩
  go_wp2_with fail
  with_reducible refine (hs _ (hT.onD (by go_grown))).mono ?_
  rintro e w1 ⟨rfl, hb⟩
  have hs1 := hb.size
  try simp only [World.size_alloc, World.size_setCell] at hs1
  replace bw : Below w.heap.size w w1 := dy_end (by go_grown) hb
  clear hb
  go_wp2_with fail
  with_reducible refine (lf_any u _).mono ?_
  rintro e v0 ⟨rfl, rfl⟩
  go_wp2_with fail
  with_reducible refine (lf_any y _).mono ?_
  rintro e v0 ⟨rfl, rfl⟩
  go_wp2_with fail
  with_reducible refine (lf_any z _).mono ?_
  rintro e v0 ⟨rfl, rfl⟩
  go_wp2_with fail
  with_reducible refine (lsame_yes ra ra hrb hrb rfl _).mono ?_
  rintro e v0 ⟨rfl, rfl⟩
  go_wp2_with fail
  with_reducible refine (known_any (hT.onD (by go_grown))).mono ?_
  rintro e w2 ⟨rfl, hb⟩
  have hs2 := hb.size
  try simp only [World.size_alloc, World.size_setCell] at hs2
  replace bw : Below w.heap.size w w2 := dy_end (by go_grown) hb
  clear hb
  go_wp2_with fail
  go_ret
  exact ⟨rfl, by go_grown⟩

set_option maxRecDepth 100000 in
set_option maxHeartbeats 4000000 in
theorem SoftFma_n (u : Nat) (y : Nat) (z : Nat) (hu : u ≤ 18446744073709551615) (hy : y ≤ 18446744073709551615) (hz : z ≤ 18446744073709551615) (hT : Tab w) (hr : Ieee.double.fma u y z = none) :
    Calls Tryz.prog 8 #[.int .u64 (u : Int), .int .u64 (y : Int), .int .u64 (z : Int)] w fun e w' => e = .returned (.bool true) ∧ Below w.heap.size w w' := by
  have hd : (Ieee.double.fma u y z).getD nanW = nanW := by rw [hr]; rfl
  obtain ⟨N, hN, R1⟩ := run_fma_none u y z hr
  have hs := fun W (tt : Tab W) => sFma_is u y z _ hu hy hz hd tt
  clear hd hr
  have bw : Below w.heap.size w w := Below.refl _ _
  go_enter Tryz.func8, Tryz.ntmps8
  go_wp2_with fail
  with_reducible refine (lf_any u _).mono ?_
  rintro e v0 ⟨rfl, rfl⟩
  go_wp2_with fail
  with_reducible refine (lf_any y _).mono ?_
  rintro e v0 ⟨rfl, rfl⟩
  go_wp2_with fail
  with_reducible refine (lf_any z _).mono ?_
  rintro e v0 ⟨rfl, rfl⟩
  go_wp2_with fail
  with_reducible refine (hs _ (hT.onD (by go_grown))).mono ?_
  rintro e w1 ⟨rfl, hb⟩
  have hs1 := hb.size
  try simp only [World.size_alloc, World.size_setCell] at hs1
  replace bw : Below w.heap.size w w1 := dy_end (by go_grown) hb
  clear hb
  go_wp2_with fail
  with_reducible refine (lf_any u _).mono ?_
  rintro e v0 ⟨rfl, rfl⟩
  go_wp2_with fail
  with_reducible refine (lf_any y _).mono ?_
  rintro e v0 ⟨rfl, rfl⟩
  go_wp2_with fail
  with_reducible refine (lf_any z _).mono ?_
  rintro e v0 ⟨rfl, rfl⟩
  go_wp2_with fail
  with_reducible refine (lsame_yes nanW (N _) (by decide) (NaNs.le hN _) (NaNs.eq hN _) _).mono ?_
  rintro e v0 ⟨rfl, rfl⟩
  go_wp2_with fail
  with_reducible refine (known_any (hT.onD (by go_grown))).mono ?_
  rintro e w2 ⟨rfl, hb⟩
  have hs2 := hb.size
  try simp only [World.size_alloc, World.size_setCell] at hs2
  replace bw : Below w.heap.size w w2 := dy_end (by go_grown) hb
  clear hb
  go_wp2_with fail
  go_ret
  exact ⟨rfl, by go_grown⟩

theorem SoftFma_law (a0 a1 a2 : Int) (w : World) (h0 : 0 ≤ a0) (j0 : a0 ≤ 18446744073709551615) (h1 : 0 ≤ a1) (j1 : a1 ≤ 18446744073709551615) (h2 : 0 ≤ a2) (j2 : a2 ≤ 18446744073709551615) (hT : Tab w) :
    Calls Tryz.prog 8 #[.int .u64 a0, .int .u64 a1, .int .u64 a2] w fun e w' => e = .returned (.bool true) ∧ Below w.heap.size w w' := by
  obtain ⟨u, rfl⟩ := Int.eq_ofNat_of_zero_le h0
  obtain ⟨y, rfl⟩ := Int.eq_ofNat_of_zero_le h1
  obtain ⟨z, rfl⟩ := Int.eq_ofNat_of_zero_le h2
  cases hr : Ieee.double.fma u y z with
  | none => exact SoftFma_n u y z (by omega) (by omega) (by omega) hT hr
  | some ra => exact SoftFma_s u y z (by omega) (by omega) (by omega) hT ⟨ra, hr⟩
end
end Go.Proofs.YtfjellhbcjnjkaaGreatDoor
