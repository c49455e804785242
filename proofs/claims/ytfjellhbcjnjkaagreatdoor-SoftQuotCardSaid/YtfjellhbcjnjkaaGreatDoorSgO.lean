/-
  Layer 4, the laws: their words; the library's floats. Layer 4, the laws: the rows of the chapter.
-/
import Derived.Test.YtfjellhbcjnjkaaGreatDoorSgB
import Derived.Test.YtfjellhbcjnjkaaGreatDoorSgL
namespace Go.Proofs.YtfjellhbcjnjkaaGreatDoor
open Go.RowKit Go.Sort Go.Bw
set_option linter.unusedVariables false
set_option linter.unusedSimpArgs false

section
variable {w : World}
set_option maxRecDepth 100000 in
set_option maxHeartbeats 4000000 in
theorem lf_any (y : Nat) (w : World) :
    Calls Tryz.prog 14 #[.int .u64 (y : Int)] w fun e w' => e = .returned (.float .f64 (y)) ∧ w = w' := by
  have hx := fun W => run_float64frombits (y : Int) W
  go_enter Tryz.func14, Tryz.ntmps14
  go_wp2_with fail
  go_ret
  exact ⟨rfl, rfl⟩

set_option maxRecDepth 100000 in
set_option maxHeartbeats 4000000 in
theorem lnum_any (v : Int) (w : World) :
    Calls Tryz.prog 27 #[.int .i64 v] w fun e w' => e = .returned (.int .i64 v) ∧ w = w' := by
  go_enter Tryz.func27, Tryz.ntmps27
  go_wp2_with fail
  go_ret
  exact ⟨rfl, rfl⟩

set_option maxRecDepth 100000 in
set_option maxHeartbeats 4000000 in
theorem lsame_any (y z : Nat) (hn : y ≤ 18446744073709551615) (hn2 : z ≤ 18446744073709551615) (w : World) :
    Calls Tryz.prog 12 #[.float .f64 y, .float .f64 z] w fun e w' => e = .returned (.bool (one (y : Int) == one (z : Int))) ∧ w = w' := by
  have hx := fun W => run_float64bits y W
  have hz := fun W => run_float64bits z W
  go_enter Tryz.func12, Tryz.ntmps12
  go_wp2_with fail
  with_reducible refine (rone_any (y : Int) (by omega) (by omega) _).mono ?_
  rintro e w0 ⟨rfl, rfl⟩
  go_wp2_with fail
  with_reducible refine (rone_any (z : Int) (by omega) (by omega) _).mono ?_
  rintro e w0 ⟨rfl, rfl⟩
  go_wp2_with fail
  go_ret
  exact ⟨rfl, rfl⟩

set_option maxRecDepth 100000 in
set_option maxHeartbeats 4000000 in
theorem minf_any (w : World) :
    Calls Tryz.prog 32 #[.int .i64 1] w fun e w' => e = .returned (.float .f64 (9218868437227405312)) ∧ w = w' := by
  have hx := fun W => run_float64frombits 9218868437227405312 W
  go_enter Tryz.func32, Tryz.ntmps32
  go_wp2_with fail
  go_ret
  exact ⟨rfl, rfl⟩

set_option maxRecDepth 100000 in
set_option maxHeartbeats 4000000 in
theorem minfn_any (w : World) :
    Calls Tryz.prog 32 #[.int .i64 (-1)] w fun e w' => e = .returned (.float .f64 (18442240474082181120)) ∧ w = w' := by
  have hx := fun W => run_float64frombits 18442240474082181120 W
  go_enter Tryz.func32, Tryz.ntmps32
  go_wp2_with fail
  go_ret
  exact ⟨rfl, rfl⟩

set_option maxRecDepth 100000 in
set_option maxHeartbeats 4000000 in
theorem mnan_any (w : World) :
    Calls Tryz.prog 38 #[] w fun e w' => e = .returned (.float .f64 (9221120237041090561)) ∧ w = w' := by
  have hx := fun W => run_float64frombits 9221120237041090561 W
  go_enter Tryz.func38, Tryz.ntmps38
  go_wp2_with fail
  go_ret
  exact ⟨rfl, rfl⟩

set_option maxRecDepth 100000 in
set_option maxHeartbeats 4000000 in
theorem mcopy_any (w : World) :
    Calls Tryz.prog 31 #[.float .f64 0, .float .f64 13830554455654793216] w fun e w' => e = .returned (.float .f64 (9223372036854775808)) ∧ w = w' := by
  have hx := fun W => run_float64bits 0 W
  have hz := fun W => run_float64bits 13830554455654793216 W
  have hy := fun W => run_float64frombits 9223372036854775808 W
  have b1 : bits BinOp.andNot IntKind.u64 0 9223372036854775808 = 0 := by kernel_rfl
  have b2 : bits BinOp.and IntKind.u64 13830554455654793216 9223372036854775808 = 9223372036854775808 := by kernel_rfl
  have b3 : bits BinOp.or IntKind.u64 0 9223372036854775808 = 9223372036854775808 := by kernel_rfl
  go_enter Tryz.func31, Tryz.ntmps31
  go_wp2_with fail
  go_ret
  exact ⟨rfl, rfl⟩

set_option maxRecDepth 100000 in
set_option maxHeartbeats 4000000 in
theorem mabs_one (w : World) :
    Calls Tryz.prog 137 #[.float .f64 4607182418800017408] w fun e w' => e = .returned (.float .f64 (4607182418800017408)) ∧ w = w' := by
  have hx := fun W => run_float64bits 4607182418800017408 W
  have hy := fun W => run_float64frombits 4607182418800017408 W
  have b1 : bits BinOp.andNot IntKind.u64 4607182418800017408 9223372036854775808 = 4607182418800017408 := by kernel_rfl
  go_enter Tryz.func137, Tryz.ntmps137
  go_wp2_with fail
  go_ret
  exact ⟨rfl, rfl⟩

set_option maxRecDepth 100000 in
set_option maxHeartbeats 4000000 in
theorem minf_one (w : World) :
    Calls Tryz.prog 102 #[.float .f64 4607182418800017408, .int .i64 0] w fun e w' => e = .returned (.bool false) ∧ w = w' := by
  have o1 : (FloatKind.f64.format.order 4607182418800017408 9218868437227405311 == some Ordering.gt) = false := by kernel_rfl
  go_enter Tryz.func102, Tryz.ntmps102
  go_wp2_with fail
  with_reducible refine (mabs_one _).mono ?_
  rintro e w0 ⟨rfl, rfl⟩
  go_wp2_with fail
  refine bodyPost_ret (v := .bool false) (by simp [results, Tryz.results102, go_sem]) rfl ?_
  exact ⟨rfl, rfl⟩

set_option maxRecDepth 100000 in
set_option maxHeartbeats 4000000 in
theorem mnan_one (w : World) :
    Calls Tryz.prog 103 #[.float .f64 4607182418800017408] w fun e w' => e = .returned (.bool false) ∧ w = w' := by
  have o1 : (FloatKind.f64.format.order 4607182418800017408 4607182418800017408 != some Ordering.eq) = false := by kernel_rfl
  go_enter Tryz.func103, Tryz.ntmps103
  go_wp2_with fail
  refine bodyPost_ret (v := .bool false) (by simp [results, Tryz.results103, go_sem]) rfl ?_
  exact ⟨rfl, rfl⟩

set_option maxRecDepth 100000 in
set_option maxHeartbeats 4000000 in
theorem mnorm_one (w : World) :
    Calls Tryz.prog 104 #[.float .f64 4607182418800017408] w fun e w' => e = .returned (.tuple #[.float .f64 4607182418800017408, .int .i64 0]) ∧ w = w' := by
  have o1 : (FloatKind.f64.format.order 4607182418800017408 4503599627370496 == some Ordering.lt) = false := by kernel_rfl
  go_enter Tryz.func104, Tryz.ntmps104
  go_wp2_with fail
  with_reducible refine (mabs_one _).mono ?_
  rintro e w0 ⟨rfl, rfl⟩
  go_wp2_with fail
  go_ret2
  exact ⟨rfl, rfl⟩

set_option maxRecDepth 100000 in
set_option maxHeartbeats 4000000 in
theorem mld_a (w : World) :
    Calls Tryz.prog 65 #[.float .f64 4607182418800017408, .int .i64 (-52)] w fun e w' => e = .returned (.float .f64 (4372995238176751616)) ∧ w = w' := by
  have hx := fun W => run_float64bits 4607182418800017408 W
  have hy := fun W => run_float64frombits 4372995238176751616 W
  have hm : ∀ W : World, (binOp .mul 24 (.float .f64 4607182418800017408) (.float .f64 4372995238176751616)).run Tryz.prog W = .ok (.float .f64 4372995238176751616) W := fun W => run_float_arith W .mul _ .f64 4607182418800017408 4372995238176751616 4372995238176751616 (by kernel_rfl)
  have b1 : bits BinOp.and IntKind.i64 1023 2047 = 1023 := by kernel_rfl
  have b2 : bits BinOp.andNot IntKind.u64 4607182418800017408 9218868437227405312 = 0 := by kernel_rfl
  have b3 : bits BinOp.or IntKind.u64 0 4372995238176751616 = 4372995238176751616 := by kernel_rfl
  have b4 : wrap64 0 = 0 := by kernel_rfl
  have b5 : wrap64 (-52) = -52 := by kernel_rfl
  have o3 : (FloatKind.f64.format.order 4607182418800017408 0 == some Ordering.eq) = false := by kernel_rfl
  have o4 : (FloatKind.f64.format.order 4607182418800017408 0 == some Ordering.lt) = false := by kernel_rfl
  go_enter Tryz.func65, Tryz.ntmps65
  go_wp2_with fail
  with_reducible refine (minf_one _).mono ?_
  rintro e w0 ⟨rfl, rfl⟩
  go_wp2_with fail
  with_reducible refine (mnan_one _).mono ?_
  rintro e w0 ⟨rfl, rfl⟩
  go_wp2_with fail
  with_reducible refine (mnorm_one _).mono ?_
  rintro e w0 ⟨rfl, rfl⟩
  go_wp2_with fail
  go_ret
  exact ⟨rfl, rfl⟩

set_option maxRecDepth 100000 in
set_option maxHeartbeats 4000000 in
theorem mldexp_a (w : World) :
    Calls Tryz.prog 30 #[.float .f64 4607182418800017408, .int .i64 (-52)] w fun e w' => e = .returned (.float .f64 (4372995238176751616)) ∧ w = w' := by
  go_enter Tryz.func30, Tryz.ntmps30
  go_wp2_with fail
  with_reducible refine (mld_a _).mono ?_
  rintro e w0 ⟨rfl, rfl⟩
  go_wp2_with fail
  go_ret
  exact ⟨rfl, rfl⟩

set_option maxRecDepth 100000 in
set_option maxHeartbeats 4000000 in
theorem mld_b (w : World) :
    Calls Tryz.prog 65 #[.float .f64 4607182418800017408, .int .i64 (-1074)] w fun e w' => e = .returned (.float .f64 (1)) ∧ w = w' := by
  have hx := fun W => run_float64bits 4607182418800017408 W
  have hy := fun W => run_float64frombits 9007199254740992 W
  have hm : ∀ W : World, (binOp .mul 24 (.float .f64 4368491638549381120) (.float .f64 9007199254740992)).run Tryz.prog W = .ok (.float .f64 1) W := fun W => run_float_arith W .mul _ .f64 4368491638549381120 9007199254740992 1 (by kernel_rfl)
  have b1 : bits BinOp.and IntKind.i64 1023 2047 = 1023 := by kernel_rfl
  have b2 : bits BinOp.andNot IntKind.u64 4607182418800017408 9218868437227405312 = 0 := by kernel_rfl
  have b3 : bits BinOp.or IntKind.u64 0 9007199254740992 = 9007199254740992 := by kernel_rfl
  have b4 : wrap64 0 = 0 := by kernel_rfl
  have b5 : wrap64 (-1074) = -1074 := by kernel_rfl
  have o3 : (FloatKind.f64.format.order 4607182418800017408 0 == some Ordering.eq) = false := by kernel_rfl
  have o4 : (FloatKind.f64.format.order 4607182418800017408 0 == some Ordering.lt) = false := by kernel_rfl
  go_enter Tryz.func65, Tryz.ntmps65
  go_wp2_with fail
  with_reducible refine (minf_one _).mono ?_
  rintro e w0 ⟨rfl, rfl⟩
  go_wp2_with fail
  with_reducible refine (mnan_one _).mono ?_
  rintro e w0 ⟨rfl, rfl⟩
  go_wp2_with fail
  with_reducible refine (mnorm_one _).mono ?_
  rintro e w0 ⟨rfl, rfl⟩
  go_wp2_with fail
  go_ret
  exact ⟨rfl, rfl⟩

set_option maxRecDepth 100000 in
set_option maxHeartbeats 4000000 in
theorem mldexp_b (w : World) :
    Calls Tryz.prog 30 #[.float .f64 4607182418800017408, .int .i64 (-1074)] w fun e w' => e = .returned (.float .f64 (1)) ∧ w = w' := by
  go_enter Tryz.func30, Tryz.ntmps30
  go_wp2_with fail
  with_reducible refine (mld_b _).mono ?_
  rintro e w0 ⟨rfl, rfl⟩
  go_wp2_with fail
  go_ret
  exact ⟨rfl, rfl⟩

set_option maxRecDepth 100000 in
set_option maxHeartbeats 4000000 in
theorem mld_c (w : World) :
    Calls Tryz.prog 65 #[.float .f64 4607182418800017408, .int .i64 (1023)] w fun e w' => e = .returned (.float .f64 (9214364837600034816)) ∧ w = w' := by
  have hx := fun W => run_float64bits 4607182418800017408 W
  have hy := fun W => run_float64frombits 9214364837600034816 W
  have hm : ∀ W : World, (binOp .mul 24 (.float .f64 4607182418800017408) (.float .f64 9214364837600034816)).run Tryz.prog W = .ok (.float .f64 9214364837600034816) W := fun W => run_float_arith W .mul _ .f64 4607182418800017408 9214364837600034816 9214364837600034816 (by kernel_rfl)
  have b1 : bits BinOp.and IntKind.i64 1023 2047 = 1023 := by kernel_rfl
  have b2 : bits BinOp.andNot IntKind.u64 4607182418800017408 9218868437227405312 = 0 := by kernel_rfl
  have b3 : bits BinOp.or IntKind.u64 0 9214364837600034816 = 9214364837600034816 := by kernel_rfl
  have b4 : wrap64 0 = 0 := by kernel_rfl
  have b5 : wrap64 (1023) = 1023 := by kernel_rfl
  have o3 : (FloatKind.f64.format.order 4607182418800017408 0 == some Ordering.eq) = false := by kernel_rfl
  have o4 : (FloatKind.f64.format.order 4607182418800017408 0 == some Ordering.lt) = false := by kernel_rfl
  go_enter Tryz.func65, Tryz.ntmps65
  go_wp2_with fail
  with_reducible refine (minf_one _).mono ?_
  rintro e w0 ⟨rfl, rfl⟩
  go_wp2_with fail
  with_reducible refine (mnan_one _).mono ?_
  rintro e w0 ⟨rfl, rfl⟩
  go_wp2_with fail
  with_reducible refine (mnorm_one _).mono ?_
  rintro e w0 ⟨rfl, rfl⟩
  go_wp2_with fail
  go_ret
  exact ⟨rfl, rfl⟩

set_option maxRecDepth 100000 in
set_option maxHeartbeats 4000000 in
theorem mldexp_c (w : World) :
    Calls Tryz.prog 30 #[.float .f64 4607182418800017408, .int .i64 (1023)] w fun e w' => e = .returned (.float .f64 (9214364837600034816)) ∧ w = w' := by
  go_enter Tryz.func30, Tryz.ntmps30
  go_wp2_with fail
  with_reducible refine (mld_c _).mono ?_
  rintro e w0 ⟨rfl, rfl⟩
  go_wp2_with fail
  go_ret
  exact ⟨rfl, rfl⟩

end
end Go.Proofs.YtfjellhbcjnjkaaGreatDoor
namespace Go.Proofs.YtfjellhbcjnjkaaGreatDoor
open Go.RowKit Go.Sort Go.Bw
set_option linter.unusedVariables false
set_option linter.unusedSimpArgs false

section
variable {w : World}
theorem lsame_yes (y z : Nat) (hn : y ≤ 18446744073709551615) (hn2 : z ≤ 18446744073709551615) (h : one (y : Int) = one (z : Int)) (w : World) :
    Calls Tryz.prog 12 #[.float .f64 y, .float .f64 z] w fun e w' => e = .returned (.bool true) ∧ w = w' := by
  have := lsame_any y z hn hn2 w
  rwa [h, beq_self_eq_true] at this
theorem sAdd_is (y z r : Nat) (hn : y ≤ 18446744073709551615) (hn2 : z ≤ 18446744073709551615) (hr : (Ieee.double.add y z).getD nanW = r) (hT : Tab w) :
    Calls Tryz.prog 13 #[.float .f64 y, .float .f64 z] w fun e w' => e = .returned (.float .f64 r) ∧ Below w.heap.size w w' := by
  have := sAdd_any y z hn hn2 hT
  rwa [hr] at this
theorem sSub_is (y z r : Nat) (hn : y ≤ 18446744073709551615) (hn2 : z ≤ 18446744073709551615) (hr : (Ieee.double.sub y z).getD nanW = r) (hT : Tab w) :
    Calls Tryz.prog 16 #[.float .f64 y, .float .f64 z] w fun e w' => e = .returned (.float .f64 r) ∧ Below w.heap.size w w' := by
  have := sSub_any y z hn hn2 hT
  rwa [hr] at this
theorem sMul_is (y z r : Nat) (hn : y ≤ 18446744073709551615) (hn2 : z ≤ 18446744073709551615) (hr : (Ieee.double.mul y z).getD nanW = r) (hT : Tab w) :
    Calls Tryz.prog 17 #[.float .f64 y, .float .f64 z] w fun e w' => e = .returned (.float .f64 r) ∧ Below w.heap.size w w' := by
  have := sMul_any y z hn hn2 hT
  rwa [hr] at this
theorem sDiv_is (y z r : Nat) (hn : y ≤ 18446744073709551615) (hn2 : z ≤ 18446744073709551615) (hr : (Ieee.double.div y z).getD nanW = r) (hT : Tab w) :
    Calls Tryz.prog 18 #[.float .f64 y, .float .f64 z] w fun e w' => e = .returned (.float .f64 r) ∧ Below w.heap.size w w' := by
  have := sDiv_any y z hn hn2 hT
  rwa [hr] at this
theorem sSqrt_is (y r : Nat) (hn : y ≤ 18446744073709551615) (hr : (Ieee.double.sqrt y).getD nanW = r) (hT : Tab w) :
    Calls Tryz.prog 19 #[.float .f64 y] w fun e w' => e = .returned (.float .f64 r) ∧ Below w.heap.size w w' := by
  have := sSqrt_any y hn hT
  rwa [hr] at this
theorem sFma_is (u y z r : Nat) (hn0 : u ≤ 18446744073709551615) (hn : y ≤ 18446744073709551615) (hn2 : z ≤ 18446744073709551615) (hr : (Ieee.double.fma u y z).getD nanW = r) (hT : Tab w) :
    Calls Tryz.prog 21 #[.float .f64 u, .float .f64 y, .float .f64 z] w fun e w' => e = .returned (.float .f64 r) ∧ Below w.heap.size w w' := by
  have := sFma_any u y z hn0 hn hn2 hT
  rwa [hr] at this
set_option maxRecDepth 100000 in
set_option maxHeartbeats 8000000 in
theorem known_any (hT : Tab w) :
    Calls Tryz.prog 15 #[] w fun e w' => e = .returned (.bool true) ∧ Below w.heap.size w w' := by
  have R1 : ∀ W : World, (binOp .quo 24 (.float .f64 4372995238176751616) (.float .f64 4611686018427387904)).run Tryz.prog W = .ok (.float .f64 4368491638549381120) W := fun W => run_float_arith W .quo _ .f64 4372995238176751616 4611686018427387904 4368491638549381120 (by kernel_rfl)
  have R2 : ∀ W : World, (binOp .add 24 (.float .f64 4607182418800017408) (.float .f64 4372995238176751616)).run Tryz.prog W = .ok (.float .f64 4607182418800017409) W := fun W => run_float_arith W .add _ .f64 4607182418800017408 4372995238176751616 4607182418800017409 (by kernel_rfl)
  have R3 : ∀ W : World, (binOp .sub 24 (.float .f64 4607182418800017408) (.float .f64 4372995238176751616)).run Tryz.prog W = .ok (.float .f64 4607182418800017406) W := fun W => run_float_arith W .sub _ .f64 4607182418800017408 4372995238176751616 4607182418800017406 (by kernel_rfl)
  have R4 : ∀ W : World, (binOp .mul 24 (.float .f64 13596367275031527424) (.float .f64 4372995238176751616)).run Tryz.prog W = .ok (.float .f64 13362180094408261632) W := fun W => run_float_arith W .mul _ .f64 13596367275031527424 4372995238176751616 13362180094408261632 (by kernel_rfl)
  have R5 : ∀ W : World, (Op.unary UnOp.neg (.float .f64 9218868437227405312)).run Tryz.prog W = .ok (.float .f64 18442240474082181120) W := fun W => by kernel_rfl
  have R6 : ∀ W : World, (Op.unary UnOp.neg (.float .f64 4372995238176751616)).run Tryz.prog W = .ok (.float .f64 13596367275031527424) W := fun W => by kernel_rfl
  have bw : Below w.heap.size w w := Below.refl _ _
  go_enter Tryz.func15, Tryz.ntmps15
  go_wp2_with fail
  with_reducible refine (mcopy_any _).mono ?_
  rintro e v0 ⟨rfl, rfl⟩
  go_wp2_with fail
  with_reducible refine (minf_any _).mono ?_
  rintro e v0 ⟨rfl, rfl⟩
  go_wp2_with fail
  with_reducible refine (mldexp_a _).mono ?_
  rintro e v0 ⟨rfl, rfl⟩
  go_wp2_with fail
  have m1 : Lv (w.alloc (.cells #[.int .u64 1] 22)) (some ⟨w.heap.size, 0, none⟩) 1 1 [1] := Lv.row w [1] 1 w.heap.size rfl rfl (by omega) (by intro y hy; simp at hy; omega) _ rfl
  with_reducible refine (quot_z (b := false) (x := 0) (b2 := false) (x2 := 0) m1 (by omega) (lv_nil _) (by omega) (hT.onD (by go_grown)) rfl rfl (by rw [val_nil])).mono ?_
  rintro e w9 ⟨rfl, hb⟩
  have hs9 := hb.size
  try simp only [World.size_alloc] at hs9
  replace bw : Below w.heap.size w w9 := dy_end (by go_grown) hb
  clear hb m1
  go_wp2_with fail
  with_reducible refine (sAdd_is 4607182418800017408 4368491638549381120 4607182418800017408 (by decide) (by decide) (by kernel_rfl) (hT.onD (by go_grown))).mono ?_
  rintro e w1 ⟨rfl, hb⟩
  have hs1 := hb.size
  try simp only [World.size_alloc, World.size_setCell] at hs1
  replace bw : Below w.heap.size w w1 := dy_end (by go_grown) hb
  clear hb
  go_wp2_with fail
  with_reducible refine (lsame_yes 4607182418800017408 4607182418800017408 (by decide) (by decide) (by kernel_rfl) _).mono ?_
  rintro e v0 ⟨rfl, rfl⟩
  go_wp2_with fail
  with_reducible refine (sAdd_is 4591870180066957722 4596373779694328218 4599075939470750516 (by decide) (by decide) (by kernel_rfl) (hT.onD (by go_grown))).mono ?_
  rintro e w2 ⟨rfl, hb⟩
  have hs2 := hb.size
  try simp only [World.size_alloc, World.size_setCell] at hs2
  replace bw : Below w.heap.size w w2 := dy_end (by go_grown) hb
  clear hb
  go_wp2_with fail
  with_reducible refine (lsame_yes 4599075939470750516 4599075939470750516 (by decide) (by decide) (by kernel_rfl) _).mono ?_
  rintro e v0 ⟨rfl, rfl⟩
  go_wp2_with fail
  with_reducible refine (sAdd_is 9223372036854775808 9223372036854775808 9223372036854775808 (by decide) (by decide) (by kernel_rfl) (hT.onD (by go_grown))).mono ?_
  rintro e w3 ⟨rfl, hb⟩
  have hs3 := hb.size
  try simp only [World.size_alloc, World.size_setCell] at hs3
  replace bw : Below w.heap.size w w3 := dy_end (by go_grown) hb
  clear hb
  go_wp2_with fail
  with_reducible refine (lsame_yes 9223372036854775808 9223372036854775808 (by decide) (by decide) (by kernel_rfl) _).mono ?_
  rintro e v0 ⟨rfl, rfl⟩
  go_wp2_with fail
  with_reducible refine (sAdd_is 4607182418800017408 13830554455654793216 0 (by decide) (by decide) (by kernel_rfl) (hT.onD (by go_grown))).mono ?_
  rintro e w4 ⟨rfl, hb⟩
  have hs4 := hb.size
  try simp only [World.size_alloc, World.size_setCell] at hs4
  replace bw : Below w.heap.size w w4 := dy_end (by go_grown) hb
  clear hb
  go_wp2_with fail
  with_reducible refine (lsame_yes 0 0 (by decide) (by decide) (by kernel_rfl) _).mono ?_
  rintro e v0 ⟨rfl, rfl⟩
  go_wp2_with fail
  with_reducible refine (sMul_is 7598952565167317594 7598952565167317594 9218868437227405312 (by decide) (by decide) (by kernel_rfl) (hT.onD (by go_grown))).mono ?_
  rintro e w5 ⟨rfl, hb⟩
  have hs5 := hb.size
  try simp only [World.size_alloc, World.size_setCell] at hs5
  replace bw : Below w.heap.size w w5 := dy_end (by go_grown) hb
  clear hb
  go_wp2_with fail
  with_reducible refine (lsame_yes 9218868437227405312 9218868437227405312 (by decide) (by decide) (by kernel_rfl) _).mono ?_
  rintro e v0 ⟨rfl, rfl⟩
  go_wp2_with fail
  with_reducible refine (sMul_is 9223372036854775808 4607182418800017408 9223372036854775808 (by decide) (by decide) (by kernel_rfl) (hT.onD (by go_grown))).mono ?_
  rintro e w6 ⟨rfl, hb⟩
  have hs6 := hb.size
  try simp only [World.size_alloc, World.size_setCell] at hs6
  replace bw : Below w.heap.size w w6 := dy_end (by go_grown) hb
  clear hb
  go_wp2_with fail
  with_reducible refine (lsame_yes 9223372036854775808 9223372036854775808 (by decide) (by decide) (by kernel_rfl) _).mono ?_
  rintro e v0 ⟨rfl, rfl⟩
  go_wp2_with fail
  with_reducible refine (sMul_is 0 9218868437227405312 9221120237041090560 (by decide) (by decide) (by kernel_rfl) (hT.onD (by go_grown))).mono ?_
  rintro e w7 ⟨rfl, hb⟩
  have hs7 := hb.size
  try simp only [World.size_alloc, World.size_setCell] at hs7
  replace bw : Below w.heap.size w w7 := dy_end (by go_grown) hb
  clear hb
  go_wp2_with fail
  with_reducible refine (mnan_any _).mono ?_
  rintro e v0 ⟨rfl, rfl⟩
  go_wp2_with fail
  with_reducible refine (lsame_yes 9221120237041090560 9221120237041090561 (by decide) (by decide) (by kernel_rfl) _).mono ?_
  rintro e v0 ⟨rfl, rfl⟩
  go_wp2_with fail
  with_reducible refine (sDiv_is 4607182418800017408 4613937818241073152 4599676419421066581 (by decide) (by decide) (by kernel_rfl) (hT.onD (by go_grown))).mono ?_
  rintro e w8 ⟨rfl, hb⟩
  have hs8 := hb.size
  try simp only [World.size_alloc, World.size_setCell] at hs8
  replace bw : Below w.heap.size w w8 := dy_end (by go_grown) hb
  clear hb
  go_wp2_with fail
  with_reducible refine (lsame_yes 4599676419421066581 4599676419421066581 (by decide) (by decide) (by kernel_rfl) _).mono ?_
  rintro e v0 ⟨rfl, rfl⟩
  go_wp2_with fail
  with_reducible refine (sDiv_is 4607182418800017408 9223372036854775808 18442240474082181120 (by decide) (by decide) (by kernel_rfl) (hT.onD (by go_grown))).mono ?_
  rintro e w9 ⟨rfl, hb⟩
  have hs9 := hb.size
  try simp only [World.size_alloc, World.size_setCell] at hs9
  replace bw : Below w.heap.size w w9 := dy_end (by go_grown) hb
  clear hb
  go_wp2_with fail
  with_reducible refine (lsame_yes 18442240474082181120 18442240474082181120 (by decide) (by decide) (by kernel_rfl) _).mono ?_
  rintro e v0 ⟨rfl, rfl⟩
  go_wp2_with fail
  with_reducible refine (sDiv_is 0 0 9221120237041090560 (by decide) (by decide) (by kernel_rfl) (hT.onD (by go_grown))).mono ?_
  rintro e w10 ⟨rfl, hb⟩
  have hs10 := hb.size
  try simp only [World.size_alloc, World.size_setCell] at hs10
  replace bw : Below w.heap.size w w10 := dy_end (by go_grown) hb
  clear hb
  go_wp2_with fail
  with_reducible refine (mnan_any _).mono ?_
  rintro e v0 ⟨rfl, rfl⟩
  go_wp2_with fail
  with_reducible refine (lsame_yes 9221120237041090560 9221120237041090561 (by decide) (by decide) (by kernel_rfl) _).mono ?_
  rintro e v0 ⟨rfl, rfl⟩
  go_wp2_with fail
  with_reducible refine (sSqrt_is 4611686018427387904 4609047870845172685 (by decide) (by kernel_rfl) (hT.onD (by go_grown))).mono ?_
  rintro e w11 ⟨rfl, hb⟩
  have hs11 := hb.size
  try simp only [World.size_alloc, World.size_setCell] at hs11
  replace bw : Below w.heap.size w w11 := dy_end (by go_grown) hb
  clear hb
  go_wp2_with fail
  with_reducible refine (lsame_yes 4609047870845172685 4609047870845172685 (by decide) (by decide) (by kernel_rfl) _).mono ?_
  rintro e v0 ⟨rfl, rfl⟩
  go_wp2_with fail
  with_reducible refine (sSqrt_is 9223372036854775808 9223372036854775808 (by decide) (by kernel_rfl) (hT.onD (by go_grown))).mono ?_
  rintro e w12 ⟨rfl, hb⟩
  have hs12 := hb.size
  try simp only [World.size_alloc, World.size_setCell] at hs12
  replace bw : Below w.heap.size w w12 := dy_end (by go_grown) hb
  clear hb
  go_wp2_with fail
  with_reducible refine (lsame_yes 9223372036854775808 9223372036854775808 (by decide) (by decide) (by kernel_rfl) _).mono ?_
  rintro e v0 ⟨rfl, rfl⟩
  go_wp2_with fail
  with_reducible refine (sSqrt_is 13830554455654793216 9221120237041090560 (by decide) (by kernel_rfl) (hT.onD (by go_grown))).mono ?_
  rintro e w13 ⟨rfl, hb⟩
  have hs13 := hb.size
  try simp only [World.size_alloc, World.size_setCell] at hs13
  replace bw : Below w.heap.size w w13 := dy_end (by go_grown) hb
  clear hb
  go_wp2_with fail
  with_reducible refine (mnan_any _).mono ?_
  rintro e v0 ⟨rfl, rfl⟩
  go_wp2_with fail
  with_reducible refine (lsame_yes 9221120237041090560 9221120237041090561 (by decide) (by decide) (by kernel_rfl) _).mono ?_
  rintro e v0 ⟨rfl, rfl⟩
  go_wp2_with fail
  with_reducible refine (sFma_is 4607182418800017409 4607182418800017406 13830554455654793216 13362180094408261632 (by decide) (by decide) (by decide) (by kernel_rfl) (hT.onD (by go_grown))).mono ?_
  rintro e w14 ⟨rfl, hb⟩
  have hs14 := hb.size
  try simp only [World.size_alloc, World.size_setCell] at hs14
  replace bw : Below w.heap.size w w14 := dy_end (by go_grown) hb
  clear hb
  go_wp2_with fail
  with_reducible refine (lsame_yes 13362180094408261632 13362180094408261632 (by decide) (by decide) (by kernel_rfl) _).mono ?_
  rintro e v0 ⟨rfl, rfl⟩
  go_wp2_with fail
  with_reducible refine (lnum_any 9 _).mono ?_
  rintro e v0 ⟨rfl, rfl⟩
  go_wp2_with fail
  go_ret
  exact ⟨rfl, by go_grown⟩

end
end Go.Proofs.YtfjellhbcjnjkaaGreatDoor
