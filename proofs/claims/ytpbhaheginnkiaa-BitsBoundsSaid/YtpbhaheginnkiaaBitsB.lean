/-
  Walks of layer 1, part one: classes, signs, parts: the program's and the reference's.
-/
import Derived.Test.YtpbhaheginnkiaaProg
import Derived.Test.YtpbhaheginnkiaaBitsA
import Derived.WalkKit
import Derived.WalkSpells
import Derived.WalkLawsBesides
import Derived.Deep.QuietTactic
import Derived.BigQuiet
import Derived.Lib.Hide
namespace Go.Proofs.Ytpbhaheginnkiaa
open Go.RowKit Go.Bw
set_option linter.unusedVariables false

theorem ret_int {k : IntKind} {a b : Int} (h : a = b) : Ending.returned (.int k a) = .returned (.int k b) := by rw [h]
theorem ret_bool {a b : Bool} (h : a = b) : Ending.returned (.bool a) = .returned (.bool b) := by rw [h]

set_option maxHeartbeats 400000 in
theorem field_any (x : Int) (h0 : 0 ≤ x) (h1 : x ≤ 18446744073709551615) (w : World) :
    Calls Try.prog 47 #[.int .u64 x] w fun e w' => e = .returned (.int .i64 (fld x)) ∧ w = w' := by
  have e := field_op x h0 h1
  have hb := fld_bd x
  go_enter Try.func47, Try.ntmps47
  go_wp2
  go_ret
  exact ⟨rfl, rfl⟩

set_option maxHeartbeats 400000 in
theorem fraction_any (x : Int) (h0 : 0 ≤ x) (h1 : x ≤ 18446744073709551615) (w : World) :
    Calls Try.prog 48 #[.int .u64 x] w fun e w' => e = .returned (.int .u64 (frc x)) ∧ w = w' := by
  have e := fraction_op x h0 h1
  go_enter Try.func48, Try.ntmps48
  go_wp2
  go_ret
  exact ⟨rfl, rfl⟩

theorem cls_5 {x : Int} (a : (fld x == 2047) = true) (b : (frc x != 0) = true) : (5 : Int) = cls x := by
  simp at a b; unfold cls; rw [if_pos a, if_neg b]
theorem cls_4 {x : Int} (a : (fld x == 2047) = true) (b : (frc x != 0) = false) : (4 : Int) = cls x := by
  simp at a b; unfold cls; rw [if_pos a, if_pos b]
theorem cls_2 {x : Int} (a : (fld x == 2047) = false) (c : (fld x == 0) = true) (b : (frc x != 0) = true) : (2 : Int) = cls x := by
  simp at a b c; unfold cls; rw [if_neg a, if_pos c, if_neg b]
theorem cls_1 {x : Int} (a : (fld x == 2047) = false) (c : (fld x == 0) = true) (b : (frc x != 0) = false) : (1 : Int) = cls x := by
  simp at a b c; unfold cls; rw [if_neg a, if_pos c, if_pos b]
theorem cls_3 {x : Int} (a : (fld x == 2047) = false) (c : (fld x == 0) = false) : (3 : Int) = cls x := by
  simp at a c; unfold cls; rw [if_neg a, if_neg c]

set_option maxHeartbeats 400000 in
theorem class_any (x : Int) (h0 : 0 ≤ x) (h1 : x ≤ 18446744073709551615) (w : World) :
    Calls Try.prog 14 #[.int .u64 x] w fun e w' => e = .returned (.int .i64 (cls x)) ∧ w = w' := by
  go_enter Try.func14, Try.ntmps14
  go_wp2_with (first
    | (go_at_call 47; refine (field_any _ h0 h1 _).mono ?_; rintro e w' ⟨rfl, rfl⟩)
    | (go_at_call 48; refine (fraction_any _ h0 h1 _).mono ?_; rintro e w' ⟨rfl, rfl⟩))
  · go_ret; exact ⟨ret_int (cls_5 ‹_› ‹_›), rfl⟩
  · go_ret; exact ⟨ret_int (cls_4 ‹_› ‹_›), rfl⟩
  · go_ret; exact ⟨ret_int (cls_2 ‹_› ‹_› ‹_›), rfl⟩
  · go_ret; exact ⟨ret_int (cls_1 ‹_› ‹_› ‹_›), rfl⟩
  · go_ret; exact ⟨ret_int (cls_3 ‹_› ‹_›), rfl⟩

theorem cls_4' {x : Int} (a : (fld x == 2047) = true) (b : (frc x == 0) = true) : (4 : Int) = cls x := by
  simp at a b; unfold cls; rw [if_pos a, if_pos b]
theorem cls_5' {x : Int} (a : (fld x == 2047) = true) (b : (frc x == 0) = false) : (5 : Int) = cls x := by
  simp at a b; unfold cls; rw [if_pos a, if_neg b]

set_option maxHeartbeats 400000 in
theorem rclass_any (x : Int) (h0 : 0 ≤ x) (h1 : x ≤ 18446744073709551615) (w : World) :
    Calls Try.prog 15 #[.int .u64 x] w fun e w' => e = .returned (.int .i64 (cls x)) ∧ w = w' := by
  have e1 := field_op x h0 h1
  have e2 := fraction_op x h0 h1
  have hb := fld_bd x
  have hc := frc_bd x
  go_enter Try.func15, Try.ntmps15
  go_wp2
  · go_ret; exact ⟨ret_int (cls_4' ‹_› ‹_›), rfl⟩
  · go_ret; exact ⟨ret_int (cls_5' ‹_› ‹_›), rfl⟩
  · have g : 0 < fld x := by assumption
    go_ret; exact ⟨ret_int (cls_3 ‹_› (by simp; omega)), rfl⟩
  · have g : fld x ≤ 0 := by assumption
    have g' : 0 < frc x := by assumption
    go_ret; exact ⟨ret_int (cls_2 ‹_› (by simp; omega) (by simp; omega)), rfl⟩
  · have g : fld x ≤ 0 := by assumption
    have g' : frc x ≤ 0 := by assumption
    go_ret; exact ⟨ret_int (cls_1 ‹_› (by simp; omega) (by simp; omega)), rfl⟩

/-! ### NaNs are one; the sign turned -/
theorem one_yes {x : Int} (h : (cls x == 5) = true) : nan = one x := by
  simp at h; unfold one; rw [if_pos h]
theorem one_no {x : Int} (h : (cls x == 5) = false) : x = one x := by
  simp at h; unfold one; rw [if_neg h]

set_option maxHeartbeats 400000 in
theorem oneNaN_any (x : Int) (h0 : 0 ≤ x) (h1 : x ≤ 18446744073709551615) (w : World) :
    Calls Try.prog 49 #[.int .u64 x] w fun e w' => e = .returned (.int .u64 (one x)) ∧ w = w' := by
  go_enter Try.func49, Try.ntmps49
  go_wp2_with (go_at_call 14; refine (class_any _ h0 h1 _).mono ?_; rintro e w' ⟨rfl, rfl⟩)
  · go_ret; exact ⟨ret_int (one_yes ‹_›), rfl⟩
  · go_ret; exact ⟨ret_int (one_no ‹_›), rfl⟩

set_option maxHeartbeats 400000 in
theorem negate_any (x : Int) (h0 : 0 ≤ x) (h1 : x ≤ 18446744073709551615) (w : World) :
    Calls Try.prog 16 #[.int .u64 x] w fun e w' => e = .returned (.int .u64 (negate x)) ∧ w = w' := by
  have ex : bits .xor .u64 x 9223372036854775808 = flip x := xor_sign x h0 h1
  have hf := flip_bd x h0 h1
  have H := Lib.hid (one_flip x h0 h1)
  go_enter Try.func16, Try.ntmps16
  go_wp2_with (go_at_call 49; refine (oneNaN_any _ hf.1 hf.2 _).mono ?_; rintro e w' ⟨rfl, rfl⟩)
  go_ret; exact ⟨ret_int H.out, rfl⟩

theorem negate_yes {x : Int} (h : (cls x == 5) = true) : nan = negate x := by
  simp at h; unfold negate; rw [if_pos h]
theorem negate_no {x : Int} (h : (cls x == 5) = false) : flip x = negate x := by
  simp at h; unfold negate; rw [if_neg h]

set_option maxHeartbeats 400000 in
theorem rnegate_any (x : Int) (h0 : 0 ≤ x) (h1 : x ≤ 18446744073709551615) (w : World) :
    Calls Try.prog 17 #[.int .u64 x] w fun e w' => e = .returned (.int .u64 (negate x)) ∧ w = w' := by
  have ex : bits .xor .u64 x 9223372036854775808 = flip x := xor_sign x h0 h1
  go_enter Try.func17, Try.ntmps17
  go_wp2_with (go_at_call 15; refine (rclass_any _ h0 h1 _).mono ?_; rintro e w' ⟨rfl, rfl⟩)
  · go_ret; exact ⟨ret_int (negate_yes ‹_›), rfl⟩
  · go_ret; exact ⟨ret_int (negate_no ‹_›), rfl⟩

set_option maxHeartbeats 400000 in
theorem rone_any (x : Int) (h0 : 0 ≤ x) (h1 : x ≤ 18446744073709551615) (w : World) :
    Calls Try.prog 21 #[.int .u64 x] w fun e w' => e = .returned (.int .u64 (one x)) ∧ w = w' := by
  go_enter Try.func21, Try.ntmps21
  go_wp2_with (go_at_call 15; refine (rclass_any _ h0 h1 _).mono ?_; rintro e w' ⟨rfl, rfl⟩)
  · go_ret; exact ⟨ret_int (one_yes ‹_›), rfl⟩
  · go_ret; exact ⟨ret_int (one_no ‹_›), rfl⟩

set_option maxHeartbeats 400000 in
theorem rfinite_any (x : Int) (h0 : 0 ≤ x) (h1 : x ≤ 18446744073709551615) (w : World) :
    Calls Try.prog 24 #[.int .u64 x] w fun e w' => e = .returned (.bool (decide (cls x ≤ 3))) ∧ w = w' := by
  go_enter Try.func24, Try.ntmps24
  go_wp2_with (go_at_call 15; refine (rclass_any _ h0 h1 _).mono ?_; rintro e w' ⟨rfl, rfl⟩)
  go_ret; exact ⟨rfl, rfl⟩

set_option maxHeartbeats 400000 in
theorem num_any (x : Int) (w : World) :
    Calls Try.prog 25 #[.int .i64 x] w fun e w' => e = .returned (.int .i64 x) ∧ w = w' := by
  go_enter Try.func25, Try.ntmps25
  go_wp2
  go_ret; exact ⟨rfl, rfl⟩

/-! ### floats and their words -/
theorem run_float64bits (n : Nat) (w : World) : (callFunc 22 #[.float .f64 n]).run Try.prog w = .ok (.value (.int .u64 (n : Int))) w := by
  rw [run_callFunc_extern (e := Extern.MathFloatBits.float64bits) Try.func22 (by kernel_rfl) (by kernel_rfl) (by kernel_rfl) (by kernel_rfl)]; rfl
theorem run_float64frombits (x : Int) (w : World) : (callFunc 50 #[.int .u64 x]).run Try.prog w = .ok (.value (.float .f64 x.toNat)) w := by
  rw [run_callFunc_extern (e := Extern.MathFloatBits.float64frombits) Try.func50 (by kernel_rfl) (by kernel_rfl) (by kernel_rfl) (by kernel_rfl)]; rfl

set_option maxHeartbeats 400000 in
theorem float_any (x : Int) (w : World) :
    Calls Try.prog 19 #[.int .u64 x] w fun e w' => e = .returned (.float .f64 x.toNat) ∧ w = w' := by
  have hx := run_float64frombits x
  go_enter Try.func19, Try.ntmps19
  go_wp2
  go_ret
  exact ⟨rfl, rfl⟩

set_option maxHeartbeats 400000 in
theorem of_any (n : Nat) (hn : n ≤ 18446744073709551615) (w : World) :
    Calls Try.prog 20 #[.float .f64 n] w fun e w' => e = .returned (.int .u64 (one (n : Int))) ∧ w = w' := by
  have hx := run_float64bits n
  go_enter Try.func20, Try.ntmps20
  go_wp2_with (go_at_call 49; refine (oneNaN_any _ (by omega) (by omega) _).mono ?_; rintro e w' ⟨rfl, rfl⟩)
  go_ret
  exact ⟨rfl, rfl⟩

end Go.Proofs.Ytpbhaheginnkiaa
