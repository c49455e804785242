/-
  Walks of layer 1, part six: the order of words.
-/
import Derived.Test.YtpbhaheginnkiaaBitsC
namespace Go.Bw
/-- a word's place: its number of steps from 0 -/
def plc (x : Int) : Int := if 9223372036854775808 ≤ x then -mag x else mag x
theorem mag_bd (x : Int) : 0 ≤ mag x ∧ mag x ≤ 9223372036854775807 := by unfold mag; omega
theorem plc_bd (x : Int) : -9223372036854775807 ≤ plc x ∧ plc x ≤ 9223372036854775807 := by
  have := mag_bd x
  unfold plc; split <;> omega
theorem mag_fin {x : Int} (h0 : 0 ≤ x) (h1 : x ≤ 18446744073709551615) (h : (cls x == 5) = false) : mag x ≤ 9218868437227405312 := by
  rw [mag_eq x h0 h1]
  have hf := fld_bd x
  have hr := frc_bd x
  simp at h
  by_cases c : fld x = 2047
  · have : frc x = 0 := by
      rcases Decidable.em (frc x = 0) with e | e
      · exact e
      · exact absurd (by unfold cls; rw [if_pos c, if_neg e]) h
    omega
  · omega
theorem plc_fin {x : Int} (h0 : 0 ≤ x) (h1 : x ≤ 18446744073709551615) (h : (cls x == 5) = false) : -9218868437227405312 ≤ plc x ∧ plc x ≤ 9218868437227405312 := by
  have a := mag_fin h0 h1 h
  have b := mag_bd x
  unfold plc; split <;> omega
/-- the word at a place -/
def wordAt (p : Int) : Int := if p < 0 then 9223372036854775808 + -p else p
def cmpI (a b : Int) : Int := if a < b then -1 else if b < a then 1 else 0
end Go.Bw
namespace Go.Proofs.Ytpbhaheginnkiaa
open Go.RowKit Go.Bw
set_option linter.unusedVariables false

theorem plc_y {x : Int} (h : decide (9223372036854775808 ≤ x) = true) : -mag x = plc x := by
  simp at h; unfold plc; rw [if_pos h]
theorem plc_n {x : Int} (h : decide (9223372036854775808 ≤ x) = false) : mag x = plc x := by
  simp at h; unfold plc; rw [if_neg (by omega)]

set_option maxHeartbeats 400000 in
theorem place_any (x : Int) (h0 : 0 ≤ x) (h1 : x ≤ 18446744073709551615) (w : World) :
    Calls Try.prog 67 #[.int .u64 x] w fun e w' => e = .returned (.int .i64 (plc x)) ∧ w = w' := by
  have e1 := andnot_sign x h0 h1
  have e2 := sign_op x h0 h1
  have hb := mag_bd x
  cases c : decide (9223372036854775808 ≤ x)
  · have H := Lib.hid (plc_n c)
    go_enter Try.func67, Try.ntmps67
    go_wp2
    go_ret; exact ⟨ret_int H.out, rfl⟩
  · have H := Lib.hid (plc_y c)
    go_enter Try.func67, Try.ntmps67
    go_wp2
    go_ret; exact ⟨ret_int H.out, rfl⟩

set_option maxHeartbeats 400000 in
theorem wordAt_any (p : Int) (h0 : -9223372036854775807 ≤ p) (h1 : p ≤ 9223372036854775807) (w : World) :
    Calls Try.prog 65 #[.int .i64 p] w fun e w' => e = .returned (.int .u64 (wordAt p)) ∧ w = w' := by
  by_cases c : p < 0
  · have e := sign_or (-p) (by omega) (by omega)
    go_enter Try.func65, Try.ntmps65
    go_wp2
    go_ret; exact ⟨ret_int (by unfold wordAt; rw [if_pos c]), rfl⟩
  · go_enter Try.func65, Try.ntmps65
    go_wp2
    go_ret; exact ⟨ret_int (by unfold wordAt; rw [if_neg (by omega)]), rfl⟩

set_option maxHeartbeats 400000 in
theorem cmp_any (a b : Int) (w : World) :
    Calls Try.prog 57 #[.int .i64 a, .int .i64 b] w fun e w' => e = .returned (.int .i64 (cmpI a b)) ∧ w = w' := by
  by_cases c : a < b
  · go_enter Try.func57, Try.ntmps57
    go_wp2
    go_ret; exact ⟨ret_int (by unfold cmpI; rw [if_pos c]), rfl⟩
  · by_cases d : b < a
    · go_enter Try.func57, Try.ntmps57
      go_wp2
      go_ret; exact ⟨ret_int (by unfold cmpI; rw [if_neg (by omega), if_pos d]), rfl⟩
    · go_enter Try.func57, Try.ntmps57
      go_wp2
      go_ret; exact ⟨ret_int (by unfold cmpI; rw [if_neg (by omega), if_neg (by omega)]), rfl⟩

set_option maxHeartbeats 1000000 in
theorem compare_ok (a b : Int) (a0 : 0 ≤ a) (a1 : a ≤ 18446744073709551615) (b0 : 0 ≤ b) (b1 : b ≤ 18446744073709551615) (ha : (cls a == 5) = false) (hb : (cls b == 5) = false) (w : World) :
    Calls Try.prog 34 #[.int .u64 a, .int .u64 b] w fun e w' => e = .returned (.tuple #[.int .i64 (cmpI (plc a) (plc b)), .int .i64 0]) ∧ Below w.heap.size w w' := by
  go_enter Try.func34, Try.ntmps34
  go_wp2_with (first
    | (go_at_call 14; refine (class_any _ (by assumption) (by assumption) _).mono ?_; rintro e w' ⟨rfl, rfl⟩)
    | (go_at_call 67; refine (place_any _ (by assumption) (by assumption) _).mono ?_; rintro e w' ⟨rfl, rfl⟩)
    | (go_at_call 57; refine (cmp_any _ _ _).mono ?_; rintro e w' ⟨rfl, rfl⟩)
    | go_in)
  go_ret2
  exact ⟨rfl, by go_grown⟩

set_option maxHeartbeats 1000000 in
theorem compare_no (a b : Int) (a0 : 0 ≤ a) (a1 : a ≤ 18446744073709551615) (b0 : 0 ≤ b) (b1 : b ≤ 18446744073709551615) (h : (cls a == 5) = true ∨ (cls a == 5) = false ∧ (cls b == 5) = true) (w : World) :
    Calls Try.prog 34 #[.int .u64 a, .int .u64 b] w fun e w' => e = .returned (.tuple #[.int .i64 0, .int .i64 2]) ∧ Below w.heap.size w w' := by
  rcases h with h | ⟨h, h'⟩
  all_goals
    go_enter Try.func34, Try.ntmps34
    go_wp2_with (first
    | (go_at_call 14; refine (class_any _ (by assumption) (by assumption) _).mono ?_; rintro e w' ⟨rfl, rfl⟩)
    | (go_at_call 67; refine (place_any _ (by assumption) (by assumption) _).mono ?_; rintro e w' ⟨rfl, rfl⟩)
    | go_in)
    go_ret2
    exact ⟨rfl, by go_grown⟩

theorem steps_eq {a b : Int} (ha : -9223372036854775807 ≤ a) (ha' : a ≤ 9223372036854775807) (hb : -9223372036854775807 ≤ b) (hb' : b ≤ 9223372036854775807) :
    IntKind.u64.wrap (IntKind.u64.wrap (max a b) - IntKind.u64.wrap (min a b)) = max a b - min a b := by
  simp only [IntKind.wrap_u64]; omega

set_option maxHeartbeats 1000000 in
theorem steps_ok (a b : Int) (a0 : 0 ≤ a) (a1 : a ≤ 18446744073709551615) (b0 : 0 ≤ b) (b1 : b ≤ 18446744073709551615) (ha : (cls a == 5) = false) (hb : (cls b == 5) = false) (w : World) :
    Calls Try.prog 35 #[.int .u64 a, .int .u64 b] w fun e w' => e = .returned (.tuple #[.int .u64 (max (plc a) (plc b) - min (plc a) (plc b)), .int .i64 0]) ∧ Below w.heap.size w w' := by
  have pa := plc_bd a
  have pb := plc_bd b
  go_enter Try.func35, Try.ntmps35
  go_wp2_with (first
    | (go_at_call 14; refine (class_any _ (by assumption) (by assumption) _).mono ?_; rintro e w' ⟨rfl, rfl⟩)
    | (go_at_call 67; refine (place_any _ (by assumption) (by assumption) _).mono ?_; rintro e w' ⟨rfl, rfl⟩)
    | go_in)
  go_ret2
  exact ⟨tuple_2 (steps_eq pa.1 pa.2 pb.1 pb.2) rfl, by go_grown⟩

set_option maxHeartbeats 1000000 in
theorem steps_no (a b : Int) (a0 : 0 ≤ a) (a1 : a ≤ 18446744073709551615) (b0 : 0 ≤ b) (b1 : b ≤ 18446744073709551615) (h : (cls a == 5) = true ∨ (cls a == 5) = false ∧ (cls b == 5) = true) (w : World) :
    Calls Try.prog 35 #[.int .u64 a, .int .u64 b] w fun e w' => e = .returned (.tuple #[.int .u64 0, .int .i64 2]) ∧ Below w.heap.size w w' := by
  rcases h with h | ⟨h, h'⟩
  all_goals
    go_enter Try.func35, Try.ntmps35
    go_wp2_with (first
    | (go_at_call 14; refine (class_any _ (by assumption) (by assumption) _).mono ?_; rintro e w' ⟨rfl, rfl⟩)
    | (go_at_call 67; refine (place_any _ (by assumption) (by assumption) _).mono ?_; rintro e w' ⟨rfl, rfl⟩)
    | go_in)
    go_ret2
    exact ⟨rfl, by go_grown⟩

set_option maxHeartbeats 1000000 in
theorem up_ok (a : Int) (a0 : 0 ≤ a) (a1 : a ≤ 18446744073709551615) (ha : (cls a == 5) = false) (w : World) :
    Calls Try.prog 44 #[.int .u64 a] w fun e w' => e = .returned (.tuple #[.int .u64 (wordAt (min (plc a + 1) inf)), .int .i64 0]) ∧ Below w.heap.size w w' := by
  have pa := plc_fin a0 a1 ha
  have hi : (cls 9218868437227405312 == 5) = false := by decide
  have hp : plc 9218868437227405312 = 9218868437227405312 := by decide
  have b0 : (0 : Int) ≤ 9218868437227405312 := by decide
  have b1 : (9218868437227405312 : Int) ≤ 18446744073709551615 := by decide
  go_enter Try.func44, Try.ntmps44
  go_wp2_with (first
    | (go_at_call 14; refine (class_any _ (by assumption) (by assumption) _).mono ?_; rintro e w' ⟨rfl, rfl⟩)
    | (go_at_call 67; refine (place_any _ (by assumption) (by assumption) _).mono ?_; rintro e w' ⟨rfl, rfl⟩)
    | (go_at_call 65; refine (wordAt_any _ (by omega) (by omega) _).mono ?_; rintro e w' ⟨rfl, rfl⟩)
    | go_in)
  go_ret2
  exact ⟨rfl, by go_grown⟩

set_option maxHeartbeats 1000000 in
theorem down_ok (a : Int) (a0 : 0 ≤ a) (a1 : a ≤ 18446744073709551615) (ha : (cls a == 5) = false) (w : World) :
    Calls Try.prog 45 #[.int .u64 a] w fun e w' => e = .returned (.tuple #[.int .u64 (wordAt (max (plc a - 1) (-inf))), .int .i64 0]) ∧ Below w.heap.size w w' := by
  have pa := plc_fin a0 a1 ha
  have hn : negate 9218868437227405312 = 18442240474082181120 := by decide
  have hi : (cls 18442240474082181120 == 5) = false := by decide
  have hp : plc 18442240474082181120 = -9218868437227405312 := by decide
  have b0 : (0 : Int) ≤ 18442240474082181120 := by decide
  have b1 : (18442240474082181120 : Int) ≤ 18446744073709551615 := by decide
  go_enter Try.func45, Try.ntmps45
  go_wp2_with (first
    | (go_at_call 14; refine (class_any _ (by assumption) (by assumption) _).mono ?_; rintro e w' ⟨rfl, rfl⟩)
    | (go_at_call 67; refine (place_any _ (by assumption) (by assumption) _).mono ?_; rintro e w' ⟨rfl, rfl⟩)
    | (go_at_call 65; refine (wordAt_any _ (by omega) (by omega) _).mono ?_; rintro e w' ⟨rfl, rfl⟩)
    | (go_at_call 16; refine (negate_any _ (by decide) (by decide) _).mono ?_; rintro e w' ⟨rfl, rfl⟩)
    | go_in)
  go_ret2
  exact ⟨rfl, by go_grown⟩
end Go.Proofs.Ytpbhaheginnkiaa
