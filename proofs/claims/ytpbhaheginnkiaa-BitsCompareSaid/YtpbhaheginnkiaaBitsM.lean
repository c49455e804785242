/-
  Walks of layer 1, part eleven: the laws on floats, and on the order.
-/
import Derived.Test.YtpbhaheginnkiaaBitsF
import Derived.Test.YtpbhaheginnkiaaBitsK
namespace Go.Proofs.Ytpbhaheginnkiaa
open Go.RowKit Go.Bw
set_option linter.unusedVariables false

/-! ### a float held against itself -/
theorem cls_nan_iff (x : Int) (h0 : 0 ≤ x) (h1 : x ≤ 18446744073709551615) : cls x = 5 ↔ 9218868437227405312 < mag x := by
  rw [mag_eq x h0 h1]
  have hf := fld_bd x
  have hr := frc_bd x
  unfold cls
  repeat' split
  all_goals omega

theorem read_rungs : Ieee.double.signWeight = 9223372036854775808 ∧ Ieee.double.binade = 4503599627370496 ∧ Ieee.double.infRung = 9218868437227405312 := by decide
theorem order_self (n : Nat) : (Ieee.double.order n n != some .eq) = decide (9218868437227405312 < n % 9223372036854775808) := by
  obtain ⟨e1, e2, e3⟩ := read_rungs
  unfold Ieee.Format.order Ieee.Format.read
  rw [e1, e2, e3]
  generalize n % 9223372036854775808 = r
  generalize (n / 9223372036854775808 % 2 == 1) = s
  by_cases a : r < 4503599627370496
  · have : ¬ 9218868437227405312 < r := by omega
    simp [a, this, Ieee.Datum.order]
  · by_cases b : r < 9218868437227405312
    · have : ¬ 9218868437227405312 < r := by omega
      simp [a, b, this, Ieee.Datum.order]
    · by_cases c : r = 9218868437227405312
      · subst c; simp [Ieee.Datum.order]
      · have : 9218868437227405312 < r := by omega
        simp [a, b, c, this, Ieee.Datum.order]

theorem float_nan (x : Int) (h0 : 0 ≤ x) (h1 : x ≤ 18446744073709551615) : (FloatKind.f64.format.order x.toNat x.toNat != some .eq) = (cls x == 5) := by
  have h := order_self x.toNat
  rw [show FloatKind.f64.format = Ieee.double from rfl, h]
  have k := cls_nan_iff x h0 h1
  rw [Bool.eq_iff_iff]
  simp only [decide_eq_true_eq, beq_iff_eq]
  rw [k]
  unfold mag
  omega

theorem of_word (x : Int) (h0 : 0 ≤ x) (h1 : x ≤ 18446744073709551615) (w : World) :
    Calls Try.prog 20 #[.float .f64 x.toNat] w fun e w' => e = .returned (.int .u64 (one x)) ∧ w = w' := by
  have := of_any x.toNat (by omega) w
  rwa [Int.toNat_of_nonneg h0] at this
theorem run_bits_back (x : Int) (h0 : 0 ≤ x) (w : World) : (callFunc 22 #[.float .f64 x.toNat]).run Try.prog w = .ok (.value (.int .u64 x)) w := by
  have := run_float64bits x.toNat w
  rwa [Int.toNat_of_nonneg h0] at this

set_option maxRecDepth 100000 in
set_option maxHeartbeats 1000000 in
theorem law_float (x : Int) (h0 : 0 ≤ x) (h1 : x ≤ 18446744073709551615) (w : World) :
    Calls Try.prog 4 #[.int .u64 x] w fun e w' => e = .returned (.bool true) ∧ Below w.heap.size w w' := by
  have hn := float_nan x h0 h1
  have hx := run_bits_back x h0
  cases hc : cls x == 5
  all_goals
    rw [hc] at hn
    go_enter Try.func4, Try.ntmps4
    go_wp2_with (first
      | (go_at_call 19; refine (float_any _ _).mono ?_; rintro e w' ⟨rfl, rfl⟩)
      | (go_at_call 20; refine (of_word _ h0 h1 _).mono ?_; rintro e w' ⟨rfl, rfl⟩)
      | (go_at_call 15; refine (rclass_any _ h0 h1 _).mono ?_; rintro e w' ⟨rfl, rfl⟩)
      | (go_at_call 21; refine (rone_any _ h0 h1 _).mono ?_; rintro e w' ⟨rfl, rfl⟩)
      | (go_at_call 18; refine (known_any _).mono ?_; rintro e w3 ⟨rfl, hb3⟩))
    go_ret
    exact ⟨rfl, hb3⟩

/-! ### the order -/
/-- the reference's place -/
def rplc (x : Int) : Int := if 9223372036854775808 ≤ x then 9218868437227405312 - (x - 9223372036854775808) else 9218868437227405312 + x
theorem rplc_eq {x : Int} (h0 : 0 ≤ x) (h1 : x ≤ 18446744073709551615) : rplc x = 9218868437227405312 + plc x := by
  unfold rplc plc mag
  split <;> omega

set_option maxHeartbeats 400000 in
theorem rplace_any (x : Int) (h0 : 0 ≤ x) (h1 : x ≤ 18446744073709551615) (hf : -9218868437227405312 ≤ plc x) (hf' : plc x ≤ 9218868437227405312) (w : World) :
    Calls Try.prog 59 #[.int .u64 x] w fun e w' => e = .returned (.int .u64 (9218868437227405312 + plc x)) ∧ w = w' := by
  have hp := rplc_eq h0 h1
  have H := Lib.hid hp
  have hp2 := hp
  unfold rplc at hp2
  clear hp
  by_cases c : 9223372036854775808 ≤ x
  · rw [if_pos c] at hp2
    have g1 : 0 ≤ 9218868437227405312 - (x - 9223372036854775808) := by omega
    have K := Lib.hid hp2
    clear hp2
    go_enter Try.func59, Try.ntmps59
    go_wp2
    go_ret; exact ⟨ret_int K.out, rfl⟩
  · rw [if_neg c] at hp2
    have g1 : 9218868437227405312 + x ≤ 18446744073709551615 := by omega
    have K := Lib.hid hp2
    clear hp2
    go_enter Try.func59, Try.ntmps59
    go_wp2
    go_ret; exact ⟨ret_int K.out, rfl⟩

set_option maxHeartbeats 400000 in
theorem rcompare_any (a b : Int) (a0 : 0 ≤ a) (a1 : a ≤ 18446744073709551615) (b0 : 0 ≤ b) (b1 : b ≤ 18446744073709551615) (ha : -9218868437227405312 ≤ plc a) (ha' : plc a ≤ 9218868437227405312) (hb : -9218868437227405312 ≤ plc b) (hb' : plc b ≤ 9218868437227405312) (w : World) :
    Calls Try.prog 36 #[.int .u64 a, .int .u64 b] w fun e w' => e = .returned (.int .i64 (cmpI (plc a) (plc b))) ∧ w = w' := by
  by_cases c : plc a < plc b
  · go_enter Try.func36, Try.ntmps36
    go_wp2_with (go_at_call 59; refine (rplace_any _ (by assumption) (by assumption) (by assumption) (by assumption) _).mono ?_; rintro e w' ⟨rfl, rfl⟩)
    go_ret; exact ⟨ret_int (by unfold cmpI; rw [if_pos c]), rfl⟩
  · by_cases d : plc b < plc a
    · go_enter Try.func36, Try.ntmps36
      go_wp2_with (go_at_call 59; refine (rplace_any _ (by assumption) (by assumption) (by assumption) (by assumption) _).mono ?_; rintro e w' ⟨rfl, rfl⟩)
      go_ret; exact ⟨ret_int (by unfold cmpI; rw [if_neg (by omega), if_pos d]), rfl⟩
    · go_enter Try.func36, Try.ntmps36
      go_wp2_with (go_at_call 59; refine (rplace_any _ (by assumption) (by assumption) (by assumption) (by assumption) _).mono ?_; rintro e w' ⟨rfl, rfl⟩)
      go_ret; exact ⟨ret_int (by unfold cmpI; rw [if_neg (by omega), if_neg (by omega)]), rfl⟩

theorem rsteps_a {a b : Int} (h : a < b) : (9218868437227405312 + b) - (9218868437227405312 + a) = max a b - min a b := by omega
theorem rsteps_b {a b : Int} (h : ¬ a < b) : (9218868437227405312 + a) - (9218868437227405312 + b) = max a b - min a b := by omega
set_option maxHeartbeats 400000 in
theorem rsteps_any (a b : Int) (a0 : 0 ≤ a) (a1 : a ≤ 18446744073709551615) (b0 : 0 ≤ b) (b1 : b ≤ 18446744073709551615) (ha : -9218868437227405312 ≤ plc a) (ha' : plc a ≤ 9218868437227405312) (hb : -9218868437227405312 ≤ plc b) (hb' : plc b ≤ 9218868437227405312) (w : World) :
    Calls Try.prog 37 #[.int .u64 a, .int .u64 b] w fun e w' => e = .returned (.int .u64 (max (plc a) (plc b) - min (plc a) (plc b))) ∧ w = w' := by
  by_cases c : plc a < plc b
  · go_enter Try.func37, Try.ntmps37
    go_wp2_with (go_at_call 59; refine (rplace_any _ (by assumption) (by assumption) (by assumption) (by assumption) _).mono ?_; rintro e w' ⟨rfl, rfl⟩)
    go_ret; exact ⟨ret_int (by omega), rfl⟩
  · go_enter Try.func37, Try.ntmps37
    go_wp2_with (go_at_call 59; refine (rplace_any _ (by assumption) (by assumption) (by assumption) (by assumption) _).mono ?_; rintro e w' ⟨rfl, rfl⟩)
    go_ret; exact ⟨ret_int (by omega), rfl⟩

set_option maxRecDepth 100000 in
set_option maxHeartbeats 1000000 in
theorem law_compare (a b : Int) (a0 : 0 ≤ a) (a1 : a ≤ 18446744073709551615) (b0 : 0 ≤ b) (b1 : b ≤ 18446744073709551615) (w : World) :
    Calls Try.prog 9 #[.int .u64 a, .int .u64 b] w fun e w' => e = .returned (.bool true) ∧ Below w.heap.size w w' := by
  by_cases hn : (cls a == 5) = true ∨ (cls a == 5) = false ∧ (cls b == 5) = true
  · have HN := Lib.hid hn
    rcases hn with hn | ⟨hn, hn'⟩
    all_goals
      go_enter Try.func9, Try.ntmps9
      go_wp2_with (first
        | (go_at_call 34; refine (compare_no _ _ a0 a1 b0 b1 HN.out _).mono ?_; rintro e w1 ⟨rfl, hb1⟩; have z1 := hb1.size)
        | (go_at_call 35; refine (steps_no _ _ a0 a1 b0 b1 HN.out _).mono ?_; rintro e w2 ⟨rfl, hb2⟩; have z2 := hb2.size)
        | (go_at_call 15; refine (rclass_any _ (by assumption) (by assumption) _).mono ?_; rintro e w' ⟨rfl, rfl⟩)
        | (go_at_call 25; refine (num_any _ _).mono ?_; rintro e w' ⟨rfl, rfl⟩)
        | (go_at_call 18; refine (known_any _).mono ?_; rintro e w3 ⟨rfl, hb3⟩))
      go_ret
      exact ⟨rfl, hb1.trans ((hb2.mono z1).trans (hb3.mono (by omega)))⟩
  · have ha : (cls a == 5) = false := by
      cases h : cls a == 5
      · rfl
      · exact absurd (Or.inl h) hn
    have hb : (cls b == 5) = false := by
      cases h : cls b == 5
      · rfl
      · exact absurd (Or.inr ⟨ha, h⟩) hn
    clear hn
    obtain ⟨pa, pa'⟩ := plc_fin a0 a1 ha
    obtain ⟨pb, pb'⟩ := plc_fin b0 b1 hb
    go_enter Try.func9, Try.ntmps9
    go_wp2_with (first
      | (go_at_call 34; refine (compare_ok _ _ a0 a1 b0 b1 ha hb _).mono ?_; rintro e w1 ⟨rfl, hb1⟩; have z1 := hb1.size)
      | (go_at_call 35; refine (steps_ok _ _ a0 a1 b0 b1 ha hb _).mono ?_; rintro e w2 ⟨rfl, hb2⟩; have z2 := hb2.size)
      | (go_at_call 15; refine (rclass_any _ (by assumption) (by assumption) _).mono ?_; rintro e w' ⟨rfl, rfl⟩)
      | (go_at_call 36; refine (rcompare_any _ _ a0 a1 b0 b1 pa pa' pb pb' _).mono ?_; rintro e w' ⟨rfl, rfl⟩)
      | (go_at_call 37; refine (rsteps_any _ _ a0 a1 b0 b1 pa pa' pb pb' _).mono ?_; rintro e w' ⟨rfl, rfl⟩)
      | (go_at_call 25; refine (num_any _ _).mono ?_; rintro e w' ⟨rfl, rfl⟩)
      | (go_at_call 18; refine (known_any _).mono ?_; rintro e w3 ⟨rfl, hb3⟩))
    go_ret
    exact ⟨rfl, hb1.trans ((hb2.mono z1).trans (hb3.mono (by omega)))⟩
end Go.Proofs.Ytpbhaheginnkiaa
