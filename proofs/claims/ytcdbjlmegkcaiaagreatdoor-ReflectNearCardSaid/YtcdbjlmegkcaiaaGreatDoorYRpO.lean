/-
  Layer 9, walks: the law's range.
-/
import Derived.Test.YtcdbjlmegkcaiaaGreatDoorYRpE
import Derived.Test.YtcdbjlmegkcaiaaGreatDoorYAg
import Derived.Test.YtcdbjlmegkcaiaaGreatDoorYRfM
namespace Go.Proofs.YtcdbjlmegkcaiaaGreatDoor
open Go Go.RowKit Go.Bw Go.Rt
set_option linter.unusedVariables false
set_option linter.unusedSimpArgs false

/-- a float is 0 or within the range -/
def r9B (x : Nat) : Bool := decide (x % 9223372036854775808 = 0 ∨ 4156822456062967808 ≤ x % 9223372036854775808 ∧ x % 9223372036854775808 ≤ 5057542381537067008)
theorem ord_mag {a b : Nat} (ha : a ≤ 9218868437227405312) (hb : b ≤ 9218868437227405312) : gtA (some a) (some b) = decide (b < a) ∧ ltA (some a) (some b) = decide (a < b) ∧ eqA (some a) (some b) = decide (a = b) := by
  unfold gtA ltA eqA
  by_cases h1 : a = 9218868437227405312
  · have r1 : Ieee.double.read 9218868437227405312 = .infinity false := by decide
    subst h1
    by_cases h2 : b = 9218868437227405312
    · subst h2; decide
    · have hm : b % 9223372036854775808 = b := Nat.mod_eq_of_lt (by omega)
      have r2 := read_word b (by omega)
      have o : aord (some 9218868437227405312) (some b) = some .gt := by
        show (Ieee.double.read 9218868437227405312).order (Ieee.double.read b) = _
        rw [r1, r2]; rfl
      rw [o]
      refine ⟨by rw [decide_eq_true (by omega)]; rfl, by rw [decide_eq_false (by omega)]; rfl, by rw [decide_eq_false (by omega)]; rfl⟩
  · by_cases h2 : b = 9218868437227405312
    · have r1 : Ieee.double.read 9218868437227405312 = .infinity false := by decide
      subst h2
      have r2 := read_word a (by omega)
      have o : aord (some a) (some 9218868437227405312) = some .lt := by
        show (Ieee.double.read a).order (Ieee.double.read 9218868437227405312) = _
        rw [r1, r2]; rfl
      rw [o]
      refine ⟨by rw [decide_eq_false (by omega)]; rfl, by rw [decide_eq_true (by omega)]; rfl, by rw [decide_eq_false (by omega)]; rfl⟩
    · have f1 : fin (a : Int) = true := by unfold fin mag; simp; omega
      have f2 : fin (b : Int) = true := by unfold fin mag; simp; omega
      have h := order_lt a b (by omega) (by omega) f1 f2
      have s1 : sm (a : Int) = a := by unfold sm mag; rw [if_neg (by omega)]; omega
      have s2 : sm (b : Int) = b := by unfold sm mag; rw [if_neg (by omega)]; omega
      rw [s1, s2] at h
      have e : aord (some a) (some b) = FloatKind.f64.format.order a b := rfl
      rw [e, h.1, h.2.1, h.2.2]
      exact ⟨decide_eq_decide.2 (by constructor <;> intro h <;> omega), decide_eq_decide.2 (by constructor <;> intro h <;> omega), decide_eq_decide.2 (by constructor <;> intro h <;> omega)⟩

theorem ord_none9 {a b : Nat} (ha : isN a = true) (bA : a ≤ 18446744073709551615) (bB : b ≤ 18446744073709551615) : FloatKind.f64.format.order a b = none := by
  rw [← aord_is bA bB, af_none ha]; rfl
theorem ord_is9 {a b : Nat} (ha : a ≤ 9218868437227405312) (hb : b ≤ 9218868437227405312) : (FloatKind.f64.format.order a b == some .gt) = decide (b < a) ∧ (FloatKind.f64.format.order a b == some .lt) = decide (a < b) ∧ (FloatKind.f64.format.order a b == some .eq) = decide (a = b) := ord_mag ha hb
theorem r9B_of {x r : Nat} (hx : x ≤ 18446744073709551615) (h1 : af r = absA (af x)) (b1 : r ≤ 18446744073709551615) : r9B x = ((FloatKind.f64.format.order r 0 == some .eq) || ((FloatKind.f64.format.order r 4156822456062967808 == some .gt || FloatKind.f64.format.order r 4156822456062967808 == some .eq) && (FloatKind.f64.format.order r 5057542381537067008 == some .lt || FloatKind.f64.format.order r 5057542381537067008 == some .eq))) := by
  rw [← abs_is x] at h1
  rcases same_af h1 with ⟨n1, n2⟩ | ⟨n1, e⟩
  · rw [ord_none9 n1 b1 (by omega), ord_none9 n1 b1 (by omega), ord_none9 n1 b1 (by omega)]
    unfold isN at n2
    have := of_decide_eq_true n2
    unfold r9B
    rw [decide_eq_false (by omega)]
    rfl
  · have hl := notN_le n1
    have er : r % 9223372036854775808 = r := by omega
    rw [er] at hl
    rw [(ord_is9 hl (by omega)).2.2, (ord_is9 hl (by omega)).1, (ord_is9 hl (by omega)).2.2, (ord_is9 hl (by omega)).2.1, (ord_is9 hl (by omega)).2.2]
    unfold r9B
    rw [← e, ← Bool.decide_or, ← Bool.decide_or, ← Bool.decide_and, ← Bool.decide_or]
    refine decide_eq_decide.2 ?_
    constructor <;> intro h <;> omega
set_option maxHeartbeats 1000000 in
theorem in9_any {x : Nat} (hx : x ≤ 18446744073709551615) (w : World) : Calls Tryz.prog 5 #[.float .f64 x] w fun e w' => e = .returned (.bool (r9B x)) ∧ w = w' := by
  go_enter Tryz.func5, Tryz.ntmps5
  go_wp2_with fail
  with_reducible refine (rAbs_any hx _).mono ?_
  rintro e w1 ⟨r, rfl, h1, b1, rfl⟩
  have hr := Lib.hid (r9B_of hx h1 b1)
  clear h1
  cases c1 : (FloatKind.f64.format.order r 0 == some .eq)
  · cases c2 : (FloatKind.f64.format.order r 4156822456062967808 == some .gt || FloatKind.f64.format.order r 4156822456062967808 == some .eq)
    · go_wp2_with fail
      go_ret
      exact ⟨by rw [hr.out, c1, c2]; rfl, rfl⟩
    · cases c3 : (FloatKind.f64.format.order r 5057542381537067008 == some .lt || FloatKind.f64.format.order r 5057542381537067008 == some .eq)
      · go_wp2_with fail
        go_ret
        exact ⟨by rw [hr.out, c1, c2, c3]; rfl, rfl⟩
      · go_wp2_with fail
        go_ret
        exact ⟨by rw [hr.out, c1, c2, c3]; rfl, rfl⟩
  · go_wp2_with fail
    go_ret
    exact ⟨by rw [hr.out, c1]; rfl, rfl⟩
theorem fvm_vl (y : Nat) : fvm y = (vl (y % 9223372036854775808) : Rat) * 2 ^ (-1074 : Int) := by
  unfold fvm vl
  rw [two_add, two_nat, Rat.natCast_mul]
  grind
theorem r9B_rg {x : Nat} (h : r9B x = true) : finN x ∧ Rz 100 (fvm x) := by
  have h := of_decide_eq_true h
  refine ⟨by unfold finN; omega, ?_⟩
  rcases h with h | ⟨h1, h2⟩
  · exact .inl (fvm_zero h)
  · right
    have a := vl_le.2 h1
    have b := vl_le.2 h2
    rw [fvm_vl]
    have e1 : vl 4156822456062967808 = 2 ^ 974 := by decide +kernel
    have e2 : vl 5057542381537067008 = 2 ^ 1174 := by decide +kernel
    rw [e1] at a
    rw [e2] at b
    have a' : (2 : Rat) ^ 974 ≤ (vl (x % 9223372036854775808) : Rat) := by exact_mod_cast a
    have b' : (vl (x % 9223372036854775808) : Rat) ≤ (2 : Rat) ^ 1174 := by exact_mod_cast b
    generalize (vl (x % 9223372036854775808) : Rat) = V at *
    have p : (0 : Rat) < 2 ^ (-1074 : Int) := two_pos _
    have q1 : (2 : Rat) ^ 974 * 2 ^ (-1074 : Int) * 2 ^ 100 = 1 := by decide +kernel
    have q2 : (2 : Rat) ^ 1174 * 2 ^ (-1074 : Int) = 2 ^ 100 := by decide +kernel
    constructor
    · have := Rat.mul_le_mul_of_nonneg_right (Rat.mul_le_mul_of_nonneg_right a' (Rat.le_of_lt p)) (Rat.le_of_lt (p2_pos 100))
      rw [q1] at this
      exact this
    · have := Rat.mul_le_mul_of_nonneg_right b' (Rat.le_of_lt p)
      rw [q2] at this
      exact this
end Go.Proofs.YtcdbjlmegkcaiaaGreatDoor
