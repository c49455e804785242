/-
  Layer 5, plain mathematics: a float's half and double by the machine; the greatest size of a list.
-/
import Derived.Test.YtfaemgdeoamijaaGuF
namespace Go.Bw
open Go
set_option linter.unusedVariables false
set_option linter.unusedSimpArgs false

theorem near_norm (M : Nat) (e : Int) (h0 : 4503599627370496 ≤ M) (h1 : M < 9007199254740992) (e0 : -1074 ≤ e) (e1 : e ≤ 971) : (Ieee.double.nearest false M e : Int) = (e + 1074) * 4503599627370496 + M := by
  have hl : M.log2 = 52 := by
    rw [Nat.log2_eq_iff (by omega)]
    exact ⟨by omega, by omega⟩
  rw [nearest_is false M e (by omega), hl]
  have hm : max (e + ((52 : Nat) : Int) - 52) (-1074) = e := by omega
  rw [hm, if_pos (by omega), show (-(e - e)).toNat = 0 by omega]
  unfold signW inf
  rw [if_neg (by decide), Int.pow_zero, Int.mul_one]
  omega
theorem near_sub (M : Nat) (h0 : 0 < M) (h1 : M < 4503599627370496) : (Ieee.double.nearest false M (-1073) : Int) = 2 * M := by
  have hl : M.log2 ≤ 51 := by
    have : M.log2 < 52 := (Nat.log2_lt (by omega)).2 (by omega)
    omega
  rw [nearest_is false M (-1073) (by omega)]
  have hm : max (-1073 + (M.log2 : Int) - 52) (-1074) = -1074 := by omega
  rw [hm, if_pos (by omega), show (-((-1074 : Int) - -1073)).toNat = 1 by omega]
  unfold signW inf
  rw [if_neg (by decide), Int.pow_one]
  omega
theorem read_two : Ieee.double.read 4611686018427387904 = .number false 4503599627370496 (-51) := by decide
theorem read_pos (y : Nat) (hf : y < 9218868437227405312) : Ieee.double.read y = .number false (dg y) (-1074 + (pl y : Nat)) := by
  have e : y % 9223372036854775808 = y := Nat.mod_eq_of_lt (by omega)
  have h := read_word y (by rw [e]; exact hf)
  rw [e] at h
  have s : (y / 9223372036854775808 % 2 == 1) = false := by simp; omega
  rw [h, s]
theorem dg_norm {y : Nat} (h : 4503599627370496 ≤ y) : dg y = 4503599627370496 + y % 4503599627370496 ∧ pl y = y / 4503599627370496 - 1 := by
  unfold dg pl
  rw [if_neg (by omega), if_neg (by omega)]
  exact ⟨rfl, rfl⟩
theorem double_mach (y : Nat) (h0 : 0 < y) (hf : y < 9214364837600034816) : Ieee.double.mul y 4611686018427387904 = some (if y < 4503599627370496 then 2 * y else y + 4503599627370496) := by
  unfold Ieee.Format.mul
  rw [read_pos y (by omega), read_two]
  unfold Ieee.Datum.product
  simp only [Option.map_some, Bool.xor_false]
  congr 1
  unfold Ieee.Format.write
  simp only
  have hd : dg y ≠ 0 := by unfold dg; split <;> omega
  have e : -1074 + ((pl y : Nat) : Int) + -51 = (-1074 + ((pl y : Nat) : Int) + 1) - (52 : Nat) := by omega
  rw [e, show (4503599627370496 : Nat) = 2 ^ 52 from rfl, nearest_shift false _ 52 _ hd]
  apply Int.ofNat_inj.1
  by_cases c : y < 4503599627370496
  · rw [if_pos c]
    have d1 : dg y = y := by unfold dg; rw [if_pos c]
    have p1 : pl y = 0 := by unfold pl; rw [if_pos c]
    rw [d1, p1]
    have := near_sub y h0 c
    simpa using this
  · rw [if_neg c]
    obtain ⟨d1, p1⟩ := dg_norm (y := y) (by omega)
    rw [d1, p1]
    have := near_norm (4503599627370496 + y % 4503599627370496) (-1074 + ((y / 4503599627370496 - 1 : Nat) : Int) + 1) (by omega) (by omega) (by omega) (by omega)
    rw [this]
    omega
theorem quot_num (m n : Nat) (i j : Int) (hn : n ≠ 0) : (Ieee.Datum.number false m i).quotient 54 (.number false n j) = some (.number false (2 * (m <<< (54 + n.log2 - m.log2) / n) + (m <<< (54 + n.log2 - m.log2) % n != 0).toNat) (i - j - ((54 + n.log2 - m.log2 : Nat) : Int) - 1)) := by
  unfold Ieee.Datum.quotient
  simp only [if_neg hn, Bool.xor_false]
theorem quot_two (m : Nat) (i : Int) (hl : m.log2 = 52) : (Ieee.Datum.number false m i).quotient 54 (.number false 4503599627370496 (-51)) = some (.number false (m * 2 ^ 3) (i - 1 - (3 : Nat))) := by
  have hl2 : (4503599627370496 : Nat).log2 = 52 := by decide
  rw [quot_num m _ i _ (by decide), hl, hl2]
  have e : m <<< (54 + 52 - 52) = (m * 4) * 4503599627370496 := by rw [Nat.shiftLeft_eq]; omega
  rw [e, Nat.mul_div_cancel _ (by decide), Nat.mul_mod_left]
  have e1 : 2 * (m * 4) + (0 != 0 : Bool).toNat = m * 2 ^ 3 := by simp; omega
  have e2 : i - -51 - ((54 + 52 - 52 : Nat) : Int) - 1 = i - 1 - (3 : Nat) := by omega
  rw [e1, e2]
theorem half_mach (y : Nat) (h0 : 9007199254740992 ≤ y) (hf : y < 9218868437227405312) : Ieee.double.div y 4611686018427387904 = some (y - 4503599627370496) := by
  have hq : Ieee.double.div y 4611686018427387904 = ((Ieee.double.read y).quotient 54 (Ieee.double.read 4611686018427387904)).map Ieee.double.write := rfl
  obtain ⟨d1, p1⟩ := dg_norm (y := y) (by omega)
  rw [hq, read_pos y hf, read_two, d1, p1]
  obtain ⟨m, hm⟩ : ∃ m, 4503599627370496 + y % 4503599627370496 = m := ⟨_, rfl⟩
  have m0 : 4503599627370496 ≤ m := by omega
  have m1 : m < 9007199254740992 := by omega
  have hl : m.log2 = 52 := by
    rw [Nat.log2_eq_iff (by omega)]
    exact ⟨by omega, by omega⟩
  rw [hm, quot_two m _ hl]
  simp only [Option.map_some, Ieee.Format.write]
  rw [nearest_shift false m 3 _ (by omega)]
  refine congrArg some (Int.ofNat_inj.1 ?_)
  rw [near_norm m _ m0 m1 (by omega) (by omega)]
  omega
end Go.Bw
