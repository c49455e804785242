/-
  Layer 6, plain mathematics: words times 2^p, and what operations make of them.
-/
import Derived.Test.YtmfikppnkjhmjaaRtE
namespace Go.Bw
open Go Go.Rt
set_option linter.unusedVariables false
set_option linter.unusedSimpArgs false
/-- a word, its exponent's field p more -/
def shw (y : Nat) (p : Int) : Nat := ((y : Int) + p * 4503599627370496).toNat
/-- a normal word that stays one -/
def Stays (y : Nat) (p : Int) : Prop := 1 ≤ y % 9223372036854775808 / 4503599627370496 ∧ y % 9223372036854775808 / 4503599627370496 ≤ 2046 ∧ 1 ≤ ((y % 9223372036854775808 / 4503599627370496 : Nat) : Int) + p ∧ ((y % 9223372036854775808 / 4503599627370496 : Nat) : Int) + p ≤ 2046
theorem shw_facts {y : Nat} {p : Int} (h : Stays y p) :
    (shw y p : Int) = (y : Int) + p * 4503599627370496 ∧ ((shw y p % 9223372036854775808 : Nat) : Int) = ((y % 9223372036854775808 : Nat) : Int) + p * 4503599627370496 ∧ shw y p / 9223372036854775808 = y / 9223372036854775808 ∧ dg (shw y p % 9223372036854775808) = dg (y % 9223372036854775808) ∧ ((pl (shw y p % 9223372036854775808) : Nat) : Int) = (pl (y % 9223372036854775808) : Nat) + p ∧ finN y ∧ finN (shw y p) := by
  obtain ⟨h1, h2, h3, h4⟩ := h
  have e0 : (shw y p : Int) = (y : Int) + p * 4503599627370496 := by unfold shw; omega
  have e1 : ((shw y p % 9223372036854775808 : Nat) : Int) = ((y % 9223372036854775808 : Nat) : Int) + p * 4503599627370496 := by omega
  refine ⟨e0, e1, by omega, ?_, ?_, by unfold finN; omega, by unfold finN; omega⟩
  · unfold dg
    rw [if_neg (by omega), if_neg (by omega)]
    omega
  · unfold pl
    rw [if_neg (by omega), if_neg (by omega)]
    omega
theorem shw_val {y : Nat} {p : Int} (h : Stays y p) : fvm (shw y p) = fvm y * 2 ^ p := by
  obtain ⟨-, -, -, h1, h2, -⟩ := shw_facts h
  unfold fvm
  rw [h1, h2, ← Int.add_assoc, two_add, Rat.mul_assoc]
theorem low_place {M : Nat} {e : Int} (h : (2 : Rat) ^ (-1022 : Int) ≤ (M : Rat) * 2 ^ e) : -1022 ≤ e + (M.log2 : Int) := by
  refine Int.not_lt.1 fun hc => ?_
  have a : M < 2 ^ (M.log2 + 1) := Nat.lt_log2_self
  have b : (M : Rat) < ((2 ^ (M.log2 + 1) : Nat) : Rat) := by exact_mod_cast a
  have c := Rat.mul_lt_mul_of_pos_right b (two_pos e)
  rw [nat_cast_pow2] at c
  have d := two_le (show ((M.log2 + 1 : Nat) : Int) + e ≤ -1022 by omega)
  grind
theorem signW_sh {neg : Bool} {A B p : Int} {r s : Nat} (hr : (r : Int) = signW neg (min A inf)) (hs : (s : Int) = signW neg (min (A + p * 4503599627370496) inf)) (fr : finN r) (fs : finN s) (hA : 0 ≤ A) (hB : 0 ≤ A + p * 4503599627370496) : s = shw r p := by
  unfold finN at fr fs
  unfold shw
  unfold signW inf at hr hs
  cases neg
  · rw [if_neg (by decide)] at hr hs; omega
  · rw [if_pos rfl] at hr hs; omega
/-- what is rounded, times 2^p -/
theorem near_shw {neg : Bool} {M : Nat} {e p : Int} (h1 : (2 : Rat) ^ (-1022 : Int) ≤ (M : Rat) * 2 ^ e) (h2 : (M : Rat) * 2 ^ e < 2 ^ (1023 : Int)) (h3 : (2 : Rat) ^ (-1022 : Int) ≤ (M : Rat) * 2 ^ (e + p)) (h4 : (M : Rat) * 2 ^ (e + p) < 2 ^ (1023 : Int)) : Ieee.double.nearest neg M (e + p) = shw (Ieee.double.nearest neg M e) p := by
  have hM : M ≠ 0 := fun c => by
    subst c
    have := two_pos (-1022)
    have h0 : ((0 : Nat) : Rat) = 0 := by decide
    rw [h0] at h1
    grind
  have f1 := (near_all neg M e h2).1
  have f2 := (near_all neg M (e + p) h4).1
  have l1 := low_place h1
  have l2 := low_place h3
  have n1 := nearest_is neg M e hM
  have n2 := nearest_is neg M (e + p) hM
  rw [show max (e + (M.log2 : Int) - 52) (-1074) = e + (M.log2 : Int) - 52 by omega] at n1
  rw [show max (e + p + (M.log2 : Int) - 52) (-1074) = e + p + (M.log2 : Int) - 52 by omega] at n2
  rw [show e + (M.log2 : Int) - 52 - e = (M.log2 : Int) - 52 by omega] at n1
  rw [show e + p + (M.log2 : Int) - 52 - (e + p) = (M.log2 : Int) - 52 by omega] at n2
  have hK : 0 ≤ (if (M.log2 : Int) - 52 ≤ 0 then (M : Int) * 2 ^ (-((M.log2 : Int) - 52)).toNat
       else ((M / 2 ^ ((M.log2 : Int) - 52).toNat : Nat) : Int) + (if 2 ^ ((M.log2 : Int) - 52).toNat < 2 * (M % 2 ^ ((M.log2 : Int) - 52).toNat) ∨
         (2 ^ ((M.log2 : Int) - 52).toNat = 2 * (M % 2 ^ ((M.log2 : Int) - 52).toNat) ∧ M / 2 ^ ((M.log2 : Int) - 52).toNat % 2 = 1) then 1 else 0)) := by
    split
    · exact Int.mul_nonneg (by omega) (Int.le_of_lt (Int.pow_pos (by decide)))
    · exact Int.add_nonneg (Int.natCast_nonneg _) (by split <;> decide)
  generalize (if (M.log2 : Int) - 52 ≤ 0 then (M : Int) * 2 ^ (-((M.log2 : Int) - 52)).toNat
       else ((M / 2 ^ ((M.log2 : Int) - 52).toNat : Nat) : Int) + (if 2 ^ ((M.log2 : Int) - 52).toNat < 2 * (M % 2 ^ ((M.log2 : Int) - 52).toNat) ∨
         (2 ^ ((M.log2 : Int) - 52).toNat = 2 * (M % 2 ^ ((M.log2 : Int) - 52).toNat) ∧ M / 2 ^ ((M.log2 : Int) - 52).toNat % 2 = 1) then 1 else 0)) = K at *
  refine signW_sh (B := 0) n1 ?_ f1 f2 ?_ ?_
  · rw [n2]
    congr 2
    omega
  · omega
  · omega
/-- a product, one of the two times 2^p -/
theorem mul_shw {y z : Nat} {p : Int} (hy : Stays y p) (hz : finN z) (h1 : (2 : Rat) ^ (-1022 : Int) ≤ fvm y * fvm z) (h2 : fvm y * fvm z < 2 ^ (1023 : Int)) (h3 : (2 : Rat) ^ (-1022 : Int) ≤ fvm y * fvm z * 2 ^ p) (h4 : fvm y * fvm z * 2 ^ p < 2 ^ (1023 : Int)) :
    Ieee.double.mul (shw y p) z = (Ieee.double.mul y z).map (shw · p) := by
  obtain ⟨-, -, es, ed, ep, fy, fs⟩ := shw_facts hy
  have e : ((dg (y % 9223372036854775808) * dg (z % 9223372036854775808) : Nat) : Rat) * 2 ^ ((-1074 : Int) + (pl (y % 9223372036854775808) : Nat) + (-1074 + (pl (z % 9223372036854775808) : Nat))) = fvm y * fvm z := by
    unfold fvm
    rw [two_add, Rat.natCast_mul]
    grind
  unfold Ieee.Format.mul
  rw [read_word _ fs, read_word _ fy, read_word z hz, es, ed, ep]
  rw [show (-1074 : Int) + ((pl (y % 9223372036854775808) : Nat) + p) = -1074 + (pl (y % 9223372036854775808) : Nat) + p by omega]
  have e2 : ((dg (y % 9223372036854775808) * dg (z % 9223372036854775808) : Nat) : Rat) * 2 ^ ((-1074 : Int) + (pl (y % 9223372036854775808) : Nat) + (-1074 + (pl (z % 9223372036854775808) : Nat)) + p) = fvm y * fvm z * 2 ^ p := by
    rw [two_add _ p, ← Rat.mul_assoc, e]
  generalize -1074 + ((pl (y % 9223372036854775808) : Nat) : Int) = i at *
  generalize -1074 + ((pl (z % 9223372036854775808) : Nat) : Int) = j at *
  show some (Ieee.double.nearest _ _ (i + p + j)) = some (shw (Ieee.double.nearest _ _ (i + j)) p)
  rw [show i + p + j = i + j + p by omega]
  rw [near_shw (by rw [e]; exact h1) (by rw [e]; exact h2) (by rw [e2]; exact h3) (by rw [e2]; exact h4)]
/-- a quotient, both times 2^p -/
theorem div_shw {y z : Nat} {p : Int} (hy : Stays y p) (hz : Stays z p) : Ieee.double.div (shw y p) (shw z p) = Ieee.double.div y z := by
  obtain ⟨-, -, es, ed, ep, fy, fs⟩ := shw_facts hy
  obtain ⟨-, -, es2, ed2, ep2, fy2, fs2⟩ := shw_facts hz
  have n0 : dg (z % 9223372036854775808) ≠ 0 := by
    have := hz.1
    unfold dg
    split <;> omega
  have hq : ∀ a b, Ieee.double.div a b = ((Ieee.double.read a).quotient 54 (Ieee.double.read b)).map Ieee.double.write := fun _ _ => rfl
  rw [hq, hq, read_word _ fs, read_word _ fs2, read_word _ fy, read_word _ fy2, es, es2, ed, ed2, ep, ep2, quot_any _ _ _ _ _ _ n0, quot_any _ _ _ _ _ _ n0]
  congr 3
  omega
end Go.Bw
