/-
  Layer 6, plain mathematics: the machine's rotation is nearly of length 1, whatever finite floats are turned.
-/
import Derived.Test.YtmfikppnkjhmjaaRtD
namespace Go.Bw
open Go Go.Rt
set_option linter.unusedVariables false
set_option linter.unusedSimpArgs false
theorem tiny : (2 : Rat) ^ (-1075 : Int) ≤ 1/2305843009213693952 := by
  have a := two_le (show (-1075 : Int) ≤ -61 by decide)
  have b : (2 : Rat) ^ (-61 : Int) = 1/2305843009213693952 := by decide +kernel
  rw [b] at a; exact a
theorem big : (1024 : Rat) ≤ 2 ^ (1023 : Int) := by
  have a := two_le (show (10 : Int) ≤ 1023 by decide)
  have b : (2 : Rat) ^ (10 : Int) = 1024 := by decide
  rw [b] at a; exact a
theorem fvm_pos {y : Nat} (h : dg (y % 9223372036854775808) ≠ 0) : 0 < fvm y := Rat.mul_pos (by exact_mod_cast Nat.pos_of_ne_zero h) (two_pos _)
theorem dg_of_pos {y : Nat} (h : 0 < fvm y) : dg (y % 9223372036854775808) ≠ 0 := fun e => by
  unfold fvm at h
  rw [e] at h
  have : ((0 : Nat) : Rat) = 0 := by decide
  rw [this] at h
  grind
abbrev oneW : Nat := 4607182418800017408
theorem fvm_one : fvm oneW = 1 := by
  unfold fvm
  rw [show dg (oneW % 9223372036854775808) = 2 ^ 52 by decide, show pl (oneW % 9223372036854775808) = 1022 by decide, ← two_nat, ← two_add]
  decide
theorem one_fin : oneW < 9218868437227405312 := by decide
theorem lt_of_fin {r : Nat} (h : finN r) (h2 : r < 9223372036854775808) : r < 9218868437227405312 := by unfold finN at h; omega
theorem fin_of_lt {r : Nat} (h : r < 9218868437227405312) : finN r := by unfold finN; omega
theorem rot {f g : Nat} (hf : finN f) (hg : finN g) (f0 : dg (f % 9223372036854775808) ≠ 0) (g0 : dg (g % 9223372036854775808) ≠ 0) (h : fvm g ≤ fvm f) :
    ∃ t v w Q c s, Ieee.double.div g f = some t ∧ Ieee.double.mul t t = some v ∧ Ieee.double.add oneW v = some w ∧ Ieee.double.sqrt w = some Q ∧ Ieee.double.div oneW Q = some c ∧ Ieee.double.mul c t = some s ∧
      finN t ∧ v < 9218868437227405312 ∧ w < 9218868437227405312 ∧ Q < 9218868437227405312 ∧ c < 9218868437227405312 ∧ finN s ∧
      fvm Q ≤ 2 ∧ 1/2 ≤ fvm Q ∧ fvm c * fvm c + fvm s * fvm s ≤ 1 + 1/562949953421312 ∧ 1 - 1/562949953421312 ≤ fvm c * fvm c + fvm s * fvm s := by
  have tn := tiny
  have bg := big
  have tp := two_pos (-1075)
  have F0 := fvm_pos f0
  have G0 := fvm_pos g0
  obtain ⟨t, ht, tf, -, t1, t2⟩ := div_val hg hf g0 f0 (by
    have := Rat.mul_le_mul_of_nonneg_right bg (Rat.le_of_lt F0)
    grind)
  have T0 := fvm_nonneg t
  have T1 : fvm t ≤ 1 + 1/1125899906842624 := by
    refine Rat.le_of_mul_le_mul_right (c := fvm f) ?_ F0
    have := Rat.mul_le_mul_of_nonneg_right tn (Rat.le_of_lt F0)
    grind
  have TT := le_mul T1 T1 T0 T0
  have TT0 : 0 ≤ fvm t * fvm t := Rat.mul_nonneg T0 T0
  obtain ⟨v, hv, vf, vs, v1, v2⟩ := mul_val tf tf (by grind)
  have vl := lt_of_fin vf (vs rfl)
  have V0 := fvm_nonneg v
  obtain ⟨w, hw, wf, ws, w1, w2⟩ := add_val one_fin vl (by rw [fvm_one]; grind)
  rw [fvm_one] at w1 w2
  have wl := lt_of_fin wf ws
  have W1 : 1/2 ≤ fvm w := by grind
  have W2 : fvm w ≤ 3 := by grind
  have w0 : dg w ≠ 0 := by
    have := dg_of_pos (y := w) (by grind)
    rwa [Nat.mod_eq_of_lt ws] at this
  obtain ⟨Q, hQ, Qf, Qs, q1, q2, q3⟩ := sqrt_val wl w0 W1 (by grind)
  have Ql := lt_of_fin Qf Qs
  have Q2 : fvm Q ≤ 2 := by
    refine Rat.not_lt.1 fun hc => ?_
    have := le_mul (Rat.le_of_lt hc) (Rat.le_of_lt hc) (by grind) (by grind)
    grind
  have Q1 : 1/2 ≤ fvm Q := by
    refine Rat.not_lt.1 fun hc => ?_
    have := le_mul (Rat.le_of_lt hc) (Rat.le_of_lt hc) (Rat.le_of_lt q3) (Rat.le_of_lt q3)
    grind
  obtain ⟨c, hc, cf, cs, c1, c2⟩ := div_val (y := oneW) (z := Q) (fin_of_lt one_fin) Qf (by decide) (dg_of_pos q3) (by
    rw [fvm_one]
    have := Rat.mul_le_mul_of_nonneg_right bg (Rat.le_of_lt q3)
    grind)
  rw [fvm_one] at c1 c2
  have tQ := Rat.mul_le_mul_of_nonneg_right tn (Rat.le_of_lt q3)
  have cl := lt_of_fin cf (cs (by rw [Nat.div_eq_of_lt Qs]; decide))
  have C0 := fvm_nonneg c
  have cq1 : fvm c * fvm Q ≤ 1 + 1/4503599627370496 + 1/1152921504606846976 := by grind
  have cq2 : 1 - 1/4503599627370496 - 1/1152921504606846976 ≤ fvm c * fvm Q := by grind
  have C1 : fvm c ≤ 3 := by
    have := Rat.mul_le_mul_of_nonneg_left Q1 C0
    grind
  have Cp : 0 < fvm c := by
    refine Rat.not_le.1 fun hc => ?_
    have : fvm c = 0 := Rat.le_antisymm hc C0
    rw [this] at cq2
    grind
  have CT := le_mul C1 T1 C0 T0
  have CT0 : 0 ≤ fvm c * fvm t := Rat.mul_nonneg C0 T0
  obtain ⟨s, hs, sf, -, s1, s2⟩ := mul_val cf tf (by grind)
  have S0 := fvm_nonneg s
  refine ⟨t, v, w, Q, c, s, ht, hv, hw, hQ, hc, hs, tf, vl, wl, Ql, cl, sf, Q2, Q1, ?_, ?_⟩
  · have a2 : fvm t * fvm t * (1 - 1/4503599627370496) - 1/1152921504606846976 ≤ fvm v := by clear w1 w2 q1 q2 cq1 cq2 s1 s2 t1 t2; grind
    have a3 : (1 + fvm v) * (1 - 1/4503599627370496) - 1/1152921504606846976 ≤ fvm w := by clear v1 v2 w1 q1 q2 cq1 cq2 s1 s2 t1 t2; grind
    have a4 : fvm s ≤ fvm c * fvm t * (1 + 1/4503599627370496) + 1/1152921504606846976 := by clear v1 v2 w1 w2 q1 q2 cq1 cq2 s2 t1 t2; grind
    exact rot_upper T0 T1 (v := fvm v) (w := fvm w) (Q := fvm Q) a2 a3 q2 q3 Q2 cq1 Cp a4 S0
  · have a2 : fvm v ≤ fvm t * fvm t * (1 + 1/4503599627370496) + 1/1152921504606846976 := by clear w1 w2 q1 q2 cq1 cq2 s1 s2 t1 t2; grind
    have a3 : fvm w ≤ (1 + fvm v) * (1 + 1/4503599627370496) + 1/1152921504606846976 := by clear v1 v2 w2 q1 q2 cq1 cq2 s1 s2 t1 t2; grind
    have a4 : fvm c * fvm t * (1 - 1/4503599627370496) - 1/1152921504606846976 ≤ fvm s := by clear v1 v2 w1 w2 q1 q2 cq1 cq2 s1 t1 t2; grind
    exact rot_lower T0 T1 (v := fvm v) (w := fvm w) (Q := fvm Q) a2 a3 q1 q3 Q2 cq2 Cp a4 S0
end Go.Bw
