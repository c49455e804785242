/-
  Layer 6: lengths of two: symmetric; times 2^k; Norm of two is Hypot.
-/
import Derived.Test.YtmfikppnkjhmjaaAfL
import Derived.Test.YtmfikppnkjhmjaaRtH
namespace Go.Proofs.Ytmfikppnkjhmjaa
open Go Go.RowKit Go.Bw
set_option linter.unusedVariables false
set_option linter.unusedSimpArgs false

/-- the order of two of no sign -/
theorem ord_mag {a b : Nat} (ha : a ≤ 9218868437227405312) (hb : b ≤ 9218868437227405312) : gtA (some a) (some b) = decide (b < a) ∧ ltA (some a) (some b) = decide (a < b) ∧ eqA (some a) (some b) = decide (a = b) := by
  unfold gtA ltA eqA
  by_cases h1 : a = 9218868437227405312
  · have r1 : Ieee.double.read 9218868437227405312 = .infinity false := by decide
    subst h1
    by_cases h2 : b = 9218868437227405312
    · subst h2; decide
    · have hm : b % 9223372036854775808 = b := Nat.mod_eq_of_lt (by omega)
      have r2 := read_word b (by omega)
      have o : aord (some 9218868437227405312) (some b) = some .gt := by
        show (Ieee.double.read 9218868437227405312).order (Ieee.double.read b) = _
        rw [r1, r2]; rfl
      rw [o]
      refine ⟨by rw [decide_eq_true (by omega)]; rfl, by rw [decide_eq_false (by omega)]; rfl, by rw [decide_eq_false (by omega)]; rfl⟩
  · by_cases h2 : b = 9218868437227405312
    · have r1 : Ieee.double.read 9218868437227405312 = .infinity false := by decide
      subst h2
      have r2 := read_word a (by omega)
      have o : aord (some a) (some 9218868437227405312) = some .lt := by
        show (Ieee.double.read a).order (Ieee.double.read 9218868437227405312) = _
        rw [r1, r2]; rfl
      rw [o]
      refine ⟨by rw [decide_eq_false (by omega)]; rfl, by rw [decide_eq_true (by omega)]; rfl, by rw [decide_eq_false (by omega)]; rfl⟩
    · have f1 : fin (a : Int) = true := by unfold fin mag; simp; omega
      have f2 : fin (b : Int) = true := by unfold fin mag; simp; omega
      have h := order_lt a b (by omega) (by omega) f1 f2
      have s1 : sm (a : Int) = a := by unfold sm mag; rw [if_neg (by omega)]; omega
      have s2 : sm (b : Int) = b := by unfold sm mag; rw [if_neg (by omega)]; omega
      rw [s1, s2] at h
      have e : aord (some a) (some b) = FloatKind.f64.format.order a b := rfl
      rw [e, h.1, h.2.1, h.2.2]
      exact ⟨decide_eq_decide.2 (by constructor <;> intro h <;> omega), decide_eq_decide.2 (by constructor <;> intro h <;> omega), decide_eq_decide.2 (by constructor <;> intro h <;> omega)⟩
theorem notN_le {x : Nat} (h : isN x = false) : x % 9223372036854775808 ≤ 9218868437227405312 := by
  unfold isN at h
  have := of_decide_eq_false h
  omega
theorem hyp_comm {x y : Nat} (hx : isN x = false) (hy : isN y = false) : hypA (some x) (some y) = hypA (some y) (some x) := by
  unfold hypA absA
  simp only [Option.map_some]
  rw [(ord_mag (notN_le hy) (notN_le hx)).1, (ord_mag (notN_le hx) (notN_le hy)).1]
  generalize x % 9223372036854775808 = a at *
  generalize y % 9223372036854775808 = b at *
  by_cases c : a < b
  · rw [decide_eq_true c, decide_eq_false (by omega), if_pos rfl, if_neg (by decide)]
  · by_cases d : b < a
    · rw [decide_eq_false c, decide_eq_true d, if_pos rfl, if_neg (by decide)]
    · have : a = b := by omega
      subst this; rfl
theorem mul_aop (x y : Nat) : aop .mul (some x) (some y) = Ieee.double.mul x y := rfl
theorem add_aop (x y : Nat) : aop .add (some x) (some y) = Ieee.double.add x y := rfl
theorem quo_aop (x y : Nat) : aop .quo (some x) (some y) = Ieee.double.div x y := rfl
theorem vl_fvm (y : Nat) (hy : y < 9223372036854775808) : fvm y = (vl y : Rat) * 2 ^ (-1074 : Int) := by
  unfold fvm vl
  rw [Nat.mod_eq_of_lt hy, Rat.natCast_mul, ← two_nat, two_add]
  grind
theorem fvm_le {a b : Nat} (hb : b < 9223372036854775808) (h : a ≤ b) : fvm a ≤ fvm b := by
  rw [vl_fvm a (by omega), vl_fvm b hb]
  have : (vl a : Rat) ≤ (vl b : Rat) := by exact_mod_cast vl_le.2 h
  exact Rat.mul_le_mul_of_nonneg_right this (Rat.le_of_lt (two_pos _))
theorem dg_ne {a : Nat} (h : a ≠ 0) : dg a ≠ 0 := by unfold dg; split <;> omega
theorem len_one (t v w Q : Nat) (h1 : Ieee.double.mul t t = some v) (h2 : Ieee.double.add oneW v = some w) (h3 : Ieee.double.sqrt w = some Q) : rootA (some t) = some Q := by
  unfold rootA
  rw [mul_aop, h1, add_aop, h2]
  exact h3
theorem root_nought : rootA (some 0) = some oneW := by decide +kernel
theorem sum_nought : aop .add (some 4607182418800017408) (aop .mul (aop .mul (some 4607182418800017408) (some 0)) (some 0)) = some 4607182418800017408 := by decide +kernel
theorem eq_nought {z : Nat} (hz : finN z) (bz : z ≤ 18446744073709551615) : eqA (some z) (some 0) = decide (z % 9223372036854775808 = 0) := by
  unfold finN at hz
  have f1 : fin (z : Int) = true := by unfold fin mag; simp; omega
  have h := (order_lt z 0 bz (by omega) f1 (by decide)).2.2
  have e : eqA (some z) (some 0) = (FloatKind.f64.format.order z 0 == some .eq) := rfl
  rw [e, h]
  unfold sm mag
  refine decide_eq_decide.2 ?_
  constructor
  · intro h; split at h <;> omega
  · intro h; split <;> omega
theorem nrm_first {x : Nat} (hx : finN x) (bx : x ≤ 18446744073709551615) : nrmS (some 0, some 4607182418800017408) (some x) = (some (x % 9223372036854775808), some 4607182418800017408) := by
  have e := eq_nought hx bx
  unfold finN at hx
  unfold nrmS absA
  simp only [Option.map_some]
  rw [e]
  obtain ⟨a, ha⟩ : ∃ a, x % 9223372036854775808 = a := ⟨_, rfl⟩
  simp only [ha] at hx ⊢
  by_cases c : a = 0
  · rw [decide_eq_true c, if_pos rfl, c]
  · rw [decide_eq_false c, if_neg (by decide), (ord_mag (a := 0) (b := a) (by omega) (by omega)).2.1, decide_eq_true (by omega), if_pos rfl, quo_aop, div_zero hx (dg_ne c), sum_nought]
theorem root_one : asq (some 4607182418800017408) = some oneW := by decide +kernel
/-- Norm of two is their Hypot -/
theorem norm_hyp {x y : Nat} (hx : finN x) (hy : finN y) (bx : x ≤ 18446744073709551615) (by_ : y ≤ 18446744073709551615) : nrmA [(x : Int), (y : Int)] = hypA (some x) (some y) := by
  have e0 : nrmL [(x : Int), (y : Int)] = nrmS (nrmS (some 0, some 4607182418800017408) (some x)) (some y) := by
    unfold nrmL
    rw [List.foldl_cons, List.foldl_cons, List.foldl_nil, Int.toNat_natCast, Int.toNat_natCast, af_some, af_some]
    · unfold isN; unfold finN at hy; exact decide_eq_false (by omega)
    · unfold isN; unfold finN at hx; exact decide_eq_false (by omega)
  unfold nrmA
  rw [e0, nrm_first hx bx]
  have e := eq_nought hy by_
  unfold nrmS hypA absA
  simp only [Option.map_some]
  rw [e]
  unfold finN at hx hy
  obtain ⟨a, ha⟩ : ∃ a, x % 9223372036854775808 = a := ⟨_, rfl⟩
  obtain ⟨b, hb⟩ : ∃ b, y % 9223372036854775808 = b := ⟨_, rfl⟩
  simp only [ha, hb] at hx hy ⊢
  clear e e0 ha hb bx by_
  have o1 := ord_mag (a := b) (b := a) (by omega) (by omega)
  have o2 := ord_mag (a := a) (b := b) (by omega) (by omega)
  rw [o1.1, o2.2.1]
  by_cases cb : b = 0
  · rw [decide_eq_true cb, if_pos rfl, decide_eq_false (by omega), if_neg (by decide)]
    show aop .mul (some a) (asq (some 4607182418800017408)) = _
    unfold hyp2A
    rw [(ord_mag (a := a) (b := 0) (by omega) (by omega)).2.2, root_one]
    by_cases ca : a = 0
    · rw [decide_eq_true ca, if_pos rfl, ca]
      decide +kernel
    · rw [decide_eq_false ca, if_neg (by decide), cb, quo_aop, div_zero hx (dg_ne ca), root_nought]
  · rw [decide_eq_false cb, if_neg (by decide)]
    by_cases c : a < b
    · rw [decide_eq_true c, if_pos rfl, if_pos rfl]
      unfold hyp2A
      rw [(ord_mag (a := b) (b := 0) (by omega) (by omega)).2.2, decide_eq_false cb, if_neg (by decide)]
      obtain ⟨t, v, w, Q, h1, h2, h3, h4, tf, -⟩ := root_of hy hx (dg_ne cb) (fvm_le (by omega) (by omega))
      have tb : t ≤ 18446744073709551615 := by
        have hw := floatBits_wf (op := .quo) (k := .f64) (x := a) (y := b) h1
        have : t < 18446744073709551616 := by simpa [Lit.wf] using hw
        omega
      rw [quo_aop, h1, len_one t v w Q h2 h3 h4]
      show aop .mul (some b) (asq (aop .add (some oneW) (aop .mul (aop .mul (some oneW) (some t)) (some t)))) = _
      rw [mul_aop oneW t, mul_one tb tf, mul_aop, h2, add_aop, h3]
      show aop .mul (some b) (Ieee.double.sqrt w) = _
      rw [h4]
    · rw [decide_eq_false c, if_neg (by decide), if_neg (by decide)]
      have ca : a ≠ 0 := by omega
      unfold hyp2A
      rw [(ord_mag (a := a) (b := 0) (by omega) (by omega)).2.2, decide_eq_false ca, if_neg (by decide)]
      obtain ⟨t, v, w, Q, h1, h2, h3, h4, tf, -⟩ := root_of hx hy (dg_ne ca) (fvm_le (by omega) (by omega))
      rw [quo_aop, h1, len_one t v w Q h2 h3 h4]
      show aop .mul (some a) (asq (aop .add (some oneW) (aop .mul (some t) (some t)))) = _
      rw [mul_aop t t, h2, add_aop, h3]
      show aop .mul (some a) (Ieee.double.sqrt w) = _
      rw [h4]
end Go.Proofs.Ytmfikppnkjhmjaa
