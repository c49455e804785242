/-
  Layer 6: lengths of two times 2^k; a rotation's c, s, r.
-/
import Derived.Test.YtmfikppnkjhmjaaGreatDoorUAa
import Derived.Test.YtmfikppnkjhmjaaGreatDoorURt
namespace Go.Proofs.YtmfikppnkjhmjaaGreatDoor
open Go Go.RowKit Go.Bw
set_option linter.unusedVariables false
set_option linter.unusedSimpArgs false

/-- the order of two of no sign -/
theorem ord_mag {a b : Nat} (ha : a ≤ 9218868437227405312) (hb : b ≤ 9218868437227405312) : gtA (some a) (some b) = decide (b < a) ∧ ltA (some a) (some b) = decide (a < b) ∧ eqA (some a) (some b) = decide (a = b) := by
  unfold gtA ltA eqA
  by_cases h1 : a = 9218868437227405312
  · have r1 : Ieee.double.read 9218868437227405312 = .infinity false := by decide
    subst h1
    by_cases h2 : b = 9218868437227405312
    · subst h2; decide
    · have hm : b % 9223372036854775808 = b := Nat.mod_eq_of_lt (by omega)
      have r2 := read_word b (by omega)
      have o : aord (some 9218868437227405312) (some b) = some .gt := by
        show (Ieee.double.read 9218868437227405312).order (Ieee.double.read b) = _
        rw [r1, r2]; rfl
      rw [o]
      refine ⟨by rw [decide_eq_true (by omega)]; rfl, by rw [decide_eq_false (by omega)]; rfl, by rw [decide_eq_false (by omega)]; rfl⟩
  · by_cases h2 : b = 9218868437227405312
    · have r1 : Ieee.double.read 9218868437227405312 = .infinity false := by decide
      subst h2
      have r2 := read_word a (by omega)
      have o : aord (some a) (some 9218868437227405312) = some .lt := by
        show (Ieee.double.read a).order (Ieee.double.read 9218868437227405312) = _
        rw [r1, r2]; rfl
      rw [o]
      refine ⟨by rw [decide_eq_false (by omega)]; rfl, by rw [decide_eq_true (by omega)]; rfl, by rw [decide_eq_false (by omega)]; rfl⟩
    · have f1 : fin (a : Int) = true := by unfold fin mag; simp; omega
      have f2 : fin (b : Int) = true := by unfold fin mag; simp; omega
      have h := order_lt a b (by omega) (by omega) f1 f2
      have s1 : sm (a : Int) = a := by unfold sm mag; rw [if_neg (by omega)]; omega
      have s2 : sm (b : Int) = b := by unfold sm mag; rw [if_neg (by omega)]; omega
      rw [s1, s2] at h
      have e : aord (some a) (some b) = FloatKind.f64.format.order a b := rfl
      rw [e, h.1, h.2.1, h.2.2]
      exact ⟨decide_eq_decide.2 (by constructor <;> intro h <;> omega), decide_eq_decide.2 (by constructor <;> intro h <;> omega), decide_eq_decide.2 (by constructor <;> intro h <;> omega)⟩
theorem notN_le {x : Nat} (h : isN x = false) : x % 9223372036854775808 ≤ 9218868437227405312 := by
  unfold isN at h
  have := of_decide_eq_false h
  omega
theorem hyp_comm {x y : Nat} (hx : isN x = false) (hy : isN y = false) : hypA (some x) (some y) = hypA (some y) (some x) := by
  unfold hypA absA
  simp only [Option.map_some]
  rw [(ord_mag (notN_le hy) (notN_le hx)).1, (ord_mag (notN_le hx) (notN_le hy)).1]
  generalize x % 9223372036854775808 = a at *
  generalize y % 9223372036854775808 = b at *
  by_cases c : a < b
  · rw [decide_eq_true c, decide_eq_false (by omega), if_pos rfl, if_neg (by decide)]
  · by_cases d : b < a
    · rw [decide_eq_false c, decide_eq_true d, if_pos rfl, if_neg (by decide)]
    · have : a = b := by omega
      subst this; rfl
theorem mul_aop (x y : Nat) : aop .mul (some x) (some y) = Ieee.double.mul x y := rfl
theorem add_aop (x y : Nat) : aop .add (some x) (some y) = Ieee.double.add x y := rfl
theorem quo_aop (x y : Nat) : aop .quo (some x) (some y) = Ieee.double.div x y := rfl
theorem vl_fvm (y : Nat) (hy : y < 9223372036854775808) : fvm y = (vl y : Rat) * 2 ^ (-1074 : Int) := by
  unfold fvm vl
  rw [Nat.mod_eq_of_lt hy, Rat.natCast_mul, ← two_nat, two_add]
  grind
theorem fvm_le {a b : Nat} (hb : b < 9223372036854775808) (h : a ≤ b) : fvm a ≤ fvm b := by
  rw [vl_fvm a (by omega), vl_fvm b hb]
  have : (vl a : Rat) ≤ (vl b : Rat) := by exact_mod_cast vl_le.2 h
  exact Rat.mul_le_mul_of_nonneg_right this (Rat.le_of_lt (two_pos _))
theorem dg_ne {a : Nat} (h : a ≠ 0) : dg a ≠ 0 := by unfold dg; split <;> omega
theorem len_one (t v w Q : Nat) (h1 : Ieee.double.mul t t = some v) (h2 : Ieee.double.add oneW v = some w) (h3 : Ieee.double.sqrt w = some Q) : rootA (some t) = some Q := by
  unfold rootA
  rw [mul_aop, h1, add_aop, h2]
  exact h3
theorem root_nought : rootA (some 0) = some oneW := by decide +kernel
theorem sum_nought : aop .add (some 4607182418800017408) (aop .mul (aop .mul (some 4607182418800017408) (some 0)) (some 0)) = some 4607182418800017408 := by decide +kernel
theorem eq_nought {z : Nat} (hz : finN z) (bz : z ≤ 18446744073709551615) : eqA (some z) (some 0) = decide (z % 9223372036854775808 = 0) := by
  unfold finN at hz
  have f1 : fin (z : Int) = true := by unfold fin mag; simp; omega
  have h := (order_lt z 0 bz (by omega) f1 (by decide)).2.2
  have e : eqA (some z) (some 0) = (FloatKind.f64.format.order z 0 == some .eq) := rfl
  rw [e, h]
  unfold sm mag
  refine decide_eq_decide.2 ?_
  constructor
  · intro h; split at h <;> omega
  · intro h; split <;> omega
theorem nrm_first {x : Nat} (hx : finN x) (bx : x ≤ 18446744073709551615) : nrmS (some 0, some 4607182418800017408) (some x) = (some (x % 9223372036854775808), some 4607182418800017408) := by
  have e := eq_nought hx bx
  unfold finN at hx
  unfold nrmS absA
  simp only [Option.map_some]
  rw [e]
  obtain ⟨a, ha⟩ : ∃ a, x % 9223372036854775808 = a := ⟨_, rfl⟩
  simp only [ha] at hx ⊢
  by_cases c : a = 0
  · rw [decide_eq_true c, if_pos rfl, c]
  · rw [decide_eq_false c, if_neg (by decide), (ord_mag (a := 0) (b := a) (by omega) (by omega)).2.1, decide_eq_true (by omega), if_pos rfl, quo_aop, div_zero hx (dg_ne c), sum_nought]
theorem root_one : asq (some 4607182418800017408) = some oneW := by decide +kernel
/-- Norm of two is their Hypot -/
theorem norm_hyp {x y : Nat} (hx : finN x) (hy : finN y) (bx : x ≤ 18446744073709551615) (by_ : y ≤ 18446744073709551615) : nrmA [(x : Int), (y : Int)] = hypA (some x) (some y) := by
  have e0 : nrmL [(x : Int), (y : Int)] = nrmS (nrmS (some 0, some 4607182418800017408) (some x)) (some y) := by
    unfold nrmL
    rw [List.foldl_cons, List.foldl_cons, List.foldl_nil, Int.toNat_natCast, Int.toNat_natCast, af_some, af_some]
    · unfold isN; unfold finN at hy; exact decide_eq_false (by omega)
    · unfold isN; unfold finN at hx; exact decide_eq_false (by omega)
  unfold nrmA
  rw [e0, nrm_first hx bx]
  have e := eq_nought hy by_
  unfold nrmS hypA absA
  simp only [Option.map_some]
  rw [e]
  unfold finN at hx hy
  obtain ⟨a, ha⟩ : ∃ a, x % 9223372036854775808 = a := ⟨_, rfl⟩
  obtain ⟨b, hb⟩ : ∃ b, y % 9223372036854775808 = b := ⟨_, rfl⟩
  simp only [ha, hb] at hx hy ⊢
  clear e e0 ha hb bx by_
  have o1 := ord_mag (a := b) (b := a) (by omega) (by omega)
  have o2 := ord_mag (a := a) (b := b) (by omega) (by omega)
  rw [o1.1, o2.2.1]
  by_cases cb : b = 0
  · rw [decide_eq_true cb, if_pos rfl, decide_eq_false (by omega), if_neg (by decide)]
    show aop .mul (some a) (asq (some 4607182418800017408)) = _
    unfold hyp2A
    rw [(ord_mag (a := a) (b := 0) (by omega) (by omega)).2.2, root_one]
    by_cases ca : a = 0
    · rw [decide_eq_true ca, if_pos rfl, ca]
      decide +kernel
    · rw [decide_eq_false ca, if_neg (by decide), cb, quo_aop, div_zero hx (dg_ne ca), root_nought]
  · rw [decide_eq_false cb, if_neg (by decide)]
    by_cases c : a < b
    · rw [decide_eq_true c, if_pos rfl, if_pos rfl]
      unfold hyp2A
      rw [(ord_mag (a := b) (b := 0) (by omega) (by omega)).2.2, decide_eq_false cb, if_neg (by decide)]
      obtain ⟨t, v, w, Q, h1, h2, h3, h4, tf, -⟩ := root_of hy hx (dg_ne cb) (fvm_le (by omega) (by omega))
      have tb : t ≤ 18446744073709551615 := by
        have hw := floatBits_wf (op := .quo) (k := .f64) (x := a) (y := b) h1
        have : t < 18446744073709551616 := by simpa [Lit.wf] using hw
        omega
      rw [quo_aop, h1, len_one t v w Q h2 h3 h4]
      show aop .mul (some b) (asq (aop .add (some oneW) (aop .mul (aop .mul (some oneW) (some t)) (some t)))) = _
      rw [mul_aop oneW t, mul_one tb tf, mul_aop, h2, add_aop, h3]
      show aop .mul (some b) (Ieee.double.sqrt w) = _
      rw [h4]
    · rw [decide_eq_false c, if_neg (by decide), if_neg (by decide)]
      have ca : a ≠ 0 := by omega
      unfold hyp2A
      rw [(ord_mag (a := a) (b := 0) (by omega) (by omega)).2.2, decide_eq_false ca, if_neg (by decide)]
      obtain ⟨t, v, w, Q, h1, h2, h3, h4, tf, -⟩ := root_of hx hy (dg_ne ca) (fvm_le (by omega) (by omega))
      rw [quo_aop, h1, len_one t v w Q h2 h3 h4]
      show aop .mul (some a) (asq (aop .add (some oneW) (aop .mul (some t) (some t)))) = _
      rw [mul_aop t t, h2, add_aop, h3]
      show aop .mul (some a) (Ieee.double.sqrt w) = _
      rw [h4]
end Go.Proofs.YtmfikppnkjhmjaaGreatDoor
namespace Go.Proofs.YtmfikppnkjhmjaaGreatDoor
open Go Go.RowKit Go.Bw
set_option linter.unusedVariables false
set_option linter.unusedSimpArgs false

/-- within the range -/
def Rg (x : Nat) : Prop := x ≤ 18446744073709551615 ∧ (x % 9223372036854775808 = 0 ∨ 2805742567851819008 ≤ x % 9223372036854775808 ∧ x % 9223372036854775808 ≤ 6408622269748215808)
theorem Rg.fin {x : Nat} (h : Rg x) : finN x := by unfold finN; have := h.2; omega
theorem Rg.abs {x : Nat} (h : Rg x) : Rg (x % 9223372036854775808) := ⟨by omega, by rw [Nat.mod_mod]; exact h.2⟩
theorem rg_val {x : Nat} (h : Rg x) (h0 : x % 9223372036854775808 ≠ 0) : (2 : Rat) ^ (-400 : Int) ≤ fvm x ∧ fvm x ≤ 2 ^ (400 : Int) := by
  have hm : 2805742567851819008 ≤ x % 9223372036854775808 ∧ x % 9223372036854775808 ≤ 6408622269748215808 := h.2.resolve_left h0
  unfold fvm
  generalize x % 9223372036854775808 = m at *
  have hd : 2 ^ 52 ≤ dg m := by unfold dg; split <;> omega
  have hp : (622 : Int) ≤ (pl m : Nat) := by unfold pl; split <;> omega
  have hdR : ((2 ^ 52 : Nat) : Rat) ≤ (dg m : Rat) := by exact_mod_cast hd
  constructor
  · have a := Rat.mul_le_mul_of_nonneg_right hdR (Rat.le_of_lt (two_pos ((-1074 : Int) + (pl m : Nat))))
    rw [nat_cast_pow2] at a
    exact Rat.le_trans (two_le (by omega)) a
  · by_cases c : m = 6408622269748215808
    · subst c
      rw [show dg 6408622269748215808 = 2 ^ 52 by decide, show pl 6408622269748215808 = 1422 by decide, nat_cast_pow2]
      exact two_le (by decide)
    · have hd2 : dg m ≤ 2 ^ 53 := by unfold dg; split <;> omega
      have hp2 : (pl m : Int) ≤ 1421 := by unfold pl; split <;> omega
      have hdR2 : (dg m : Rat) ≤ ((2 ^ 53 : Nat) : Rat) := by exact_mod_cast hd2
      have a := Rat.mul_le_mul_of_nonneg_right hdR2 (Rat.le_of_lt (two_pos ((-1074 : Int) + (pl m : Nat))))
      rw [nat_cast_pow2] at a
      exact Rat.le_trans a (two_le (by omega))
theorem rg_stays {x : Nat} {k : Int} (h : Rg x) (h0 : x % 9223372036854775808 ≠ 0) (k0 : -99 ≤ k) (k1 : k ≤ 99) : Stays x k := by
  have hm : 2805742567851819008 ≤ x % 9223372036854775808 ∧ x % 9223372036854775808 ≤ 6408622269748215808 := h.2.resolve_left h0
  unfold Stays
  omega
/-- times 2^k, noughts as they are -/
def sc (x : Nat) (k : Int) : Nat := if x % 9223372036854775808 = 0 then x else shw x k
theorem mul_nought {x z : Nat} (bx : x ≤ 18446744073709551615) (h0 : x % 9223372036854775808 = 0) (hz : z < 9218868437227405312) : Ieee.double.mul x z = some x := by
  have ez : z % 9223372036854775808 = z := Nat.mod_eq_of_lt (by omega)
  have sz : (z / 9223372036854775808 % 2 == 1) = false := by simp; omega
  have rz := read_word z (by rw [ez]; exact hz)
  have rx := read_word x (by rw [h0]; decide)
  rw [sz] at rz
  unfold Ieee.Format.mul
  rw [rx, rz, h0, show dg 0 = 0 by decide, prod_num, Nat.zero_mul, Bool.xor_false]
  show some (Ieee.double.nearest _ 0 _) = some x
  unfold Ieee.Format.nearest
  rw [if_pos rfl, double_wordG]
  have : x = 0 ∨ x = 9223372036854775808 := by omega
  rcases this with rfl | rfl <;> rfl
theorem two_word {k : Int} (k0 : -99 ≤ k) (k1 : k ≤ 99) : twoW k < 9218868437227405312 ∧ finN (twoW k) := by
  have h := shw_facts (one_stays (p := k) (by omega) (by omega))
  have e := h.1
  constructor
  · have e0 : (oneW : Int) = 4607182418800017408 := rfl
    rw [e0] at e
    unfold twoW
    omega
  · exact h.2.2.2.2.2.2
theorem mul_sc {x : Nat} {k : Int} (h : Rg x) (k0 : -99 ≤ k) (k1 : k ≤ 99) : aop .mul (some x) (some (twoW k)) = some (sc x k) := by
  rw [mul_aop]
  unfold sc
  by_cases h0 : x % 9223372036854775808 = 0
  · rw [if_pos h0]
    exact mul_nought h.1 h0 (two_word k0 k1).1
  · rw [if_neg h0]
    have v := rg_val h h0
    exact mul_two h.1 (Rat.le_trans (two_le (by decide)) v.1) (Rat.le_trans v.2 (two_le (by decide))) h.fin (by omega) (by omega)
theorem sc_abs {x : Nat} {k : Int} (h : Rg x) (k0 : -99 ≤ k) (k1 : k ≤ 99) : sc x k % 9223372036854775808 = sc (x % 9223372036854775808) k := by
  unfold sc
  rw [Nat.mod_mod]
  by_cases h0 : x % 9223372036854775808 = 0
  · rw [if_pos h0, if_pos h0]
  · rw [if_neg h0, if_neg h0]
    have f := (shw_facts (rg_stays h h0 k0 k1)).2.1
    have g : (shw (x % 9223372036854775808) k : Int) = _ := (shw_facts (rg_stays h.abs (by rw [Nat.mod_mod]; exact h0) k0 k1)).1
    omega
theorem sc_word {a : Nat} {k : Int} (h : Rg a) (ha : a < 9223372036854775808) (k0 : -99 ≤ k) (k1 : k ≤ 99) : (a = 0 ∧ sc a k = 0) ∨ (a ≠ 0 ∧ (sc a k : Int) = a + k * 4503599627370496 ∧ sc a k = shw a k ∧ Stays a k ∧ 2805742567851819008 ≤ a ∧ a ≤ 6408622269748215808) := by
  have ea : a % 9223372036854775808 = a := Nat.mod_eq_of_lt ha
  by_cases h0 : a = 0
  · left; subst h0; exact ⟨rfl, rfl⟩
  · right
    have st := rg_stays h (by rw [ea]; exact h0) k0 k1
    have e : sc a k = shw a k := by unfold sc; rw [ea, if_neg h0]
    have r := h.2
    rw [ea] at r
    exact ⟨h0, by rw [e]; exact (shw_facts st).1, e, st, by omega, by omega⟩
theorem hyp2_sc {a b : Nat} {k : Int} (ha : Rg a) (hb : Rg b) (sa : a < 9223372036854775808) (hab : b ≤ a) (k0 : -99 ≤ k) (k1 : k ≤ 99) :
    ∃ r, hyp2A (some a) (some b) = some r ∧ finN r ∧ r < 9223372036854775808 ∧ hyp2A (some (sc a k)) (some (sc b k)) = aop .mul (some r) (some (twoW k)) := by
  have ea : a % 9223372036854775808 = a := Nat.mod_eq_of_lt sa
  have wa := sc_word ha sa k0 k1
  have wb := sc_word hb (by omega) k0 k1
  unfold hyp2A
  rcases wa with ⟨a0, e1⟩ | ⟨a0, e1, e2, st, l1, l2⟩
  · have b0 : b = 0 := by omega
    subst a0; subst b0
    rw [e1]
    refine ⟨0, by decide, by unfold finN; decide, by decide, ?_⟩
    rw [mul_aop, mul_nought (by decide) (by decide) (two_word k0 k1).1]
    decide
  · have va := rg_val ha (by rw [ea]; exact a0)
    have fa := ha.fin
    unfold finN at fa
    obtain ⟨t, v, w, Q, h1, h2, h3, h4, tf, Ql, Q2, Q1⟩ := root_of (p := a) (q := b) (by omega) (by omega) (dg_ne a0) (fvm_le sa hab)
    have hne : ∀ z, z ≠ 0 → z ≤ 9218868437227405312 → eqA (some z) (some 0) = false := fun z z0 zl => by
      rw [(ord_mag (a := z) (b := 0) zl (by omega)).2.2]; exact decide_eq_false z0
    have hdiv : Ieee.double.div (sc b k) (sc a k) = some t := by
      rw [e2]
      rcases wb with ⟨b0, f1⟩ | ⟨b0, f1, f2, st2, -⟩
      · rw [f1, div_zero (by omega) (dg_ne (by omega))]
        subst b0
        rw [div_zero (by omega) (dg_ne a0)] at h1
        exact h1
      · rw [f2, div_shw st2 st]
        exact h1
    rw [hne a a0 (by omega), hne (sc a k) (by omega) (by omega)]
    rw [if_neg (by decide), if_neg (by decide), quo_aop, quo_aop, hdiv, h1, len_one t v w Q h2 h3 h4, mul_aop, mul_aop, e2]
    obtain ⟨r, hr, rf, l1, l2, rs, -⟩ := len_val ha.fin (fin_of_lt Ql) va.1 va.2 Q1 Q2
    have r63 : r < 9223372036854775808 := rs (by rw [Nat.div_eq_of_lt sa, Nat.div_eq_of_lt (by omega)])
    obtain ⟨g1, g2⟩ := len_shw ha.fin (fin_of_lt Ql) va.1 va.2 Q1 Q2 hr (by omega) k0 k1
    exact ⟨r, hr, rf, r63, by rw [g1, mul_aop, g2]⟩
/-- lengths go along with powers of two, and are finite -/
theorem hyp_sc {x y : Nat} {k : Int} (hx : Rg x) (hy : Rg y) (k0 : -99 ≤ k) (k1 : k ≤ 99) :
    ∃ r, hypA (some x) (some y) = some r ∧ finN r ∧ r < 9223372036854775808 ∧ hypA (some (sc x k)) (some (sc y k)) = aop .mul (some r) (some (twoW k)) := by
  unfold hypA absA
  simp only [Option.map_some]
  rw [sc_abs hx k0 k1, sc_abs hy k0 k1]
  have ha := hx.abs
  have hb := hy.abs
  have sa : x % 9223372036854775808 < 9223372036854775808 := by omega
  have sb : y % 9223372036854775808 < 9223372036854775808 := by omega
  generalize x % 9223372036854775808 = a at *
  generalize y % 9223372036854775808 = b at *
  have wa := sc_word ha sa k0 k1
  have wb := sc_word hb sb k0 k1
  have la : a ≤ 9218868437227405312 := by omega
  have lb : b ≤ 9218868437227405312 := by omega
  rw [(ord_mag lb la).1, (ord_mag (a := sc b k) (b := sc a k) (by omega) (by omega)).1]
  by_cases c : a < b
  · have d : sc a k < sc b k := by omega
    rw [decide_eq_true c, decide_eq_true d, if_pos rfl, if_pos rfl]
    exact hyp2_sc hb ha sb (by omega) k0 k1
  · have d : ¬ sc a k < sc b k := by omega
    rw [decide_eq_false c, decide_eq_false d, if_neg (by decide), if_neg (by decide)]
    exact hyp2_sc ha hb sa (by omega) k0 k1
end Go.Proofs.YtmfikppnkjhmjaaGreatDoor
namespace Go.Proofs.YtmfikppnkjhmjaaGreatDoor
open Go Go.RowKit Go.Bw
set_option linter.unusedVariables false
set_option linter.unusedSimpArgs false
theorem fvm_abs (x : Nat) : fvm (x % 9223372036854775808) = fvm x := by unfold fvm; rw [Nat.mod_mod]
theorem fvm_nought : fvm 0 = 0 := fvm_zero (by decide)
/-- c, s of a rotation are finite, and of length 1, nearly -/
def Unit2 (c s : Nat) : Prop := finN c ∧ finN s ∧ c ≤ 18446744073709551615 ∧ s ≤ 18446744073709551615 ∧ fvm c * fvm c + fvm s * fvm s ≤ 1 + 1/562949953421312 ∧ 1 - 1/562949953421312 ≤ fvm c * fvm c + fvm s * fvm s
theorem word_le {op : BinOp} {x y r : Nat} (h : floatBits op .f64 x y = some r) : r ≤ 18446744073709551615 := by
  have hw := floatBits_wf h
  have : r < 18446744073709551616 := by simpa [Lit.wf] using hw
  omega
theorem giv_one {f g : Nat} (hf : Rg f) (hg : Rg g) (f0 : f % 9223372036854775808 ≠ 0) (g0 : g % 9223372036854775808 ≠ 0) (h : g % 9223372036854775808 ≤ f % 9223372036854775808) :
    ∃ c s r, rot1A (aop .quo (some g) (some f)) (some f) = (some c, some s, some r) ∧ Unit2 c s ∧ finN r ∧ r ≤ 18446744073709551615 := by
  have hv : fvm g ≤ fvm f := by
    rw [← fvm_abs g, ← fvm_abs f]
    exact fvm_le (by omega) h
  obtain ⟨t, v, w, Q, c, s, h1, h2, h3, h4, h5, h6, tf, vl, wl, Ql, cl, sf, Q2, Q1, u1, u2⟩ := rot hf.fin hg.fin (dg_ne f0) (dg_ne g0) hv
  have va := rg_val hf f0
  obtain ⟨r, hr, rf, -⟩ := len_val hf.fin (fin_of_lt Ql) va.1 va.2 Q1 Q2
  refine ⟨c, s, r, ?_, ⟨fin_of_lt cl, sf, by omega, word_le (op := .mul) (x := c) (y := t) h6, u1, u2⟩, rf, word_le (op := .mul) (x := f) (y := Q) hr⟩
  unfold rot1A
  rw [quo_aop, h1, len_one t v w Q h2 h3 h4]
  rw [show aop .quo (some 4607182418800017408) (some Q) = some c from h5, mul_aop, h6, mul_aop, hr]
theorem giv_any {f g : Nat} (hf : Rg f) (hg : Rg g) :
    ∃ c s r, givA (some f) (some g) = (some c, some s, some r) ∧ Unit2 c s ∧ finN r ∧ r ≤ 18446744073709551615 := by
  have u10 : Unit2 oneW 0 := by
    refine ⟨fin_of_lt one_fin, by unfold finN; decide, by decide, by decide, ?_, ?_⟩ <;> rw [fvm_one, fvm_nought] <;> grind
  have u01 : Unit2 0 oneW := by
    refine ⟨by unfold finN; decide, fin_of_lt one_fin, by decide, by decide, ?_, ?_⟩ <;> rw [fvm_one, fvm_nought] <;> grind
  unfold givA
  rw [eq_nought hg.fin hg.1, eq_nought hf.fin hf.1]
  by_cases g0 : g % 9223372036854775808 = 0
  · rw [decide_eq_true g0, if_pos rfl]
    exact ⟨oneW, 0, f, rfl, u10, hf.fin, hf.1⟩
  · rw [decide_eq_false g0, if_neg (by decide)]
    by_cases f0 : f % 9223372036854775808 = 0
    · rw [decide_eq_true f0, if_pos rfl]
      exact ⟨0, oneW, g, rfl, u01, hg.fin, hg.1⟩
    · rw [decide_eq_false f0, if_neg (by decide)]
      have ff := hf.fin
      have gf := hg.fin
      unfold finN at ff gf
      have hgt : gtA (absA (some f)) (absA (some g)) = decide (g % 9223372036854775808 < f % 9223372036854775808) := (ord_mag (a := f % 9223372036854775808) (b := g % 9223372036854775808) (by omega) (by omega)).1
      rw [hgt]
      by_cases c : g % 9223372036854775808 < f % 9223372036854775808
      · rw [decide_eq_true c, if_pos rfl]
        exact giv_one hf hg f0 g0 (by omega)
      · rw [decide_eq_false c, if_neg (by decide)]
        obtain ⟨c, s, r, e, ⟨u1, u2, u3, u4, u5, u6⟩, rf, rb⟩ := giv_one hg hf g0 f0 (by omega)
        rw [e]
        exact ⟨s, c, r, rfl, ⟨u2, u1, u4, u3, by rw [Rat.add_comm]; exact u5, by rw [Rat.add_comm]; exact u6⟩, rf, rb⟩
end Go.Proofs.YtmfikppnkjhmjaaGreatDoor
