/-
  Layer 6: lengths, by the program.
-/
import Derived.Test.YtcdbjlmegkcaiaaGreatDoorYAg
namespace Go.Proofs.YtcdbjlmegkcaiaaGreatDoor
open Go Go.RowKit Go.Bw
set_option linter.unusedVariables false
set_option linter.unusedSimpArgs false
def hyp1A (p q : Option Nat) : Option Nat := aop .mul p (rootA (aop .quo q p))

set_option maxHeartbeats 400000 in
theorem gAbs_any {x : Nat} (hx : x ≤ 18446744073709551615) (w : World) : Calls Tryz.prog 41 #[.float .f64 x] w (FP (absA (af x)) w) := by
  have hb := Grun_float64bits x
  have hf := Grun_float64frombits (x % 9223372036854775808 : Nat)
  rw [Int.toNat_natCast] at hf
  have e1 : bits .andNot .u64 (x : Int) 9223372036854775808 = ((x % 9223372036854775808 : Nat) : Int) := by
    rw [andnot_sign _ (by omega) (by omega)]; unfold mag; omega
  have H9 := Lib.hid (abs_is x)
  have b9 : x % 9223372036854775808 ≤ 18446744073709551615 := by omega
  generalize x % 9223372036854775808 = y at *
  go_enter Tryz.func41, Tryz.ntmps41
  go_wp2_with fail
  go_ret
  exact ⟨_, rfl, H9.out, b9, rfl⟩

theorem and_sgn {y : Nat} (hy : y ≤ 18446744073709551615) : bits .and .u64 (y : Int) 9223372036854775808 = ((y / 9223372036854775808 * 9223372036854775808 : Nat) : Int) := by
  rw [u64_and _ _ (by omega) (by omega) (by omega) (by omega)]
  rw [Int.toNat_natCast, show (9223372036854775808 : Int).toNat = 9223372036854775808 by decide, and_sign_nat y (by omega)]
  have h2 : y / 9223372036854775808 % 2 = y / 9223372036854775808 := by omega
  rw [h2]
set_option maxHeartbeats 400000 in
theorem gCopysign_any {x y : Nat} (hx : x ≤ 18446744073709551615) (hy : y ≤ 18446744073709551615) (w : World) : Calls Tryz.prog 43 #[.float .f64 x, .float .f64 y] w (FP (sgnA (af x) y) w) := by
  have hb := Grun_float64bits x
  have hb2 := Grun_float64bits y
  have hf := Grun_float64frombits (sgnW x y : Nat)
  rw [Int.toNat_natCast] at hf
  have e1 : bits .andNot .u64 (x : Int) 9223372036854775808 = ((x % 9223372036854775808 : Nat) : Int) := by
    rw [andnot_sign _ (by omega) (by omega)]; unfold mag; omega
  have e2 := and_sgn hy
  have e3 := or_sgn (x := x) hy
  have h9 := Lib.hid (sgn_isA (x := x) hy)
  have b9 := sgn_bd (x := x) hy
  generalize sgnW x y = z at *
  generalize x % 9223372036854775808 = p at *
  generalize y / 9223372036854775808 * 9223372036854775808 = q at *
  go_enter Tryz.func43, Tryz.ntmps43
  go_wp2_with fail
  go_ret
  exact ⟨_, rfl, h9.out, b9, rfl⟩
theorem gSign_any : ConSign := by
  intro x y hx hy w
  go_enter Tryz.func17, Tryz.ntmps17
  go_wp2_with fail
  with_reducible refine (gCopysign_any hx hy _).mono ?_
  rintro e w1 ⟨r, rfl, h, b, rfl⟩
  have H := Lib.hid h
  clear h
  go_wp2_with fail
  go_ret
  exact ⟨_, rfl, H.out, b, rfl⟩

set_option maxHeartbeats 2000000 in
theorem gslant_any {t : Nat} (ht : t ≤ 18446744073709551615) (w : World) :
    Calls Tryz.prog 66 #[.float .f64 t] w (FA (rootA (af t)) w) := by
  have dr := Dr.refl w
  have b0 : 0 ≤ 18446744073709551615 := by omega
  have bI : 4607182418800017408 ≤ 18446744073709551615 := by omega
  go_enter Tryz.func66, Tryz.ntmps66
  obtain ⟨r1, w1, e1, d1, h1, b1⟩ := run_mul (P := Tryz.prog) 25 (x := t) (y := t) ht ht w
  have H1 := Lib.hid h1
  clear h1
  replace dr := dr.trans d1
  clear d1
  obtain ⟨r2, w2, e2, d2, h2, b2⟩ := Grun_add (P := Tryz.prog) 25 (x := 4607182418800017408) (y := r1) bI b1 w1
  have H2 := Lib.hid h2
  clear h2
  replace dr := dr.trans d2
  clear d2
  go_wp2_with fail
  with_reducible refine (sqrt_any b2 _).mono ?_
  rintro e w3 ⟨r3, rfl, h3, b3, d3⟩
  have H3 := Lib.hid h3
  clear h3
  replace dr := dr.trans d3
  clear d3
  go_wp2_with fail
  go_ret
  refine ⟨_, rfl, ?_, b3, dr⟩
  unfold rootA
  rw [← af_one, ← H1.out, ← H2.out, ← H3.out]

set_option maxHeartbeats 2000000 in
theorem glength_any {p q : Nat} (hp : p ≤ 18446744073709551615) (hq : q ≤ 18446744073709551615) (w : World) :
    Calls Tryz.prog 45 #[.float .f64 p, .float .f64 q] w (FA (hyp1A (af p) (af q)) w) := by
  have dr := Dr.refl w
  have b0 : 0 ≤ 18446744073709551615 := by omega
  have bI : 4607182418800017408 ≤ 18446744073709551615 := by omega
  go_enter Tryz.func45, Tryz.ntmps45
  obtain ⟨r1, w1, e1, d1, h1, b1⟩ := run_quo (P := Tryz.prog) 25 (x := q) (y := p) hq hp w
  have H1 := Lib.hid h1
  clear h1
  replace dr := dr.trans d1
  clear d1
  go_wp2_with fail
  with_reducible refine (gslant_any b1 _).mono ?_
  rintro e w2 ⟨r2, rfl, h2, b2, d2⟩
  have H2 := Lib.hid h2
  clear h2
  replace dr := dr.trans d2
  clear d2
  obtain ⟨r3, w3, e3, d3, h3, b3⟩ := run_mul (P := Tryz.prog) 25 (x := p) (y := r2) hp b2 w2
  have H3 := Lib.hid h3
  clear h3
  replace dr := dr.trans d3
  clear d3
  go_wp2_with fail
  go_ret
  refine ⟨_, rfl, ?_, b3, dr⟩
  unfold hyp1A
  rw [← H1.out, ← H2.out, ← H3.out]

set_option maxHeartbeats 400000 in
theorem gordered_yes {p q : Nat} (hp : p ≤ 18446744073709551615) (hq : q ≤ 18446744073709551615) (h : (FloatKind.f64.format.order q p == some .gt) = true) (w : World) :
    Calls Tryz.prog 44 #[.float .f64 p, .float .f64 q] w fun e w' => e = .returned (.tuple #[.float .f64 q, .float .f64 p]) ∧ w = w' := by
  go_enter Tryz.func44, Tryz.ntmps44
  go_wp2_with fail
  go_ret2
  exact ⟨rfl, rfl⟩

set_option maxHeartbeats 400000 in
theorem gordered_no {p q : Nat} (hp : p ≤ 18446744073709551615) (hq : q ≤ 18446744073709551615) (h : (FloatKind.f64.format.order q p == some .gt) = false) (w : World) :
    Calls Tryz.prog 44 #[.float .f64 p, .float .f64 q] w fun e w' => e = .returned (.tuple #[.float .f64 p, .float .f64 q]) ∧ w = w' := by
  go_enter Tryz.func44, Tryz.ntmps44
  go_wp2_with fail
  go_ret2
  exact ⟨rfl, rfl⟩

end Go.Proofs.YtcdbjlmegkcaiaaGreatDoor
namespace Go.Proofs.YtcdbjlmegkcaiaaGreatDoor
open Go Go.RowKit Go.Bw
set_option linter.unusedVariables false
set_option linter.unusedSimpArgs false

theorem eq_fin {x : Nat} (hx : x ≤ 18446744073709551615) (h : x % 9223372036854775808 < 9218868437227405312) : eqA (some x) (some 0) = decide (x % 9223372036854775808 = 0) := by
  have hf : fin (x : Int) = true := by unfold fin mag; simp; omega
  have h2 := (order_lt x 0 hx (by omega) hf (by decide)).2.2
  have e : eqA (some x) (some 0) = (FloatKind.f64.format.order x 0 == some .eq) := rfl
  rw [e, h2]
  refine decide_eq_decide.2 ?_
  unfold sm mag
  constructor <;> intro h <;> split at * <;> omega
theorem zero_abs {x : Nat} (hx : x ≤ 18446744073709551615) : eqA (absA (af x)) (some 0) = eqA (af x) (some 0) := by
  rw [← abs_is]
  have h1 : x % 9223372036854775808 ≤ 18446744073709551615 := by omega
  have hm : x % 9223372036854775808 % 9223372036854775808 = x % 9223372036854775808 := Nat.mod_mod _ _
  cases n : isN x
  · have n2 : isN (x % 9223372036854775808) = false := by
      unfold isN at n ⊢
      rw [hm]; exact n
    have hl := notN_le n
    rw [af_some n, af_some n2]
    by_cases hi : x % 9223372036854775808 = 9218868437227405312
    · rw [hi]
      have : x = 9218868437227405312 ∨ x = 18442240474082181120 := by omega
      rcases this with rfl | rfl <;> decide
    · rw [eq_fin h1 (by omega), eq_fin hx (by omega), hm]
  · have n2 : isN (x % 9223372036854775808) = true := by
      unfold isN at n ⊢
      rw [hm]; exact n
    rw [af_none n, af_none n2]

set_option maxRecDepth 100000 in
set_option maxHeartbeats 8000000 in
theorem gNorm_any : ConNorm := by
  intro A len c l w h
  have hmx := h.max
  have hln := Lib.hid h.1
  have b0 : 0 ≤ 18446744073709551615 := by omega
  have bI : 4607182418800017408 ≤ 18446744073709551615 := by omega
  go_enter Tryz.func16, Tryz.ntmps16
  go_wp2_with fail
  go_loopw [3, 4, 12] (fun sc su i wr => ∃ (k S U : Nat), k ≤ len ∧ i = .int .i64 k ∧ sc = .float .f64 S ∧ su = .float .f64 U ∧ Hid ((af S, af U) = nrmL (l.take k)) ∧ S ≤ 18446744073709551615 ∧ U ≤ 18446744073709551615 ∧ Dr w wr) (fun _ _ i _ => len - (intOf i).toNat)
  case atStart => exact ⟨0, 0, 4607182418800017408, Nat.zero_le _, rfl, rfl, rfl, Lib.hid (by rw [af_zero, af_one]; rfl), b0, bI, Dr.refl w⟩
  case round =>
    obtain ⟨k, S, U, hk, rfl, rfl, rfl, HN, bS, bU, dr⟩ := hrel
    by_cases hlt : k < len
    · obtain ⟨ad, rfl, hb, hc⟩ := (h.dr dr).at_ hlt
      obtain ⟨x0, x1⟩ := h.2.2.at_ k
      have i0 : (0 : Int) ≤ k := by omega
      have i1 : (k : Int) < len := by omega
      have hn := Lib.hid (nrmL_next (l := l) (k := k) (by rw [hln.out]; exact hlt))
      have bX : (GD l k).toNat ≤ 18446744073709551615 := by omega
      generalize (GD l k).toNat = X at *
      have hz := Lib.hid (zero_abs bX)
      go_wp2_with fail
      with_reducible refine (gAbs_any bX _).mono ?_
      rintro e w1 ⟨r1, rfl, h1, b1, rfl⟩
      have H1 := Lib.hid h1
      clear h1
      cases c1 : (FloatKind.f64.format.order r1 0 == some .eq)
      · cases c2 : (FloatKind.f64.format.order S r1 == some .lt)
        · obtain ⟨r2, w2, e2, d2, h2, b2⟩ := run_quo (P := Tryz.prog) 25 (x := r1) (y := S) b1 bS wr
          have H2 := Lib.hid h2
          clear h2
          replace dr := dr.trans d2
          clear d2
          obtain ⟨r3, w3, e3, d3, h3, b3⟩ := run_mul (P := Tryz.prog) 25 (x := r2) (y := r2) b2 b2 w2
          have H3 := Lib.hid h3
          clear h3
          replace dr := dr.trans d3
          clear d3
          obtain ⟨r4, w4, e4, d4, h4, b4⟩ := Grun_add (P := Tryz.prog) 25 (x := U) (y := r3) bU b3 w3
          have H4 := Lib.hid h4
          clear h4
          replace dr := dr.trans d4
          clear d4
          have HK : Hid ((af S, af r4) = nrmL (l.take (k + 1))) := Lib.hid (by
            rw [hn.out, ← HN.out]
            unfold nrmS
            rw [← hz.out, ← H1.out]
            dsimp only
            rw [← af_zero, eq_is b1 b0, c1, if_neg (by decide)]
            rw [lt_is bS b1, c2, if_neg (by decide), ← H2.out, ← H3.out, ← H4.out])
          go_wp2_with fail
          go_roundw
          case rel => exact ⟨k + 1, S, r4, by omega, by go_num, rfl, rfl, HK, bS, b4, dr⟩
          case measure => simp [intOf]; omega
        · obtain ⟨r5, w5, e5, d5, h5, b5⟩ := run_quo (P := Tryz.prog) 25 (x := S) (y := r1) bS b1 wr
          have H5 := Lib.hid h5
          clear h5
          replace dr := dr.trans d5
          clear d5
          obtain ⟨r6, w6, e6, d6, h6, b6⟩ := run_mul (P := Tryz.prog) 25 (x := U) (y := r5) bU b5 w5
          have H6 := Lib.hid h6
          clear h6
          replace dr := dr.trans d6
          clear d6
          obtain ⟨r7, w7, e7, d7, h7, b7⟩ := run_mul (P := Tryz.prog) 25 (x := r6) (y := r5) b6 b5 w6
          have H7 := Lib.hid h7
          clear h7
          replace dr := dr.trans d7
          clear d7
          obtain ⟨r8, w8, e8, d8, h8, b8⟩ := Grun_add (P := Tryz.prog) 25 (x := 4607182418800017408) (y := r7) bI b7 w7
          have H8 := Lib.hid h8
          clear h8
          replace dr := dr.trans d8
          clear d8
          have HK : Hid ((af r1, af r8) = nrmL (l.take (k + 1))) := Lib.hid (by
            rw [hn.out, ← HN.out]
            unfold nrmS
            rw [← hz.out, ← H1.out]
            dsimp only
            rw [← af_zero, eq_is b1 b0, c1, if_neg (by decide)]
            rw [lt_is bS b1, c2, if_pos rfl, ← af_one, ← H5.out, ← H6.out, ← H7.out, ← H8.out])
          go_wp2_with fail
          go_roundw
          case rel => exact ⟨k + 1, r1, r8, by omega, by go_num, rfl, rfl, HK, b1, b8, dr⟩
          case measure => simp [intOf]; omega
      · have HK : Hid ((af S, af U) = nrmL (l.take (k + 1))) := Lib.hid (by
          rw [hn.out, ← HN.out]
          unfold nrmS
          rw [← hz.out, ← H1.out]
          rw [← af_zero, eq_is b1 b0, c1, if_pos rfl])
        go_wp2_with fail
        go_roundw
        case rel => exact ⟨k + 1, S, U, by omega, by go_num, rfl, rfl, HK, bS, bU, dr⟩
        case measure => simp [intOf]; omega
    · obtain rfl : k = len := by omega
      have ht : l.take k = l := by rw [← h.1, List.take_length]
      rw [ht] at HN
      go_wp2_with fail
      with_reducible refine (sqrt_any bU _).mono ?_
      rintro e w51 ⟨r51, rfl, h51, b51, d51⟩
      have H51 := Lib.hid h51
      clear h51
      replace dr := dr.trans d51
      clear d51
      obtain ⟨r52, w52, e52, d52, h52, b52⟩ := run_mul (P := Tryz.prog) 25 (x := S) (y := r51) bS b51 w51
      have H52 := Lib.hid h52
      clear h52
      replace dr := dr.trans d52
      clear d52
      go_wp2_with fail
      go_ret
      refine ⟨_, rfl, ?_, b52, dr⟩
      unfold nrmA
      rw [← HN.out, ← H51.out, ← H52.out]
end Go.Proofs.YtcdbjlmegkcaiaaGreatDoor
namespace Go.Proofs.YtcdbjlmegkcaiaaGreatDoor
open Go Go.RowKit Go.Bw
set_option linter.unusedVariables false
set_option linter.unusedSimpArgs false

theorem gHypot_any : ConHypot := by
  intro x y hx hy w
  have dr := Dr.refl w
  have b0 : 0 ≤ 18446744073709551615 := by omega
  go_enter Tryz.func18, Tryz.ntmps18
  go_wp2_with fail
  with_reducible refine (gAbs_any hx _).mono ?_
  rintro e w1 ⟨r1, rfl, h1, b1, rfl⟩
  have H1 := Lib.hid h1
  clear h1
  go_wp2_with fail
  with_reducible refine (gAbs_any hy _).mono ?_
  rintro e w2 ⟨r2, rfl, h2, b2, rfl⟩
  have H2 := Lib.hid h2
  clear h2
  cases c1 : (FloatKind.f64.format.order r2 r1 == some .gt)
  · go_wp2_with fail
    with_reducible refine (gordered_no b1 b2 (by assumption) _).mono ?_
    rintro e u ⟨rfl, rfl⟩
    cases c2 : (FloatKind.f64.format.order r1 0 == some .eq)
    · go_wp2_with fail
      with_reducible refine (glength_any b1 b2 _).mono ?_
      rintro e w3 ⟨r3, rfl, h3, b3, d3⟩
      have H3 := Lib.hid h3
      clear h3
      replace dr := dr.trans d3
      clear d3
      go_wp2_with fail
      go_ret
      refine ⟨_, rfl, ?_, b3, dr⟩
      unfold hypA
      rw [← H1.out, ← H2.out, gt_is b2 b1, c1, if_neg (by decide), hyp2A, ← af_zero, eq_is b1 b0, c2, if_neg (by decide)]
      exact H3.out
    · go_wp2_with fail
      go_ret
      refine ⟨_, rfl, ?_, b1, dr⟩
      unfold hypA
      rw [← H1.out, ← H2.out, gt_is b2 b1, c1, if_neg (by decide), hyp2A, ← af_zero, eq_is b1 b0, c2, if_pos rfl]
  · go_wp2_with fail
    with_reducible refine (gordered_yes b1 b2 (by assumption) _).mono ?_
    rintro e u ⟨rfl, rfl⟩
    cases c2 : (FloatKind.f64.format.order r2 0 == some .eq)
    · go_wp2_with fail
      with_reducible refine (glength_any b2 b1 _).mono ?_
      rintro e w4 ⟨r4, rfl, h4, b4, d4⟩
      have H4 := Lib.hid h4
      clear h4
      replace dr := dr.trans d4
      clear d4
      go_wp2_with fail
      go_ret
      refine ⟨_, rfl, ?_, b4, dr⟩
      unfold hypA
      rw [← H1.out, ← H2.out, gt_is b2 b1, c1, if_pos rfl, hyp2A, ← af_zero, eq_is b2 b0, c2, if_neg (by decide)]
      exact H4.out
    · go_wp2_with fail
      go_ret
      refine ⟨_, rfl, ?_, b2, dr⟩
      unfold hypA
      rw [← H1.out, ← H2.out, gt_is b2 b1, c1, if_pos rfl, hyp2A, ← af_zero, eq_is b2 b0, c2, if_pos rfl]

end Go.Proofs.YtcdbjlmegkcaiaaGreatDoor
