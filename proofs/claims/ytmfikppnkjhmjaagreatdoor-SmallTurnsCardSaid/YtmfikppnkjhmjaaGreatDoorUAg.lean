/-
  Layer 6, walks: the program's functions.
-/
import Derived.Test.YtmfikppnkjhmjaaGreatDoorUAp
namespace Go.Proofs.YtmfikppnkjhmjaaGreatDoor
open Go Go.RowKit Go.Bw
set_option linter.unusedVariables false
set_option linter.unusedSimpArgs false

set_option maxHeartbeats 400000 in
theorem gAbs_any {x : Nat} (hx : x ≤ 18446744073709551615) (w : World) : Calls Tryz.prog 24 #[.float .f64 x] w (FP (absA (af x)) w) := by
  have hb := run_float64bitsG x
  have hf := run_float64frombitsG (x % 9223372036854775808 : Nat)
  rw [Int.toNat_natCast] at hf
  have e1 : bits .andNot .u64 (x : Int) 9223372036854775808 = ((x % 9223372036854775808 : Nat) : Int) := by
    rw [andnot_sign _ (by omega) (by omega)]; unfold mag; omega
  have H9 := Lib.hid (abs_is x)
  have b9 : x % 9223372036854775808 ≤ 18446744073709551615 := by omega
  generalize x % 9223372036854775808 = y at *
  go_enter Tryz.func24, Tryz.ntmps24
  go_wp2_with fail
  go_ret
  exact ⟨_, rfl, H9.out, b9, rfl⟩

theorem and_sgn {y : Nat} (hy : y ≤ 18446744073709551615) : bits .and .u64 (y : Int) 9223372036854775808 = ((y / 9223372036854775808 * 9223372036854775808 : Nat) : Int) := by
  rw [u64_and _ _ (by omega) (by omega) (by omega) (by omega)]
  rw [Int.toNat_natCast, show (9223372036854775808 : Int).toNat = 9223372036854775808 by decide, and_sign_nat y (by omega)]
  have h2 : y / 9223372036854775808 % 2 = y / 9223372036854775808 := by omega
  rw [h2]
set_option maxHeartbeats 400000 in
theorem gCopysign_any {x y : Nat} (hx : x ≤ 18446744073709551615) (hy : y ≤ 18446744073709551615) (w : World) : Calls Tryz.prog 23 #[.float .f64 x, .float .f64 y] w (FP (sgnA (af x) y) w) := by
  have hb := run_float64bitsG x
  have hb2 := run_float64bitsG y
  have hf := run_float64frombitsG (sgnW x y : Nat)
  rw [Int.toNat_natCast] at hf
  have e1 : bits .andNot .u64 (x : Int) 9223372036854775808 = ((x % 9223372036854775808 : Nat) : Int) := by
    rw [andnot_sign _ (by omega) (by omega)]; unfold mag; omega
  have e2 := and_sgn hy
  have e3 := or_sgn (x := x) hy
  have h9 := Lib.hid (sgn_isA (x := x) hy)
  have b9 := sgn_bd (x := x) hy
  generalize sgnW x y = z at *
  generalize x % 9223372036854775808 = p at *
  generalize y / 9223372036854775808 * 9223372036854775808 = q at *
  go_enter Tryz.func23, Tryz.ntmps23
  go_wp2_with fail
  go_ret
  exact ⟨_, rfl, h9.out, b9, rfl⟩
set_option maxHeartbeats 2000000 in
theorem gslant_any {t : Nat} (ht : t ≤ 18446744073709551615) (w : World) :
    Calls Tryz.prog 53 #[.float .f64 t] w (FA (rootA (af t)) w) := by
  have dr := Dr.refl w
  have b0 : 0 ≤ 18446744073709551615 := by omega
  have bI : 4607182418800017408 ≤ 18446744073709551615 := by omega
  go_enter Tryz.func53, Tryz.ntmps53
  obtain ⟨r1, w1, e1, d1, h1, b1⟩ := run_mul (P := Tryz.prog) 22 (x := t) (y := t) ht ht w
  have H1 := Lib.hid h1
  clear h1
  replace dr := dr.trans d1
  clear d1
  obtain ⟨r2, w2, e2, d2, h2, b2⟩ := run_addG (P := Tryz.prog) 22 (x := 4607182418800017408) (y := r1) bI b1 w1
  have H2 := Lib.hid h2
  clear h2
  replace dr := dr.trans d2
  clear d2
  go_wp2_with fail
  with_reducible refine (sqrt_any b2 _).mono ?_
  rintro e w3 ⟨r3, rfl, h3, b3, d3⟩
  have H3 := Lib.hid h3
  clear h3
  replace dr := dr.trans d3
  clear d3
  go_wp2_with fail
  go_ret
  refine ⟨_, rfl, ?_, b3, dr⟩
  unfold rootA
  rw [← af_one, ← H1.out, ← H2.out, ← H3.out]

set_option maxHeartbeats 2000000 in
theorem glength_any {p q : Nat} (hp : p ≤ 18446744073709551615) (hq : q ≤ 18446744073709551615) (w : World) :
    Calls Tryz.prog 27 #[.float .f64 p, .float .f64 q] w (FA (hyp1A (af p) (af q)) w) := by
  have dr := Dr.refl w
  have b0 : 0 ≤ 18446744073709551615 := by omega
  have bI : 4607182418800017408 ≤ 18446744073709551615 := by omega
  go_enter Tryz.func27, Tryz.ntmps27
  obtain ⟨r1, w1, e1, d1, h1, b1⟩ := run_quo (P := Tryz.prog) 22 (x := q) (y := p) hq hp w
  have H1 := Lib.hid h1
  clear h1
  replace dr := dr.trans d1
  clear d1
  go_wp2_with fail
  with_reducible refine (gslant_any b1 _).mono ?_
  rintro e w2 ⟨r2, rfl, h2, b2, d2⟩
  have H2 := Lib.hid h2
  clear h2
  replace dr := dr.trans d2
  clear d2
  obtain ⟨r3, w3, e3, d3, h3, b3⟩ := run_mul (P := Tryz.prog) 22 (x := p) (y := r2) hp b2 w2
  have H3 := Lib.hid h3
  clear h3
  replace dr := dr.trans d3
  clear d3
  go_wp2_with fail
  go_ret
  refine ⟨_, rfl, ?_, b3, dr⟩
  unfold hyp1A
  rw [← H1.out, ← H2.out, ← H3.out]

set_option maxHeartbeats 400000 in
theorem gordered_yes {p q : Nat} (hp : p ≤ 18446744073709551615) (hq : q ≤ 18446744073709551615) (h : (FloatKind.f64.format.order q p == some .gt) = true) (w : World) :
    Calls Tryz.prog 26 #[.float .f64 p, .float .f64 q] w fun e w' => e = .returned (.tuple #[.float .f64 q, .float .f64 p]) ∧ w = w' := by
  go_enter Tryz.func26, Tryz.ntmps26
  go_wp2_with fail
  go_ret2
  exact ⟨rfl, rfl⟩

set_option maxHeartbeats 400000 in
theorem gordered_no {p q : Nat} (hp : p ≤ 18446744073709551615) (hq : q ≤ 18446744073709551615) (h : (FloatKind.f64.format.order q p == some .gt) = false) (w : World) :
    Calls Tryz.prog 26 #[.float .f64 p, .float .f64 q] w fun e w' => e = .returned (.tuple #[.float .f64 p, .float .f64 q]) ∧ w = w' := by
  go_enter Tryz.func26, Tryz.ntmps26
  go_wp2_with fail
  go_ret2
  exact ⟨rfl, rfl⟩

end Go.Proofs.YtmfikppnkjhmjaaGreatDoor
namespace Go.Proofs.YtmfikppnkjhmjaaGreatDoor
open Go Go.RowKit Go.Bw
set_option linter.unusedVariables false
set_option linter.unusedSimpArgs false

theorem eq_fin {x : Nat} (hx : x ≤ 18446744073709551615) (h : x % 9223372036854775808 < 9218868437227405312) : eqA (some x) (some 0) = decide (x % 9223372036854775808 = 0) := by
  have hf : fin (x : Int) = true := by unfold fin mag; simp; omega
  have h2 := (order_lt x 0 hx (by omega) hf (by decide)).2.2
  have e : eqA (some x) (some 0) = (FloatKind.f64.format.order x 0 == some .eq) := rfl
  rw [e, h2]
  refine decide_eq_decide.2 ?_
  unfold sm mag
  constructor <;> intro h <;> split at * <;> omega
theorem zero_abs {x : Nat} (hx : x ≤ 18446744073709551615) : eqA (absA (af x)) (some 0) = eqA (af x) (some 0) := by
  rw [← abs_is]
  have h1 : x % 9223372036854775808 ≤ 18446744073709551615 := by omega
  have hm : x % 9223372036854775808 % 9223372036854775808 = x % 9223372036854775808 := Nat.mod_mod _ _
  cases n : isN x
  · have n2 : isN (x % 9223372036854775808) = false := by
      unfold isN at n ⊢
      rw [hm]; exact n
    have hl := notN_le n
    rw [af_some n, af_some n2]
    by_cases hi : x % 9223372036854775808 = 9218868437227405312
    · rw [hi]
      have : x = 9218868437227405312 ∨ x = 18442240474082181120 := by omega
      rcases this with rfl | rfl <;> decide
    · rw [eq_fin h1 (by omega), eq_fin hx (by omega), hm]
  · have n2 : isN (x % 9223372036854775808) = true := by
      unfold isN at n ⊢
      rw [hm]; exact n
    rw [af_none n, af_none n2]

set_option maxRecDepth 100000 in
set_option maxHeartbeats 8000000 in
theorem gNorm_any : ConNorm := by
  intro A len c l w h
  have hmx := h.max
  have hln := Lib.hid h.1
  have b0 : 0 ≤ 18446744073709551615 := by omega
  have bI : 4607182418800017408 ≤ 18446744073709551615 := by omega
  go_enter Tryz.func19, Tryz.ntmps19
  go_wp2_with fail
  go_loopw [3, 4, 12] (fun sc su i wr => ∃ (k S U : Nat), k ≤ len ∧ i = .int .i64 k ∧ sc = .float .f64 S ∧ su = .float .f64 U ∧ Hid ((af S, af U) = nrmL (l.take k)) ∧ S ≤ 18446744073709551615 ∧ U ≤ 18446744073709551615 ∧ Dr w wr) (fun _ _ i _ => len - (intOf i).toNat)
  case atStart => exact ⟨0, 0, 4607182418800017408, Nat.zero_le _, rfl, rfl, rfl, Lib.hid (by rw [af_zero, af_one]; rfl), b0, bI, Dr.refl w⟩
  case round =>
    obtain ⟨k, S, U, hk, rfl, rfl, rfl, HN, bS, bU, dr⟩ := hrel
    by_cases hlt : k < len
    · obtain ⟨ad, rfl, hb, hc⟩ := (h.dr dr).at_ hlt
      obtain ⟨x0, x1⟩ := h.2.2.at_ k
      have i0 : (0 : Int) ≤ k := by omega
      have i1 : (k : Int) < len := by omega
      have hn := Lib.hid (nrmL_next (l := l) (k := k) (by rw [hln.out]; exact hlt))
      have bX : (DG l k).toNat ≤ 18446744073709551615 := by omega
      generalize (DG l k).toNat = X at *
      have hz := Lib.hid (zero_abs bX)
      go_wp2_with fail
      with_reducible refine (gAbs_any bX _).mono ?_
      rintro e w1 ⟨r1, rfl, h1, b1, rfl⟩
      have H1 := Lib.hid h1
      clear h1
      cases c1 : (FloatKind.f64.format.order r1 0 == some .eq)
      · cases c2 : (FloatKind.f64.format.order S r1 == some .lt)
        · obtain ⟨r2, w2, e2, d2, h2, b2⟩ := run_quo (P := Tryz.prog) 22 (x := r1) (y := S) b1 bS wr
          have H2 := Lib.hid h2
          clear h2
          replace dr := dr.trans d2
          clear d2
          obtain ⟨r3, w3, e3, d3, h3, b3⟩ := run_mul (P := Tryz.prog) 22 (x := r2) (y := r2) b2 b2 w2
          have H3 := Lib.hid h3
          clear h3
          replace dr := dr.trans d3
          clear d3
          obtain ⟨r4, w4, e4, d4, h4, b4⟩ := run_addG (P := Tryz.prog) 22 (x := U) (y := r3) bU b3 w3
          have H4 := Lib.hid h4
          clear h4
          replace dr := dr.trans d4
          clear d4
          have HK : Hid ((af S, af r4) = nrmL (l.take (k + 1))) := Lib.hid (by
            rw [hn.out, ← HN.out]
            unfold nrmS
            rw [← hz.out, ← H1.out]
            dsimp only
            rw [← af_zero, eq_is b1 b0, c1, if_neg (by decide)]
            rw [lt_is bS b1, c2, if_neg (by decide), ← H2.out, ← H3.out, ← H4.out])
          go_wp2_with fail
          go_roundw
          case rel => exact ⟨k + 1, S, r4, by omega, by go_num, rfl, rfl, HK, bS, b4, dr⟩
          case measure => simp [intOf]; omega
        · obtain ⟨r5, w5, e5, d5, h5, b5⟩ := run_quo (P := Tryz.prog) 22 (x := S) (y := r1) bS b1 wr
          have H5 := Lib.hid h5
          clear h5
          replace dr := dr.trans d5
          clear d5
          obtain ⟨r6, w6, e6, d6, h6, b6⟩ := run_mul (P := Tryz.prog) 22 (x := U) (y := r5) bU b5 w5
          have H6 := Lib.hid h6
          clear h6
          replace dr := dr.trans d6
          clear d6
          obtain ⟨r7, w7, e7, d7, h7, b7⟩ := run_mul (P := Tryz.prog) 22 (x := r6) (y := r5) b6 b5 w6
          have H7 := Lib.hid h7
          clear h7
          replace dr := dr.trans d7
          clear d7
          obtain ⟨r8, w8, e8, d8, h8, b8⟩ := run_addG (P := Tryz.prog) 22 (x := 4607182418800017408) (y := r7) bI b7 w7
          have H8 := Lib.hid h8
          clear h8
          replace dr := dr.trans d8
          clear d8
          have HK : Hid ((af r1, af r8) = nrmL (l.take (k + 1))) := Lib.hid (by
            rw [hn.out, ← HN.out]
            unfold nrmS
            rw [← hz.out, ← H1.out]
            dsimp only
            rw [← af_zero, eq_is b1 b0, c1, if_neg (by decide)]
            rw [lt_is bS b1, c2, if_pos rfl, ← af_one, ← H5.out, ← H6.out, ← H7.out, ← H8.out])
          go_wp2_with fail
          go_roundw
          case rel => exact ⟨k + 1, r1, r8, by omega, by go_num, rfl, rfl, HK, b1, b8, dr⟩
          case measure => simp [intOf]; omega
      · have HK : Hid ((af S, af U) = nrmL (l.take (k + 1))) := Lib.hid (by
          rw [hn.out, ← HN.out]
          unfold nrmS
          rw [← hz.out, ← H1.out]
          rw [← af_zero, eq_is b1 b0, c1, if_pos rfl])
        go_wp2_with fail
        go_roundw
        case rel => exact ⟨k + 1, S, U, by omega, by go_num, rfl, rfl, HK, bS, bU, dr⟩
        case measure => simp [intOf]; omega
    · obtain rfl : k = len := by omega
      have ht : l.take k = l := by rw [← h.1, List.take_length]
      rw [ht] at HN
      go_wp2_with fail
      with_reducible refine (sqrt_any bU _).mono ?_
      rintro e w51 ⟨r51, rfl, h51, b51, d51⟩
      have H51 := Lib.hid h51
      clear h51
      replace dr := dr.trans d51
      clear d51
      obtain ⟨r52, w52, e52, d52, h52, b52⟩ := run_mul (P := Tryz.prog) 22 (x := S) (y := r51) bS b51 w51
      have H52 := Lib.hid h52
      clear h52
      replace dr := dr.trans d52
      clear d52
      go_wp2_with fail
      go_ret
      refine ⟨_, rfl, ?_, b52, dr⟩
      unfold nrmA
      rw [← HN.out, ← H51.out, ← H52.out]
end Go.Proofs.YtmfikppnkjhmjaaGreatDoor
namespace Go.Proofs.YtmfikppnkjhmjaaGreatDoor
open Go Go.RowKit Go.Bw
set_option linter.unusedVariables false
set_option linter.unusedSimpArgs false

theorem gHypot_any : ConHypot := by
  intro x y hx hy w
  have dr := Dr.refl w
  have b0 : 0 ≤ 18446744073709551615 := by omega
  go_enter Tryz.func7, Tryz.ntmps7
  go_wp2_with fail
  with_reducible refine (gAbs_any hx _).mono ?_
  rintro e w1 ⟨r1, rfl, h1, b1, rfl⟩
  have H1 := Lib.hid h1
  clear h1
  go_wp2_with fail
  with_reducible refine (gAbs_any hy _).mono ?_
  rintro e w2 ⟨r2, rfl, h2, b2, rfl⟩
  have H2 := Lib.hid h2
  clear h2
  cases c1 : (FloatKind.f64.format.order r2 r1 == some .gt)
  · go_wp2_with fail
    with_reducible refine (gordered_no b1 b2 (by assumption) _).mono ?_
    rintro e u ⟨rfl, rfl⟩
    cases c2 : (FloatKind.f64.format.order r1 0 == some .eq)
    · go_wp2_with fail
      with_reducible refine (glength_any b1 b2 _).mono ?_
      rintro e w3 ⟨r3, rfl, h3, b3, d3⟩
      have H3 := Lib.hid h3
      clear h3
      replace dr := dr.trans d3
      clear d3
      go_wp2_with fail
      go_ret
      refine ⟨_, rfl, ?_, b3, dr⟩
      unfold hypA
      rw [← H1.out, ← H2.out, gt_is b2 b1, c1, if_neg (by decide), hyp2A, ← af_zero, eq_is b1 b0, c2, if_neg (by decide)]
      exact H3.out
    · go_wp2_with fail
      go_ret
      refine ⟨_, rfl, ?_, b1, dr⟩
      unfold hypA
      rw [← H1.out, ← H2.out, gt_is b2 b1, c1, if_neg (by decide), hyp2A, ← af_zero, eq_is b1 b0, c2, if_pos rfl]
  · go_wp2_with fail
    with_reducible refine (gordered_yes b1 b2 (by assumption) _).mono ?_
    rintro e u ⟨rfl, rfl⟩
    cases c2 : (FloatKind.f64.format.order r2 0 == some .eq)
    · go_wp2_with fail
      with_reducible refine (glength_any b2 b1 _).mono ?_
      rintro e w4 ⟨r4, rfl, h4, b4, d4⟩
      have H4 := Lib.hid h4
      clear h4
      replace dr := dr.trans d4
      clear d4
      go_wp2_with fail
      go_ret
      refine ⟨_, rfl, ?_, b4, dr⟩
      unfold hypA
      rw [← H1.out, ← H2.out, gt_is b2 b1, c1, if_pos rfl, hyp2A, ← af_zero, eq_is b2 b0, c2, if_neg (by decide)]
      exact H4.out
    · go_wp2_with fail
      go_ret
      refine ⟨_, rfl, ?_, b2, dr⟩
      unfold hypA
      rw [← H1.out, ← H2.out, gt_is b2 b1, c1, if_pos rfl, hyp2A, ← af_zero, eq_is b2 b0, c2, if_pos rfl]

set_option maxHeartbeats 4000000 in
theorem gtoward_any {f g : Nat} (hf : f ≤ 18446744073709551615) (hg : g ≤ 18446744073709551615) (w : World) :
    Calls Tryz.prog 25 #[.float .f64 f, .float .f64 g] w (FA3 (rot1A (aop .quo (af g) (af f)) (af f)) w) := by
  have dr := Dr.refl w
  have b0 : 0 ≤ 18446744073709551615 := by omega
  have bI : 4607182418800017408 ≤ 18446744073709551615 := by omega
  go_enter Tryz.func25, Tryz.ntmps25
  obtain ⟨r1, w1, e1, d1, h1, b1⟩ := run_quo (P := Tryz.prog) 22 (x := g) (y := f) hg hf w
  have H1 := Lib.hid h1
  clear h1
  replace dr := dr.trans d1
  clear d1
  go_wp2_with fail
  with_reducible refine (gslant_any b1 _).mono ?_
  rintro e w2 ⟨r2, rfl, h2, b2, d2⟩
  have H2 := Lib.hid h2
  clear h2
  replace dr := dr.trans d2
  clear d2
  obtain ⟨r3, w3, e3, d3, h3, b3⟩ := run_quo (P := Tryz.prog) 22 (x := 4607182418800017408) (y := r2) bI b2 w2
  have H3 := Lib.hid h3
  clear h3
  replace dr := dr.trans d3
  clear d3
  obtain ⟨r4, w4, e4, d4, h4, b4⟩ := run_mul (P := Tryz.prog) 22 (x := r3) (y := r1) b3 b1 w3
  have H4 := Lib.hid h4
  clear h4
  replace dr := dr.trans d4
  clear d4
  obtain ⟨r5, w5, e5, d5, h5, b5⟩ := run_mul (P := Tryz.prog) 22 (x := f) (y := r2) hf b2 w4
  have H5 := Lib.hid h5
  clear h5
  replace dr := dr.trans d5
  clear d5
  go_wp2_with fail
  go_ret3
  refine ⟨_, _, _, rfl, ?_, b3, b4, b5, dr⟩
  unfold rot1A
  simp only [← af_one, ← H1.out]
  simp only [← H2.out]
  simp only [← H3.out]
  simp only [← H4.out]
  simp only [← H5.out]
  exact ⟨trivial, trivial, trivial⟩

set_option maxHeartbeats 2000000 in
theorem gGivens_any : ConGivens := by
  intro x y hx hy w
  have dr := Dr.refl w
  have b0 : 0 ≤ 18446744073709551615 := by omega
  have bI : 4607182418800017408 ≤ 18446744073709551615 := by omega
  go_enter Tryz.func6, Tryz.ntmps6
  cases c1 : (FloatKind.f64.format.order y 0 == some .eq)
  · cases c2 : (FloatKind.f64.format.order x 0 == some .eq)
    · go_wp2_with fail
      with_reducible refine (gAbs_any hx _).mono ?_
      rintro e w1 ⟨r1, rfl, h1, b1, rfl⟩
      have H1 := Lib.hid h1
      clear h1
      go_wp2_with fail
      with_reducible refine (gAbs_any hy _).mono ?_
      rintro e w2 ⟨r2, rfl, h2, b2, rfl⟩
      have H2 := Lib.hid h2
      clear h2
      cases c3 : (FloatKind.f64.format.order r1 r2 == some .gt)
      · go_wp2_with fail
        with_reducible refine (gtoward_any hy hx _).mono ?_
        rintro e w3 ⟨r3a, r3b, r3c, rfl, h3, b3a, b3b, b3c, d3⟩
        have H3 := Lib.hid h3
        clear h3
        replace dr := dr.trans d3
        clear d3
        go_wp2_with fail
        go_ret3
        refine ⟨r3b, r3a, r3c, rfl, ?_, b3b, b3a, b3c, dr⟩
        unfold givA
        rw [← af_zero, eq_is hy b0, c1, if_neg (by decide), eq_is hx b0, c2, if_neg (by decide), ← H1.out, ← H2.out, gt_is b1 b2, c3, if_neg (by decide)]
        exact ⟨H3.out.2.1, H3.out.1, H3.out.2.2⟩
      · go_wp2_with fail
        with_reducible refine (gtoward_any hx hy _).mono ?_
        rintro e w4 ⟨r4a, r4b, r4c, rfl, h4, b4a, b4b, b4c, d4⟩
        have H4 := Lib.hid h4
        clear h4
        replace dr := dr.trans d4
        clear d4
        go_wp2_with fail
        go_ret3
        refine ⟨r4a, r4b, r4c, rfl, ?_, b4a, b4b, b4c, dr⟩
        unfold givA
        rw [← af_zero, eq_is hy b0, c1, if_neg (by decide), eq_is hx b0, c2, if_neg (by decide), ← H1.out, ← H2.out, gt_is b1 b2, c3, if_pos rfl]
        exact H4.out
    · go_wp2_with fail
      go_ret3
      refine ⟨_, _, _, rfl, ?_, b0, bI, hy, dr⟩
      unfold givA
      rw [← af_zero, eq_is hy b0, c1, if_neg (by decide), eq_is hx b0, c2, if_pos rfl, ← af_one]
      exact ⟨rfl, rfl, rfl⟩
  · go_wp2_with fail
    go_ret3
    refine ⟨_, _, _, rfl, ?_, bI, b0, hx, dr⟩
    unfold givA
    rw [← af_zero, eq_is hy b0, c1, if_pos rfl, ← af_one]
    exact ⟨rfl, rfl, rfl⟩

set_option maxHeartbeats 4000000 in
theorem gbetween_any {p q : Nat} (hp : p ≤ 18446744073709551615) (hq : q ≤ 18446744073709551615) (w : World) :
    Calls Tryz.prog 48 #[.float .f64 p, .float .f64 q] w (FA (rtA (af p) (af q)) w) := by
  have dr := Dr.refl w
  have b0 : 0 ≤ 18446744073709551615 := by omega
  have bI : 4607182418800017408 ≤ 18446744073709551615 := by omega
  go_enter Tryz.func48, Tryz.ntmps48
  cases c1 : (FloatKind.f64.format.order p q == some .gt)
  · cases c2 : (FloatKind.f64.format.order p q == some .lt)
    · go_wp2_with fail
      with_reducible refine (sqrt_any (by omega) _).mono ?_
      rintro e w1 ⟨r1, rfl, h1, b1, d1⟩
      have H1 := Lib.hid h1
      clear h1
      replace dr := dr.trans d1
      clear d1
      obtain ⟨r2, w2, e2, d2, h2, b2⟩ := run_mul (P := Tryz.prog) 22 (x := q) (y := r1) hq b1 w1
      have H2 := Lib.hid h2
      clear h2
      replace dr := dr.trans d2
      clear d2
      go_wp2_with fail
      go_ret
      refine ⟨_, rfl, ?_, b2, dr⟩
      unfold rtA
      rw [gt_is hp hq, c1, if_neg (by decide)]
      rw [lt_is hp hq, c2, if_neg (by decide)]
      rw [← af_two, ← H1.out, ← H2.out]
    · go_wp2_with fail
      with_reducible refine (glength_any hq hp _).mono ?_
      rintro e w3 ⟨r3, rfl, h3, b3, d3⟩
      have H3 := Lib.hid h3
      clear h3
      replace dr := dr.trans d3
      clear d3
      go_wp2_with fail
      go_ret
      refine ⟨_, rfl, ?_, b3, dr⟩
      unfold rtA
      rw [gt_is hp hq, c1, if_neg (by decide)]
      rw [lt_is hp hq, c2, if_pos rfl]
      exact H3.out
  · go_wp2_with fail
    with_reducible refine (glength_any hp hq _).mono ?_
    rintro e w4 ⟨r4, rfl, h4, b4, d4⟩
    have H4 := Lib.hid h4
    clear h4
    replace dr := dr.trans d4
    clear d4
    go_wp2_with fail
    go_ret
    refine ⟨_, rfl, ?_, b4, dr⟩
    unfold rtA
    rw [gt_is hp hq, c1, if_pos rfl]
    exact H4.out

set_option maxHeartbeats 4000000 in
theorem gvector_any {c t : Nat} (hc : c ≤ 18446744073709551615) (ht : t ≤ 18446744073709551615) (w : World) :
    Calls Tryz.prog 50 #[.float .f64 c, .float .f64 t] w (FA2 (snA (af c) (absA (af t)) (af t)) w) := by
  have dr := Dr.refl w
  have b0 : 0 ≤ 18446744073709551615 := by omega
  have bI : 4607182418800017408 ≤ 18446744073709551615 := by omega
  go_enter Tryz.func50, Tryz.ntmps50
  go_wp2_with fail
  with_reducible refine (gAbs_any ht _).mono ?_
  rintro e w1 ⟨r1, rfl, h1, b1, rfl⟩
  have H1 := Lib.hid h1
  clear h1
  go_wp2_with fail
  with_reducible refine (gAbs_any hc _).mono ?_
  rintro e w2 ⟨r2, rfl, h2, b2, rfl⟩
  have H2 := Lib.hid h2
  clear h2
  cases i1 : (FloatKind.f64.format.order r2 r1 == some .gt)
  · cases i2 : (FloatKind.f64.format.order r1 0 == some .eq)
    · obtain ⟨r3, e3, h3, b3⟩ := run_neg (P := Tryz.prog) (x := c) hc
      have H3 := Lib.hid h3
      clear h3
      obtain ⟨r4, w4, e4, d4, h4, b4⟩ := run_quo (P := Tryz.prog) 22 (x := r3) (y := t) b3 ht w
      have H4 := Lib.hid h4
      clear h4
      replace dr := dr.trans d4
      clear d4
      go_wp2_with fail
      with_reducible refine (gslant_any b4 _).mono ?_
      rintro e w5 ⟨r5, rfl, h5, b5, d5⟩
      have H5 := Lib.hid h5
      clear h5
      replace dr := dr.trans d5
      clear d5
      obtain ⟨r6, w6, e6, d6, h6, b6⟩ := run_quo (P := Tryz.prog) 22 (x := 4607182418800017408) (y := r5) bI b5 w5
      have H6 := Lib.hid h6
      clear h6
      replace dr := dr.trans d6
      clear d6
      obtain ⟨r7, w7, e7, d7, h7, b7⟩ := run_mul (P := Tryz.prog) 22 (x := r4) (y := r6) b4 b6 w6
      have H7 := Lib.hid h7
      clear h7
      replace dr := dr.trans d7
      clear d7
      go_wp2_with fail
      go_ret2
      refine ⟨_, _, rfl, ?_, b6, b7, dr⟩
      unfold snA
      rw [← H1.out, ← H2.out, gt_is b2 b1, i1, if_neg (by decide)]
      rw [← af_zero, eq_is b1 b0, i2, if_neg (by decide)]
      simp only [← af_one]
      simp only [← H3.out]
      simp only [← H4.out]
      simp only [← H5.out]
      simp only [← H6.out]
      simp only [← H7.out]
      exact ⟨trivial, trivial⟩
    · go_wp2_with fail
      go_ret2
      refine ⟨_, _, rfl, ?_, bI, b0, dr⟩
      unfold snA
      rw [← H1.out, ← H2.out, gt_is b2 b1, i1, if_neg (by decide)]
      rw [← af_zero, eq_is b1 b0, i2, if_pos rfl]
      rw [← af_one]
      exact ⟨rfl, rfl⟩
  · obtain ⟨r8, e8, h8, b8⟩ := run_neg (P := Tryz.prog) (x := t) ht
    have H8 := Lib.hid h8
    clear h8
    obtain ⟨r9, w9, e9, d9, h9, b9⟩ := run_quo (P := Tryz.prog) 22 (x := r8) (y := c) b8 hc w
    have H9 := Lib.hid h9
    clear h9
    replace dr := dr.trans d9
    clear d9
    go_wp2_with fail
    with_reducible refine (gslant_any b9 _).mono ?_
    rintro e w10 ⟨r10, rfl, h10, b10, d10⟩
    have H10 := Lib.hid h10
    clear h10
    replace dr := dr.trans d10
    clear d10
    obtain ⟨r11, w11, e11, d11, h11, b11⟩ := run_quo (P := Tryz.prog) 22 (x := 4607182418800017408) (y := r10) bI b10 w10
    have H11 := Lib.hid h11
    clear h11
    replace dr := dr.trans d11
    clear d11
    obtain ⟨r12, w12, e12, d12, h12, b12⟩ := run_mul (P := Tryz.prog) 22 (x := r9) (y := r11) b9 b11 w11
    have H12 := Lib.hid h12
    clear h12
    replace dr := dr.trans d12
    clear d12
    go_wp2_with fail
    go_ret2
    refine ⟨_, _, rfl, ?_, b12, b11, dr⟩
    unfold snA
    rw [← H1.out, ← H2.out, gt_is b2 b1, i1, if_pos rfl]
    simp only [← af_one]
    simp only [← H8.out]
    simp only [← H9.out]
    simp only [← H10.out]
    simp only [← H11.out]
    simp only [← H12.out]
    exact ⟨trivial, trivial⟩

set_option maxHeartbeats 4000000 in
theorem gsteep_any {l h g : Nat} (hl : l ≤ 18446744073709551615) (hh : h ≤ 18446744073709551615) (hg : g ≤ 18446744073709551615) (w : World) :
    Calls Tryz.prog 51 #[.float .f64 l, .float .f64 h, .float .f64 g] w (FA2 (sgA (af l) (af h) (af g)) w) := by
  have dr := Dr.refl w
  have b0 : 0 ≤ 18446744073709551615 := by omega
  have bI : 4607182418800017408 ≤ 18446744073709551615 := by omega
  go_enter Tryz.func51, Tryz.ntmps51
  obtain ⟨r1, w1, e1, d1, h1, b1⟩ := run_quo (P := Tryz.prog) 22 (x := l) (y := h) hl hh w
  have H1 := Lib.hid h1
  clear h1
  replace dr := dr.trans d1
  clear d1
  obtain ⟨r2, w2, e2, d2, h2, b2⟩ := run_addG (P := Tryz.prog) 22 (x := 4607182418800017408) (y := r1) bI b1 w1
  have H2 := Lib.hid h2
  clear h2
  replace dr := dr.trans d2
  clear d2
  obtain ⟨r3, w3, e3, d3, h3, b3⟩ := run_subG (P := Tryz.prog) 22 (x := h) (y := l) hh hl w2
  have H3 := Lib.hid h3
  clear h3
  replace dr := dr.trans d3
  clear d3
  obtain ⟨r4, w4, e4, d4, h4, b4⟩ := run_quo (P := Tryz.prog) 22 (x := r3) (y := h) b3 hh w3
  have H4 := Lib.hid h4
  clear h4
  replace dr := dr.trans d4
  clear d4
  obtain ⟨r5, w5, e5, d5, h5, b5⟩ := run_quo (P := Tryz.prog) 22 (x := g) (y := h) hg hh w4
  have H5 := Lib.hid h5
  clear h5
  replace dr := dr.trans d5
  clear d5
  obtain ⟨r6, w6, e6, d6, h6, b6⟩ := run_mul (P := Tryz.prog) 22 (x := r5) (y := r5) b5 b5 w5
  have H6 := Lib.hid h6
  clear h6
  replace dr := dr.trans d6
  clear d6
  obtain ⟨r7, w7, e7, d7, h7, b7⟩ := run_mul (P := Tryz.prog) 22 (x := r2) (y := r2) b2 b2 w6
  have H7 := Lib.hid h7
  clear h7
  replace dr := dr.trans d7
  clear d7
  obtain ⟨r8, w8, e8, d8, h8, b8⟩ := run_addG (P := Tryz.prog) 22 (x := r7) (y := r6) b7 b6 w7
  have H8 := Lib.hid h8
  clear h8
  replace dr := dr.trans d8
  clear d8
  go_wp2_with fail
  with_reducible refine (sqrt_any b8 _).mono ?_
  rintro e w9 ⟨r9, rfl, h9, b9, d9⟩
  have H9 := Lib.hid h9
  clear h9
  replace dr := dr.trans d9
  clear d9
  obtain ⟨r10, w10, e10, d10, h10, b10⟩ := run_mul (P := Tryz.prog) 22 (x := r4) (y := r4) b4 b4 w9
  have H10 := Lib.hid h10
  clear h10
  replace dr := dr.trans d10
  clear d10
  obtain ⟨r11, w11, e11, d11, h11, b11⟩ := run_addG (P := Tryz.prog) 22 (x := r10) (y := r6) b10 b6 w10
  have H11 := Lib.hid h11
  clear h11
  replace dr := dr.trans d11
  clear d11
  go_wp2_with fail
  with_reducible refine (sqrt_any b11 _).mono ?_
  rintro e w12 ⟨r12, rfl, h12, b12, d12⟩
  have H12 := Lib.hid h12
  clear h12
  replace dr := dr.trans d12
  clear d12
  obtain ⟨r13, w13, e13, d13, h13, b13⟩ := run_addG (P := Tryz.prog) 22 (x := r9) (y := r12) b9 b12 w12
  have H13 := Lib.hid h13
  clear h13
  replace dr := dr.trans d13
  clear d13
  obtain ⟨r14, w14, e14, d14, h14, b14⟩ := run_quo (P := Tryz.prog) 22 (x := 4611686018427387904) (y := r13) (by omega) b13 w13
  have H14 := Lib.hid h14
  clear h14
  replace dr := dr.trans d14
  clear d14
  obtain ⟨r15, w15, e15, d15, h15, b15⟩ := run_mul (P := Tryz.prog) 22 (x := l) (y := r14) hl b14 w14
  have H15 := Lib.hid h15
  clear h15
  replace dr := dr.trans d15
  clear d15
  obtain ⟨r16, w16, e16, d16, h16, b16⟩ := run_quo (P := Tryz.prog) 22 (x := h) (y := r14) hh b14 w15
  have H16 := Lib.hid h16
  clear h16
  replace dr := dr.trans d16
  clear d16
  go_wp2_with fail
  go_ret2
  refine ⟨_, _, rfl, ?_, b15, b16, dr⟩
  simp only [sgA, ← af_one, ← af_two]
  simp only [← H1.out]
  simp only [← H2.out]
  simp only [← H3.out]
  simp only [← H4.out]
  simp only [← H5.out]
  simp only [← H6.out]
  simp only [← H7.out]
  simp only [← H10.out]
  simp only [← H8.out]
  simp only [← H9.out]
  simp only [← H11.out]
  simp only [← H12.out]
  simp only [← H13.out]
  simp only [← H14.out]
  simp only [← H15.out]
  simp only [← H16.out]
  exact ⟨trivial, trivial⟩

set_option maxHeartbeats 4000000 in
theorem gflat_any {l h g : Nat} (hl : l ≤ 18446744073709551615) (hh : h ≤ 18446744073709551615) (hg : g ≤ 18446744073709551615) (w : World) :
    Calls Tryz.prog 52 #[.float .f64 l, .float .f64 h, .float .f64 g] w (FA2 (sbA (af l) (af h) (af g) (aop .quo (af h) (af g))) w) := by
  have dr := Dr.refl w
  have b0 : 0 ≤ 18446744073709551615 := by omega
  have bI : 4607182418800017408 ≤ 18446744073709551615 := by omega
  go_enter Tryz.func52, Tryz.ntmps52
  obtain ⟨r1, w1, e1, d1, h1, b1⟩ := run_quo (P := Tryz.prog) 22 (x := l) (y := h) hl hh w
  have H1 := Lib.hid h1
  clear h1
  replace dr := dr.trans d1
  clear d1
  obtain ⟨r2, w2, e2, d2, h2, b2⟩ := run_addG (P := Tryz.prog) 22 (x := 4607182418800017408) (y := r1) bI b1 w1
  have H2 := Lib.hid h2
  clear h2
  replace dr := dr.trans d2
  clear d2
  obtain ⟨r3, w3, e3, d3, h3, b3⟩ := run_subG (P := Tryz.prog) 22 (x := h) (y := l) hh hl w2
  have H3 := Lib.hid h3
  clear h3
  replace dr := dr.trans d3
  clear d3
  obtain ⟨r4, w4, e4, d4, h4, b4⟩ := run_quo (P := Tryz.prog) 22 (x := r3) (y := h) b3 hh w3
  have H4 := Lib.hid h4
  clear h4
  replace dr := dr.trans d4
  clear d4
  obtain ⟨r5, w5, e5, d5, h5, b5⟩ := run_quo (P := Tryz.prog) 22 (x := h) (y := g) hh hg w4
  have H5 := Lib.hid h5
  clear h5
  replace dr := dr.trans d5
  clear d5
  obtain ⟨r6, w6, e6, d6, h6, b6⟩ := run_mul (P := Tryz.prog) 22 (x := r2) (y := r5) b2 b5 w5
  have H6 := Lib.hid h6
  clear h6
  replace dr := dr.trans d6
  clear d6
  go_wp2_with fail
  with_reducible refine (gslant_any b6 _).mono ?_
  rintro e w7 ⟨r7, rfl, h7, b7, d7⟩
  have H7 := Lib.hid h7
  clear h7
  replace dr := dr.trans d7
  clear d7
  obtain ⟨r8, w8, e8, d8, h8, b8⟩ := run_mul (P := Tryz.prog) 22 (x := r4) (y := r5) b4 b5 w7
  have H8 := Lib.hid h8
  clear h8
  replace dr := dr.trans d8
  clear d8
  go_wp2_with fail
  with_reducible refine (gslant_any b8 _).mono ?_
  rintro e w9 ⟨r9, rfl, h9, b9, d9⟩
  have H9 := Lib.hid h9
  clear h9
  replace dr := dr.trans d9
  clear d9
  obtain ⟨r10, w10, e10, d10, h10, b10⟩ := run_addG (P := Tryz.prog) 22 (x := r7) (y := r9) b7 b9 w9
  have H10 := Lib.hid h10
  clear h10
  replace dr := dr.trans d10
  clear d10
  obtain ⟨r11, w11, e11, d11, h11, b11⟩ := run_quo (P := Tryz.prog) 22 (x := 4607182418800017408) (y := r10) bI b10 w10
  have H11 := Lib.hid h11
  clear h11
  replace dr := dr.trans d11
  clear d11
  obtain ⟨r12, w12, e12, d12, h12, b12⟩ := run_mul (P := Tryz.prog) 22 (x := l) (y := r11) hl b11 w11
  have H12 := Lib.hid h12
  clear h12
  replace dr := dr.trans d12
  clear d12
  obtain ⟨r13, w13, e13, d13, h13, b13⟩ := run_mul (P := Tryz.prog) 22 (x := r12) (y := r5) b12 b5 w12
  have H13 := Lib.hid h13
  clear h13
  replace dr := dr.trans d13
  clear d13
  obtain ⟨r14, w14, e14, d14, h14, b14⟩ := run_addG (P := Tryz.prog) 22 (x := r13) (y := r13) b13 b13 w13
  have H14 := Lib.hid h14
  clear h14
  replace dr := dr.trans d14
  clear d14
  obtain ⟨r15, w15, e15, d15, h15, b15⟩ := run_addG (P := Tryz.prog) 22 (x := r11) (y := r11) b11 b11 w14
  have H15 := Lib.hid h15
  clear h15
  replace dr := dr.trans d15
  clear d15
  obtain ⟨r16, w16, e16, d16, h16, b16⟩ := run_quo (P := Tryz.prog) 22 (x := g) (y := r15) hg b15 w15
  have H16 := Lib.hid h16
  clear h16
  replace dr := dr.trans d16
  clear d16
  have Er7 := H7.out
  unfold rootA at Er7
  rw [← af_one] at Er7
  replace Er7 := Lib.hid Er7
  have Er9 := H9.out
  unfold rootA at Er9
  rw [← af_one] at Er9
  replace Er9 := Lib.hid Er9
  go_wp2_with fail
  go_ret2
  refine ⟨_, _, rfl, ?_, b14, b16, dr⟩
  simp only [sbA, ← af_one]
  simp only [← H5.out]
  simp only [← H1.out]
  simp only [← H2.out]
  simp only [← H3.out]
  simp only [← H4.out]
  simp only [← H6.out]
  simp only [← H8.out]
  simp only [← Er7.out]
  simp only [← Er9.out]
  simp only [← H10.out]
  simp only [← H11.out]
  simp only [← H12.out]
  simp only [← H13.out]
  simp only [← H14.out]
  simp only [← H15.out]
  simp only [← H16.out]
  exact ⟨trivial, trivial⟩
end Go.Proofs.YtmfikppnkjhmjaaGreatDoor
namespace Go.Proofs.YtmfikppnkjhmjaaGreatDoor
open Go Go.RowKit Go.Bw
set_option linter.unusedVariables false
set_option linter.unusedSimpArgs false

/-- the eigenvalues, and the side on which the first one is said to lie -/
def FAv (p : Option Nat × Option Nat × Int) (w : World) (e : Ending) (w' : World) : Prop := ∃ (a b : Nat) (n : Int), e = .returned (.tuple #[.float .f64 a, .float .f64 b, .int .i64 n]) ∧ (af a, af b, n) = p ∧ a ≤ 18446744073709551615 ∧ b ≤ 18446744073709551615 ∧ Dr w w'

set_option maxHeartbeats 4000000 in
theorem gvalues_any {a b c r : Nat} (ha : a ≤ 18446744073709551615) (hb : b ≤ 18446744073709551615) (hc : c ≤ 18446744073709551615) (hr : r ≤ 18446744073709551615) (w : World) :
    Calls Tryz.prog 49 #[.float .f64 a, .float .f64 b, .float .f64 c, .float .f64 r] w (FAv (xyA (aop .add (af a) (af c)) (af r) (hiA (af a) (af c)).1 (hiA (af a) (af c)).2 (af b)) w) := by
  have dr := Dr.refl w
  have b0 : 0 ≤ 18446744073709551615 := by omega
  have bI : 4607182418800017408 ≤ 18446744073709551615 := by omega
  go_enter Tryz.func49, Tryz.ntmps49
  go_wp2_with fail
  with_reducible refine (gAbs_any ha _).mono ?_
  rintro e w1 ⟨r1, rfl, h1, b1, rfl⟩
  have H1 := Lib.hid h1
  clear h1
  go_wp2_with fail
  with_reducible refine (gAbs_any hc _).mono ?_
  rintro e w2 ⟨r2, rfl, h2, b2, rfl⟩
  have H2 := Lib.hid h2
  clear h2
  cases c1 : (FloatKind.f64.format.order r1 r2 == some .gt)
  · obtain ⟨r3, w3, e3, d3, h3, b3⟩ := run_addG (P := Tryz.prog) 22 (x := a) (y := c) ha hc w
    have H3 := Lib.hid h3
    clear h3
    replace dr := dr.trans d3
    clear d3
    cases f1 : (FloatKind.f64.format.order r3 0 == some .lt)
    · cases f2 : (FloatKind.f64.format.order r3 0 == some .gt)
      · obtain ⟨r4, w4, e4, d4, h4, b4⟩ := run_mul (P := Tryz.prog) 22 (x := 4602678819172646912) (y := r) (by omega) hr w3
        have H4 := Lib.hid h4
        clear h4
        replace dr := dr.trans d4
        clear d4
        obtain ⟨r5, w5, e5, d5, h5, b5⟩ := run_mul (P := Tryz.prog) 22 (x := 13826050856027422720) (y := r) (by omega) hr w4
        have H5 := Lib.hid h5
        clear h5
        replace dr := dr.trans d5
        clear d5
        go_wp2_with fail
        go_ret3
        refine ⟨_, _, 1, rfl, ?_, b4, b5, dr⟩
        unfold hiA
        rw [← H1.out, ← H2.out, gt_is b1 b2, c1, if_neg (by decide)]
        unfold xyA
        simp only [← H3.out]
        rw [← af_zero, lt_is b3 b0, f1, if_neg (by decide)]
        rw [gt_is b3 b0, f2, if_neg (by decide)]
        simp only [← af_half, ← af_mhalf]
        simp only [← H4.out]
        simp only [← H5.out]
      · obtain ⟨r6, w6, e6, d6, h6, b6⟩ := run_addG (P := Tryz.prog) 22 (x := r3) (y := r) b3 hr w3
        have H6 := Lib.hid h6
        clear h6
        replace dr := dr.trans d6
        clear d6
        obtain ⟨r7, w7, e7, d7, h7, b7⟩ := run_mul (P := Tryz.prog) 22 (x := 4602678819172646912) (y := r6) (by omega) b6 w6
        have H7 := Lib.hid h7
        clear h7
        replace dr := dr.trans d7
        clear d7
        obtain ⟨r8, w8, e8, d8, h8, b8⟩ := run_quo (P := Tryz.prog) 22 (x := c) (y := r7) hc b7 w7
        have H8 := Lib.hid h8
        clear h8
        replace dr := dr.trans d8
        clear d8
        obtain ⟨r9, w9, e9, d9, h9, b9⟩ := run_mul (P := Tryz.prog) 22 (x := r8) (y := a) b8 ha w8
        have H9 := Lib.hid h9
        clear h9
        replace dr := dr.trans d9
        clear d9
        obtain ⟨r10, w10, e10, d10, h10, b10⟩ := run_quo (P := Tryz.prog) 22 (x := b) (y := r7) hb b7 w9
        have H10 := Lib.hid h10
        clear h10
        replace dr := dr.trans d10
        clear d10
        obtain ⟨r11, w11, e11, d11, h11, b11⟩ := run_mul (P := Tryz.prog) 22 (x := r10) (y := b) b10 hb w10
        have H11 := Lib.hid h11
        clear h11
        replace dr := dr.trans d11
        clear d11
        obtain ⟨r12, w12, e12, d12, h12, b12⟩ := run_subG (P := Tryz.prog) 22 (x := r9) (y := r11) b9 b11 w11
        have H12 := Lib.hid h12
        clear h12
        replace dr := dr.trans d12
        clear d12
        go_wp2_with fail
        go_ret3
        refine ⟨_, _, 1, rfl, ?_, b7, b12, dr⟩
        unfold hiA
        rw [← H1.out, ← H2.out, gt_is b1 b2, c1, if_neg (by decide)]
        unfold xyA
        simp only [← H3.out]
        unfold yA
        rw [← af_zero, lt_is b3 b0, f1, if_neg (by decide)]
        rw [gt_is b3 b0, f2, if_pos rfl]
        simp only [← af_half]
        simp only [← H6.out]
        simp only [← H7.out]
        simp only [← H8.out]
        simp only [← H9.out]
        simp only [← H10.out]
        simp only [← H11.out]
        simp only [← H12.out]
    · obtain ⟨r13, w13, e13, d13, h13, b13⟩ := run_subG (P := Tryz.prog) 22 (x := r3) (y := r) b3 hr w3
      have H13 := Lib.hid h13
      clear h13
      replace dr := dr.trans d13
      clear d13
      obtain ⟨r14, w14, e14, d14, h14, b14⟩ := run_mul (P := Tryz.prog) 22 (x := 4602678819172646912) (y := r13) (by omega) b13 w13
      have H14 := Lib.hid h14
      clear h14
      replace dr := dr.trans d14
      clear d14
      obtain ⟨r15, w15, e15, d15, h15, b15⟩ := run_quo (P := Tryz.prog) 22 (x := c) (y := r14) hc b14 w14
      have H15 := Lib.hid h15
      clear h15
      replace dr := dr.trans d15
      clear d15
      obtain ⟨r16, w16, e16, d16, h16, b16⟩ := run_mul (P := Tryz.prog) 22 (x := r15) (y := a) b15 ha w15
      have H16 := Lib.hid h16
      clear h16
      replace dr := dr.trans d16
      clear d16
      obtain ⟨r17, w17, e17, d17, h17, b17⟩ := run_quo (P := Tryz.prog) 22 (x := b) (y := r14) hb b14 w16
      have H17 := Lib.hid h17
      clear h17
      replace dr := dr.trans d17
      clear d17
      obtain ⟨r18, w18, e18, d18, h18, b18⟩ := run_mul (P := Tryz.prog) 22 (x := r17) (y := b) b17 hb w17
      have H18 := Lib.hid h18
      clear h18
      replace dr := dr.trans d18
      clear d18
      obtain ⟨r19, w19, e19, d19, h19, b19⟩ := run_subG (P := Tryz.prog) 22 (x := r16) (y := r18) b16 b18 w18
      have H19 := Lib.hid h19
      clear h19
      replace dr := dr.trans d19
      clear d19
      go_wp2_with fail
      go_ret3
      refine ⟨_, _, (-1), rfl, ?_, b14, b19, dr⟩
      unfold hiA
      rw [← H1.out, ← H2.out, gt_is b1 b2, c1, if_neg (by decide)]
      unfold xyA
      simp only [← H3.out]
      unfold yA
      rw [← af_zero, lt_is b3 b0, f1, if_pos rfl]
      simp only [← af_half]
      simp only [← H13.out]
      simp only [← H14.out]
      simp only [← H15.out]
      simp only [← H16.out]
      simp only [← H17.out]
      simp only [← H18.out]
      simp only [← H19.out]
  · obtain ⟨r20, w20, e20, d20, h20, b20⟩ := run_addG (P := Tryz.prog) 22 (x := a) (y := c) ha hc w
    have H20 := Lib.hid h20
    clear h20
    replace dr := dr.trans d20
    clear d20
    cases f1 : (FloatKind.f64.format.order r20 0 == some .lt)
    · cases f2 : (FloatKind.f64.format.order r20 0 == some .gt)
      · obtain ⟨r21, w21, e21, d21, h21, b21⟩ := run_mul (P := Tryz.prog) 22 (x := 4602678819172646912) (y := r) (by omega) hr w20
        have H21 := Lib.hid h21
        clear h21
        replace dr := dr.trans d21
        clear d21
        obtain ⟨r22, w22, e22, d22, h22, b22⟩ := run_mul (P := Tryz.prog) 22 (x := 13826050856027422720) (y := r) (by omega) hr w21
        have H22 := Lib.hid h22
        clear h22
        replace dr := dr.trans d22
        clear d22
        go_wp2_with fail
        go_ret3
        refine ⟨_, _, 1, rfl, ?_, b21, b22, dr⟩
        unfold hiA
        rw [← H1.out, ← H2.out, gt_is b1 b2, c1, if_pos rfl]
        unfold xyA
        simp only [← H20.out]
        rw [← af_zero, lt_is b20 b0, f1, if_neg (by decide)]
        rw [gt_is b20 b0, f2, if_neg (by decide)]
        simp only [← af_half, ← af_mhalf]
        simp only [← H21.out]
        simp only [← H22.out]
      · obtain ⟨r23, w23, e23, d23, h23, b23⟩ := run_addG (P := Tryz.prog) 22 (x := r20) (y := r) b20 hr w20
        have H23 := Lib.hid h23
        clear h23
        replace dr := dr.trans d23
        clear d23
        obtain ⟨r24, w24, e24, d24, h24, b24⟩ := run_mul (P := Tryz.prog) 22 (x := 4602678819172646912) (y := r23) (by omega) b23 w23
        have H24 := Lib.hid h24
        clear h24
        replace dr := dr.trans d24
        clear d24
        obtain ⟨r25, w25, e25, d25, h25, b25⟩ := run_quo (P := Tryz.prog) 22 (x := a) (y := r24) ha b24 w24
        have H25 := Lib.hid h25
        clear h25
        replace dr := dr.trans d25
        clear d25
        obtain ⟨r26, w26, e26, d26, h26, b26⟩ := run_mul (P := Tryz.prog) 22 (x := r25) (y := c) b25 hc w25
        have H26 := Lib.hid h26
        clear h26
        replace dr := dr.trans d26
        clear d26
        obtain ⟨r27, w27, e27, d27, h27, b27⟩ := run_quo (P := Tryz.prog) 22 (x := b) (y := r24) hb b24 w26
        have H27 := Lib.hid h27
        clear h27
        replace dr := dr.trans d27
        clear d27
        obtain ⟨r28, w28, e28, d28, h28, b28⟩ := run_mul (P := Tryz.prog) 22 (x := r27) (y := b) b27 hb w27
        have H28 := Lib.hid h28
        clear h28
        replace dr := dr.trans d28
        clear d28
        obtain ⟨r29, w29, e29, d29, h29, b29⟩ := run_subG (P := Tryz.prog) 22 (x := r26) (y := r28) b26 b28 w28
        have H29 := Lib.hid h29
        clear h29
        replace dr := dr.trans d29
        clear d29
        go_wp2_with fail
        go_ret3
        refine ⟨_, _, 1, rfl, ?_, b24, b29, dr⟩
        unfold hiA
        rw [← H1.out, ← H2.out, gt_is b1 b2, c1, if_pos rfl]
        unfold xyA
        simp only [← H20.out]
        unfold yA
        rw [← af_zero, lt_is b20 b0, f1, if_neg (by decide)]
        rw [gt_is b20 b0, f2, if_pos rfl]
        simp only [← af_half]
        simp only [← H23.out]
        simp only [← H24.out]
        simp only [← H25.out]
        simp only [← H26.out]
        simp only [← H27.out]
        simp only [← H28.out]
        simp only [← H29.out]
    · obtain ⟨r30, w30, e30, d30, h30, b30⟩ := run_subG (P := Tryz.prog) 22 (x := r20) (y := r) b20 hr w20
      have H30 := Lib.hid h30
      clear h30
      replace dr := dr.trans d30
      clear d30
      obtain ⟨r31, w31, e31, d31, h31, b31⟩ := run_mul (P := Tryz.prog) 22 (x := 4602678819172646912) (y := r30) (by omega) b30 w30
      have H31 := Lib.hid h31
      clear h31
      replace dr := dr.trans d31
      clear d31
      obtain ⟨r32, w32, e32, d32, h32, b32⟩ := run_quo (P := Tryz.prog) 22 (x := a) (y := r31) ha b31 w31
      have H32 := Lib.hid h32
      clear h32
      replace dr := dr.trans d32
      clear d32
      obtain ⟨r33, w33, e33, d33, h33, b33⟩ := run_mul (P := Tryz.prog) 22 (x := r32) (y := c) b32 hc w32
      have H33 := Lib.hid h33
      clear h33
      replace dr := dr.trans d33
      clear d33
      obtain ⟨r34, w34, e34, d34, h34, b34⟩ := run_quo (P := Tryz.prog) 22 (x := b) (y := r31) hb b31 w33
      have H34 := Lib.hid h34
      clear h34
      replace dr := dr.trans d34
      clear d34
      obtain ⟨r35, w35, e35, d35, h35, b35⟩ := run_mul (P := Tryz.prog) 22 (x := r34) (y := b) b34 hb w34
      have H35 := Lib.hid h35
      clear h35
      replace dr := dr.trans d35
      clear d35
      obtain ⟨r36, w36, e36, d36, h36, b36⟩ := run_subG (P := Tryz.prog) 22 (x := r33) (y := r35) b33 b35 w35
      have H36 := Lib.hid h36
      clear h36
      replace dr := dr.trans d36
      clear d36
      go_wp2_with fail
      go_ret3
      refine ⟨_, _, (-1), rfl, ?_, b31, b36, dr⟩
      unfold hiA
      rw [← H1.out, ← H2.out, gt_is b1 b2, c1, if_pos rfl]
      unfold xyA
      simp only [← H20.out]
      unfold yA
      rw [← af_zero, lt_is b20 b0, f1, if_pos rfl]
      simp only [← af_half]
      simp only [← H30.out]
      simp only [← H31.out]
      simp only [← H32.out]
      simp only [← H33.out]
      simp only [← H34.out]
      simp only [← H35.out]
      simp only [← H36.out]

set_option maxHeartbeats 4000000 in
theorem gEigen_any : ConEigen := by
  intro x y z hx hy hz w
  have dr := Dr.refl w
  have b0 : 0 ≤ 18446744073709551615 := by omega
  have bI : 4607182418800017408 ≤ 18446744073709551615 := by omega
  go_enter Tryz.func21, Tryz.ntmps21
  obtain ⟨r1, w1, e1, d1, h1, b1⟩ := run_subG (P := Tryz.prog) 22 (x := x) (y := z) hx hz w
  have H1 := Lib.hid h1
  clear h1
  replace dr := dr.trans d1
  clear d1
  obtain ⟨r2, w2, e2, d2, h2, b2⟩ := run_addG (P := Tryz.prog) 22 (x := y) (y := y) hy hy w1
  have H2 := Lib.hid h2
  clear h2
  replace dr := dr.trans d2
  clear d2
  go_wp2_with fail
  with_reducible refine (gAbs_any b1 _).mono ?_
  rintro e w3 ⟨r3, rfl, h3, b3, rfl⟩
  have H3 := Lib.hid h3
  clear h3
  go_wp2_with fail
  with_reducible refine (gAbs_any b2 _).mono ?_
  rintro e w4 ⟨r4, rfl, h4, b4, rfl⟩
  have H4 := Lib.hid h4
  clear h4
  go_wp2_with fail
  with_reducible refine (gbetween_any b3 b4 _).mono ?_
  rintro e w5 ⟨r5, rfl, h5, b5, d5⟩
  have H5 := Lib.hid h5
  clear h5
  replace dr := dr.trans d5
  clear d5
  go_wp2_with fail
  with_reducible refine (gvalues_any hx hy hz b5 _).mono ?_
  rintro e wv ⟨x1, y1, n1, rfl, hv, bx1, by1, dv⟩
  have HV := Lib.hid hv
  clear hv
  replace dr := dr.trans dv
  clear dv
  cases g1 : (FloatKind.f64.format.order r1 0 == some .gt)
  · cases g2 : (FloatKind.f64.format.order r1 0 == some .eq)
    · try simp only [Bool.true_or, Bool.false_or, Bool.or_false, Bool.or_true]
      obtain ⟨r6, w6, e6, d6, h6, b6⟩ := run_subG (P := Tryz.prog) 22 (x := r1) (y := r5) b1 b5 wv
      have H6 := Lib.hid h6
      clear h6
      replace dr := dr.trans d6
      clear d6
      go_wp2_with fail
      with_reducible refine (gvector_any b6 b2 _).mono ?_
      rintro e w7 ⟨r7a, r7b, rfl, h7, b7a, b7b, d7⟩
      have H7 := Lib.hid h7
      clear h7
      replace dr := dr.trans d7
      clear d7
      have HE : Hid (eigA (af x) (af y) (af z) = if n1 = (-1) then (af x1, af y1, negA (af r7b), af r7a) else (af x1, af y1, af r7a, af r7b)) := Lib.hid (by
        unfold eigA eig2A
        dsimp only
        simp only [← H1.out, ← H2.out, ← H3.out, ← H4.out]
        simp only [← H5.out, ← HV.out]
        have hc : csA (af r1) (af r5) = (af r6, (-1)) := by
          unfold csA
          rw [← af_zero, ge_is b1 b0, g1, g2, if_neg (by decide), ← H6.out]
        rw [hc]
        dsimp only
        rw [H4.out, ← H7.out.1, ← H7.out.2])
      by_cases hn : n1 = (-1)
      · have dn : (n1 == (-1)) = true := by simpa using hn
        have HN := Lib.hid hn
        clear hn
        obtain ⟨r8, e8, h8, b8⟩ := run_neg (P := Tryz.prog) (x := r7b) b7b
        have H8 := Lib.hid h8
        clear h8
        go_wp2_with fail
        refine bodyPost_ret (v := .tuple #[.float .f64 x1, .float .f64 y1, .float .f64 r8, .float .f64 r7a]) (by simp [results, Tryz.results21, go_sem]) rfl ?_
        refine ⟨_, _, _, _, rfl, ?_, ⟨bx1, by1, b8, b7a⟩, dr⟩
        rw [HE.out, if_pos HN.out, ← H8.out]
        exact ⟨rfl, rfl, rfl, rfl⟩
      · have dn : (n1 == (-1)) = false := by simpa using hn
        have HN := Lib.hid hn
        clear hn
        go_wp2_with fail
        refine bodyPost_ret (v := .tuple #[.float .f64 x1, .float .f64 y1, .float .f64 r7a, .float .f64 r7b]) (by simp [results, Tryz.results21, go_sem]) rfl ?_
        refine ⟨_, _, _, _, rfl, ?_, ⟨bx1, by1, b7a, b7b⟩, dr⟩
        rw [HE.out, if_neg HN.out]
        exact ⟨rfl, rfl, rfl, rfl⟩
    · try simp only [Bool.true_or, Bool.false_or, Bool.or_false, Bool.or_true]
      obtain ⟨r9, w9, e9, d9, h9, b9⟩ := run_addG (P := Tryz.prog) 22 (x := r1) (y := r5) b1 b5 wv
      have H9 := Lib.hid h9
      clear h9
      replace dr := dr.trans d9
      clear d9
      go_wp2_with fail
      with_reducible refine (gvector_any b9 b2 _).mono ?_
      rintro e w10 ⟨r10a, r10b, rfl, h10, b10a, b10b, d10⟩
      have H10 := Lib.hid h10
      clear h10
      replace dr := dr.trans d10
      clear d10
      have HE : Hid (eigA (af x) (af y) (af z) = if n1 = 1 then (af x1, af y1, negA (af r10b), af r10a) else (af x1, af y1, af r10a, af r10b)) := Lib.hid (by
        unfold eigA eig2A
        dsimp only
        simp only [← H1.out, ← H2.out, ← H3.out, ← H4.out]
        simp only [← H5.out, ← HV.out]
        have hc : csA (af r1) (af r5) = (af r9, 1) := by
          unfold csA
          rw [← af_zero, ge_is b1 b0, g1, g2, if_pos (by decide), ← H9.out]
        rw [hc]
        dsimp only
        rw [H4.out, ← H10.out.1, ← H10.out.2])
      by_cases hn : n1 = 1
      · have dn : (n1 == 1) = true := by simpa using hn
        have HN := Lib.hid hn
        clear hn
        obtain ⟨r11, e11, h11, b11⟩ := run_neg (P := Tryz.prog) (x := r10b) b10b
        have H11 := Lib.hid h11
        clear h11
        go_wp2_with fail
        refine bodyPost_ret (v := .tuple #[.float .f64 x1, .float .f64 y1, .float .f64 r11, .float .f64 r10a]) (by simp [results, Tryz.results21, go_sem]) rfl ?_
        refine ⟨_, _, _, _, rfl, ?_, ⟨bx1, by1, b11, b10a⟩, dr⟩
        rw [HE.out, if_pos HN.out, ← H11.out]
        exact ⟨rfl, rfl, rfl, rfl⟩
      · have dn : (n1 == 1) = false := by simpa using hn
        have HN := Lib.hid hn
        clear hn
        go_wp2_with fail
        refine bodyPost_ret (v := .tuple #[.float .f64 x1, .float .f64 y1, .float .f64 r10a, .float .f64 r10b]) (by simp [results, Tryz.results21, go_sem]) rfl ?_
        refine ⟨_, _, _, _, rfl, ?_, ⟨bx1, by1, b10a, b10b⟩, dr⟩
        rw [HE.out, if_neg HN.out]
        exact ⟨rfl, rfl, rfl, rfl⟩
  · try simp only [Bool.true_or, Bool.false_or, Bool.or_false, Bool.or_true]
    obtain ⟨r12, w12, e12, d12, h12, b12⟩ := run_addG (P := Tryz.prog) 22 (x := r1) (y := r5) b1 b5 wv
    have H12 := Lib.hid h12
    clear h12
    replace dr := dr.trans d12
    clear d12
    go_wp2_with fail
    with_reducible refine (gvector_any b12 b2 _).mono ?_
    rintro e w13 ⟨r13a, r13b, rfl, h13, b13a, b13b, d13⟩
    have H13 := Lib.hid h13
    clear h13
    replace dr := dr.trans d13
    clear d13
    have HE : Hid (eigA (af x) (af y) (af z) = if n1 = 1 then (af x1, af y1, negA (af r13b), af r13a) else (af x1, af y1, af r13a, af r13b)) := Lib.hid (by
      unfold eigA eig2A
      dsimp only
      simp only [← H1.out, ← H2.out, ← H3.out, ← H4.out]
      simp only [← H5.out, ← HV.out]
      have hc : csA (af r1) (af r5) = (af r12, 1) := by
        unfold csA
        rw [← af_zero, ge_is b1 b0, g1, Bool.true_or, if_pos rfl, ← H12.out]
      rw [hc]
      dsimp only
      rw [H4.out, ← H13.out.1, ← H13.out.2])
    by_cases hn : n1 = 1
    · have dn : (n1 == 1) = true := by simpa using hn
      have HN := Lib.hid hn
      clear hn
      obtain ⟨r14, e14, h14, b14⟩ := run_neg (P := Tryz.prog) (x := r13b) b13b
      have H14 := Lib.hid h14
      clear h14
      go_wp2_with fail
      refine bodyPost_ret (v := .tuple #[.float .f64 x1, .float .f64 y1, .float .f64 r14, .float .f64 r13a]) (by simp [results, Tryz.results21, go_sem]) rfl ?_
      refine ⟨_, _, _, _, rfl, ?_, ⟨bx1, by1, b14, b13a⟩, dr⟩
      rw [HE.out, if_pos HN.out, ← H14.out]
      exact ⟨rfl, rfl, rfl, rfl⟩
    · have dn : (n1 == 1) = false := by simpa using hn
      have HN := Lib.hid hn
      clear hn
      go_wp2_with fail
      refine bodyPost_ret (v := .tuple #[.float .f64 x1, .float .f64 y1, .float .f64 r13a, .float .f64 r13b]) (by simp [results, Tryz.results21, go_sem]) rfl ?_
      refine ⟨_, _, _, _, rfl, ?_, ⟨bx1, by1, b13a, b13b⟩, dr⟩
      rw [HE.out, if_neg HN.out]
      exact ⟨rfl, rfl, rfl, rfl⟩

theorem lt_gt {x y a b : Nat} (ha : af a = absA (af x)) (hb : af b = absA (af y)) (bA : a ≤ 18446744073709551615) (bB : b ≤ 18446744073709551615) : (FloatKind.f64.format.order a b == some .lt) = (FloatKind.f64.format.order b a == some .gt) := by
  rw [← lt_is bA bB, ← gt_is bB bA]
  rw [← abs_is] at ha hb
  rw [ha, hb]
  have h1 : x % 9223372036854775808 ≤ 18446744073709551615 := by omega
  have h2 : y % 9223372036854775808 ≤ 18446744073709551615 := by omega
  cases n1 : isN (x % 9223372036854775808)
  · cases n2 : isN (y % 9223372036854775808)
    · have e1 := notN_le n1
      have e2 := notN_le n2
      rw [af_some n1, af_some n2, (ord_mag (by omega) (by omega)).2.1, (ord_mag (by omega) (by omega)).1]
    · rw [af_none n2, af_some n1]; rfl
  · cases n2 : isN (y % 9223372036854775808)
    · rw [af_none n1, af_some n2]; rfl
    · rw [af_none n1, af_none n2]; rfl

set_option maxHeartbeats 4000000 in
theorem gSingular_any : ConSingular := by
  intro x y z hx hy hz w
  have dr := Dr.refl w
  have b0 : 0 ≤ 18446744073709551615 := by omega
  have bI : 4607182418800017408 ≤ 18446744073709551615 := by omega
  go_enter Tryz.func22, Tryz.ntmps22
  go_wp2_with fail
  with_reducible refine (gAbs_any hy _).mono ?_
  rintro e w1 ⟨r1, rfl, h1, b1, rfl⟩
  have H1 := Lib.hid h1
  clear h1
  go_wp2_with fail
  with_reducible refine (gAbs_any hz _).mono ?_
  rintro e w2 ⟨r2, rfl, h2, b2, rfl⟩
  have H2 := Lib.hid h2
  clear h2
  go_wp2_with fail
  with_reducible refine (gAbs_any hx _).mono ?_
  rintro e w3 ⟨r3, rfl, h3, b3, rfl⟩
  have H3 := Lib.hid h3
  clear h3
  have LG := Lib.hid (lt_gt H2.out H3.out b2 b3)
  cases c1 : (FloatKind.f64.format.order r3 r2 == some .gt)
  · go_wp2_with fail
    with_reducible refine (gordered_no b2 b3 (by assumption) _).mono ?_
    rintro e u ⟨rfl, rfl⟩
    cases c2 : (FloatKind.f64.format.order r3 0 == some .eq)
    · cases c3 : (FloatKind.f64.format.order r1 r2 == some .lt)
      · obtain ⟨r4, w4, e4, d4, h4, b4⟩ := run_quo (P := Tryz.prog) 22 (x := r2) (y := r1) b2 b1 w
        have H4 := Lib.hid h4
        clear h4
        replace dr := dr.trans d4
        clear d4
        cases c4 : (FloatKind.f64.format.order r4 0 == some .eq)
        · go_wp2_with fail
          with_reducible refine (gflat_any b3 b2 b1 _).mono ?_
          rintro e w5 ⟨r5a, r5b, rfl, h5, b5a, b5b, d5⟩
          have H5 := Lib.hid h5
          clear h5
          replace dr := dr.trans d5
          clear d5
          go_wp2_with fail
          go_ret2
          refine ⟨_, _, rfl, ?_, b5a, b5b, dr⟩
          unfold singA
          rw [← H3.out, ← H1.out, ← H2.out, lt_is b2 b3, LG.out, c1, if_neg (by decide)]
          unfold sing2A
          rw [← af_zero, eq_is b3 b0, c2, if_neg (by decide)]
          rw [lt_is b1 b2, c3, if_neg (by decide)]
          rw [← H4.out, eq_is b4 b0, c4, if_neg (by decide)]
          rw [H4.out]
          exact H5.out
        · obtain ⟨r6, w6, e6, d6, h6, b6⟩ := run_mul (P := Tryz.prog) 22 (x := r3) (y := r2) b3 b2 w4
          have H6 := Lib.hid h6
          clear h6
          replace dr := dr.trans d6
          clear d6
          obtain ⟨r7, w7, e7, d7, h7, b7⟩ := run_quo (P := Tryz.prog) 22 (x := r6) (y := r1) b6 b1 w6
          have H7 := Lib.hid h7
          clear h7
          replace dr := dr.trans d7
          clear d7
          go_wp2_with fail
          go_ret2
          refine ⟨_, _, rfl, ?_, b7, b1, dr⟩
          unfold singA
          rw [← H3.out, ← H1.out, ← H2.out, lt_is b2 b3, LG.out, c1, if_neg (by decide)]
          unfold sing2A
          rw [← af_zero, eq_is b3 b0, c2, if_neg (by decide)]
          rw [lt_is b1 b2, c3, if_neg (by decide)]
          rw [← H4.out, eq_is b4 b0, c4, if_pos rfl]
          simp only [← H6.out]
          simp only [← H7.out]
          exact ⟨trivial, trivial⟩
      · go_wp2_with fail
        with_reducible refine (gsteep_any b3 b2 b1 _).mono ?_
        rintro e w8 ⟨r8a, r8b, rfl, h8, b8a, b8b, d8⟩
        have H8 := Lib.hid h8
        clear h8
        replace dr := dr.trans d8
        clear d8
        go_wp2_with fail
        go_ret2
        refine ⟨_, _, rfl, ?_, b8a, b8b, dr⟩
        unfold singA
        rw [← H3.out, ← H1.out, ← H2.out, lt_is b2 b3, LG.out, c1, if_neg (by decide)]
        unfold sing2A
        rw [← af_zero, eq_is b3 b0, c2, if_neg (by decide)]
        rw [lt_is b1 b2, c3, if_pos rfl]
        exact H8.out
    · cases c3 : (FloatKind.f64.format.order r2 0 == some .eq)
      · cases c4 : (FloatKind.f64.format.order r1 r2 == some .gt)
        · go_wp2_with fail
          with_reducible refine (gordered_no b2 b1 (by assumption) _).mono ?_
          rintro e u ⟨rfl, rfl⟩
          go_wp2_with fail
          with_reducible refine (glength_any b2 b1 _).mono ?_
          rintro e w9 ⟨r9, rfl, h9, b9, d9⟩
          have H9 := Lib.hid h9
          clear h9
          replace dr := dr.trans d9
          clear d9
          go_wp2_with fail
          go_ret2
          refine ⟨_, _, rfl, ?_, b0, b9, dr⟩
          unfold singA
          rw [← H3.out, ← H1.out, ← H2.out, lt_is b2 b3, LG.out, c1, if_neg (by decide)]
          unfold sing2A
          rw [← af_zero, eq_is b3 b0, c2, if_pos rfl]
          rw [eq_is b2 b0, c3, if_neg (by decide)]
          rw [gt_is b1 b2, c4, if_neg (by decide)]
          exact ⟨rfl, H9.out⟩
        · go_wp2_with fail
          with_reducible refine (gordered_yes b2 b1 (by assumption) _).mono ?_
          rintro e u ⟨rfl, rfl⟩
          go_wp2_with fail
          with_reducible refine (glength_any b1 b2 _).mono ?_
          rintro e w10 ⟨r10, rfl, h10, b10, d10⟩
          have H10 := Lib.hid h10
          clear h10
          replace dr := dr.trans d10
          clear d10
          go_wp2_with fail
          go_ret2
          refine ⟨_, _, rfl, ?_, b0, b10, dr⟩
          unfold singA
          rw [← H3.out, ← H1.out, ← H2.out, lt_is b2 b3, LG.out, c1, if_neg (by decide)]
          unfold sing2A
          rw [← af_zero, eq_is b3 b0, c2, if_pos rfl]
          rw [eq_is b2 b0, c3, if_neg (by decide)]
          rw [gt_is b1 b2, c4, if_pos rfl]
          exact ⟨rfl, H10.out⟩
      · go_wp2_with fail
        go_ret2
        refine ⟨_, _, rfl, ?_, b0, b1, dr⟩
        unfold singA
        rw [← H3.out, ← H1.out, ← H2.out, lt_is b2 b3, LG.out, c1, if_neg (by decide)]
        unfold sing2A
        rw [← af_zero, eq_is b3 b0, c2, if_pos rfl]
        rw [eq_is b2 b0, c3, if_pos rfl]
        exact ⟨rfl, rfl⟩
  · go_wp2_with fail
    with_reducible refine (gordered_yes b2 b3 (by assumption) _).mono ?_
    rintro e u ⟨rfl, rfl⟩
    cases c2 : (FloatKind.f64.format.order r2 0 == some .eq)
    · cases c3 : (FloatKind.f64.format.order r1 r3 == some .lt)
      · obtain ⟨r11, w11, e11, d11, h11, b11⟩ := run_quo (P := Tryz.prog) 22 (x := r3) (y := r1) b3 b1 w
        have H11 := Lib.hid h11
        clear h11
        replace dr := dr.trans d11
        clear d11
        cases c4 : (FloatKind.f64.format.order r11 0 == some .eq)
        · go_wp2_with fail
          with_reducible refine (gflat_any b2 b3 b1 _).mono ?_
          rintro e w12 ⟨r12a, r12b, rfl, h12, b12a, b12b, d12⟩
          have H12 := Lib.hid h12
          clear h12
          replace dr := dr.trans d12
          clear d12
          go_wp2_with fail
          go_ret2
          refine ⟨_, _, rfl, ?_, b12a, b12b, dr⟩
          unfold singA
          rw [← H3.out, ← H1.out, ← H2.out, lt_is b2 b3, LG.out, c1, if_pos rfl]
          unfold sing2A
          rw [← af_zero, eq_is b2 b0, c2, if_neg (by decide)]
          rw [lt_is b1 b3, c3, if_neg (by decide)]
          rw [← H11.out, eq_is b11 b0, c4, if_neg (by decide)]
          rw [H11.out]
          exact H12.out
        · obtain ⟨r13, w13, e13, d13, h13, b13⟩ := run_mul (P := Tryz.prog) 22 (x := r2) (y := r3) b2 b3 w11
          have H13 := Lib.hid h13
          clear h13
          replace dr := dr.trans d13
          clear d13
          obtain ⟨r14, w14, e14, d14, h14, b14⟩ := run_quo (P := Tryz.prog) 22 (x := r13) (y := r1) b13 b1 w13
          have H14 := Lib.hid h14
          clear h14
          replace dr := dr.trans d14
          clear d14
          go_wp2_with fail
          go_ret2
          refine ⟨_, _, rfl, ?_, b14, b1, dr⟩
          unfold singA
          rw [← H3.out, ← H1.out, ← H2.out, lt_is b2 b3, LG.out, c1, if_pos rfl]
          unfold sing2A
          rw [← af_zero, eq_is b2 b0, c2, if_neg (by decide)]
          rw [lt_is b1 b3, c3, if_neg (by decide)]
          rw [← H11.out, eq_is b11 b0, c4, if_pos rfl]
          simp only [← H13.out]
          simp only [← H14.out]
          exact ⟨trivial, trivial⟩
      · go_wp2_with fail
        with_reducible refine (gsteep_any b2 b3 b1 _).mono ?_
        rintro e w15 ⟨r15a, r15b, rfl, h15, b15a, b15b, d15⟩
        have H15 := Lib.hid h15
        clear h15
        replace dr := dr.trans d15
        clear d15
        go_wp2_with fail
        go_ret2
        refine ⟨_, _, rfl, ?_, b15a, b15b, dr⟩
        unfold singA
        rw [← H3.out, ← H1.out, ← H2.out, lt_is b2 b3, LG.out, c1, if_pos rfl]
        unfold sing2A
        rw [← af_zero, eq_is b2 b0, c2, if_neg (by decide)]
        rw [lt_is b1 b3, c3, if_pos rfl]
        exact H15.out
    · cases c3 : (FloatKind.f64.format.order r3 0 == some .eq)
      · cases c4 : (FloatKind.f64.format.order r1 r3 == some .gt)
        · go_wp2_with fail
          with_reducible refine (gordered_no b3 b1 (by assumption) _).mono ?_
          rintro e u ⟨rfl, rfl⟩
          go_wp2_with fail
          with_reducible refine (glength_any b3 b1 _).mono ?_
          rintro e w16 ⟨r16, rfl, h16, b16, d16⟩
          have H16 := Lib.hid h16
          clear h16
          replace dr := dr.trans d16
          clear d16
          go_wp2_with fail
          go_ret2
          refine ⟨_, _, rfl, ?_, b0, b16, dr⟩
          unfold singA
          rw [← H3.out, ← H1.out, ← H2.out, lt_is b2 b3, LG.out, c1, if_pos rfl]
          unfold sing2A
          rw [← af_zero, eq_is b2 b0, c2, if_pos rfl]
          rw [eq_is b3 b0, c3, if_neg (by decide)]
          rw [gt_is b1 b3, c4, if_neg (by decide)]
          exact ⟨rfl, H16.out⟩
        · go_wp2_with fail
          with_reducible refine (gordered_yes b3 b1 (by assumption) _).mono ?_
          rintro e u ⟨rfl, rfl⟩
          go_wp2_with fail
          with_reducible refine (glength_any b1 b3 _).mono ?_
          rintro e w17 ⟨r17, rfl, h17, b17, d17⟩
          have H17 := Lib.hid h17
          clear h17
          replace dr := dr.trans d17
          clear d17
          go_wp2_with fail
          go_ret2
          refine ⟨_, _, rfl, ?_, b0, b17, dr⟩
          unfold singA
          rw [← H3.out, ← H1.out, ← H2.out, lt_is b2 b3, LG.out, c1, if_pos rfl]
          unfold sing2A
          rw [← af_zero, eq_is b2 b0, c2, if_pos rfl]
          rw [eq_is b3 b0, c3, if_neg (by decide)]
          rw [gt_is b1 b3, c4, if_pos rfl]
          exact ⟨rfl, H17.out⟩
      · go_wp2_with fail
        go_ret2
        refine ⟨_, _, rfl, ?_, b0, b1, dr⟩
        unfold singA
        rw [← H3.out, ← H1.out, ← H2.out, lt_is b2 b3, LG.out, c1, if_pos rfl]
        unfold sing2A
        rw [← af_zero, eq_is b2 b0, c2, if_pos rfl]
        rw [eq_is b3 b0, c3, if_pos rfl]
        exact ⟨rfl, rfl⟩
end Go.Proofs.YtmfikppnkjhmjaaGreatDoor
