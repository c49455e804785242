/-
  Layer 6, walks: the program's lengths and rotations, and the parts of two by twos. (Written by wip/tools/gen_afh.py.)
-/
import Derived.Test.YtmfikppnkjhmjaaAfG
namespace Go.Proofs.Ytmfikppnkjhmjaa
open Go Go.RowKit Go.Bw
set_option linter.unusedVariables false
set_option linter.unusedSimpArgs false

theorem gHypot_any : ConHypot := by
  intro x y hx hy w
  have dr := Dr.refl w
  have b0 : 0 ≤ 18446744073709551615 := by omega
  go_enter Try.func9, Try.ntmps9
  go_wp2_with fail
  with_reducible refine (gAbs_any hx _).mono ?_
  rintro e w1 ⟨r1, rfl, h1, b1, rfl⟩
  have H1 := Lib.hid h1
  clear h1
  go_wp2_with fail
  with_reducible refine (gAbs_any hy _).mono ?_
  rintro e w2 ⟨r2, rfl, h2, b2, rfl⟩
  have H2 := Lib.hid h2
  clear h2
  cases c1 : (FloatKind.f64.format.order r2 r1 == some .gt)
  · go_wp2_with fail
    with_reducible refine (gordered_no b1 b2 (by assumption) _).mono ?_
    rintro e u ⟨rfl, rfl⟩
    cases c2 : (FloatKind.f64.format.order r1 0 == some .eq)
    · go_wp2_with fail
      with_reducible refine (glength_any b1 b2 _).mono ?_
      rintro e w3 ⟨r3, rfl, h3, b3, d3⟩
      have H3 := Lib.hid h3
      clear h3
      replace dr := dr.trans d3
      clear d3
      go_wp2_with fail
      go_ret
      refine ⟨_, rfl, ?_, b3, dr⟩
      unfold hypA
      rw [← H1.out, ← H2.out, gt_is b2 b1, c1, if_neg (by decide), hyp2A, ← af_zero, eq_is b1 b0, c2, if_neg (by decide)]
      exact H3.out
    · go_wp2_with fail
      go_ret
      refine ⟨_, rfl, ?_, b1, dr⟩
      unfold hypA
      rw [← H1.out, ← H2.out, gt_is b2 b1, c1, if_neg (by decide), hyp2A, ← af_zero, eq_is b1 b0, c2, if_pos rfl]
  · go_wp2_with fail
    with_reducible refine (gordered_yes b1 b2 (by assumption) _).mono ?_
    rintro e u ⟨rfl, rfl⟩
    cases c2 : (FloatKind.f64.format.order r2 0 == some .eq)
    · go_wp2_with fail
      with_reducible refine (glength_any b2 b1 _).mono ?_
      rintro e w4 ⟨r4, rfl, h4, b4, d4⟩
      have H4 := Lib.hid h4
      clear h4
      replace dr := dr.trans d4
      clear d4
      go_wp2_with fail
      go_ret
      refine ⟨_, rfl, ?_, b4, dr⟩
      unfold hypA
      rw [← H1.out, ← H2.out, gt_is b2 b1, c1, if_pos rfl, hyp2A, ← af_zero, eq_is b2 b0, c2, if_neg (by decide)]
      exact H4.out
    · go_wp2_with fail
      go_ret
      refine ⟨_, rfl, ?_, b2, dr⟩
      unfold hypA
      rw [← H1.out, ← H2.out, gt_is b2 b1, c1, if_pos rfl, hyp2A, ← af_zero, eq_is b2 b0, c2, if_pos rfl]

set_option maxHeartbeats 4000000 in
theorem gtoward_any {f g : Nat} (hf : f ≤ 18446744073709551615) (hg : g ≤ 18446744073709551615) (w : World) :
    Calls Try.prog 31 #[.float .f64 f, .float .f64 g] w (FA3 (rot1A (aop .quo (af g) (af f)) (af f)) w) := by
  have dr := Dr.refl w
  have b0 : 0 ≤ 18446744073709551615 := by omega
  have bI : 4607182418800017408 ≤ 18446744073709551615 := by omega
  go_enter Try.func31, Try.ntmps31
  obtain ⟨r1, w1, e1, d1, h1, b1⟩ := run_quo (P := Try.prog) 22 (x := g) (y := f) hg hf w
  have H1 := Lib.hid h1
  clear h1
  replace dr := dr.trans d1
  clear d1
  go_wp2_with fail
  with_reducible refine (gslant_any b1 _).mono ?_
  rintro e w2 ⟨r2, rfl, h2, b2, d2⟩
  have H2 := Lib.hid h2
  clear h2
  replace dr := dr.trans d2
  clear d2
  obtain ⟨r3, w3, e3, d3, h3, b3⟩ := run_quo (P := Try.prog) 22 (x := 4607182418800017408) (y := r2) bI b2 w2
  have H3 := Lib.hid h3
  clear h3
  replace dr := dr.trans d3
  clear d3
  obtain ⟨r4, w4, e4, d4, h4, b4⟩ := run_mul (P := Try.prog) 22 (x := r3) (y := r1) b3 b1 w3
  have H4 := Lib.hid h4
  clear h4
  replace dr := dr.trans d4
  clear d4
  obtain ⟨r5, w5, e5, d5, h5, b5⟩ := run_mul (P := Try.prog) 22 (x := f) (y := r2) hf b2 w4
  have H5 := Lib.hid h5
  clear h5
  replace dr := dr.trans d5
  clear d5
  go_wp2_with fail
  go_ret3
  refine ⟨_, _, _, rfl, ?_, b3, b4, b5, dr⟩
  unfold rot1A
  simp only [← af_one, ← H1.out]
  simp only [← H2.out]
  simp only [← H3.out]
  simp only [← H4.out]
  simp only [← H5.out]
  exact ⟨trivial, trivial, trivial⟩

set_option maxHeartbeats 2000000 in
theorem gGivens_any : ConGivens := by
  intro x y hx hy w
  have dr := Dr.refl w
  have b0 : 0 ≤ 18446744073709551615 := by omega
  have bI : 4607182418800017408 ≤ 18446744073709551615 := by omega
  go_enter Try.func16, Try.ntmps16
  cases c1 : (FloatKind.f64.format.order y 0 == some .eq)
  · cases c2 : (FloatKind.f64.format.order x 0 == some .eq)
    · go_wp2_with fail
      with_reducible refine (gAbs_any hx _).mono ?_
      rintro e w1 ⟨r1, rfl, h1, b1, rfl⟩
      have H1 := Lib.hid h1
      clear h1
      go_wp2_with fail
      with_reducible refine (gAbs_any hy _).mono ?_
      rintro e w2 ⟨r2, rfl, h2, b2, rfl⟩
      have H2 := Lib.hid h2
      clear h2
      cases c3 : (FloatKind.f64.format.order r1 r2 == some .gt)
      · go_wp2_with fail
        with_reducible refine (gtoward_any hy hx _).mono ?_
        rintro e w3 ⟨r3a, r3b, r3c, rfl, h3, b3a, b3b, b3c, d3⟩
        have H3 := Lib.hid h3
        clear h3
        replace dr := dr.trans d3
        clear d3
        go_wp2_with fail
        go_ret3
        refine ⟨r3b, r3a, r3c, rfl, ?_, b3b, b3a, b3c, dr⟩
        unfold givA
        rw [← af_zero, eq_is hy b0, c1, if_neg (by decide), eq_is hx b0, c2, if_neg (by decide), ← H1.out, ← H2.out, gt_is b1 b2, c3, if_neg (by decide)]
        exact ⟨H3.out.2.1, H3.out.1, H3.out.2.2⟩
      · go_wp2_with fail
        with_reducible refine (gtoward_any hx hy _).mono ?_
        rintro e w4 ⟨r4a, r4b, r4c, rfl, h4, b4a, b4b, b4c, d4⟩
        have H4 := Lib.hid h4
        clear h4
        replace dr := dr.trans d4
        clear d4
        go_wp2_with fail
        go_ret3
        refine ⟨r4a, r4b, r4c, rfl, ?_, b4a, b4b, b4c, dr⟩
        unfold givA
        rw [← af_zero, eq_is hy b0, c1, if_neg (by decide), eq_is hx b0, c2, if_neg (by decide), ← H1.out, ← H2.out, gt_is b1 b2, c3, if_pos rfl]
        exact H4.out
    · go_wp2_with fail
      go_ret3
      refine ⟨_, _, _, rfl, ?_, b0, bI, hy, dr⟩
      unfold givA
      rw [← af_zero, eq_is hy b0, c1, if_neg (by decide), eq_is hx b0, c2, if_pos rfl, ← af_one]
      exact ⟨rfl, rfl, rfl⟩
  · go_wp2_with fail
    go_ret3
    refine ⟨_, _, _, rfl, ?_, bI, b0, hx, dr⟩
    unfold givA
    rw [← af_zero, eq_is hy b0, c1, if_pos rfl, ← af_one]
    exact ⟨rfl, rfl, rfl⟩

set_option maxHeartbeats 4000000 in
theorem gbetween_any {p q : Nat} (hp : p ≤ 18446744073709551615) (hq : q ≤ 18446744073709551615) (w : World) :
    Calls Try.prog 32 #[.float .f64 p, .float .f64 q] w (FA (rtA (af p) (af q)) w) := by
  have dr := Dr.refl w
  have b0 : 0 ≤ 18446744073709551615 := by omega
  have bI : 4607182418800017408 ≤ 18446744073709551615 := by omega
  go_enter Try.func32, Try.ntmps32
  cases c1 : (FloatKind.f64.format.order p q == some .gt)
  · cases c2 : (FloatKind.f64.format.order p q == some .lt)
    · go_wp2_with fail
      with_reducible refine (sqrt_any (by omega) _).mono ?_
      rintro e w1 ⟨r1, rfl, h1, b1, d1⟩
      have H1 := Lib.hid h1
      clear h1
      replace dr := dr.trans d1
      clear d1
      obtain ⟨r2, w2, e2, d2, h2, b2⟩ := run_mul (P := Try.prog) 22 (x := q) (y := r1) hq b1 w1
      have H2 := Lib.hid h2
      clear h2
      replace dr := dr.trans d2
      clear d2
      go_wp2_with fail
      go_ret
      refine ⟨_, rfl, ?_, b2, dr⟩
      unfold rtA
      rw [gt_is hp hq, c1, if_neg (by decide)]
      rw [lt_is hp hq, c2, if_neg (by decide)]
      rw [← af_two, ← H1.out, ← H2.out]
    · go_wp2_with fail
      with_reducible refine (glength_any hq hp _).mono ?_
      rintro e w3 ⟨r3, rfl, h3, b3, d3⟩
      have H3 := Lib.hid h3
      clear h3
      replace dr := dr.trans d3
      clear d3
      go_wp2_with fail
      go_ret
      refine ⟨_, rfl, ?_, b3, dr⟩
      unfold rtA
      rw [gt_is hp hq, c1, if_neg (by decide)]
      rw [lt_is hp hq, c2, if_pos rfl]
      exact H3.out
  · go_wp2_with fail
    with_reducible refine (glength_any hp hq _).mono ?_
    rintro e w4 ⟨r4, rfl, h4, b4, d4⟩
    have H4 := Lib.hid h4
    clear h4
    replace dr := dr.trans d4
    clear d4
    go_wp2_with fail
    go_ret
    refine ⟨_, rfl, ?_, b4, dr⟩
    unfold rtA
    rw [gt_is hp hq, c1, if_pos rfl]
    exact H4.out

set_option maxHeartbeats 4000000 in
theorem gvector_any {c t : Nat} (hc : c ≤ 18446744073709551615) (ht : t ≤ 18446744073709551615) (w : World) :
    Calls Try.prog 34 #[.float .f64 c, .float .f64 t] w (FA2 (snA (af c) (absA (af t)) (af t)) w) := by
  have dr := Dr.refl w
  have b0 : 0 ≤ 18446744073709551615 := by omega
  have bI : 4607182418800017408 ≤ 18446744073709551615 := by omega
  go_enter Try.func34, Try.ntmps34
  go_wp2_with fail
  with_reducible refine (gAbs_any ht _).mono ?_
  rintro e w1 ⟨r1, rfl, h1, b1, rfl⟩
  have H1 := Lib.hid h1
  clear h1
  go_wp2_with fail
  with_reducible refine (gAbs_any hc _).mono ?_
  rintro e w2 ⟨r2, rfl, h2, b2, rfl⟩
  have H2 := Lib.hid h2
  clear h2
  cases i1 : (FloatKind.f64.format.order r2 r1 == some .gt)
  · cases i2 : (FloatKind.f64.format.order r1 0 == some .eq)
    · obtain ⟨r3, e3, h3, b3⟩ := run_neg (P := Try.prog) (x := c) hc
      have H3 := Lib.hid h3
      clear h3
      obtain ⟨r4, w4, e4, d4, h4, b4⟩ := run_quo (P := Try.prog) 22 (x := r3) (y := t) b3 ht w
      have H4 := Lib.hid h4
      clear h4
      replace dr := dr.trans d4
      clear d4
      go_wp2_with fail
      with_reducible refine (gslant_any b4 _).mono ?_
      rintro e w5 ⟨r5, rfl, h5, b5, d5⟩
      have H5 := Lib.hid h5
      clear h5
      replace dr := dr.trans d5
      clear d5
      obtain ⟨r6, w6, e6, d6, h6, b6⟩ := run_quo (P := Try.prog) 22 (x := 4607182418800017408) (y := r5) bI b5 w5
      have H6 := Lib.hid h6
      clear h6
      replace dr := dr.trans d6
      clear d6
      obtain ⟨r7, w7, e7, d7, h7, b7⟩ := run_mul (P := Try.prog) 22 (x := r4) (y := r6) b4 b6 w6
      have H7 := Lib.hid h7
      clear h7
      replace dr := dr.trans d7
      clear d7
      go_wp2_with fail
      go_ret2
      refine ⟨_, _, rfl, ?_, b6, b7, dr⟩
      unfold snA
      rw [← H1.out, ← H2.out, gt_is b2 b1, i1, if_neg (by decide)]
      rw [← af_zero, eq_is b1 b0, i2, if_neg (by decide)]
      simp only [← af_one]
      simp only [← H3.out]
      simp only [← H4.out]
      simp only [← H5.out]
      simp only [← H6.out]
      simp only [← H7.out]
      exact ⟨trivial, trivial⟩
    · go_wp2_with fail
      go_ret2
      refine ⟨_, _, rfl, ?_, bI, b0, dr⟩
      unfold snA
      rw [← H1.out, ← H2.out, gt_is b2 b1, i1, if_neg (by decide)]
      rw [← af_zero, eq_is b1 b0, i2, if_pos rfl]
      rw [← af_one]
      exact ⟨rfl, rfl⟩
  · obtain ⟨r8, e8, h8, b8⟩ := run_neg (P := Try.prog) (x := t) ht
    have H8 := Lib.hid h8
    clear h8
    obtain ⟨r9, w9, e9, d9, h9, b9⟩ := run_quo (P := Try.prog) 22 (x := r8) (y := c) b8 hc w
    have H9 := Lib.hid h9
    clear h9
    replace dr := dr.trans d9
    clear d9
    go_wp2_with fail
    with_reducible refine (gslant_any b9 _).mono ?_
    rintro e w10 ⟨r10, rfl, h10, b10, d10⟩
    have H10 := Lib.hid h10
    clear h10
    replace dr := dr.trans d10
    clear d10
    obtain ⟨r11, w11, e11, d11, h11, b11⟩ := run_quo (P := Try.prog) 22 (x := 4607182418800017408) (y := r10) bI b10 w10
    have H11 := Lib.hid h11
    clear h11
    replace dr := dr.trans d11
    clear d11
    obtain ⟨r12, w12, e12, d12, h12, b12⟩ := run_mul (P := Try.prog) 22 (x := r9) (y := r11) b9 b11 w11
    have H12 := Lib.hid h12
    clear h12
    replace dr := dr.trans d12
    clear d12
    go_wp2_with fail
    go_ret2
    refine ⟨_, _, rfl, ?_, b12, b11, dr⟩
    unfold snA
    rw [← H1.out, ← H2.out, gt_is b2 b1, i1, if_pos rfl]
    simp only [← af_one]
    simp only [← H8.out]
    simp only [← H9.out]
    simp only [← H10.out]
    simp only [← H11.out]
    simp only [← H12.out]
    exact ⟨trivial, trivial⟩

set_option maxHeartbeats 4000000 in
theorem gsteep_any {l h g : Nat} (hl : l ≤ 18446744073709551615) (hh : h ≤ 18446744073709551615) (hg : g ≤ 18446744073709551615) (w : World) :
    Calls Try.prog 35 #[.float .f64 l, .float .f64 h, .float .f64 g] w (FA2 (sgA (af l) (af h) (af g)) w) := by
  have dr := Dr.refl w
  have b0 : 0 ≤ 18446744073709551615 := by omega
  have bI : 4607182418800017408 ≤ 18446744073709551615 := by omega
  go_enter Try.func35, Try.ntmps35
  obtain ⟨r1, w1, e1, d1, h1, b1⟩ := run_quo (P := Try.prog) 22 (x := l) (y := h) hl hh w
  have H1 := Lib.hid h1
  clear h1
  replace dr := dr.trans d1
  clear d1
  obtain ⟨r2, w2, e2, d2, h2, b2⟩ := run_add (P := Try.prog) 22 (x := 4607182418800017408) (y := r1) bI b1 w1
  have H2 := Lib.hid h2
  clear h2
  replace dr := dr.trans d2
  clear d2
  obtain ⟨r3, w3, e3, d3, h3, b3⟩ := run_sub (P := Try.prog) 22 (x := h) (y := l) hh hl w2
  have H3 := Lib.hid h3
  clear h3
  replace dr := dr.trans d3
  clear d3
  obtain ⟨r4, w4, e4, d4, h4, b4⟩ := run_quo (P := Try.prog) 22 (x := r3) (y := h) b3 hh w3
  have H4 := Lib.hid h4
  clear h4
  replace dr := dr.trans d4
  clear d4
  obtain ⟨r5, w5, e5, d5, h5, b5⟩ := run_quo (P := Try.prog) 22 (x := g) (y := h) hg hh w4
  have H5 := Lib.hid h5
  clear h5
  replace dr := dr.trans d5
  clear d5
  obtain ⟨r6, w6, e6, d6, h6, b6⟩ := run_mul (P := Try.prog) 22 (x := r5) (y := r5) b5 b5 w5
  have H6 := Lib.hid h6
  clear h6
  replace dr := dr.trans d6
  clear d6
  obtain ⟨r7, w7, e7, d7, h7, b7⟩ := run_mul (P := Try.prog) 22 (x := r2) (y := r2) b2 b2 w6
  have H7 := Lib.hid h7
  clear h7
  replace dr := dr.trans d7
  clear d7
  obtain ⟨r8, w8, e8, d8, h8, b8⟩ := run_add (P := Try.prog) 22 (x := r7) (y := r6) b7 b6 w7
  have H8 := Lib.hid h8
  clear h8
  replace dr := dr.trans d8
  clear d8
  go_wp2_with fail
  with_reducible refine (sqrt_any b8 _).mono ?_
  rintro e w9 ⟨r9, rfl, h9, b9, d9⟩
  have H9 := Lib.hid h9
  clear h9
  replace dr := dr.trans d9
  clear d9
  obtain ⟨r10, w10, e10, d10, h10, b10⟩ := run_mul (P := Try.prog) 22 (x := r4) (y := r4) b4 b4 w9
  have H10 := Lib.hid h10
  clear h10
  replace dr := dr.trans d10
  clear d10
  obtain ⟨r11, w11, e11, d11, h11, b11⟩ := run_add (P := Try.prog) 22 (x := r10) (y := r6) b10 b6 w10
  have H11 := Lib.hid h11
  clear h11
  replace dr := dr.trans d11
  clear d11
  go_wp2_with fail
  with_reducible refine (sqrt_any b11 _).mono ?_
  rintro e w12 ⟨r12, rfl, h12, b12, d12⟩
  have H12 := Lib.hid h12
  clear h12
  replace dr := dr.trans d12
  clear d12
  obtain ⟨r13, w13, e13, d13, h13, b13⟩ := run_add (P := Try.prog) 22 (x := r9) (y := r12) b9 b12 w12
  have H13 := Lib.hid h13
  clear h13
  replace dr := dr.trans d13
  clear d13
  obtain ⟨r14, w14, e14, d14, h14, b14⟩ := run_quo (P := Try.prog) 22 (x := 4611686018427387904) (y := r13) (by omega) b13 w13
  have H14 := Lib.hid h14
  clear h14
  replace dr := dr.trans d14
  clear d14
  obtain ⟨r15, w15, e15, d15, h15, b15⟩ := run_mul (P := Try.prog) 22 (x := l) (y := r14) hl b14 w14
  have H15 := Lib.hid h15
  clear h15
  replace dr := dr.trans d15
  clear d15
  obtain ⟨r16, w16, e16, d16, h16, b16⟩ := run_quo (P := Try.prog) 22 (x := h) (y := r14) hh b14 w15
  have H16 := Lib.hid h16
  clear h16
  replace dr := dr.trans d16
  clear d16
  go_wp2_with fail
  go_ret2
  refine ⟨_, _, rfl, ?_, b15, b16, dr⟩
  simp only [sgA, ← af_one, ← af_two]
  simp only [← H1.out]
  simp only [← H2.out]
  simp only [← H3.out]
  simp only [← H4.out]
  simp only [← H5.out]
  simp only [← H6.out]
  simp only [← H7.out]
  simp only [← H10.out]
  simp only [← H8.out]
  simp only [← H9.out]
  simp only [← H11.out]
  simp only [← H12.out]
  simp only [← H13.out]
  simp only [← H14.out]
  simp only [← H15.out]
  simp only [← H16.out]
  exact ⟨trivial, trivial⟩

set_option maxHeartbeats 4000000 in
theorem gflat_any {l h g : Nat} (hl : l ≤ 18446744073709551615) (hh : h ≤ 18446744073709551615) (hg : g ≤ 18446744073709551615) (w : World) :
    Calls Try.prog 36 #[.float .f64 l, .float .f64 h, .float .f64 g] w (FA2 (sbA (af l) (af h) (af g) (aop .quo (af h) (af g))) w) := by
  have dr := Dr.refl w
  have b0 : 0 ≤ 18446744073709551615 := by omega
  have bI : 4607182418800017408 ≤ 18446744073709551615 := by omega
  go_enter Try.func36, Try.ntmps36
  obtain ⟨r1, w1, e1, d1, h1, b1⟩ := run_quo (P := Try.prog) 22 (x := l) (y := h) hl hh w
  have H1 := Lib.hid h1
  clear h1
  replace dr := dr.trans d1
  clear d1
  obtain ⟨r2, w2, e2, d2, h2, b2⟩ := run_add (P := Try.prog) 22 (x := 4607182418800017408) (y := r1) bI b1 w1
  have H2 := Lib.hid h2
  clear h2
  replace dr := dr.trans d2
  clear d2
  obtain ⟨r3, w3, e3, d3, h3, b3⟩ := run_sub (P := Try.prog) 22 (x := h) (y := l) hh hl w2
  have H3 := Lib.hid h3
  clear h3
  replace dr := dr.trans d3
  clear d3
  obtain ⟨r4, w4, e4, d4, h4, b4⟩ := run_quo (P := Try.prog) 22 (x := r3) (y := h) b3 hh w3
  have H4 := Lib.hid h4
  clear h4
  replace dr := dr.trans d4
  clear d4
  obtain ⟨r5, w5, e5, d5, h5, b5⟩ := run_quo (P := Try.prog) 22 (x := h) (y := g) hh hg w4
  have H5 := Lib.hid h5
  clear h5
  replace dr := dr.trans d5
  clear d5
  obtain ⟨r6, w6, e6, d6, h6, b6⟩ := run_mul (P := Try.prog) 22 (x := r2) (y := r5) b2 b5 w5
  have H6 := Lib.hid h6
  clear h6
  replace dr := dr.trans d6
  clear d6
  go_wp2_with fail
  with_reducible refine (gslant_any b6 _).mono ?_
  rintro e w7 ⟨r7, rfl, h7, b7, d7⟩
  have H7 := Lib.hid h7
  clear h7
  replace dr := dr.trans d7
  clear d7
  obtain ⟨r8, w8, e8, d8, h8, b8⟩ := run_mul (P := Try.prog) 22 (x := r4) (y := r5) b4 b5 w7
  have H8 := Lib.hid h8
  clear h8
  replace dr := dr.trans d8
  clear d8
  go_wp2_with fail
  with_reducible refine (gslant_any b8 _).mono ?_
  rintro e w9 ⟨r9, rfl, h9, b9, d9⟩
  have H9 := Lib.hid h9
  clear h9
  replace dr := dr.trans d9
  clear d9
  obtain ⟨r10, w10, e10, d10, h10, b10⟩ := run_add (P := Try.prog) 22 (x := r7) (y := r9) b7 b9 w9
  have H10 := Lib.hid h10
  clear h10
  replace dr := dr.trans d10
  clear d10
  obtain ⟨r11, w11, e11, d11, h11, b11⟩ := run_quo (P := Try.prog) 22 (x := 4607182418800017408) (y := r10) bI b10 w10
  have H11 := Lib.hid h11
  clear h11
  replace dr := dr.trans d11
  clear d11
  obtain ⟨r12, w12, e12, d12, h12, b12⟩ := run_mul (P := Try.prog) 22 (x := l) (y := r11) hl b11 w11
  have H12 := Lib.hid h12
  clear h12
  replace dr := dr.trans d12
  clear d12
  obtain ⟨r13, w13, e13, d13, h13, b13⟩ := run_mul (P := Try.prog) 22 (x := r12) (y := r5) b12 b5 w12
  have H13 := Lib.hid h13
  clear h13
  replace dr := dr.trans d13
  clear d13
  obtain ⟨r14, w14, e14, d14, h14, b14⟩ := run_add (P := Try.prog) 22 (x := r13) (y := r13) b13 b13 w13
  have H14 := Lib.hid h14
  clear h14
  replace dr := dr.trans d14
  clear d14
  obtain ⟨r15, w15, e15, d15, h15, b15⟩ := run_add (P := Try.prog) 22 (x := r11) (y := r11) b11 b11 w14
  have H15 := Lib.hid h15
  clear h15
  replace dr := dr.trans d15
  clear d15
  obtain ⟨r16, w16, e16, d16, h16, b16⟩ := run_quo (P := Try.prog) 22 (x := g) (y := r15) hg b15 w15
  have H16 := Lib.hid h16
  clear h16
  replace dr := dr.trans d16
  clear d16
  have Er7 := H7.out
  unfold rootA at Er7
  rw [← af_one] at Er7
  replace Er7 := Lib.hid Er7
  have Er9 := H9.out
  unfold rootA at Er9
  rw [← af_one] at Er9
  replace Er9 := Lib.hid Er9
  go_wp2_with fail
  go_ret2
  refine ⟨_, _, rfl, ?_, b14, b16, dr⟩
  simp only [sbA, ← af_one]
  simp only [← H5.out]
  simp only [← H1.out]
  simp only [← H2.out]
  simp only [← H3.out]
  simp only [← H4.out]
  simp only [← H6.out]
  simp only [← H8.out]
  simp only [← Er7.out]
  simp only [← Er9.out]
  simp only [← H10.out]
  simp only [← H11.out]
  simp only [← H12.out]
  simp only [← H13.out]
  simp only [← H14.out]
  simp only [← H15.out]
  simp only [← H16.out]
  exact ⟨trivial, trivial⟩
end Go.Proofs.Ytmfikppnkjhmjaa
