/-
  Layer 6, walks: the program's lengths of several, and two by twos. (Written by wip/tools/gen_afi.py.)
-/
import Derived.Test.YtmfikppnkjhmjaaAfH
namespace Go.Proofs.Ytmfikppnkjhmjaa
open Go Go.RowKit Go.Bw
set_option linter.unusedVariables false
set_option linter.unusedSimpArgs false

/-- the eigenvalues, and the side on which the first one is said to lie -/
def FAv (p : Option Nat × Option Nat × Int) (w : World) (e : Ending) (w' : World) : Prop := ∃ (a b : Nat) (n : Int), e = .returned (.tuple #[.float .f64 a, .float .f64 b, .int .i64 n]) ∧ (af a, af b, n) = p ∧ a ≤ 18446744073709551615 ∧ b ≤ 18446744073709551615 ∧ Dr w w'

set_option maxHeartbeats 4000000 in
theorem gvalues_any {a b c r : Nat} (ha : a ≤ 18446744073709551615) (hb : b ≤ 18446744073709551615) (hc : c ≤ 18446744073709551615) (hr : r ≤ 18446744073709551615) (w : World) :
    Calls Try.prog 33 #[.float .f64 a, .float .f64 b, .float .f64 c, .float .f64 r] w (FAv (xyA (aop .add (af a) (af c)) (af r) (hiA (af a) (af c)).1 (hiA (af a) (af c)).2 (af b)) w) := by
  have dr := Dr.refl w
  have b0 : 0 ≤ 18446744073709551615 := by omega
  have bI : 4607182418800017408 ≤ 18446744073709551615 := by omega
  go_enter Try.func33, Try.ntmps33
  go_wp2_with fail
  with_reducible refine (gAbs_any ha _).mono ?_
  rintro e w1 ⟨r1, rfl, h1, b1, rfl⟩
  have H1 := Lib.hid h1
  clear h1
  go_wp2_with fail
  with_reducible refine (gAbs_any hc _).mono ?_
  rintro e w2 ⟨r2, rfl, h2, b2, rfl⟩
  have H2 := Lib.hid h2
  clear h2
  cases c1 : (FloatKind.f64.format.order r1 r2 == some .gt)
  · obtain ⟨r3, w3, e3, d3, h3, b3⟩ := run_add (P := Try.prog) 22 (x := a) (y := c) ha hc w
    have H3 := Lib.hid h3
    clear h3
    replace dr := dr.trans d3
    clear d3
    cases f1 : (FloatKind.f64.format.order r3 0 == some .lt)
    · cases f2 : (FloatKind.f64.format.order r3 0 == some .gt)
      · obtain ⟨r4, w4, e4, d4, h4, b4⟩ := run_mul (P := Try.prog) 22 (x := 4602678819172646912) (y := r) (by omega) hr w3
        have H4 := Lib.hid h4
        clear h4
        replace dr := dr.trans d4
        clear d4
        obtain ⟨r5, w5, e5, d5, h5, b5⟩ := run_mul (P := Try.prog) 22 (x := 13826050856027422720) (y := r) (by omega) hr w4
        have H5 := Lib.hid h5
        clear h5
        replace dr := dr.trans d5
        clear d5
        go_wp2_with fail
        go_ret3
        refine ⟨_, _, 1, rfl, ?_, b4, b5, dr⟩
        unfold hiA
        rw [← H1.out, ← H2.out, gt_is b1 b2, c1, if_neg (by decide)]
        unfold xyA
        simp only [← H3.out]
        rw [← af_zero, lt_is b3 b0, f1, if_neg (by decide)]
        rw [gt_is b3 b0, f2, if_neg (by decide)]
        simp only [← af_half, ← af_mhalf]
        simp only [← H4.out]
        simp only [← H5.out]
      · obtain ⟨r6, w6, e6, d6, h6, b6⟩ := run_add (P := Try.prog) 22 (x := r3) (y := r) b3 hr w3
        have H6 := Lib.hid h6
        clear h6
        replace dr := dr.trans d6
        clear d6
        obtain ⟨r7, w7, e7, d7, h7, b7⟩ := run_mul (P := Try.prog) 22 (x := 4602678819172646912) (y := r6) (by omega) b6 w6
        have H7 := Lib.hid h7
        clear h7
        replace dr := dr.trans d7
        clear d7
        obtain ⟨r8, w8, e8, d8, h8, b8⟩ := run_quo (P := Try.prog) 22 (x := c) (y := r7) hc b7 w7
        have H8 := Lib.hid h8
        clear h8
        replace dr := dr.trans d8
        clear d8
        obtain ⟨r9, w9, e9, d9, h9, b9⟩ := run_mul (P := Try.prog) 22 (x := r8) (y := a) b8 ha w8
        have H9 := Lib.hid h9
        clear h9
        replace dr := dr.trans d9
        clear d9
        obtain ⟨r10, w10, e10, d10, h10, b10⟩ := run_quo (P := Try.prog) 22 (x := b) (y := r7) hb b7 w9
        have H10 := Lib.hid h10
        clear h10
        replace dr := dr.trans d10
        clear d10
        obtain ⟨r11, w11, e11, d11, h11, b11⟩ := run_mul (P := Try.prog) 22 (x := r10) (y := b) b10 hb w10
        have H11 := Lib.hid h11
        clear h11
        replace dr := dr.trans d11
        clear d11
        obtain ⟨r12, w12, e12, d12, h12, b12⟩ := run_sub (P := Try.prog) 22 (x := r9) (y := r11) b9 b11 w11
        have H12 := Lib.hid h12
        clear h12
        replace dr := dr.trans d12
        clear d12
        go_wp2_with fail
        go_ret3
        refine ⟨_, _, 1, rfl, ?_, b7, b12, dr⟩
        unfold hiA
        rw [← H1.out, ← H2.out, gt_is b1 b2, c1, if_neg (by decide)]
        unfold xyA
        simp only [← H3.out]
        unfold yA
        rw [← af_zero, lt_is b3 b0, f1, if_neg (by decide)]
        rw [gt_is b3 b0, f2, if_pos rfl]
        simp only [← af_half]
        simp only [← H6.out]
        simp only [← H7.out]
        simp only [← H8.out]
        simp only [← H9.out]
        simp only [← H10.out]
        simp only [← H11.out]
        simp only [← H12.out]
    · obtain ⟨r13, w13, e13, d13, h13, b13⟩ := run_sub (P := Try.prog) 22 (x := r3) (y := r) b3 hr w3
      have H13 := Lib.hid h13
      clear h13
      replace dr := dr.trans d13
      clear d13
      obtain ⟨r14, w14, e14, d14, h14, b14⟩ := run_mul (P := Try.prog) 22 (x := 4602678819172646912) (y := r13) (by omega) b13 w13
      have H14 := Lib.hid h14
      clear h14
      replace dr := dr.trans d14
      clear d14
      obtain ⟨r15, w15, e15, d15, h15, b15⟩ := run_quo (P := Try.prog) 22 (x := c) (y := r14) hc b14 w14
      have H15 := Lib.hid h15
      clear h15
      replace dr := dr.trans d15
      clear d15
      obtain ⟨r16, w16, e16, d16, h16, b16⟩ := run_mul (P := Try.prog) 22 (x := r15) (y := a) b15 ha w15
      have H16 := Lib.hid h16
      clear h16
      replace dr := dr.trans d16
      clear d16
      obtain ⟨r17, w17, e17, d17, h17, b17⟩ := run_quo (P := Try.prog) 22 (x := b) (y := r14) hb b14 w16
      have H17 := Lib.hid h17
      clear h17
      replace dr := dr.trans d17
      clear d17
      obtain ⟨r18, w18, e18, d18, h18, b18⟩ := run_mul (P := Try.prog) 22 (x := r17) (y := b) b17 hb w17
      have H18 := Lib.hid h18
      clear h18
      replace dr := dr.trans d18
      clear d18
      obtain ⟨r19, w19, e19, d19, h19, b19⟩ := run_sub (P := Try.prog) 22 (x := r16) (y := r18) b16 b18 w18
      have H19 := Lib.hid h19
      clear h19
      replace dr := dr.trans d19
      clear d19
      go_wp2_with fail
      go_ret3
      refine ⟨_, _, (-1), rfl, ?_, b14, b19, dr⟩
      unfold hiA
      rw [← H1.out, ← H2.out, gt_is b1 b2, c1, if_neg (by decide)]
      unfold xyA
      simp only [← H3.out]
      unfold yA
      rw [← af_zero, lt_is b3 b0, f1, if_pos rfl]
      simp only [← af_half]
      simp only [← H13.out]
      simp only [← H14.out]
      simp only [← H15.out]
      simp only [← H16.out]
      simp only [← H17.out]
      simp only [← H18.out]
      simp only [← H19.out]
  · obtain ⟨r20, w20, e20, d20, h20, b20⟩ := run_add (P := Try.prog) 22 (x := a) (y := c) ha hc w
    have H20 := Lib.hid h20
    clear h20
    replace dr := dr.trans d20
    clear d20
    cases f1 : (FloatKind.f64.format.order r20 0 == some .lt)
    · cases f2 : (FloatKind.f64.format.order r20 0 == some .gt)
      · obtain ⟨r21, w21, e21, d21, h21, b21⟩ := run_mul (P := Try.prog) 22 (x := 4602678819172646912) (y := r) (by omega) hr w20
        have H21 := Lib.hid h21
        clear h21
        replace dr := dr.trans d21
        clear d21
        obtain ⟨r22, w22, e22, d22, h22, b22⟩ := run_mul (P := Try.prog) 22 (x := 13826050856027422720) (y := r) (by omega) hr w21
        have H22 := Lib.hid h22
        clear h22
        replace dr := dr.trans d22
        clear d22
        go_wp2_with fail
        go_ret3
        refine ⟨_, _, 1, rfl, ?_, b21, b22, dr⟩
        unfold hiA
        rw [← H1.out, ← H2.out, gt_is b1 b2, c1, if_pos rfl]
        unfold xyA
        simp only [← H20.out]
        rw [← af_zero, lt_is b20 b0, f1, if_neg (by decide)]
        rw [gt_is b20 b0, f2, if_neg (by decide)]
        simp only [← af_half, ← af_mhalf]
        simp only [← H21.out]
        simp only [← H22.out]
      · obtain ⟨r23, w23, e23, d23, h23, b23⟩ := run_add (P := Try.prog) 22 (x := r20) (y := r) b20 hr w20
        have H23 := Lib.hid h23
        clear h23
        replace dr := dr.trans d23
        clear d23
        obtain ⟨r24, w24, e24, d24, h24, b24⟩ := run_mul (P := Try.prog) 22 (x := 4602678819172646912) (y := r23) (by omega) b23 w23
        have H24 := Lib.hid h24
        clear h24
        replace dr := dr.trans d24
        clear d24
        obtain ⟨r25, w25, e25, d25, h25, b25⟩ := run_quo (P := Try.prog) 22 (x := a) (y := r24) ha b24 w24
        have H25 := Lib.hid h25
        clear h25
        replace dr := dr.trans d25
        clear d25
        obtain ⟨r26, w26, e26, d26, h26, b26⟩ := run_mul (P := Try.prog) 22 (x := r25) (y := c) b25 hc w25
        have H26 := Lib.hid h26
        clear h26
        replace dr := dr.trans d26
        clear d26
        obtain ⟨r27, w27, e27, d27, h27, b27⟩ := run_quo (P := Try.prog) 22 (x := b) (y := r24) hb b24 w26
        have H27 := Lib.hid h27
        clear h27
        replace dr := dr.trans d27
        clear d27
        obtain ⟨r28, w28, e28, d28, h28, b28⟩ := run_mul (P := Try.prog) 22 (x := r27) (y := b) b27 hb w27
        have H28 := Lib.hid h28
        clear h28
        replace dr := dr.trans d28
        clear d28
        obtain ⟨r29, w29, e29, d29, h29, b29⟩ := run_sub (P := Try.prog) 22 (x := r26) (y := r28) b26 b28 w28
        have H29 := Lib.hid h29
        clear h29
        replace dr := dr.trans d29
        clear d29
        go_wp2_with fail
        go_ret3
        refine ⟨_, _, 1, rfl, ?_, b24, b29, dr⟩
        unfold hiA
        rw [← H1.out, ← H2.out, gt_is b1 b2, c1, if_pos rfl]
        unfold xyA
        simp only [← H20.out]
        unfold yA
        rw [← af_zero, lt_is b20 b0, f1, if_neg (by decide)]
        rw [gt_is b20 b0, f2, if_pos rfl]
        simp only [← af_half]
        simp only [← H23.out]
        simp only [← H24.out]
        simp only [← H25.out]
        simp only [← H26.out]
        simp only [← H27.out]
        simp only [← H28.out]
        simp only [← H29.out]
    · obtain ⟨r30, w30, e30, d30, h30, b30⟩ := run_sub (P := Try.prog) 22 (x := r20) (y := r) b20 hr w20
      have H30 := Lib.hid h30
      clear h30
      replace dr := dr.trans d30
      clear d30
      obtain ⟨r31, w31, e31, d31, h31, b31⟩ := run_mul (P := Try.prog) 22 (x := 4602678819172646912) (y := r30) (by omega) b30 w30
      have H31 := Lib.hid h31
      clear h31
      replace dr := dr.trans d31
      clear d31
      obtain ⟨r32, w32, e32, d32, h32, b32⟩ := run_quo (P := Try.prog) 22 (x := a) (y := r31) ha b31 w31
      have H32 := Lib.hid h32
      clear h32
      replace dr := dr.trans d32
      clear d32
      obtain ⟨r33, w33, e33, d33, h33, b33⟩ := run_mul (P := Try.prog) 22 (x := r32) (y := c) b32 hc w32
      have H33 := Lib.hid h33
      clear h33
      replace dr := dr.trans d33
      clear d33
      obtain ⟨r34, w34, e34, d34, h34, b34⟩ := run_quo (P := Try.prog) 22 (x := b) (y := r31) hb b31 w33
      have H34 := Lib.hid h34
      clear h34
      replace dr := dr.trans d34
      clear d34
      obtain ⟨r35, w35, e35, d35, h35, b35⟩ := run_mul (P := Try.prog) 22 (x := r34) (y := b) b34 hb w34
      have H35 := Lib.hid h35
      clear h35
      replace dr := dr.trans d35
      clear d35
      obtain ⟨r36, w36, e36, d36, h36, b36⟩ := run_sub (P := Try.prog) 22 (x := r33) (y := r35) b33 b35 w35
      have H36 := Lib.hid h36
      clear h36
      replace dr := dr.trans d36
      clear d36
      go_wp2_with fail
      go_ret3
      refine ⟨_, _, (-1), rfl, ?_, b31, b36, dr⟩
      unfold hiA
      rw [← H1.out, ← H2.out, gt_is b1 b2, c1, if_pos rfl]
      unfold xyA
      simp only [← H20.out]
      unfold yA
      rw [← af_zero, lt_is b20 b0, f1, if_pos rfl]
      simp only [← af_half]
      simp only [← H30.out]
      simp only [← H31.out]
      simp only [← H32.out]
      simp only [← H33.out]
      simp only [← H34.out]
      simp only [← H35.out]
      simp only [← H36.out]

set_option maxHeartbeats 4000000 in
theorem gEigen_any : ConEigen := by
  intro x y z hx hy hz w
  have dr := Dr.refl w
  have b0 : 0 ≤ 18446744073709551615 := by omega
  have bI : 4607182418800017408 ≤ 18446744073709551615 := by omega
  go_enter Try.func19, Try.ntmps19
  obtain ⟨r1, w1, e1, d1, h1, b1⟩ := run_sub (P := Try.prog) 22 (x := x) (y := z) hx hz w
  have H1 := Lib.hid h1
  clear h1
  replace dr := dr.trans d1
  clear d1
  obtain ⟨r2, w2, e2, d2, h2, b2⟩ := run_add (P := Try.prog) 22 (x := y) (y := y) hy hy w1
  have H2 := Lib.hid h2
  clear h2
  replace dr := dr.trans d2
  clear d2
  go_wp2_with fail
  with_reducible refine (gAbs_any b1 _).mono ?_
  rintro e w3 ⟨r3, rfl, h3, b3, rfl⟩
  have H3 := Lib.hid h3
  clear h3
  go_wp2_with fail
  with_reducible refine (gAbs_any b2 _).mono ?_
  rintro e w4 ⟨r4, rfl, h4, b4, rfl⟩
  have H4 := Lib.hid h4
  clear h4
  go_wp2_with fail
  with_reducible refine (gbetween_any b3 b4 _).mono ?_
  rintro e w5 ⟨r5, rfl, h5, b5, d5⟩
  have H5 := Lib.hid h5
  clear h5
  replace dr := dr.trans d5
  clear d5
  go_wp2_with fail
  with_reducible refine (gvalues_any hx hy hz b5 _).mono ?_
  rintro e wv ⟨x1, y1, n1, rfl, hv, bx1, by1, dv⟩
  have HV := Lib.hid hv
  clear hv
  replace dr := dr.trans dv
  clear dv
  cases g1 : (FloatKind.f64.format.order r1 0 == some .gt)
  · cases g2 : (FloatKind.f64.format.order r1 0 == some .eq)
    · try simp only [Bool.true_or, Bool.false_or, Bool.or_false, Bool.or_true]
      obtain ⟨r6, w6, e6, d6, h6, b6⟩ := run_sub (P := Try.prog) 22 (x := r1) (y := r5) b1 b5 wv
      have H6 := Lib.hid h6
      clear h6
      replace dr := dr.trans d6
      clear d6
      go_wp2_with fail
      with_reducible refine (gvector_any b6 b2 _).mono ?_
      rintro e w7 ⟨r7a, r7b, rfl, h7, b7a, b7b, d7⟩
      have H7 := Lib.hid h7
      clear h7
      replace dr := dr.trans d7
      clear d7
      have HE : Hid (eigA (af x) (af y) (af z) = if n1 = (-1) then (af x1, af y1, negA (af r7b), af r7a) else (af x1, af y1, af r7a, af r7b)) := Lib.hid (by
        unfold eigA eig2A
        dsimp only
        simp only [← H1.out, ← H2.out, ← H3.out, ← H4.out]
        simp only [← H5.out, ← HV.out]
        have hc : csA (af r1) (af r5) = (af r6, (-1)) := by
          unfold csA
          rw [← af_zero, ge_is b1 b0, g1, g2, if_neg (by decide), ← H6.out]
        rw [hc]
        dsimp only
        rw [H4.out, ← H7.out.1, ← H7.out.2])
      by_cases hn : n1 = (-1)
      · have dn : (n1 == (-1)) = true := by simpa using hn
        have HN := Lib.hid hn
        clear hn
        obtain ⟨r8, e8, h8, b8⟩ := run_neg (P := Try.prog) (x := r7b) b7b
        have H8 := Lib.hid h8
        clear h8
        go_wp2_with fail
        refine bodyPost_ret (v := .tuple #[.float .f64 x1, .float .f64 y1, .float .f64 r8, .float .f64 r7a]) (by simp [results, Try.results19, go_sem]) rfl ?_
        refine ⟨_, _, _, _, rfl, ?_, ⟨bx1, by1, b8, b7a⟩, dr⟩
        rw [HE.out, if_pos HN.out, ← H8.out]
        exact ⟨rfl, rfl, rfl, rfl⟩
      · have dn : (n1 == (-1)) = false := by simpa using hn
        have HN := Lib.hid hn
        clear hn
        go_wp2_with fail
        refine bodyPost_ret (v := .tuple #[.float .f64 x1, .float .f64 y1, .float .f64 r7a, .float .f64 r7b]) (by simp [results, Try.results19, go_sem]) rfl ?_
        refine ⟨_, _, _, _, rfl, ?_, ⟨bx1, by1, b7a, b7b⟩, dr⟩
        rw [HE.out, if_neg HN.out]
        exact ⟨rfl, rfl, rfl, rfl⟩
    · try simp only [Bool.true_or, Bool.false_or, Bool.or_false, Bool.or_true]
      obtain ⟨r9, w9, e9, d9, h9, b9⟩ := run_add (P := Try.prog) 22 (x := r1) (y := r5) b1 b5 wv
      have H9 := Lib.hid h9
      clear h9
      replace dr := dr.trans d9
      clear d9
      go_wp2_with fail
      with_reducible refine (gvector_any b9 b2 _).mono ?_
      rintro e w10 ⟨r10a, r10b, rfl, h10, b10a, b10b, d10⟩
      have H10 := Lib.hid h10
      clear h10
      replace dr := dr.trans d10
      clear d10
      have HE : Hid (eigA (af x) (af y) (af z) = if n1 = 1 then (af x1, af y1, negA (af r10b), af r10a) else (af x1, af y1, af r10a, af r10b)) := Lib.hid (by
        unfold eigA eig2A
        dsimp only
        simp only [← H1.out, ← H2.out, ← H3.out, ← H4.out]
        simp only [← H5.out, ← HV.out]
        have hc : csA (af r1) (af r5) = (af r9, 1) := by
          unfold csA
          rw [← af_zero, ge_is b1 b0, g1, g2, if_pos (by decide), ← H9.out]
        rw [hc]
        dsimp only
        rw [H4.out, ← H10.out.1, ← H10.out.2])
      by_cases hn : n1 = 1
      · have dn : (n1 == 1) = true := by simpa using hn
        have HN := Lib.hid hn
        clear hn
        obtain ⟨r11, e11, h11, b11⟩ := run_neg (P := Try.prog) (x := r10b) b10b
        have H11 := Lib.hid h11
        clear h11
        go_wp2_with fail
        refine bodyPost_ret (v := .tuple #[.float .f64 x1, .float .f64 y1, .float .f64 r11, .float .f64 r10a]) (by simp [results, Try.results19, go_sem]) rfl ?_
        refine ⟨_, _, _, _, rfl, ?_, ⟨bx1, by1, b11, b10a⟩, dr⟩
        rw [HE.out, if_pos HN.out, ← H11.out]
        exact ⟨rfl, rfl, rfl, rfl⟩
      · have dn : (n1 == 1) = false := by simpa using hn
        have HN := Lib.hid hn
        clear hn
        go_wp2_with fail
        refine bodyPost_ret (v := .tuple #[.float .f64 x1, .float .f64 y1, .float .f64 r10a, .float .f64 r10b]) (by simp [results, Try.results19, go_sem]) rfl ?_
        refine ⟨_, _, _, _, rfl, ?_, ⟨bx1, by1, b10a, b10b⟩, dr⟩
        rw [HE.out, if_neg HN.out]
        exact ⟨rfl, rfl, rfl, rfl⟩
  · try simp only [Bool.true_or, Bool.false_or, Bool.or_false, Bool.or_true]
    obtain ⟨r12, w12, e12, d12, h12, b12⟩ := run_add (P := Try.prog) 22 (x := r1) (y := r5) b1 b5 wv
    have H12 := Lib.hid h12
    clear h12
    replace dr := dr.trans d12
    clear d12
    go_wp2_with fail
    with_reducible refine (gvector_any b12 b2 _).mono ?_
    rintro e w13 ⟨r13a, r13b, rfl, h13, b13a, b13b, d13⟩
    have H13 := Lib.hid h13
    clear h13
    replace dr := dr.trans d13
    clear d13
    have HE : Hid (eigA (af x) (af y) (af z) = if n1 = 1 then (af x1, af y1, negA (af r13b), af r13a) else (af x1, af y1, af r13a, af r13b)) := Lib.hid (by
      unfold eigA eig2A
      dsimp only
      simp only [← H1.out, ← H2.out, ← H3.out, ← H4.out]
      simp only [← H5.out, ← HV.out]
      have hc : csA (af r1) (af r5) = (af r12, 1) := by
        unfold csA
        rw [← af_zero, ge_is b1 b0, g1, Bool.true_or, if_pos rfl, ← H12.out]
      rw [hc]
      dsimp only
      rw [H4.out, ← H13.out.1, ← H13.out.2])
    by_cases hn : n1 = 1
    · have dn : (n1 == 1) = true := by simpa using hn
      have HN := Lib.hid hn
      clear hn
      obtain ⟨r14, e14, h14, b14⟩ := run_neg (P := Try.prog) (x := r13b) b13b
      have H14 := Lib.hid h14
      clear h14
      go_wp2_with fail
      refine bodyPost_ret (v := .tuple #[.float .f64 x1, .float .f64 y1, .float .f64 r14, .float .f64 r13a]) (by simp [results, Try.results19, go_sem]) rfl ?_
      refine ⟨_, _, _, _, rfl, ?_, ⟨bx1, by1, b14, b13a⟩, dr⟩
      rw [HE.out, if_pos HN.out, ← H14.out]
      exact ⟨rfl, rfl, rfl, rfl⟩
    · have dn : (n1 == 1) = false := by simpa using hn
      have HN := Lib.hid hn
      clear hn
      go_wp2_with fail
      refine bodyPost_ret (v := .tuple #[.float .f64 x1, .float .f64 y1, .float .f64 r13a, .float .f64 r13b]) (by simp [results, Try.results19, go_sem]) rfl ?_
      refine ⟨_, _, _, _, rfl, ?_, ⟨bx1, by1, b13a, b13b⟩, dr⟩
      rw [HE.out, if_neg HN.out]
      exact ⟨rfl, rfl, rfl, rfl⟩

theorem lt_gt {x y a b : Nat} (ha : af a = absA (af x)) (hb : af b = absA (af y)) (bA : a ≤ 18446744073709551615) (bB : b ≤ 18446744073709551615) : (FloatKind.f64.format.order a b == some .lt) = (FloatKind.f64.format.order b a == some .gt) := by
  rw [← lt_is bA bB, ← gt_is bB bA]
  rw [← abs_is] at ha hb
  rw [ha, hb]
  have h1 : x % 9223372036854775808 ≤ 18446744073709551615 := by omega
  have h2 : y % 9223372036854775808 ≤ 18446744073709551615 := by omega
  cases n1 : isN (x % 9223372036854775808)
  · cases n2 : isN (y % 9223372036854775808)
    · have e1 := notN_le n1
      have e2 := notN_le n2
      rw [af_some n1, af_some n2, (ord_mag (by omega) (by omega)).2.1, (ord_mag (by omega) (by omega)).1]
    · rw [af_none n2, af_some n1]; rfl
  · cases n2 : isN (y % 9223372036854775808)
    · rw [af_none n1, af_some n2]; rfl
    · rw [af_none n1, af_none n2]; rfl

set_option maxHeartbeats 4000000 in
theorem gSingular_any : ConSingular := by
  intro x y z hx hy hz w
  have dr := Dr.refl w
  have b0 : 0 ≤ 18446744073709551615 := by omega
  have bI : 4607182418800017408 ≤ 18446744073709551615 := by omega
  go_enter Try.func21, Try.ntmps21
  go_wp2_with fail
  with_reducible refine (gAbs_any hy _).mono ?_
  rintro e w1 ⟨r1, rfl, h1, b1, rfl⟩
  have H1 := Lib.hid h1
  clear h1
  go_wp2_with fail
  with_reducible refine (gAbs_any hz _).mono ?_
  rintro e w2 ⟨r2, rfl, h2, b2, rfl⟩
  have H2 := Lib.hid h2
  clear h2
  go_wp2_with fail
  with_reducible refine (gAbs_any hx _).mono ?_
  rintro e w3 ⟨r3, rfl, h3, b3, rfl⟩
  have H3 := Lib.hid h3
  clear h3
  have LG := Lib.hid (lt_gt H2.out H3.out b2 b3)
  cases c1 : (FloatKind.f64.format.order r3 r2 == some .gt)
  · go_wp2_with fail
    with_reducible refine (gordered_no b2 b3 (by assumption) _).mono ?_
    rintro e u ⟨rfl, rfl⟩
    cases c2 : (FloatKind.f64.format.order r3 0 == some .eq)
    · cases c3 : (FloatKind.f64.format.order r1 r2 == some .lt)
      · obtain ⟨r4, w4, e4, d4, h4, b4⟩ := run_quo (P := Try.prog) 22 (x := r2) (y := r1) b2 b1 w
        have H4 := Lib.hid h4
        clear h4
        replace dr := dr.trans d4
        clear d4
        cases c4 : (FloatKind.f64.format.order r4 0 == some .eq)
        · go_wp2_with fail
          with_reducible refine (gflat_any b3 b2 b1 _).mono ?_
          rintro e w5 ⟨r5a, r5b, rfl, h5, b5a, b5b, d5⟩
          have H5 := Lib.hid h5
          clear h5
          replace dr := dr.trans d5
          clear d5
          go_wp2_with fail
          go_ret2
          refine ⟨_, _, rfl, ?_, b5a, b5b, dr⟩
          unfold singA
          rw [← H3.out, ← H1.out, ← H2.out, lt_is b2 b3, LG.out, c1, if_neg (by decide)]
          unfold sing2A
          rw [← af_zero, eq_is b3 b0, c2, if_neg (by decide)]
          rw [lt_is b1 b2, c3, if_neg (by decide)]
          rw [← H4.out, eq_is b4 b0, c4, if_neg (by decide)]
          rw [H4.out]
          exact H5.out
        · obtain ⟨r6, w6, e6, d6, h6, b6⟩ := run_mul (P := Try.prog) 22 (x := r3) (y := r2) b3 b2 w4
          have H6 := Lib.hid h6
          clear h6
          replace dr := dr.trans d6
          clear d6
          obtain ⟨r7, w7, e7, d7, h7, b7⟩ := run_quo (P := Try.prog) 22 (x := r6) (y := r1) b6 b1 w6
          have H7 := Lib.hid h7
          clear h7
          replace dr := dr.trans d7
          clear d7
          go_wp2_with fail
          go_ret2
          refine ⟨_, _, rfl, ?_, b7, b1, dr⟩
          unfold singA
          rw [← H3.out, ← H1.out, ← H2.out, lt_is b2 b3, LG.out, c1, if_neg (by decide)]
          unfold sing2A
          rw [← af_zero, eq_is b3 b0, c2, if_neg (by decide)]
          rw [lt_is b1 b2, c3, if_neg (by decide)]
          rw [← H4.out, eq_is b4 b0, c4, if_pos rfl]
          simp only [← H6.out]
          simp only [← H7.out]
          exact ⟨trivial, trivial⟩
      · go_wp2_with fail
        with_reducible refine (gsteep_any b3 b2 b1 _).mono ?_
        rintro e w8 ⟨r8a, r8b, rfl, h8, b8a, b8b, d8⟩
        have H8 := Lib.hid h8
        clear h8
        replace dr := dr.trans d8
        clear d8
        go_wp2_with fail
        go_ret2
        refine ⟨_, _, rfl, ?_, b8a, b8b, dr⟩
        unfold singA
        rw [← H3.out, ← H1.out, ← H2.out, lt_is b2 b3, LG.out, c1, if_neg (by decide)]
        unfold sing2A
        rw [← af_zero, eq_is b3 b0, c2, if_neg (by decide)]
        rw [lt_is b1 b2, c3, if_pos rfl]
        exact H8.out
    · cases c3 : (FloatKind.f64.format.order r2 0 == some .eq)
      · cases c4 : (FloatKind.f64.format.order r1 r2 == some .gt)
        · go_wp2_with fail
          with_reducible refine (gordered_no b2 b1 (by assumption) _).mono ?_
          rintro e u ⟨rfl, rfl⟩
          go_wp2_with fail
          with_reducible refine (glength_any b2 b1 _).mono ?_
          rintro e w9 ⟨r9, rfl, h9, b9, d9⟩
          have H9 := Lib.hid h9
          clear h9
          replace dr := dr.trans d9
          clear d9
          go_wp2_with fail
          go_ret2
          refine ⟨_, _, rfl, ?_, b0, b9, dr⟩
          unfold singA
          rw [← H3.out, ← H1.out, ← H2.out, lt_is b2 b3, LG.out, c1, if_neg (by decide)]
          unfold sing2A
          rw [← af_zero, eq_is b3 b0, c2, if_pos rfl]
          rw [eq_is b2 b0, c3, if_neg (by decide)]
          rw [gt_is b1 b2, c4, if_neg (by decide)]
          exact ⟨rfl, H9.out⟩
        · go_wp2_with fail
          with_reducible refine (gordered_yes b2 b1 (by assumption) _).mono ?_
          rintro e u ⟨rfl, rfl⟩
          go_wp2_with fail
          with_reducible refine (glength_any b1 b2 _).mono ?_
          rintro e w10 ⟨r10, rfl, h10, b10, d10⟩
          have H10 := Lib.hid h10
          clear h10
          replace dr := dr.trans d10
          clear d10
          go_wp2_with fail
          go_ret2
          refine ⟨_, _, rfl, ?_, b0, b10, dr⟩
          unfold singA
          rw [← H3.out, ← H1.out, ← H2.out, lt_is b2 b3, LG.out, c1, if_neg (by decide)]
          unfold sing2A
          rw [← af_zero, eq_is b3 b0, c2, if_pos rfl]
          rw [eq_is b2 b0, c3, if_neg (by decide)]
          rw [gt_is b1 b2, c4, if_pos rfl]
          exact ⟨rfl, H10.out⟩
      · go_wp2_with fail
        go_ret2
        refine ⟨_, _, rfl, ?_, b0, b1, dr⟩
        unfold singA
        rw [← H3.out, ← H1.out, ← H2.out, lt_is b2 b3, LG.out, c1, if_neg (by decide)]
        unfold sing2A
        rw [← af_zero, eq_is b3 b0, c2, if_pos rfl]
        rw [eq_is b2 b0, c3, if_pos rfl]
        exact ⟨rfl, rfl⟩
  · go_wp2_with fail
    with_reducible refine (gordered_yes b2 b3 (by assumption) _).mono ?_
    rintro e u ⟨rfl, rfl⟩
    cases c2 : (FloatKind.f64.format.order r2 0 == some .eq)
    · cases c3 : (FloatKind.f64.format.order r1 r3 == some .lt)
      · obtain ⟨r11, w11, e11, d11, h11, b11⟩ := run_quo (P := Try.prog) 22 (x := r3) (y := r1) b3 b1 w
        have H11 := Lib.hid h11
        clear h11
        replace dr := dr.trans d11
        clear d11
        cases c4 : (FloatKind.f64.format.order r11 0 == some .eq)
        · go_wp2_with fail
          with_reducible refine (gflat_any b2 b3 b1 _).mono ?_
          rintro e w12 ⟨r12a, r12b, rfl, h12, b12a, b12b, d12⟩
          have H12 := Lib.hid h12
          clear h12
          replace dr := dr.trans d12
          clear d12
          go_wp2_with fail
          go_ret2
          refine ⟨_, _, rfl, ?_, b12a, b12b, dr⟩
          unfold singA
          rw [← H3.out, ← H1.out, ← H2.out, lt_is b2 b3, LG.out, c1, if_pos rfl]
          unfold sing2A
          rw [← af_zero, eq_is b2 b0, c2, if_neg (by decide)]
          rw [lt_is b1 b3, c3, if_neg (by decide)]
          rw [← H11.out, eq_is b11 b0, c4, if_neg (by decide)]
          rw [H11.out]
          exact H12.out
        · obtain ⟨r13, w13, e13, d13, h13, b13⟩ := run_mul (P := Try.prog) 22 (x := r2) (y := r3) b2 b3 w11
          have H13 := Lib.hid h13
          clear h13
          replace dr := dr.trans d13
          clear d13
          obtain ⟨r14, w14, e14, d14, h14, b14⟩ := run_quo (P := Try.prog) 22 (x := r13) (y := r1) b13 b1 w13
          have H14 := Lib.hid h14
          clear h14
          replace dr := dr.trans d14
          clear d14
          go_wp2_with fail
          go_ret2
          refine ⟨_, _, rfl, ?_, b14, b1, dr⟩
          unfold singA
          rw [← H3.out, ← H1.out, ← H2.out, lt_is b2 b3, LG.out, c1, if_pos rfl]
          unfold sing2A
          rw [← af_zero, eq_is b2 b0, c2, if_neg (by decide)]
          rw [lt_is b1 b3, c3, if_neg (by decide)]
          rw [← H11.out, eq_is b11 b0, c4, if_pos rfl]
          simp only [← H13.out]
          simp only [← H14.out]
          exact ⟨trivial, trivial⟩
      · go_wp2_with fail
        with_reducible refine (gsteep_any b2 b3 b1 _).mono ?_
        rintro e w15 ⟨r15a, r15b, rfl, h15, b15a, b15b, d15⟩
        have H15 := Lib.hid h15
        clear h15
        replace dr := dr.trans d15
        clear d15
        go_wp2_with fail
        go_ret2
        refine ⟨_, _, rfl, ?_, b15a, b15b, dr⟩
        unfold singA
        rw [← H3.out, ← H1.out, ← H2.out, lt_is b2 b3, LG.out, c1, if_pos rfl]
        unfold sing2A
        rw [← af_zero, eq_is b2 b0, c2, if_neg (by decide)]
        rw [lt_is b1 b3, c3, if_pos rfl]
        exact H15.out
    · cases c3 : (FloatKind.f64.format.order r3 0 == some .eq)
      · cases c4 : (FloatKind.f64.format.order r1 r3 == some .gt)
        · go_wp2_with fail
          with_reducible refine (gordered_no b3 b1 (by assumption) _).mono ?_
          rintro e u ⟨rfl, rfl⟩
          go_wp2_with fail
          with_reducible refine (glength_any b3 b1 _).mono ?_
          rintro e w16 ⟨r16, rfl, h16, b16, d16⟩
          have H16 := Lib.hid h16
          clear h16
          replace dr := dr.trans d16
          clear d16
          go_wp2_with fail
          go_ret2
          refine ⟨_, _, rfl, ?_, b0, b16, dr⟩
          unfold singA
          rw [← H3.out, ← H1.out, ← H2.out, lt_is b2 b3, LG.out, c1, if_pos rfl]
          unfold sing2A
          rw [← af_zero, eq_is b2 b0, c2, if_pos rfl]
          rw [eq_is b3 b0, c3, if_neg (by decide)]
          rw [gt_is b1 b3, c4, if_neg (by decide)]
          exact ⟨rfl, H16.out⟩
        · go_wp2_with fail
          with_reducible refine (gordered_yes b3 b1 (by assumption) _).mono ?_
          rintro e u ⟨rfl, rfl⟩
          go_wp2_with fail
          with_reducible refine (glength_any b1 b3 _).mono ?_
          rintro e w17 ⟨r17, rfl, h17, b17, d17⟩
          have H17 := Lib.hid h17
          clear h17
          replace dr := dr.trans d17
          clear d17
          go_wp2_with fail
          go_ret2
          refine ⟨_, _, rfl, ?_, b0, b17, dr⟩
          unfold singA
          rw [← H3.out, ← H1.out, ← H2.out, lt_is b2 b3, LG.out, c1, if_pos rfl]
          unfold sing2A
          rw [← af_zero, eq_is b2 b0, c2, if_pos rfl]
          rw [eq_is b3 b0, c3, if_neg (by decide)]
          rw [gt_is b1 b3, c4, if_pos rfl]
          exact ⟨rfl, H17.out⟩
      · go_wp2_with fail
        go_ret2
        refine ⟨_, _, rfl, ?_, b0, b1, dr⟩
        unfold singA
        rw [← H3.out, ← H1.out, ← H2.out, lt_is b2 b3, LG.out, c1, if_pos rfl]
        unfold sing2A
        rw [← af_zero, eq_is b2 b0, c2, if_pos rfl]
        rw [eq_is b3 b0, c3, if_pos rfl]
        exact ⟨rfl, rfl⟩
end Go.Proofs.Ytmfikppnkjhmjaa
