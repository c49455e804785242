/-
  Layer 6, walks: a triangular two by two's singular values, by the reference. (Written by wip/tools/gen_afd.py.)
-/
import Derived.Test.YtmfikppnkjhmjaaAfC
namespace Go.Proofs.Ytmfikppnkjhmjaa
open Go Go.RowKit
set_option linter.unusedVariables false
set_option linter.unusedSimpArgs false

/-- two floats are handed back -/
def FA2 (p : Option Nat × Option Nat) (w : World) (e : Ending) (w' : World) : Prop := ∃ a b, e = .returned (.tuple #[.float .f64 a, .float .f64 b]) ∧ (af a = p.1 ∧ af b = p.2) ∧ a ≤ 18446744073709551615 ∧ b ≤ 18446744073709551615 ∧ Dr w w'
def hyp1A (p q : Option Nat) : Option Nat := aop .mul p (rootA (aop .quo q p))
def sgA (lo hi ga : Option Nat) : Option Nat × Option Nat :=
  let s := aop .add (some 4607182418800017408) (aop .quo lo hi)
  let t := aop .quo (aop .sub hi lo) hi
  let v := aop .mul (aop .quo ga hi) (aop .quo ga hi)
  let c := asq (aop .add (aop .mul s s) v)
  let d := asq (aop .add (aop .mul t t) v)
  let k := aop .quo (some 4611686018427387904) (aop .add c d)
  (aop .mul lo k, aop .quo hi k)
def sbA (lo hi ga v : Option Nat) : Option Nat × Option Nat :=
  let s := aop .add (some 4607182418800017408) (aop .quo lo hi)
  let t := aop .quo (aop .sub hi lo) hi
  let p := aop .mul s v
  let q := aop .mul t v
  let a := asq (aop .add (some 4607182418800017408) (aop .mul p p))
  let b := asq (aop .add (some 4607182418800017408) (aop .mul q q))
  let c := aop .quo (some 4607182418800017408) (aop .add a b)
  let w := aop .mul (aop .mul lo c) v
  (aop .add w w, aop .quo ga (aop .add c c))
def sing2A (lo hi ga : Option Nat) : Option Nat × Option Nat :=
  if eqA lo (some 0) then (if eqA hi (some 0) then (some 0, ga) else (some 0, if gtA ga hi then hyp1A ga hi else hyp1A hi ga))
  else if ltA ga hi then sgA lo hi ga
  else if eqA (aop .quo hi ga) (some 0) then (aop .quo (aop .mul lo hi) ga, ga) else sbA lo hi ga (aop .quo hi ga)
def singA (f g h : Option Nat) : Option Nat × Option Nat :=
  if ltA (absA h) (absA f) then sing2A (absA h) (absA f) (absA g) else sing2A (absA f) (absA h) (absA g)

set_option maxRecDepth 100000 in
set_option maxHeartbeats 8000000 in
theorem rSingular_any {x y z : Nat} (hx : x ≤ 18446744073709551615) (hy : y ≤ 18446744073709551615) (hz : z ≤ 18446744073709551615) (w : World) :
    Calls Try.prog 22 #[.float .f64 x, .float .f64 y, .float .f64 z] w (FA2 (singA (af x) (af y) (af z)) w) := by
  have dr := Dr.refl w
  go_enter Try.func22, Try.ntmps22
  go_wp2_with fail
  with_reducible refine (rAbs_any hx _).mono ?_
  rintro e w1 ⟨r1, rfl, h1, b1, rfl⟩
  have H1 := Lib.hid h1
  clear h1
  go_wp2_with fail
  with_reducible refine (rAbs_any hy _).mono ?_
  rintro e w2 ⟨r2, rfl, h2, b2, rfl⟩
  have H2 := Lib.hid h2
  clear h2
  go_wp2_with fail
  with_reducible refine (rAbs_any hz _).mono ?_
  rintro e w3 ⟨r3, rfl, h3, b3, rfl⟩
  have H3 := Lib.hid h3
  clear h3
  cases c1 : (FloatKind.f64.format.order r3 r1 == some .lt)
  · cases c2 : (FloatKind.f64.format.order r1 0 == some .eq)
    · cases c3 : (FloatKind.f64.format.order r2 r3 == some .lt)
      · obtain ⟨r4, w4, e4, d4, h4, b4⟩ := run_quo (P := Try.prog) 22 (x := r3) (y := r2) b3 b2 w
        have H4 := Lib.hid h4
        clear h4
        replace dr := dr.trans d4
        clear d4
        cases c4 : (FloatKind.f64.format.order r4 0 == some .eq)
        · obtain ⟨r5, w5, e5, d5, h5, b5⟩ := run_quo (P := Try.prog) 22 (x := r1) (y := r3) b1 b3 w4
          have H5 := Lib.hid h5
          clear h5
          replace dr := dr.trans d5
          clear d5
          obtain ⟨r6, w6, e6, d6, h6, b6⟩ := run_add (P := Try.prog) 22 (x := 4607182418800017408) (y := r5) (by omega) b5 w5
          have H6 := Lib.hid h6
          clear h6
          replace dr := dr.trans d6
          clear d6
          obtain ⟨r7, w7, e7, d7, h7, b7⟩ := run_sub (P := Try.prog) 22 (x := r3) (y := r1) b3 b1 w6
          have H7 := Lib.hid h7
          clear h7
          replace dr := dr.trans d7
          clear d7
          obtain ⟨r8, w8, e8, d8, h8, b8⟩ := run_quo (P := Try.prog) 22 (x := r7) (y := r3) b7 b3 w7
          have H8 := Lib.hid h8
          clear h8
          replace dr := dr.trans d8
          clear d8
          obtain ⟨r9, w9, e9, d9, h9, b9⟩ := run_mul (P := Try.prog) 22 (x := r6) (y := r4) b6 b4 w8
          have H9 := Lib.hid h9
          clear h9
          replace dr := dr.trans d9
          clear d9
          obtain ⟨r10, w10, e10, d10, h10, b10⟩ := run_mul (P := Try.prog) 22 (x := r8) (y := r4) b8 b4 w9
          have H10 := Lib.hid h10
          clear h10
          replace dr := dr.trans d10
          clear d10
          obtain ⟨r11, w11, e11, d11, h11, b11⟩ := run_mul (P := Try.prog) 22 (x := r9) (y := r9) b9 b9 w10
          have H11 := Lib.hid h11
          clear h11
          replace dr := dr.trans d11
          clear d11
          obtain ⟨r12, w12, e12, d12, h12, b12⟩ := run_mul (P := Try.prog) 22 (x := r10) (y := r10) b10 b10 w11
          have H12 := Lib.hid h12
          clear h12
          replace dr := dr.trans d12
          clear d12
          obtain ⟨r13, w13, e13, d13, h13, b13⟩ := run_add (P := Try.prog) 22 (x := 4607182418800017408) (y := r11) (by omega) b11 w12
          have H13 := Lib.hid h13
          clear h13
          replace dr := dr.trans d13
          clear d13
          go_wp2_with fail
          with_reducible refine (sqrt_any b13 _).mono ?_
          rintro e w14 ⟨r14, rfl, h14, b14, d14⟩
          have H14 := Lib.hid h14
          clear h14
          replace dr := dr.trans d14
          clear d14
          obtain ⟨r15, w15, e15, d15, h15, b15⟩ := run_add (P := Try.prog) 22 (x := 4607182418800017408) (y := r12) (by omega) b12 w14
          have H15 := Lib.hid h15
          clear h15
          replace dr := dr.trans d15
          clear d15
          go_wp2_with fail
          with_reducible refine (sqrt_any b15 _).mono ?_
          rintro e w16 ⟨r16, rfl, h16, b16, d16⟩
          have H16 := Lib.hid h16
          clear h16
          replace dr := dr.trans d16
          clear d16
          obtain ⟨r17, w17, e17, d17, h17, b17⟩ := run_add (P := Try.prog) 22 (x := r14) (y := r16) b14 b16 w16
          have H17 := Lib.hid h17
          clear h17
          replace dr := dr.trans d17
          clear d17
          obtain ⟨r18, w18, e18, d18, h18, b18⟩ := run_quo (P := Try.prog) 22 (x := 4607182418800017408) (y := r17) (by omega) b17 w17
          have H18 := Lib.hid h18
          clear h18
          replace dr := dr.trans d18
          clear d18
          obtain ⟨r19, w19, e19, d19, h19, b19⟩ := run_mul (P := Try.prog) 22 (x := r1) (y := r18) b1 b18 w18
          have H19 := Lib.hid h19
          clear h19
          replace dr := dr.trans d19
          clear d19
          obtain ⟨r20, w20, e20, d20, h20, b20⟩ := run_mul (P := Try.prog) 22 (x := r19) (y := r4) b19 b4 w19
          have H20 := Lib.hid h20
          clear h20
          replace dr := dr.trans d20
          clear d20
          obtain ⟨r21, w21, e21, d21, h21, b21⟩ := run_add (P := Try.prog) 22 (x := r20) (y := r20) b20 b20 w20
          have H21 := Lib.hid h21
          clear h21
          replace dr := dr.trans d21
          clear d21
          obtain ⟨r22, w22, e22, d22, h22, b22⟩ := run_add (P := Try.prog) 22 (x := r18) (y := r18) b18 b18 w21
          have H22 := Lib.hid h22
          clear h22
          replace dr := dr.trans d22
          clear d22
          obtain ⟨r23, w23, e23, d23, h23, b23⟩ := run_quo (P := Try.prog) 22 (x := r2) (y := r22) b2 b22 w22
          have H23 := Lib.hid h23
          clear h23
          replace dr := dr.trans d23
          clear d23
          go_wp2_with fail
          go_ret2
          refine ⟨r21, r23, rfl, ?_, b21, b23, dr⟩
          unfold singA
          rw [← H1.out, ← H2.out, ← H3.out, lt_is b3 b1, c1, if_neg (by decide)]
          unfold sing2A
          rw [← af_zero, eq_is b1 (by omega), c2, if_neg (by decide)]
          rw [lt_is b2 b3, c3, if_neg (by decide), ← H4.out]
          rw [eq_is b4 (by omega), c4, if_neg (by decide)]
          simp only [sbA, ← af_one]
          simp only [← H5.out]
          simp only [← H6.out]
          simp only [← H7.out]
          simp only [← H8.out]
          simp only [← H9.out]
          simp only [← H10.out]
          simp only [← H11.out]
          simp only [← H12.out]
          simp only [← H13.out]
          simp only [← H14.out]
          simp only [← H15.out]
          simp only [← H16.out]
          simp only [← H17.out]
          simp only [← H18.out]
          simp only [← H19.out]
          simp only [← H20.out]
          simp only [← H21.out]
          simp only [← H22.out]
          simp only [← H23.out]
          exact ⟨trivial, trivial⟩
        · obtain ⟨r24, w24, e24, d24, h24, b24⟩ := run_mul (P := Try.prog) 22 (x := r1) (y := r3) b1 b3 w4
          have H24 := Lib.hid h24
          clear h24
          replace dr := dr.trans d24
          clear d24
          obtain ⟨r25, w25, e25, d25, h25, b25⟩ := run_quo (P := Try.prog) 22 (x := r24) (y := r2) b24 b2 w24
          have H25 := Lib.hid h25
          clear h25
          replace dr := dr.trans d25
          clear d25
          go_wp2_with fail
          go_ret2
          refine ⟨r25, r2, rfl, ?_, b25, b2, dr⟩
          unfold singA
          rw [← H1.out, ← H2.out, ← H3.out, lt_is b3 b1, c1, if_neg (by decide)]
          unfold sing2A
          rw [← af_zero, eq_is b1 (by omega), c2, if_neg (by decide)]
          rw [lt_is b2 b3, c3, if_neg (by decide), ← H4.out]
          rw [eq_is b4 (by omega), c4, if_pos rfl]
          simp only [← H24.out]
          simp only [← H25.out]
          exact ⟨trivial, trivial⟩
      · obtain ⟨r26, w26, e26, d26, h26, b26⟩ := run_quo (P := Try.prog) 22 (x := r1) (y := r3) b1 b3 w
        have H26 := Lib.hid h26
        clear h26
        replace dr := dr.trans d26
        clear d26
        obtain ⟨r27, w27, e27, d27, h27, b27⟩ := run_add (P := Try.prog) 22 (x := 4607182418800017408) (y := r26) (by omega) b26 w26
        have H27 := Lib.hid h27
        clear h27
        replace dr := dr.trans d27
        clear d27
        obtain ⟨r28, w28, e28, d28, h28, b28⟩ := run_sub (P := Try.prog) 22 (x := r3) (y := r1) b3 b1 w27
        have H28 := Lib.hid h28
        clear h28
        replace dr := dr.trans d28
        clear d28
        obtain ⟨r29, w29, e29, d29, h29, b29⟩ := run_quo (P := Try.prog) 22 (x := r28) (y := r3) b28 b3 w28
        have H29 := Lib.hid h29
        clear h29
        replace dr := dr.trans d29
        clear d29
        obtain ⟨r30, w30, e30, d30, h30, b30⟩ := run_quo (P := Try.prog) 22 (x := r2) (y := r3) b2 b3 w29
        have H30 := Lib.hid h30
        clear h30
        replace dr := dr.trans d30
        clear d30
        obtain ⟨r31, w31, e31, d31, h31, b31⟩ := run_mul (P := Try.prog) 22 (x := r30) (y := r30) b30 b30 w30
        have H31 := Lib.hid h31
        clear h31
        replace dr := dr.trans d31
        clear d31
        obtain ⟨r32, w32, e32, d32, h32, b32⟩ := run_mul (P := Try.prog) 22 (x := r27) (y := r27) b27 b27 w31
        have H32 := Lib.hid h32
        clear h32
        replace dr := dr.trans d32
        clear d32
        obtain ⟨r33, w33, e33, d33, h33, b33⟩ := run_mul (P := Try.prog) 22 (x := r29) (y := r29) b29 b29 w32
        have H33 := Lib.hid h33
        clear h33
        replace dr := dr.trans d33
        clear d33
        obtain ⟨r34, w34, e34, d34, h34, b34⟩ := run_add (P := Try.prog) 22 (x := r32) (y := r31) b32 b31 w33
        have H34 := Lib.hid h34
        clear h34
        replace dr := dr.trans d34
        clear d34
        go_wp2_with fail
        with_reducible refine (sqrt_any b34 _).mono ?_
        rintro e w35 ⟨r35, rfl, h35, b35, d35⟩
        have H35 := Lib.hid h35
        clear h35
        replace dr := dr.trans d35
        clear d35
        obtain ⟨r36, w36, e36, d36, h36, b36⟩ := run_add (P := Try.prog) 22 (x := r33) (y := r31) b33 b31 w35
        have H36 := Lib.hid h36
        clear h36
        replace dr := dr.trans d36
        clear d36
        go_wp2_with fail
        with_reducible refine (sqrt_any b36 _).mono ?_
        rintro e w37 ⟨r37, rfl, h37, b37, d37⟩
        have H37 := Lib.hid h37
        clear h37
        replace dr := dr.trans d37
        clear d37
        obtain ⟨r38, w38, e38, d38, h38, b38⟩ := run_add (P := Try.prog) 22 (x := r35) (y := r37) b35 b37 w37
        have H38 := Lib.hid h38
        clear h38
        replace dr := dr.trans d38
        clear d38
        obtain ⟨r39, w39, e39, d39, h39, b39⟩ := run_quo (P := Try.prog) 22 (x := 4611686018427387904) (y := r38) (by omega) b38 w38
        have H39 := Lib.hid h39
        clear h39
        replace dr := dr.trans d39
        clear d39
        obtain ⟨r40, w40, e40, d40, h40, b40⟩ := run_mul (P := Try.prog) 22 (x := r1) (y := r39) b1 b39 w39
        have H40 := Lib.hid h40
        clear h40
        replace dr := dr.trans d40
        clear d40
        obtain ⟨r41, w41, e41, d41, h41, b41⟩ := run_quo (P := Try.prog) 22 (x := r3) (y := r39) b3 b39 w40
        have H41 := Lib.hid h41
        clear h41
        replace dr := dr.trans d41
        clear d41
        go_wp2_with fail
        go_ret2
        refine ⟨r40, r41, rfl, ?_, b40, b41, dr⟩
        unfold singA
        rw [← H1.out, ← H2.out, ← H3.out, lt_is b3 b1, c1, if_neg (by decide)]
        unfold sing2A
        rw [← af_zero, eq_is b1 (by omega), c2, if_neg (by decide)]
        rw [lt_is b2 b3, c3, if_pos rfl]
        simp only [sgA, ← af_one, ← af_two]
        simp only [← H26.out]
        simp only [← H27.out]
        simp only [← H28.out]
        simp only [← H29.out]
        simp only [← H30.out]
        simp only [← H31.out]
        simp only [← H32.out]
        simp only [← H33.out]
        simp only [← H34.out]
        simp only [← H35.out]
        simp only [← H36.out]
        simp only [← H37.out]
        simp only [← H38.out]
        simp only [← H39.out]
        simp only [← H40.out]
        simp only [← H41.out]
        exact ⟨trivial, trivial⟩
    · cases c3 : (FloatKind.f64.format.order r3 0 == some .eq)
      · cases c4 : (FloatKind.f64.format.order r2 r3 == some .gt)
        · obtain ⟨r42, w42, e42, d42, h42, b42⟩ := run_quo (P := Try.prog) 22 (x := r2) (y := r3) b2 b3 w
          have H42 := Lib.hid h42
          clear h42
          replace dr := dr.trans d42
          clear d42
          obtain ⟨r43, w43, e43, d43, h43, b43⟩ := run_mul (P := Try.prog) 22 (x := r42) (y := r42) b42 b42 w42
          have H43 := Lib.hid h43
          clear h43
          replace dr := dr.trans d43
          clear d43
          obtain ⟨r44, w44, e44, d44, h44, b44⟩ := run_add (P := Try.prog) 22 (x := 4607182418800017408) (y := r43) (by omega) b43 w43
          have H44 := Lib.hid h44
          clear h44
          replace dr := dr.trans d44
          clear d44
          go_wp2_with fail
          with_reducible refine (sqrt_any b44 _).mono ?_
          rintro e w45 ⟨r45, rfl, h45, b45, d45⟩
          have H45 := Lib.hid h45
          clear h45
          replace dr := dr.trans d45
          clear d45
          obtain ⟨r46, w46, e46, d46, h46, b46⟩ := run_mul (P := Try.prog) 22 (x := r3) (y := r45) b3 b45 w45
          have H46 := Lib.hid h46
          clear h46
          replace dr := dr.trans d46
          clear d46
          go_wp2_with fail
          go_ret2
          refine ⟨_, r46, rfl, ?_, (by omega), b46, dr⟩
          unfold singA
          rw [← H1.out, ← H2.out, ← H3.out, lt_is b3 b1, c1, if_neg (by decide)]
          unfold sing2A
          rw [← af_zero, eq_is b1 (by omega), c2, if_pos rfl]
          rw [eq_is b3 (by omega), c3, if_neg (by decide)]
          rw [gt_is b2 b3, c4, if_neg (by decide)]
          unfold hyp1A rootA
          simp only [← af_one]
          simp only [← H42.out]
          simp only [← H43.out]
          simp only [← H44.out]
          simp only [← H45.out]
          simp only [← H46.out]
          exact ⟨trivial, trivial⟩
        · obtain ⟨r47, w47, e47, d47, h47, b47⟩ := run_quo (P := Try.prog) 22 (x := r3) (y := r2) b3 b2 w
          have H47 := Lib.hid h47
          clear h47
          replace dr := dr.trans d47
          clear d47
          obtain ⟨r48, w48, e48, d48, h48, b48⟩ := run_mul (P := Try.prog) 22 (x := r47) (y := r47) b47 b47 w47
          have H48 := Lib.hid h48
          clear h48
          replace dr := dr.trans d48
          clear d48
          obtain ⟨r49, w49, e49, d49, h49, b49⟩ := run_add (P := Try.prog) 22 (x := 4607182418800017408) (y := r48) (by omega) b48 w48
          have H49 := Lib.hid h49
          clear h49
          replace dr := dr.trans d49
          clear d49
          go_wp2_with fail
          with_reducible refine (sqrt_any b49 _).mono ?_
          rintro e w50 ⟨r50, rfl, h50, b50, d50⟩
          have H50 := Lib.hid h50
          clear h50
          replace dr := dr.trans d50
          clear d50
          obtain ⟨r51, w51, e51, d51, h51, b51⟩ := run_mul (P := Try.prog) 22 (x := r2) (y := r50) b2 b50 w50
          have H51 := Lib.hid h51
          clear h51
          replace dr := dr.trans d51
          clear d51
          go_wp2_with fail
          go_ret2
          refine ⟨_, r51, rfl, ?_, (by omega), b51, dr⟩
          unfold singA
          rw [← H1.out, ← H2.out, ← H3.out, lt_is b3 b1, c1, if_neg (by decide)]
          unfold sing2A
          rw [← af_zero, eq_is b1 (by omega), c2, if_pos rfl]
          rw [eq_is b3 (by omega), c3, if_neg (by decide)]
          rw [gt_is b2 b3, c4, if_pos rfl]
          unfold hyp1A rootA
          simp only [← af_one]
          simp only [← H47.out]
          simp only [← H48.out]
          simp only [← H49.out]
          simp only [← H50.out]
          simp only [← H51.out]
          exact ⟨trivial, trivial⟩
      · go_wp2_with fail
        go_ret2
        refine ⟨_, r2, rfl, ?_, (by omega), b2, dr⟩
        unfold singA
        rw [← H1.out, ← H2.out, ← H3.out, lt_is b3 b1, c1, if_neg (by decide)]
        unfold sing2A
        rw [← af_zero, eq_is b1 (by omega), c2, if_pos rfl]
        rw [eq_is b3 (by omega), c3, if_pos rfl]
        exact ⟨rfl, rfl⟩
  · cases c2 : (FloatKind.f64.format.order r3 0 == some .eq)
    · cases c3 : (FloatKind.f64.format.order r2 r1 == some .lt)
      · obtain ⟨r52, w52, e52, d52, h52, b52⟩ := run_quo (P := Try.prog) 22 (x := r1) (y := r2) b1 b2 w
        have H52 := Lib.hid h52
        clear h52
        replace dr := dr.trans d52
        clear d52
        cases c4 : (FloatKind.f64.format.order r52 0 == some .eq)
        · obtain ⟨r53, w53, e53, d53, h53, b53⟩ := run_quo (P := Try.prog) 22 (x := r3) (y := r1) b3 b1 w52
          have H53 := Lib.hid h53
          clear h53
          replace dr := dr.trans d53
          clear d53
          obtain ⟨r54, w54, e54, d54, h54, b54⟩ := run_add (P := Try.prog) 22 (x := 4607182418800017408) (y := r53) (by omega) b53 w53
          have H54 := Lib.hid h54
          clear h54
          replace dr := dr.trans d54
          clear d54
          obtain ⟨r55, w55, e55, d55, h55, b55⟩ := run_sub (P := Try.prog) 22 (x := r1) (y := r3) b1 b3 w54
          have H55 := Lib.hid h55
          clear h55
          replace dr := dr.trans d55
          clear d55
          obtain ⟨r56, w56, e56, d56, h56, b56⟩ := run_quo (P := Try.prog) 22 (x := r55) (y := r1) b55 b1 w55
          have H56 := Lib.hid h56
          clear h56
          replace dr := dr.trans d56
          clear d56
          obtain ⟨r57, w57, e57, d57, h57, b57⟩ := run_mul (P := Try.prog) 22 (x := r54) (y := r52) b54 b52 w56
          have H57 := Lib.hid h57
          clear h57
          replace dr := dr.trans d57
          clear d57
          obtain ⟨r58, w58, e58, d58, h58, b58⟩ := run_mul (P := Try.prog) 22 (x := r56) (y := r52) b56 b52 w57
          have H58 := Lib.hid h58
          clear h58
          replace dr := dr.trans d58
          clear d58
          obtain ⟨r59, w59, e59, d59, h59, b59⟩ := run_mul (P := Try.prog) 22 (x := r57) (y := r57) b57 b57 w58
          have H59 := Lib.hid h59
          clear h59
          replace dr := dr.trans d59
          clear d59
          obtain ⟨r60, w60, e60, d60, h60, b60⟩ := run_mul (P := Try.prog) 22 (x := r58) (y := r58) b58 b58 w59
          have H60 := Lib.hid h60
          clear h60
          replace dr := dr.trans d60
          clear d60
          obtain ⟨r61, w61, e61, d61, h61, b61⟩ := run_add (P := Try.prog) 22 (x := 4607182418800017408) (y := r59) (by omega) b59 w60
          have H61 := Lib.hid h61
          clear h61
          replace dr := dr.trans d61
          clear d61
          go_wp2_with fail
          with_reducible refine (sqrt_any b61 _).mono ?_
          rintro e w62 ⟨r62, rfl, h62, b62, d62⟩
          have H62 := Lib.hid h62
          clear h62
          replace dr := dr.trans d62
          clear d62
          obtain ⟨r63, w63, e63, d63, h63, b63⟩ := run_add (P := Try.prog) 22 (x := 4607182418800017408) (y := r60) (by omega) b60 w62
          have H63 := Lib.hid h63
          clear h63
          replace dr := dr.trans d63
          clear d63
          go_wp2_with fail
          with_reducible refine (sqrt_any b63 _).mono ?_
          rintro e w64 ⟨r64, rfl, h64, b64, d64⟩
          have H64 := Lib.hid h64
          clear h64
          replace dr := dr.trans d64
          clear d64
          obtain ⟨r65, w65, e65, d65, h65, b65⟩ := run_add (P := Try.prog) 22 (x := r62) (y := r64) b62 b64 w64
          have H65 := Lib.hid h65
          clear h65
          replace dr := dr.trans d65
          clear d65
          obtain ⟨r66, w66, e66, d66, h66, b66⟩ := run_quo (P := Try.prog) 22 (x := 4607182418800017408) (y := r65) (by omega) b65 w65
          have H66 := Lib.hid h66
          clear h66
          replace dr := dr.trans d66
          clear d66
          obtain ⟨r67, w67, e67, d67, h67, b67⟩ := run_mul (P := Try.prog) 22 (x := r3) (y := r66) b3 b66 w66
          have H67 := Lib.hid h67
          clear h67
          replace dr := dr.trans d67
          clear d67
          obtain ⟨r68, w68, e68, d68, h68, b68⟩ := run_mul (P := Try.prog) 22 (x := r67) (y := r52) b67 b52 w67
          have H68 := Lib.hid h68
          clear h68
          replace dr := dr.trans d68
          clear d68
          obtain ⟨r69, w69, e69, d69, h69, b69⟩ := run_add (P := Try.prog) 22 (x := r68) (y := r68) b68 b68 w68
          have H69 := Lib.hid h69
          clear h69
          replace dr := dr.trans d69
          clear d69
          obtain ⟨r70, w70, e70, d70, h70, b70⟩ := run_add (P := Try.prog) 22 (x := r66) (y := r66) b66 b66 w69
          have H70 := Lib.hid h70
          clear h70
          replace dr := dr.trans d70
          clear d70
          obtain ⟨r71, w71, e71, d71, h71, b71⟩ := run_quo (P := Try.prog) 22 (x := r2) (y := r70) b2 b70 w70
          have H71 := Lib.hid h71
          clear h71
          replace dr := dr.trans d71
          clear d71
          go_wp2_with fail
          go_ret2
          refine ⟨r69, r71, rfl, ?_, b69, b71, dr⟩
          unfold singA
          rw [← H1.out, ← H2.out, ← H3.out, lt_is b3 b1, c1, if_pos rfl]
          unfold sing2A
          rw [← af_zero, eq_is b3 (by omega), c2, if_neg (by decide)]
          rw [lt_is b2 b1, c3, if_neg (by decide), ← H52.out]
          rw [eq_is b52 (by omega), c4, if_neg (by decide)]
          simp only [sbA, ← af_one]
          simp only [← H53.out]
          simp only [← H54.out]
          simp only [← H55.out]
          simp only [← H56.out]
          simp only [← H57.out]
          simp only [← H58.out]
          simp only [← H59.out]
          simp only [← H60.out]
          simp only [← H61.out]
          simp only [← H62.out]
          simp only [← H63.out]
          simp only [← H64.out]
          simp only [← H65.out]
          simp only [← H66.out]
          simp only [← H67.out]
          simp only [← H68.out]
          simp only [← H69.out]
          simp only [← H70.out]
          simp only [← H71.out]
          exact ⟨trivial, trivial⟩
        · obtain ⟨r72, w72, e72, d72, h72, b72⟩ := run_mul (P := Try.prog) 22 (x := r3) (y := r1) b3 b1 w52
          have H72 := Lib.hid h72
          clear h72
          replace dr := dr.trans d72
          clear d72
          obtain ⟨r73, w73, e73, d73, h73, b73⟩ := run_quo (P := Try.prog) 22 (x := r72) (y := r2) b72 b2 w72
          have H73 := Lib.hid h73
          clear h73
          replace dr := dr.trans d73
          clear d73
          go_wp2_with fail
          go_ret2
          refine ⟨r73, r2, rfl, ?_, b73, b2, dr⟩
          unfold singA
          rw [← H1.out, ← H2.out, ← H3.out, lt_is b3 b1, c1, if_pos rfl]
          unfold sing2A
          rw [← af_zero, eq_is b3 (by omega), c2, if_neg (by decide)]
          rw [lt_is b2 b1, c3, if_neg (by decide), ← H52.out]
          rw [eq_is b52 (by omega), c4, if_pos rfl]
          simp only [← H72.out]
          simp only [← H73.out]
          exact ⟨trivial, trivial⟩
      · obtain ⟨r74, w74, e74, d74, h74, b74⟩ := run_quo (P := Try.prog) 22 (x := r3) (y := r1) b3 b1 w
        have H74 := Lib.hid h74
        clear h74
        replace dr := dr.trans d74
        clear d74
        obtain ⟨r75, w75, e75, d75, h75, b75⟩ := run_add (P := Try.prog) 22 (x := 4607182418800017408) (y := r74) (by omega) b74 w74
        have H75 := Lib.hid h75
        clear h75
        replace dr := dr.trans d75
        clear d75
        obtain ⟨r76, w76, e76, d76, h76, b76⟩ := run_sub (P := Try.prog) 22 (x := r1) (y := r3) b1 b3 w75
        have H76 := Lib.hid h76
        clear h76
        replace dr := dr.trans d76
        clear d76
        obtain ⟨r77, w77, e77, d77, h77, b77⟩ := run_quo (P := Try.prog) 22 (x := r76) (y := r1) b76 b1 w76
        have H77 := Lib.hid h77
        clear h77
        replace dr := dr.trans d77
        clear d77
        obtain ⟨r78, w78, e78, d78, h78, b78⟩ := run_quo (P := Try.prog) 22 (x := r2) (y := r1) b2 b1 w77
        have H78 := Lib.hid h78
        clear h78
        replace dr := dr.trans d78
        clear d78
        obtain ⟨r79, w79, e79, d79, h79, b79⟩ := run_mul (P := Try.prog) 22 (x := r78) (y := r78) b78 b78 w78
        have H79 := Lib.hid h79
        clear h79
        replace dr := dr.trans d79
        clear d79
        obtain ⟨r80, w80, e80, d80, h80, b80⟩ := run_mul (P := Try.prog) 22 (x := r75) (y := r75) b75 b75 w79
        have H80 := Lib.hid h80
        clear h80
        replace dr := dr.trans d80
        clear d80
        obtain ⟨r81, w81, e81, d81, h81, b81⟩ := run_mul (P := Try.prog) 22 (x := r77) (y := r77) b77 b77 w80
        have H81 := Lib.hid h81
        clear h81
        replace dr := dr.trans d81
        clear d81
        obtain ⟨r82, w82, e82, d82, h82, b82⟩ := run_add (P := Try.prog) 22 (x := r80) (y := r79) b80 b79 w81
        have H82 := Lib.hid h82
        clear h82
        replace dr := dr.trans d82
        clear d82
        go_wp2_with fail
        with_reducible refine (sqrt_any b82 _).mono ?_
        rintro e w83 ⟨r83, rfl, h83, b83, d83⟩
        have H83 := Lib.hid h83
        clear h83
        replace dr := dr.trans d83
        clear d83
        obtain ⟨r84, w84, e84, d84, h84, b84⟩ := run_add (P := Try.prog) 22 (x := r81) (y := r79) b81 b79 w83
        have H84 := Lib.hid h84
        clear h84
        replace dr := dr.trans d84
        clear d84
        go_wp2_with fail
        with_reducible refine (sqrt_any b84 _).mono ?_
        rintro e w85 ⟨r85, rfl, h85, b85, d85⟩
        have H85 := Lib.hid h85
        clear h85
        replace dr := dr.trans d85
        clear d85
        obtain ⟨r86, w86, e86, d86, h86, b86⟩ := run_add (P := Try.prog) 22 (x := r83) (y := r85) b83 b85 w85
        have H86 := Lib.hid h86
        clear h86
        replace dr := dr.trans d86
        clear d86
        obtain ⟨r87, w87, e87, d87, h87, b87⟩ := run_quo (P := Try.prog) 22 (x := 4611686018427387904) (y := r86) (by omega) b86 w86
        have H87 := Lib.hid h87
        clear h87
        replace dr := dr.trans d87
        clear d87
        obtain ⟨r88, w88, e88, d88, h88, b88⟩ := run_mul (P := Try.prog) 22 (x := r3) (y := r87) b3 b87 w87
        have H88 := Lib.hid h88
        clear h88
        replace dr := dr.trans d88
        clear d88
        obtain ⟨r89, w89, e89, d89, h89, b89⟩ := run_quo (P := Try.prog) 22 (x := r1) (y := r87) b1 b87 w88
        have H89 := Lib.hid h89
        clear h89
        replace dr := dr.trans d89
        clear d89
        go_wp2_with fail
        go_ret2
        refine ⟨r88, r89, rfl, ?_, b88, b89, dr⟩
        unfold singA
        rw [← H1.out, ← H2.out, ← H3.out, lt_is b3 b1, c1, if_pos rfl]
        unfold sing2A
        rw [← af_zero, eq_is b3 (by omega), c2, if_neg (by decide)]
        rw [lt_is b2 b1, c3, if_pos rfl]
        simp only [sgA, ← af_one, ← af_two]
        simp only [← H74.out]
        simp only [← H75.out]
        simp only [← H76.out]
        simp only [← H77.out]
        simp only [← H78.out]
        simp only [← H79.out]
        simp only [← H80.out]
        simp only [← H81.out]
        simp only [← H82.out]
        simp only [← H83.out]
        simp only [← H84.out]
        simp only [← H85.out]
        simp only [← H86.out]
        simp only [← H87.out]
        simp only [← H88.out]
        simp only [← H89.out]
        exact ⟨trivial, trivial⟩
    · cases c3 : (FloatKind.f64.format.order r1 0 == some .eq)
      · cases c4 : (FloatKind.f64.format.order r2 r1 == some .gt)
        · obtain ⟨r90, w90, e90, d90, h90, b90⟩ := run_quo (P := Try.prog) 22 (x := r2) (y := r1) b2 b1 w
          have H90 := Lib.hid h90
          clear h90
          replace dr := dr.trans d90
          clear d90
          obtain ⟨r91, w91, e91, d91, h91, b91⟩ := run_mul (P := Try.prog) 22 (x := r90) (y := r90) b90 b90 w90
          have H91 := Lib.hid h91
          clear h91
          replace dr := dr.trans d91
          clear d91
          obtain ⟨r92, w92, e92, d92, h92, b92⟩ := run_add (P := Try.prog) 22 (x := 4607182418800017408) (y := r91) (by omega) b91 w91
          have H92 := Lib.hid h92
          clear h92
          replace dr := dr.trans d92
          clear d92
          go_wp2_with fail
          with_reducible refine (sqrt_any b92 _).mono ?_
          rintro e w93 ⟨r93, rfl, h93, b93, d93⟩
          have H93 := Lib.hid h93
          clear h93
          replace dr := dr.trans d93
          clear d93
          obtain ⟨r94, w94, e94, d94, h94, b94⟩ := run_mul (P := Try.prog) 22 (x := r1) (y := r93) b1 b93 w93
          have H94 := Lib.hid h94
          clear h94
          replace dr := dr.trans d94
          clear d94
          go_wp2_with fail
          go_ret2
          refine ⟨_, r94, rfl, ?_, (by omega), b94, dr⟩
          unfold singA
          rw [← H1.out, ← H2.out, ← H3.out, lt_is b3 b1, c1, if_pos rfl]
          unfold sing2A
          rw [← af_zero, eq_is b3 (by omega), c2, if_pos rfl]
          rw [eq_is b1 (by omega), c3, if_neg (by decide)]
          rw [gt_is b2 b1, c4, if_neg (by decide)]
          unfold hyp1A rootA
          simp only [← af_one]
          simp only [← H90.out]
          simp only [← H91.out]
          simp only [← H92.out]
          simp only [← H93.out]
          simp only [← H94.out]
          exact ⟨trivial, trivial⟩
        · obtain ⟨r95, w95, e95, d95, h95, b95⟩ := run_quo (P := Try.prog) 22 (x := r1) (y := r2) b1 b2 w
          have H95 := Lib.hid h95
          clear h95
          replace dr := dr.trans d95
          clear d95
          obtain ⟨r96, w96, e96, d96, h96, b96⟩ := run_mul (P := Try.prog) 22 (x := r95) (y := r95) b95 b95 w95
          have H96 := Lib.hid h96
          clear h96
          replace dr := dr.trans d96
          clear d96
          obtain ⟨r97, w97, e97, d97, h97, b97⟩ := run_add (P := Try.prog) 22 (x := 4607182418800017408) (y := r96) (by omega) b96 w96
          have H97 := Lib.hid h97
          clear h97
          replace dr := dr.trans d97
          clear d97
          go_wp2_with fail
          with_reducible refine (sqrt_any b97 _).mono ?_
          rintro e w98 ⟨r98, rfl, h98, b98, d98⟩
          have H98 := Lib.hid h98
          clear h98
          replace dr := dr.trans d98
          clear d98
          obtain ⟨r99, w99, e99, d99, h99, b99⟩ := run_mul (P := Try.prog) 22 (x := r2) (y := r98) b2 b98 w98
          have H99 := Lib.hid h99
          clear h99
          replace dr := dr.trans d99
          clear d99
          go_wp2_with fail
          go_ret2
          refine ⟨_, r99, rfl, ?_, (by omega), b99, dr⟩
          unfold singA
          rw [← H1.out, ← H2.out, ← H3.out, lt_is b3 b1, c1, if_pos rfl]
          unfold sing2A
          rw [← af_zero, eq_is b3 (by omega), c2, if_pos rfl]
          rw [eq_is b1 (by omega), c3, if_neg (by decide)]
          rw [gt_is b2 b1, c4, if_pos rfl]
          unfold hyp1A rootA
          simp only [← af_one]
          simp only [← H95.out]
          simp only [← H96.out]
          simp only [← H97.out]
          simp only [← H98.out]
          simp only [← H99.out]
          exact ⟨trivial, trivial⟩
      · go_wp2_with fail
        go_ret2
        refine ⟨_, r2, rfl, ?_, (by omega), b2, dr⟩
        unfold singA
        rw [← H1.out, ← H2.out, ← H3.out, lt_is b3 b1, c1, if_pos rfl]
        unfold sing2A
        rw [← af_zero, eq_is b3 (by omega), c2, if_pos rfl]
        rw [eq_is b1 (by omega), c3, if_pos rfl]
        exact ⟨rfl, rfl⟩
end Go.Proofs.Ytmfikppnkjhmjaa
