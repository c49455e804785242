/-
  Layer 6, walks: a symmetric two by two's eigenvalues, and the first one's vector, by the reference. (Written by wip/tools/gen_afe.py.)
-/
import Derived.Test.YtmfikppnkjhmjaaAfD
import Derived.Deep.DeepCutAuto
namespace Go.Proofs.Ytmfikppnkjhmjaa
open Go Go.RowKit
set_option linter.unusedVariables false
set_option linter.unusedSimpArgs false

/-- four floats are handed back -/
def FA4 (p : Option Nat × Option Nat × Option Nat × Option Nat) (w : World) (e : Ending) (w' : World) : Prop := ∃ a b c d, e = .returned (.tuple #[.float .f64 a, .float .f64 b, .float .f64 c, .float .f64 d]) ∧ (af a = p.1 ∧ af b = p.2.1 ∧ af c = p.2.2.1 ∧ af d = p.2.2.2) ∧ (a ≤ 18446744073709551615 ∧ b ≤ 18446744073709551615 ∧ c ≤ 18446744073709551615 ∧ d ≤ 18446744073709551615) ∧ Dr w w'
def rtA (ad ab : Option Nat) : Option Nat := if gtA ad ab then hyp1A ad ab else if ltA ad ab then hyp1A ab ad else aop .mul ab (asq (some 4611686018427387904))
def yA (x hi lo b : Option Nat) : Option Nat := aop .sub (aop .mul (aop .quo hi x) lo) (aop .mul (aop .quo b x) b)
/-- the eigenvalues, and whether the first one is below 0 -/
def xyA (sm rt hi lo b : Option Nat) : Option Nat × Option Nat × Int :=
  if ltA sm (some 0) then (aop .mul (some 4602678819172646912) (aop .sub sm rt), yA (aop .mul (some 4602678819172646912) (aop .sub sm rt)) hi lo b, -1)
  else if gtA sm (some 0) then (aop .mul (some 4602678819172646912) (aop .add sm rt), yA (aop .mul (some 4602678819172646912) (aop .add sm rt)) hi lo b, 1)
  else (aop .mul (some 4602678819172646912) rt, aop .mul (some 13826050856027422720) rt, 1)
def csA (df rt : Option Nat) : Option Nat × Int := if geA df (some 0) then (aop .add df rt, 1) else (aop .sub df rt, -1)
def snA (cs ab tb : Option Nat) : Option Nat × Option Nat :=
  if gtA (absA cs) ab then (aop .mul (aop .quo (negA tb) cs) (aop .quo (some 4607182418800017408) (rootA (aop .quo (negA tb) cs))), aop .quo (some 4607182418800017408) (rootA (aop .quo (negA tb) cs)))
  else if eqA ab (some 0) then (some 4607182418800017408, some 0)
  else (aop .quo (some 4607182418800017408) (rootA (aop .quo (negA cs) tb)), aop .mul (aop .quo (negA cs) tb) (aop .quo (some 4607182418800017408) (rootA (aop .quo (negA cs) tb))))
def hiA (a c : Option Nat) : Option Nat × Option Nat := if gtA (absA a) (absA c) then (a, c) else (c, a)
def eig2A (sm df tb hi lo b : Option Nat) : Option Nat × Option Nat × Option Nat × Option Nat :=
  let rt := rtA (absA df) (absA tb)
  let x := xyA sm rt hi lo b
  let c := csA df rt
  let v := snA c.1 (absA tb) tb
  if x.2.2 = c.2 then (x.1, x.2.1, negA v.2, v.1) else (x.1, x.2.1, v.1, v.2)
def eigA (a b c : Option Nat) : Option Nat × Option Nat × Option Nat × Option Nat := eig2A (aop .add a c) (aop .sub a c) (aop .add b b) (hiA a c).1 (hiA a c).2 b

set_option maxRecDepth 100000 in
set_option maxHeartbeats 8000000 in
theorem rEigen_any {x y z : Nat} (hx : x ≤ 18446744073709551615) (hy : y ≤ 18446744073709551615) (hz : z ≤ 18446744073709551615) (w : World) :
    Calls Try.prog 20 #[.float .f64 x, .float .f64 y, .float .f64 z] w (FA4 (eigA (af x) (af y) (af z)) w) := by
  have dr := Dr.refl w
  have b0 : 0 ≤ 18446744073709551615 := by omega
  have bI : 4607182418800017408 ≤ 18446744073709551615 := by omega
  obtain ⟨r1, w1, e1, d1, h1, b1⟩ := run_add (P := Try.prog) 22 (x := x) (y := z) hx hz w
  have H1 := Lib.hid h1
  clear h1
  replace dr := dr.trans d1
  clear d1
  obtain ⟨r2, w2, e2, d2, h2, b2⟩ := run_sub (P := Try.prog) 22 (x := x) (y := z) hx hz w1
  have H2 := Lib.hid h2
  clear h2
  replace dr := dr.trans d2
  clear d2
  go_enter Try.func20, Try.ntmps20
  go_wp2_with fail
  with_reducible refine (rAbs_any b2 _).mono ?_
  rintro e w3 ⟨r3, rfl, h3, b3, rfl⟩
  have H3 := Lib.hid h3
  clear h3
  obtain ⟨r4, w4, e4, d4, h4, b4⟩ := run_add (P := Try.prog) 22 (x := y) (y := y) hy hy w2
  have H4 := Lib.hid h4
  clear h4
  replace dr := dr.trans d4
  clear d4
  go_wp2_with fail
  with_reducible refine (rAbs_any b4 _).mono ?_
  rintro e w5 ⟨r5, rfl, h5, b5, rfl⟩
  have H5 := Lib.hid h5
  clear h5
  go_wp2_with fail
  with_reducible refine (rAbs_any hx _).mono ?_
  rintro e w6 ⟨r6, rfl, h6, b6, rfl⟩
  have H6 := Lib.hid h6
  clear h6
  go_wp2_with fail
  with_reducible refine (rAbs_any hz _).mono ?_
  rintro e w7 ⟨r7, rfl, h7, b7, rfl⟩
  have H7 := Lib.hid h7
  clear h7
  go_upto_if 54 with fail
  go_cut [15, 16] (fun s15 s16 wx => ∃ p q : Nat, s15 = .float .f64 p ∧ s16 = .float .f64 q ∧ Hid (af p = (hiA (af x) (af z)).1 ∧ af q = (hiA (af x) (af z)).2) ∧ p ≤ 18446744073709551615 ∧ q ≤ 18446744073709551615 ∧ wx = w4)
  case first =>
    cases c1 : (FloatKind.f64.format.order r6 r7 == some .gt)
    · go_wp2_with fail
      go_meet
      refine ⟨z, x, rfl, rfl, ?_, hz, hx, rfl⟩
      refine Lib.hid ?_
      unfold hiA
      rw [← H6.out, ← H7.out, gt_is b6 b7, c1, if_neg (by decide)]
      exact ⟨rfl, rfl⟩
    · go_wp2_with fail
      go_meet
      refine ⟨x, z, rfl, rfl, ?_, hx, hz, rfl⟩
      refine Lib.hid ?_
      unfold hiA
      rw [← H6.out, ← H7.out, gt_is b6 b7, c1, if_pos rfl]
      exact ⟨rfl, rfl⟩
  case rest =>
  obtain ⟨p, q, rfl, rfl, HP, bp, bq, rfl⟩ := hcut
  go_upto_if 59 with fail
  go_cut [17] (fun s17 wx => ∃ t : Nat, s17 = .float .f64 t ∧ Hid (af t = rtA (af r3) (af r5)) ∧ t ≤ 18446744073709551615 ∧ Dr w wx)
  case first =>
    cases d1 : (FloatKind.f64.format.order r3 r5 == some .gt)
    · cases d2 : (FloatKind.f64.format.order r3 r5 == some .lt)
      · go_wp2_with fail
        with_reducible refine (sqrt_any (by omega) _).mono ?_
        rintro e w18 ⟨r18, rfl, h18, b18, d18⟩
        have H18 := Lib.hid h18
        clear h18
        replace dr := dr.trans d18
        clear d18
        obtain ⟨r19, w19, e19, d19, h19, b19⟩ := run_mul (P := Try.prog) 22 (x := r5) (y := r18) b5 b18 w18
        have H19 := Lib.hid h19
        clear h19
        replace dr := dr.trans d19
        clear d19
        go_wp2_with fail
        go_meet
        refine ⟨_, rfl, Lib.hid ?_, b19, dr⟩
        unfold rtA
        rw [gt_is b3 b5, d1, if_neg (by decide)]
        rw [lt_is b3 b5, d2, if_neg (by decide)]
        rw [← af_two, ← H18.out, ← H19.out]
      · obtain ⟨r20, w20, e20, d20, h20, b20⟩ := run_quo (P := Try.prog) 22 (x := r3) (y := r5) b3 b5 wc
        have H20 := Lib.hid h20
        clear h20
        replace dr := dr.trans d20
        clear d20
        obtain ⟨r21, w21, e21, d21, h21, b21⟩ := run_mul (P := Try.prog) 22 (x := r20) (y := r20) b20 b20 w20
        have H21 := Lib.hid h21
        clear h21
        replace dr := dr.trans d21
        clear d21
        obtain ⟨r22, w22, e22, d22, h22, b22⟩ := run_add (P := Try.prog) 22 (x := 4607182418800017408) (y := r21) bI b21 w21
        have H22 := Lib.hid h22
        clear h22
        replace dr := dr.trans d22
        clear d22
        go_wp2_with fail
        with_reducible refine (sqrt_any b22 _).mono ?_
        rintro e w23 ⟨r23, rfl, h23, b23, d23⟩
        have H23 := Lib.hid h23
        clear h23
        replace dr := dr.trans d23
        clear d23
        obtain ⟨r24, w24, e24, d24, h24, b24⟩ := run_mul (P := Try.prog) 22 (x := r5) (y := r23) b5 b23 w23
        have H24 := Lib.hid h24
        clear h24
        replace dr := dr.trans d24
        clear d24
        go_wp2_with fail
        go_meet
        refine ⟨_, rfl, Lib.hid ?_, b24, dr⟩
        unfold rtA
        rw [gt_is b3 b5, d1, if_neg (by decide)]
        rw [lt_is b3 b5, d2, if_pos rfl]
        unfold hyp1A rootA
        simp only [← af_one]
        simp only [← H20.out]
        simp only [← H21.out]
        simp only [← H22.out]
        simp only [← H23.out]
        simp only [← H24.out]
    · obtain ⟨r25, w25, e25, d25, h25, b25⟩ := run_quo (P := Try.prog) 22 (x := r5) (y := r3) b5 b3 wc
      have H25 := Lib.hid h25
      clear h25
      replace dr := dr.trans d25
      clear d25
      obtain ⟨r26, w26, e26, d26, h26, b26⟩ := run_mul (P := Try.prog) 22 (x := r25) (y := r25) b25 b25 w25
      have H26 := Lib.hid h26
      clear h26
      replace dr := dr.trans d26
      clear d26
      obtain ⟨r27, w27, e27, d27, h27, b27⟩ := run_add (P := Try.prog) 22 (x := 4607182418800017408) (y := r26) bI b26 w26
      have H27 := Lib.hid h27
      clear h27
      replace dr := dr.trans d27
      clear d27
      go_wp2_with fail
      with_reducible refine (sqrt_any b27 _).mono ?_
      rintro e w28 ⟨r28, rfl, h28, b28, d28⟩
      have H28 := Lib.hid h28
      clear h28
      replace dr := dr.trans d28
      clear d28
      obtain ⟨r29, w29, e29, d29, h29, b29⟩ := run_mul (P := Try.prog) 22 (x := r3) (y := r28) b3 b28 w28
      have H29 := Lib.hid h29
      clear h29
      replace dr := dr.trans d29
      clear d29
      go_wp2_with fail
      go_meet
      refine ⟨_, rfl, Lib.hid ?_, b29, dr⟩
      unfold rtA
      rw [gt_is b3 b5, d1, if_pos rfl]
      unfold hyp1A rootA
      simp only [← af_one]
      simp only [← H25.out]
      simp only [← H26.out]
      simp only [← H27.out]
      simp only [← H28.out]
      simp only [← H29.out]
  case rest =>
  clear dr
  obtain ⟨t, rfl, HT, bt, dr⟩ := hcut
  go_upto_region 21 with fail
  go_cut [93] (fun s93 wx => s93 = .bool ((FloatKind.f64.format.order r1 0 == some .lt) || (FloatKind.f64.format.order r1 0 == some .gt)) ∧ wx = wc)
  case first =>
    cases f1 : (FloatKind.f64.format.order r1 0 == some .lt) <;> cases f2 : (FloatKind.f64.format.order r1 0 == some .gt) <;> (go_wp2_with fail; go_meet; exact ⟨by simp [f1, f2], rfl⟩)
  case rest =>
  obtain ⟨rfl, rfl⟩ := hcut
  go_upto_if 93 with fail
  go_cut [22, 23, 24] (fun s22 s23 s24 wx => ∃ (x1 y1 : Nat) (n1 : Int), s22 = .float .f64 x1 ∧ s23 = .float .f64 y1 ∧ s24 = .int .i64 n1 ∧ Hid ((af x1, af y1, n1) = xyA (af r1) (af t) (af p) (af q) (af y)) ∧ x1 ≤ 18446744073709551615 ∧ y1 ≤ 18446744073709551615 ∧ Dr w wx)
  case first =>
    cases f1 : (FloatKind.f64.format.order r1 0 == some .lt)
    · cases f2 : (FloatKind.f64.format.order r1 0 == some .gt)
      · try simp only [Bool.true_or, Bool.false_or, Bool.or_false, Bool.or_true]
        obtain ⟨r35, w35, e35, d35, h35, b35⟩ := run_mul (P := Try.prog) 22 (x := 4602678819172646912) (y := t) (by omega) bt wc
        have H35 := Lib.hid h35
        clear h35
        replace dr := dr.trans d35
        clear d35
        obtain ⟨r36, w36, e36, d36, h36, b36⟩ := run_mul (P := Try.prog) 22 (x := 13826050856027422720) (y := t) (by omega) bt w35
        have H36 := Lib.hid h36
        clear h36
        replace dr := dr.trans d36
        clear d36
        go_wp2_with fail
        go_meet
        refine ⟨_, _, 1, rfl, rfl, rfl, Lib.hid ?_, b35, b36, dr⟩
        unfold xyA
        rw [← af_zero, lt_is b1 b0, f1, if_neg (by decide)]
        rw [gt_is b1 b0, f2, if_neg (by decide)]
        simp only [← af_half, ← af_mhalf]
        simp only [← H35.out]
        simp only [← H36.out]
      · try simp only [Bool.true_or, Bool.false_or, Bool.or_false, Bool.or_true]
        obtain ⟨r37, w37, e37, d37, h37, b37⟩ := run_add (P := Try.prog) 22 (x := r1) (y := t) b1 bt wc
        have H37 := Lib.hid h37
        clear h37
        replace dr := dr.trans d37
        clear d37
        obtain ⟨r38, w38, e38, d38, h38, b38⟩ := run_mul (P := Try.prog) 22 (x := 4602678819172646912) (y := r37) (by omega) b37 w37
        have H38 := Lib.hid h38
        clear h38
        replace dr := dr.trans d38
        clear d38
        obtain ⟨r39, w39, e39, d39, h39, b39⟩ := run_quo (P := Try.prog) 22 (x := p) (y := r38) bp b38 w38
        have H39 := Lib.hid h39
        clear h39
        replace dr := dr.trans d39
        clear d39
        obtain ⟨r40, w40, e40, d40, h40, b40⟩ := run_mul (P := Try.prog) 22 (x := r39) (y := q) b39 bq w39
        have H40 := Lib.hid h40
        clear h40
        replace dr := dr.trans d40
        clear d40
        obtain ⟨r41, w41, e41, d41, h41, b41⟩ := run_quo (P := Try.prog) 22 (x := y) (y := r38) hy b38 w40
        have H41 := Lib.hid h41
        clear h41
        replace dr := dr.trans d41
        clear d41
        obtain ⟨r42, w42, e42, d42, h42, b42⟩ := run_mul (P := Try.prog) 22 (x := r41) (y := y) b41 hy w41
        have H42 := Lib.hid h42
        clear h42
        replace dr := dr.trans d42
        clear d42
        obtain ⟨r43, w43, e43, d43, h43, b43⟩ := run_sub (P := Try.prog) 22 (x := r40) (y := r42) b40 b42 w42
        have H43 := Lib.hid h43
        clear h43
        replace dr := dr.trans d43
        clear d43
        go_wp2_with fail
        go_meet
        refine ⟨_, _, 1, rfl, rfl, rfl, Lib.hid ?_, b38, b43, dr⟩
        unfold xyA yA
        rw [← af_zero, lt_is b1 b0, f1, if_neg (by decide)]
        rw [gt_is b1 b0, f2, if_pos rfl]
        simp only [← af_half]
        simp only [← H37.out]
        simp only [← H38.out]
        simp only [← H39.out]
        simp only [← H40.out]
        simp only [← H41.out]
        simp only [← H42.out]
        simp only [← H43.out]
    · try simp only [Bool.true_or, Bool.false_or, Bool.or_false, Bool.or_true]
      obtain ⟨r44, w44, e44, d44, h44, b44⟩ := run_sub (P := Try.prog) 22 (x := r1) (y := t) b1 bt wc
      have H44 := Lib.hid h44
      clear h44
      replace dr := dr.trans d44
      clear d44
      obtain ⟨r45, w45, e45, d45, h45, b45⟩ := run_mul (P := Try.prog) 22 (x := 4602678819172646912) (y := r44) (by omega) b44 w44
      have H45 := Lib.hid h45
      clear h45
      replace dr := dr.trans d45
      clear d45
      obtain ⟨r46, w46, e46, d46, h46, b46⟩ := run_quo (P := Try.prog) 22 (x := p) (y := r45) bp b45 w45
      have H46 := Lib.hid h46
      clear h46
      replace dr := dr.trans d46
      clear d46
      obtain ⟨r47, w47, e47, d47, h47, b47⟩ := run_mul (P := Try.prog) 22 (x := r46) (y := q) b46 bq w46
      have H47 := Lib.hid h47
      clear h47
      replace dr := dr.trans d47
      clear d47
      obtain ⟨r48, w48, e48, d48, h48, b48⟩ := run_quo (P := Try.prog) 22 (x := y) (y := r45) hy b45 w47
      have H48 := Lib.hid h48
      clear h48
      replace dr := dr.trans d48
      clear d48
      obtain ⟨r49, w49, e49, d49, h49, b49⟩ := run_mul (P := Try.prog) 22 (x := r48) (y := y) b48 hy w48
      have H49 := Lib.hid h49
      clear h49
      replace dr := dr.trans d49
      clear d49
      obtain ⟨r50, w50, e50, d50, h50, b50⟩ := run_sub (P := Try.prog) 22 (x := r47) (y := r49) b47 b49 w49
      have H50 := Lib.hid h50
      clear h50
      replace dr := dr.trans d50
      clear d50
      go_wp2_with fail
      go_meet
      refine ⟨_, _, (-1), rfl, rfl, rfl, Lib.hid ?_, b45, b50, dr⟩
      unfold xyA yA
      rw [← af_zero, lt_is b1 b0, f1, if_pos rfl]
      simp only [← af_half]
      simp only [← H44.out]
      simp only [← H45.out]
      simp only [← H46.out]
      simp only [← H47.out]
      simp only [← H48.out]
      simp only [← H49.out]
      simp only [← H50.out]
  case rest =>
  clear dr
  obtain ⟨x1, y1, n1, rfl, rfl, rfl, HX, bx1, by1, dr⟩ := hcut
  go_upto_if 122 with fail
  go_cut [28, 25] (fun s28 s25 wx => ∃ (v1 : Nat) (n2 : Int), s28 = .float .f64 v1 ∧ s25 = .int .i64 n2 ∧ Hid ((af v1, n2) = csA (af r2) (af t)) ∧ v1 ≤ 18446744073709551615 ∧ Dr w wx)
  case first =>
    cases g1 : (FloatKind.f64.format.order r2 0 == some .gt)
    · cases g2 : (FloatKind.f64.format.order r2 0 == some .eq)
      · try simp only [Bool.true_or, Bool.false_or, Bool.or_false, Bool.or_true]
        obtain ⟨r56, w56, e56, d56, h56, b56⟩ := run_sub (P := Try.prog) 22 (x := r2) (y := t) b2 bt wc
        have H56 := Lib.hid h56
        clear h56
        replace dr := dr.trans d56
        clear d56
        go_wp2_with fail
        go_meet
        refine ⟨_, (-1), rfl, rfl, Lib.hid ?_, b56, dr⟩
        unfold csA
        rw [← af_zero, ge_is b2 b0, g1, g2, if_neg (by decide), ← H56.out]
      · try simp only [Bool.true_or, Bool.false_or, Bool.or_false, Bool.or_true]
        obtain ⟨r57, w57, e57, d57, h57, b57⟩ := run_add (P := Try.prog) 22 (x := r2) (y := t) b2 bt wc
        have H57 := Lib.hid h57
        clear h57
        replace dr := dr.trans d57
        clear d57
        go_wp2_with fail
        go_meet
        refine ⟨_, 1, rfl, rfl, Lib.hid ?_, b57, dr⟩
        unfold csA
        rw [← af_zero, ge_is b2 b0, g1, g2, if_pos (by decide), ← H57.out]
    · try simp only [Bool.true_or, Bool.false_or, Bool.or_false, Bool.or_true]
      obtain ⟨r58, w58, e58, d58, h58, b58⟩ := run_add (P := Try.prog) 22 (x := r2) (y := t) b2 bt wc
      have H58 := Lib.hid h58
      clear h58
      replace dr := dr.trans d58
      clear d58
      go_wp2_with fail
      go_meet
      refine ⟨_, 1, rfl, rfl, Lib.hid ?_, b58, dr⟩
      unfold csA
      rw [← af_zero, ge_is b2 b0, g1, Bool.true_or, if_pos rfl, ← H58.out]
  case rest =>
  clear dr
  obtain ⟨v1, n2, rfl, rfl, HC, bv1, dr⟩ := hcut
  go_wp2_with fail
  with_reducible refine (rAbs_any bv1 _).mono ?_
  rintro e w64 ⟨r64, rfl, h64, b64, rfl⟩
  have H64 := Lib.hid h64
  clear h64
  go_upto_if 132 with fail
  go_cut [28, 29] (fun s28 s29 wx => ∃ (c1 s1 : Nat), s28 = .float .f64 c1 ∧ s29 = .float .f64 s1 ∧ Hid ((af c1, af s1) = snA (af v1) (af r5) (af r4)) ∧ c1 ≤ 18446744073709551615 ∧ s1 ≤ 18446744073709551615 ∧ Dr w wx)
  case first =>
    cases i1 : (FloatKind.f64.format.order r64 r5 == some .gt)
    · cases i2 : (FloatKind.f64.format.order r5 0 == some .eq)
      · obtain ⟨r65, e65, h65, b65⟩ := run_neg (P := Try.prog) (x := v1) bv1
        have H65 := Lib.hid h65
        clear h65
        obtain ⟨r66, w66, e66, d66, h66, b66⟩ := run_quo (P := Try.prog) 22 (x := r65) (y := r4) b65 b4 wc
        have H66 := Lib.hid h66
        clear h66
        replace dr := dr.trans d66
        clear d66
        obtain ⟨r67, w67, e67, d67, h67, b67⟩ := run_mul (P := Try.prog) 22 (x := r66) (y := r66) b66 b66 w66
        have H67 := Lib.hid h67
        clear h67
        replace dr := dr.trans d67
        clear d67
        obtain ⟨r68, w68, e68, d68, h68, b68⟩ := run_add (P := Try.prog) 22 (x := 4607182418800017408) (y := r67) bI b67 w67
        have H68 := Lib.hid h68
        clear h68
        replace dr := dr.trans d68
        clear d68
        go_wp2_with fail
        with_reducible refine (sqrt_any b68 _).mono ?_
        rintro e w69 ⟨r69, rfl, h69, b69, d69⟩
        have H69 := Lib.hid h69
        clear h69
        replace dr := dr.trans d69
        clear d69
        obtain ⟨r70, w70, e70, d70, h70, b70⟩ := run_quo (P := Try.prog) 22 (x := 4607182418800017408) (y := r69) bI b69 w69
        have H70 := Lib.hid h70
        clear h70
        replace dr := dr.trans d70
        clear d70
        obtain ⟨r71, w71, e71, d71, h71, b71⟩ := run_mul (P := Try.prog) 22 (x := r66) (y := r70) b66 b70 w70
        have H71 := Lib.hid h71
        clear h71
        replace dr := dr.trans d71
        clear d71
        go_wp2_with fail
        go_meet
        refine ⟨_, _, rfl, rfl, Lib.hid ?_, b70, b71, dr⟩
        unfold snA rootA
        rw [← H64.out, gt_is b64 b5, i1, if_neg (by decide)]
        rw [← af_zero, eq_is b5 b0, i2, if_neg (by decide)]
        simp only [← af_one]
        simp only [← H65.out]
        simp only [← H66.out]
        simp only [← H67.out]
        simp only [← H68.out]
        simp only [← H69.out]
        simp only [← H70.out]
        simp only [← H71.out]
      · go_wp2_with fail
        go_meet
        refine ⟨_, _, rfl, rfl, Lib.hid ?_, bI, b0, dr⟩
        unfold snA
        rw [← H64.out, gt_is b64 b5, i1, if_neg (by decide)]
        rw [← af_zero, eq_is b5 b0, i2, if_pos rfl]
        rw [← af_one]
    · obtain ⟨r72, e72, h72, b72⟩ := run_neg (P := Try.prog) (x := r4) b4
      have H72 := Lib.hid h72
      clear h72
      obtain ⟨r73, w73, e73, d73, h73, b73⟩ := run_quo (P := Try.prog) 22 (x := r72) (y := v1) b72 bv1 wc
      have H73 := Lib.hid h73
      clear h73
      replace dr := dr.trans d73
      clear d73
      obtain ⟨r74, w74, e74, d74, h74, b74⟩ := run_mul (P := Try.prog) 22 (x := r73) (y := r73) b73 b73 w73
      have H74 := Lib.hid h74
      clear h74
      replace dr := dr.trans d74
      clear d74
      obtain ⟨r75, w75, e75, d75, h75, b75⟩ := run_add (P := Try.prog) 22 (x := 4607182418800017408) (y := r74) bI b74 w74
      have H75 := Lib.hid h75
      clear h75
      replace dr := dr.trans d75
      clear d75
      go_wp2_with fail
      with_reducible refine (sqrt_any b75 _).mono ?_
      rintro e w76 ⟨r76, rfl, h76, b76, d76⟩
      have H76 := Lib.hid h76
      clear h76
      replace dr := dr.trans d76
      clear d76
      obtain ⟨r77, w77, e77, d77, h77, b77⟩ := run_quo (P := Try.prog) 22 (x := 4607182418800017408) (y := r76) bI b76 w76
      have H77 := Lib.hid h77
      clear h77
      replace dr := dr.trans d77
      clear d77
      obtain ⟨r78, w78, e78, d78, h78, b78⟩ := run_mul (P := Try.prog) 22 (x := r73) (y := r77) b73 b77 w77
      have H78 := Lib.hid h78
      clear h78
      replace dr := dr.trans d78
      clear d78
      go_wp2_with fail
      go_meet
      refine ⟨_, _, rfl, rfl, Lib.hid ?_, b78, b77, dr⟩
      unfold snA rootA
      rw [← H64.out, gt_is b64 b5, i1, if_pos rfl]
      simp only [← af_one]
      simp only [← H72.out]
      simp only [← H73.out]
      simp only [← H74.out]
      simp only [← H75.out]
      simp only [← H76.out]
      simp only [← H77.out]
      simp only [← H78.out]
  case rest =>
  clear dr
  obtain ⟨c1, s1, rfl, rfl, HS, bc1, bs1, dr⟩ := hcut
  have HE : Hid (eigA (af x) (af y) (af z) = if n1 = n2 then (af x1, af y1, negA (af s1), af c1) else (af x1, af y1, af c1, af s1)) := Lib.hid (by
    unfold eigA eig2A
    dsimp only
    rw [← HP.out.1, ← HP.out.2, ← H1.out, ← H2.out, ← H4.out, ← H3.out, ← H5.out, ← HT.out, ← HX.out, ← HC.out, ← HS.out])
  by_cases hn : n1 = n2
  · have dn : (n1 == n2) = true := by simpa using hn
    have HN := Lib.hid hn
    clear hn
    obtain ⟨r84, e84, h84, b84⟩ := run_neg (P := Try.prog) (x := s1) bs1
    have H84 := Lib.hid h84
    clear h84
    go_wp2_with fail
    refine bodyPost_ret (v := .tuple #[.float .f64 x1, .float .f64 y1, .float .f64 r84, .float .f64 c1]) (by simp [results, Try.results20, go_sem]) rfl ?_
    refine ⟨_, _, _, _, rfl, ?_, ⟨bx1, by1, b84, bc1⟩, dr⟩
    rw [HE.out, if_pos HN.out, ← H84.out]
    exact ⟨rfl, rfl, rfl, rfl⟩
  · have dn : (n1 == n2) = false := by simpa using hn
    have HN := Lib.hid hn
    clear hn
    go_wp2_with fail
    refine bodyPost_ret (v := .tuple #[.float .f64 x1, .float .f64 y1, .float .f64 c1, .float .f64 s1]) (by simp [results, Try.results20, go_sem]) rfl ?_
    refine ⟨_, _, _, _, rfl, ?_, ⟨bx1, by1, bc1, bs1⟩, dr⟩
    rw [HE.out, if_neg HN.out]
    exact ⟨rfl, rfl, rfl, rfl⟩
end Go.Proofs.Ytmfikppnkjhmjaa
