/-
  Layer 6, walks: lengths and rotations, by the reference. (Written by wip/tools/gen_afc.py.)
-/
import Derived.Test.YtbaeabmmokgomaaMJRAfK
namespace Go.Proofs.Ytbaeabmmokgomaa
open Go Go.RowKit
set_option linter.unusedVariables false
set_option linter.unusedSimpArgs false

set_option maxHeartbeats 2000000 in
theorem rHypot_any {x y : Nat} (hx : x ≤ 18446744073709551615) (hy : y ≤ 18446744073709551615) (w : World) :
    Calls Try.prog 71 #[.float .f64 x, .float .f64 y] w (FA (hypA (af x) (af y)) w) := by
  have dr := Dr.refl w
  go_enter Try.func71, Try.ntmps71
  go_wp2_with fail
  with_reducible refine (rAbs_any hx _).mono ?_
  rintro e w1 ⟨r1, rfl, h1, b1, rfl⟩
  have H1 := Lib.hid h1
  clear h1
  go_wp2_with fail
  with_reducible refine (rAbs_any hy _).mono ?_
  rintro e w2 ⟨r2, rfl, h2, b2, rfl⟩
  have H2 := Lib.hid h2
  clear h2
  cases c1 : (FloatKind.f64.format.order r2 r1 == some .gt)
  · cases c2 : (FloatKind.f64.format.order r1 0 == some .eq)
    · obtain ⟨r3, w3, e3, d3, h3, b3⟩ := run_quo (P := Try.prog) 49 (x := r2) (y := r1) b2 b1 w
      have H3 := Lib.hid h3
      clear h3
      replace dr := dr.trans d3
      clear d3
      obtain ⟨r4, w4, e4, d4, h4, b4⟩ := run_mul (P := Try.prog) 49 (x := r3) (y := r3) b3 b3 w3
      have H4 := Lib.hid h4
      clear h4
      replace dr := dr.trans d4
      clear d4
      obtain ⟨r5, w5, e5, d5, h5, b5⟩ := run_add (P := Try.prog) 49 (x := 4607182418800017408) (y := r4) (by omega) b4 w4
      have H5 := Lib.hid h5
      clear h5
      replace dr := dr.trans d5
      clear d5
      go_wp2_with fail
      with_reducible refine (sqrt_any b5 _).mono ?_
      rintro e w6 ⟨r6, rfl, h6, b6, d6⟩
      have H6 := Lib.hid h6
      clear h6
      replace dr := dr.trans d6
      clear d6
      obtain ⟨r7, w7, e7, d7, h7, b7⟩ := run_mul (P := Try.prog) 49 (x := r1) (y := r6) b1 b6 w6
      have H7 := Lib.hid h7
      clear h7
      replace dr := dr.trans d7
      clear d7
      go_wp2_with fail
      go_ret
      refine ⟨_, rfl, ?_, b7, dr⟩
      unfold hypA
      rw [← H1.out, ← H2.out, gt_is b2 b1, c1, if_neg (by decide), hyp2A, ← af_zero, eq_is b1 (by omega), c2, if_neg (by decide), rootA, ← af_one, ← H3.out, ← H4.out, ← H5.out, ← H6.out, ← H7.out]
    · go_wp2_with fail
      go_ret
      refine ⟨_, rfl, ?_, b1, dr⟩
      unfold hypA
      rw [← H1.out, ← H2.out, gt_is b2 b1, c1, if_neg (by decide), hyp2A, ← af_zero, eq_is b1 (by omega), c2, if_pos rfl]
  · cases c2 : (FloatKind.f64.format.order r2 0 == some .eq)
    · obtain ⟨r8, w8, e8, d8, h8, b8⟩ := run_quo (P := Try.prog) 49 (x := r1) (y := r2) b1 b2 w
      have H8 := Lib.hid h8
      clear h8
      replace dr := dr.trans d8
      clear d8
      obtain ⟨r9, w9, e9, d9, h9, b9⟩ := run_mul (P := Try.prog) 49 (x := r8) (y := r8) b8 b8 w8
      have H9 := Lib.hid h9
      clear h9
      replace dr := dr.trans d9
      clear d9
      obtain ⟨r10, w10, e10, d10, h10, b10⟩ := run_add (P := Try.prog) 49 (x := 4607182418800017408) (y := r9) (by omega) b9 w9
      have H10 := Lib.hid h10
      clear h10
      replace dr := dr.trans d10
      clear d10
      go_wp2_with fail
      with_reducible refine (sqrt_any b10 _).mono ?_
      rintro e w11 ⟨r11, rfl, h11, b11, d11⟩
      have H11 := Lib.hid h11
      clear h11
      replace dr := dr.trans d11
      clear d11
      obtain ⟨r12, w12, e12, d12, h12, b12⟩ := run_mul (P := Try.prog) 49 (x := r2) (y := r11) b2 b11 w11
      have H12 := Lib.hid h12
      clear h12
      replace dr := dr.trans d12
      clear d12
      go_wp2_with fail
      go_ret
      refine ⟨_, rfl, ?_, b12, dr⟩
      unfold hypA
      rw [← H1.out, ← H2.out, gt_is b2 b1, c1, if_pos rfl, hyp2A, ← af_zero, eq_is b2 (by omega), c2, if_neg (by decide), rootA, ← af_one, ← H8.out, ← H9.out, ← H10.out, ← H11.out, ← H12.out]
    · go_wp2_with fail
      go_ret
      refine ⟨_, rfl, ?_, b2, dr⟩
      unfold hypA
      rw [← H1.out, ← H2.out, gt_is b2 b1, c1, if_pos rfl, hyp2A, ← af_zero, eq_is b2 (by omega), c2, if_pos rfl]

end Go.Proofs.Ytbaeabmmokgomaa
