/-
  Layer 6, walks: the program's lengths and rotations, and the parts of two by twos. (Written by wip/tools/gen_afh.py.)
-/
import Derived.Test.YtbaeabmmokgomaaMJRAfG
namespace Go.Proofs.Ytbaeabmmokgomaa
open Go Go.RowKit Go.Bw
set_option linter.unusedVariables false
set_option linter.unusedSimpArgs false

theorem gHypot_any : ConHypot := by
  intro x y hx hy w
  have dr := Dr.refl w
  have b0 : 0 ≤ 18446744073709551615 := by omega
  go_enter Try.func54, Try.ntmps54
  go_wp2_with fail
  with_reducible refine (gAbs_any hx _).mono ?_
  rintro e w1 ⟨r1, rfl, h1, b1, rfl⟩
  have H1 := Lib.hid h1
  clear h1
  go_wp2_with fail
  with_reducible refine (gAbs_any hy _).mono ?_
  rintro e w2 ⟨r2, rfl, h2, b2, rfl⟩
  have H2 := Lib.hid h2
  clear h2
  cases c1 : (FloatKind.f64.format.order r2 r1 == some .gt)
  · go_wp2_with fail
    with_reducible refine (gordered_no b1 b2 (by assumption) _).mono ?_
    rintro e u ⟨rfl, rfl⟩
    cases c2 : (FloatKind.f64.format.order r1 0 == some .eq)
    · go_wp2_with fail
      with_reducible refine (glength_any b1 b2 _).mono ?_
      rintro e w3 ⟨r3, rfl, h3, b3, d3⟩
      have H3 := Lib.hid h3
      clear h3
      replace dr := dr.trans d3
      clear d3
      go_wp2_with fail
      go_ret
      refine ⟨_, rfl, ?_, b3, dr⟩
      unfold hypA
      rw [← H1.out, ← H2.out, gt_is b2 b1, c1, if_neg (by decide), hyp2A, ← af_zero, eq_is b1 b0, c2, if_neg (by decide)]
      exact H3.out
    · go_wp2_with fail
      go_ret
      refine ⟨_, rfl, ?_, b1, dr⟩
      unfold hypA
      rw [← H1.out, ← H2.out, gt_is b2 b1, c1, if_neg (by decide), hyp2A, ← af_zero, eq_is b1 b0, c2, if_pos rfl]
  · go_wp2_with fail
    with_reducible refine (gordered_yes b1 b2 (by assumption) _).mono ?_
    rintro e u ⟨rfl, rfl⟩
    cases c2 : (FloatKind.f64.format.order r2 0 == some .eq)
    · go_wp2_with fail
      with_reducible refine (glength_any b2 b1 _).mono ?_
      rintro e w4 ⟨r4, rfl, h4, b4, d4⟩
      have H4 := Lib.hid h4
      clear h4
      replace dr := dr.trans d4
      clear d4
      go_wp2_with fail
      go_ret
      refine ⟨_, rfl, ?_, b4, dr⟩
      unfold hypA
      rw [← H1.out, ← H2.out, gt_is b2 b1, c1, if_pos rfl, hyp2A, ← af_zero, eq_is b2 b0, c2, if_neg (by decide)]
      exact H4.out
    · go_wp2_with fail
      go_ret
      refine ⟨_, rfl, ?_, b2, dr⟩
      unfold hypA
      rw [← H1.out, ← H2.out, gt_is b2 b1, c1, if_pos rfl, hyp2A, ← af_zero, eq_is b2 b0, c2, if_pos rfl]

end Go.Proofs.Ytbaeabmmokgomaa
