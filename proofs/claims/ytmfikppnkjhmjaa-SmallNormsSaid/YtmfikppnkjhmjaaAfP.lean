/-
  Layer 6: what the program's functions are to answer (each is shown of the landed code in a text of its own), and the law of lengths by it.
-/
import Derived.Test.YtmfikppnkjhmjaaAfC
import Derived.Test.YtmfikppnkjhmjaaAfS
import Derived.Test.YtmfikppnkjhmjaaAfM
import Derived.Below
namespace Go.Proofs.Ytmfikppnkjhmjaa
open Go Go.RowKit Go.Bw
set_option linter.unusedVariables false
set_option linter.unusedSimpArgs false

abbrev ConHypot : Prop := ∀ {x y : Nat}, x ≤ 18446744073709551615 → y ≤ 18446744073709551615 → ∀ w : World, Calls Try.prog 9 #[.float .f64 x, .float .f64 y] w (FA (hypA (af x) (af y)) w)
abbrev ConSign : Prop := ∀ {x y : Nat}, x ≤ 18446744073709551615 → y ≤ 18446744073709551615 → ∀ w : World, Calls Try.prog 11 #[.float .f64 x, .float .f64 y] w (FP (sgnA (af x) y) w)
abbrev ConKnown : Prop := ∀ w : World, Calls Try.prog 13 #[] w fun e w' => e = .returned (.bool true) ∧ Below w.heap.size w w'
theorem Dr.below {w w' : World} (h : Dr w w') (B : Nat) : Below B w w' := by
  obtain ⟨n, rfl⟩ := h
  exact ⟨rfl, rfl, rfl, Nat.le_refl _, fun _ _ => rfl⟩
theorem Dr.size {w w' : World} (h : Dr w w') : w'.heap.size = w.heap.size := by
  obtain ⟨n, rfl⟩ := h
  rfl
theorem below_of {w v w' : World} (h : Dr w v) (hb : Below v.heap.size v w') : Below w.heap.size w w' := (h.below _).trans (h.size ▸ hb)
theorem ne_is (x : Nat) (hx : x ≤ 18446744073709551615) : (FloatKind.f64.format.order x x != some .eq) = isN x := by
  cases h : isN x
  · rw [← aord_is hx hx, af_some h]
    have : eqA (some x) (some x) = true := by
      unfold eqA
      by_cases hi : x % 9223372036854775808 = 9218868437227405312
      · have : x = 9218868437227405312 ∨ x = 18442240474082181120 := by omega
        rcases this with rfl | rfl <;> decide
      · have hf : fin (x : Int) = true := by
          have := notN_le h
          unfold fin mag; simp; omega
        have := (order_lt x x hx hx hf hf).2.2
        have e : aord (some x) (some x) = FloatKind.f64.format.order x x := rfl
        rw [e, this]
        exact decide_eq_true rfl
    unfold eqA at this
    revert this
    generalize aord (some x) (some x) = o
    intro this
    rw [eq_of_beq this]
    rfl
  · exact order_self_is hx h

set_option maxHeartbeats 2000000 in
theorem law_lengths (cH : ConHypot) (cS : ConSign) (cK : ConKnown) {x y : Nat} (hx : x ≤ 18446744073709551615) (hy : y ≤ 18446744073709551615) (w : World) :
    Calls Try.prog 3 #[.float .f64 x, .float .f64 y] w fun e w' => e = .returned (.bool true) ∧ Below w.heap.size w w' := by
  go_enter Try.func3, Try.ntmps3
  go_wp2_with fail
  with_reducible refine (cH hx hy _).mono ?_
  rintro e w1 ⟨r1, rfl, h1, b1, d1⟩
  have dr := d1
  clear d1
  have H1 := Lib.hid h1
  clear h1
  go_wp2_with fail
  with_reducible refine (rHypot_any hx hy _).mono ?_
  rintro e w2 ⟨r2, rfl, h2, b2, d2⟩
  replace dr := dr.trans d2
  clear d2
  have H2 := Lib.hid h2
  clear h2
  go_wp2_with fail
  with_reducible refine (rSame_any b1 b2 (H1.out.trans H2.out.symm) _).mono ?_
  rintro e w3 ⟨rfl, rfl⟩
  go_wp2_with fail
  with_reducible refine (cS hx hy _).mono ?_
  rintro e w3 ⟨r3, rfl, h3, b3, rfl⟩
  have H3 := Lib.hid h3
  clear h3
  go_wp2_with fail
  with_reducible refine (rSign_any hx hy _).mono ?_
  rintro e w3 ⟨r4, rfl, h4, b4, rfl⟩
  have H4 := Lib.hid h4
  clear h4
  go_wp2_with fail
  with_reducible refine (rSame_any b3 b4 (H3.out.trans H4.out.symm) _).mono ?_
  rintro e w3 ⟨rfl, rfl⟩
  have nx := ne_is x hx
  have ny := ne_is y hy
  have hc := @hyp_comm x y
  have sx : isN x = false → af x = some x := fun h => af_some h
  have sy : isN y = false → af y = some y := fun h => af_some h
  cases c1 : isN x
  · cases c2 : isN y
    · rw [c1] at nx
      rw [c2] at ny
      replace hc := Lib.hid (hc c1 c2)
      go_wp2_with fail
      with_reducible refine (cH hx hy _).mono ?_
      rintro e w5 ⟨r5, rfl, h5, b5, d5⟩
      replace dr := dr.trans d5
      clear d5
      have H5 := Lib.hid h5
      clear h5
      go_wp2_with fail
      with_reducible refine (cH hy hx _).mono ?_
      rintro e w6 ⟨r6, rfl, h6, b6, d6⟩
      replace dr := dr.trans d6
      clear d6
      have H6 := Lib.hid h6
      clear h6
      have E9 := Lib.hid (show af r5 = af r6 by rw [H5.out, H6.out, sx c1, sy c2]; exact hc.out)
      go_wp2_with fail
      with_reducible refine (rSame_any b5 b6 E9.out _).mono ?_
      rintro e w7 ⟨rfl, rfl⟩
      go_wp2_with fail
      with_reducible refine (cK _).mono ?_
      rintro e w7 ⟨rfl, bk⟩
      go_wp2_with fail
      go_ret
      exact ⟨rfl, below_of dr bk⟩
    · rw [c2] at ny
      rw [c1] at nx
      go_wp2_with fail
      with_reducible refine (cK _).mono ?_
      rintro e w7 ⟨rfl, bk⟩
      go_wp2_with fail
      go_ret
      exact ⟨rfl, below_of dr bk⟩
  · rw [c1] at nx
    go_wp2_with fail
    with_reducible refine (cK _).mono ?_
    rintro e w7 ⟨rfl, bk⟩
    go_wp2_with fail
    go_ret
    exact ⟨rfl, below_of dr bk⟩
end Go.Proofs.Ytmfikppnkjhmjaa
