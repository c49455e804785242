/-
  Layer 6: the laws of Norm, of rotations, of two by twos, by what the program's functions are to answer. (Written by wip/tools/gen_afq.py.)
-/
import Derived.Test.YtmfikppnkjhmjaaAfE
import Derived.Test.YtmfikppnkjhmjaaAfR
import Derived.Test.YtmfikppnkjhmjaaAfP
namespace Go.Proofs.Ytmfikppnkjhmjaa
open Go Go.RowKit Go.Bw
set_option linter.unusedVariables false
set_option linter.unusedSimpArgs false

abbrev ConNorm : Prop := ∀ {A : Option Addr} {len c : Nat} {l : List Int} {w : World}, FL w A len c l → Calls Try.prog 14 #[.slice A len c] w (FA (nrmA l) w)
abbrev ConGivens : Prop := ∀ {x y : Nat}, x ≤ 18446744073709551615 → y ≤ 18446744073709551615 → ∀ w : World, Calls Try.prog 16 #[.float .f64 x, .float .f64 y] w (FA3 (givA (af x) (af y)) w)
def turnA (c s x y : Option Nat) : Option Nat × Option Nat := (aop .add (aop .mul c x) (aop .mul s y), aop .sub (aop .mul c y) (aop .mul s x))
abbrev ConTurn : Prop := ∀ {f g x y : Nat}, f ≤ 18446744073709551615 → g ≤ 18446744073709551615 → x ≤ 18446744073709551615 → y ≤ 18446744073709551615 → ∀ w : World, Calls Try.prog 18 #[.float .f64 f, .float .f64 g, .float .f64 x, .float .f64 y] w (FA2 (turnA (af f) (af g) (af x) (af y)) w)
abbrev ConEigen : Prop := ∀ {x y z : Nat}, x ≤ 18446744073709551615 → y ≤ 18446744073709551615 → z ≤ 18446744073709551615 → ∀ w : World, Calls Try.prog 19 #[.float .f64 x, .float .f64 y, .float .f64 z] w (FA4 (eigA (af x) (af y) (af z)) w)
abbrev ConSingular : Prop := ∀ {x y z : Nat}, x ≤ 18446744073709551615 → y ≤ 18446744073709551615 → z ≤ 18446744073709551615 → ∀ w : World, Calls Try.prog 21 #[.float .f64 x, .float .f64 y, .float .f64 z] w (FA2 (singA (af x) (af y) (af z)) w)

set_option maxHeartbeats 2000000 in
theorem law_norms (cN : ConNorm) (cK : ConKnown) {A : Option Addr} {len c : Nat} {l : List Int} {w : World} (h : FL w A len c l) :
    Calls Try.prog 4 #[.slice A len c] w fun e w' => e = .returned (.bool true) ∧ Below w.heap.size w w' := by
  have hm := h.max
  go_enter Try.func4, Try.ntmps4
  by_cases c1 : (600 : Int) < len
  · go_wp2_with fail
    with_reducible refine (cK _).mono ?_
    rintro e w7 ⟨rfl, bk⟩
    go_wp2_with fail
    go_ret
    exact ⟨rfl, bk⟩
  · go_wp2_with fail
    with_reducible refine (cN h).mono ?_
    rintro e w1 ⟨r1, rfl, h1, b1, d1⟩
    have H1 := Lib.hid h1
    clear h1
    go_wp2_with fail
    with_reducible refine (rNorm_any (h.dr d1)).mono ?_
    rintro e w2 ⟨r2, rfl, h2, b2, d2⟩
    have H2 := Lib.hid h2
    clear h2
    go_wp2_with fail
    with_reducible refine (rSame_any b1 b2 (H1.out.trans H2.out.symm) _).mono ?_
    rintro e w3 ⟨rfl, rfl⟩
    go_wp2_with fail
    with_reducible refine (cK _).mono ?_
    rintro e w7 ⟨rfl, bk⟩
    go_wp2_with fail
    go_ret
    exact ⟨rfl, below_of (d1.trans d2) bk⟩

set_option maxHeartbeats 4000000 in
theorem law_givens (cF : ConGivens) (cT : ConTurn) (cK : ConKnown) {x y z u : Nat} (hx : x ≤ 18446744073709551615) (hy : y ≤ 18446744073709551615) (hz : z ≤ 18446744073709551615) (hu : u ≤ 18446744073709551615) (w : World) :
    Calls Try.prog 5 #[.float .f64 x, .float .f64 y, .float .f64 z, .float .f64 u] w fun e w' => e = .returned (.bool true) ∧ Below w.heap.size w w' := by
  have dr := Dr.refl w
  go_enter Try.func5, Try.ntmps5
  go_wp2_with fail
  with_reducible refine (cF hx hy _).mono ?_
  rintro e vp ⟨p0, p1, p2, rfl, ⟨hp0, hp1, hp2⟩, bp0, bp1, bp2, dp⟩
  have Hp0 := Lib.hid hp0
  clear hp0
  have Hp1 := Lib.hid hp1
  clear hp1
  have Hp2 := Lib.hid hp2
  clear hp2
  replace dr := dr.trans dp
  clear dp
  go_wp2_with fail
  with_reducible refine (rGivens_any hx hy _).mono ?_
  rintro e vq ⟨q0, q1, q2, rfl, ⟨hq0, hq1, hq2⟩, bq0, bq1, bq2, dq⟩
  have Hq0 := Lib.hid hq0
  clear hq0
  have Hq1 := Lib.hid hq1
  clear hq1
  have Hq2 := Lib.hid hq2
  clear hq2
  replace dr := dr.trans dq
  clear dq
  go_wp2_with fail
  with_reducible refine (rSame_any bp0 bq0 (Hp0.out.trans Hq0.out.symm) _).mono ?_
  rintro e u ⟨rfl, rfl⟩
  go_wp2_with fail
  with_reducible refine (rSame_any bp1 bq1 (Hp1.out.trans Hq1.out.symm) _).mono ?_
  rintro e u ⟨rfl, rfl⟩
  go_wp2_with fail
  with_reducible refine (rSame_any bp2 bq2 (Hp2.out.trans Hq2.out.symm) _).mono ?_
  rintro e u ⟨rfl, rfl⟩
  go_wp2_with fail
  with_reducible refine (cT hx hy hz hu _).mono ?_
  rintro e vt ⟨t0, t1, rfl, ⟨ht0, ht1⟩, bt0, bt1, dt⟩
  have Ht0 := Lib.hid ht0
  clear ht0
  have Ht1 := Lib.hid ht1
  clear ht1
  replace dr := dr.trans dt
  clear dt
  obtain ⟨r1, w1, e1, d1, h1, b1⟩ := run_mul (P := Try.prog) 22 (x := x) (y := z) hx hz vt
  have H1 := Lib.hid h1
  clear h1
  replace dr := dr.trans d1
  clear d1
  obtain ⟨r2, w2, e2, d2, h2, b2⟩ := run_mul (P := Try.prog) 22 (x := y) (y := u) hy hu w1
  have H2 := Lib.hid h2
  clear h2
  replace dr := dr.trans d2
  clear d2
  obtain ⟨r3, w3, e3, d3, h3, b3⟩ := run_mul (P := Try.prog) 22 (x := x) (y := u) hx hu w2
  have H3 := Lib.hid h3
  clear h3
  replace dr := dr.trans d3
  clear d3
  obtain ⟨r4, w4, e4, d4, h4, b4⟩ := run_mul (P := Try.prog) 22 (x := y) (y := z) hy hz w3
  have H4 := Lib.hid h4
  clear h4
  replace dr := dr.trans d4
  clear d4
  obtain ⟨r5, w5, e5, d5, h5, b5⟩ := run_add (P := Try.prog) 22 (x := r1) (y := r2) b1 b2 w4
  have H5 := Lib.hid h5
  clear h5
  replace dr := dr.trans d5
  clear d5
  go_wp2_with fail
  have E1 : af t0 = af r5 := by rw [Ht0.out, H5.out, H1.out, H2.out]; rfl
  replace E1 := Lib.hid E1
  with_reducible refine (rSame_any bt0 b5 E1.out _).mono ?_
  rintro e u2 ⟨rfl, rfl⟩
  obtain ⟨r6, w6, e6, d6, h6, b6⟩ := run_sub (P := Try.prog) 22 (x := r3) (y := r4) b3 b4 w5
  have H6 := Lib.hid h6
  clear h6
  replace dr := dr.trans d6
  clear d6
  go_wp2_with fail
  have E2 : af t1 = af r6 := by rw [Ht1.out, H6.out, H3.out, H4.out]; rfl
  with_reducible refine (rSame_any bt1 b6 E2 _).mono ?_
  rintro e u3 ⟨rfl, rfl⟩
  go_wp2_with fail
  with_reducible refine (cK _).mono ?_
  rintro e w7 ⟨rfl, bk⟩
  go_wp2_with fail
  go_ret
  exact ⟨rfl, below_of dr bk⟩

set_option maxHeartbeats 4000000 in
theorem law_eigen (cF : ConEigen) (cK : ConKnown) {x y z : Nat} (hx : x ≤ 18446744073709551615) (hy : y ≤ 18446744073709551615) (hz : z ≤ 18446744073709551615) (w : World) :
    Calls Try.prog 6 #[.float .f64 x, .float .f64 y, .float .f64 z] w fun e w' => e = .returned (.bool true) ∧ Below w.heap.size w w' := by
  have dr := Dr.refl w
  go_enter Try.func6, Try.ntmps6
  go_wp2_with fail
  with_reducible refine (cF hx hy hz _).mono ?_
  rintro e vp ⟨p0, p1, p2, p3, rfl, ⟨hp0, hp1, hp2, hp3⟩, ⟨bp0, bp1, bp2, bp3⟩, dp⟩
  have Hp0 := Lib.hid hp0
  clear hp0
  have Hp1 := Lib.hid hp1
  clear hp1
  have Hp2 := Lib.hid hp2
  clear hp2
  have Hp3 := Lib.hid hp3
  clear hp3
  replace dr := dr.trans dp
  clear dp
  go_wp2_with fail
  with_reducible refine (rEigen_any hx hy hz _).mono ?_
  rintro e vq ⟨q0, q1, q2, q3, rfl, ⟨hq0, hq1, hq2, hq3⟩, ⟨bq0, bq1, bq2, bq3⟩, dq⟩
  have Hq0 := Lib.hid hq0
  clear hq0
  have Hq1 := Lib.hid hq1
  clear hq1
  have Hq2 := Lib.hid hq2
  clear hq2
  have Hq3 := Lib.hid hq3
  clear hq3
  replace dr := dr.trans dq
  clear dq
  go_wp2_with fail
  with_reducible refine (rSame_any bp0 bq0 (Hp0.out.trans Hq0.out.symm) _).mono ?_
  rintro e u ⟨rfl, rfl⟩
  go_wp2_with fail
  with_reducible refine (rSame_any bp1 bq1 (Hp1.out.trans Hq1.out.symm) _).mono ?_
  rintro e u ⟨rfl, rfl⟩
  go_wp2_with fail
  with_reducible refine (rSame_any bp2 bq2 (Hp2.out.trans Hq2.out.symm) _).mono ?_
  rintro e u ⟨rfl, rfl⟩
  go_wp2_with fail
  with_reducible refine (rSame_any bp3 bq3 (Hp3.out.trans Hq3.out.symm) _).mono ?_
  rintro e u ⟨rfl, rfl⟩
  go_wp2_with fail
  with_reducible refine (cK _).mono ?_
  rintro e w7 ⟨rfl, bk⟩
  go_wp2_with fail
  go_ret
  exact ⟨rfl, below_of dr bk⟩

set_option maxHeartbeats 4000000 in
theorem law_singular (cF : ConSingular) (cK : ConKnown) {x y z : Nat} (hx : x ≤ 18446744073709551615) (hy : y ≤ 18446744073709551615) (hz : z ≤ 18446744073709551615) (w : World) :
    Calls Try.prog 7 #[.float .f64 x, .float .f64 y, .float .f64 z] w fun e w' => e = .returned (.bool true) ∧ Below w.heap.size w w' := by
  have dr := Dr.refl w
  go_enter Try.func7, Try.ntmps7
  go_wp2_with fail
  with_reducible refine (cF hx hy hz _).mono ?_
  rintro e vp ⟨p0, p1, rfl, ⟨hp0, hp1⟩, bp0, bp1, dp⟩
  have Hp0 := Lib.hid hp0
  clear hp0
  have Hp1 := Lib.hid hp1
  clear hp1
  replace dr := dr.trans dp
  clear dp
  go_wp2_with fail
  with_reducible refine (rSingular_any hx hy hz _).mono ?_
  rintro e vq ⟨q0, q1, rfl, ⟨hq0, hq1⟩, bq0, bq1, dq⟩
  have Hq0 := Lib.hid hq0
  clear hq0
  have Hq1 := Lib.hid hq1
  clear hq1
  replace dr := dr.trans dq
  clear dq
  go_wp2_with fail
  with_reducible refine (rSame_any bp0 bq0 (Hp0.out.trans Hq0.out.symm) _).mono ?_
  rintro e u ⟨rfl, rfl⟩
  go_wp2_with fail
  with_reducible refine (rSame_any bp1 bq1 (Hp1.out.trans Hq1.out.symm) _).mono ?_
  rintro e u ⟨rfl, rfl⟩
  go_wp2_with fail
  with_reducible refine (cK _).mono ?_
  rintro e w7 ⟨rfl, bk⟩
  go_wp2_with fail
  go_ret
  exact ⟨rfl, below_of dr bk⟩
end Go.Proofs.Ytmfikppnkjhmjaa
