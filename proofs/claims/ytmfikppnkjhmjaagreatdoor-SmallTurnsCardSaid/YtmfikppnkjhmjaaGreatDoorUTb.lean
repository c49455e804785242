/-
  Layer 6: the law of turns.
-/
import Derived.Test.YtmfikppnkjhmjaaGreatDoorUTa
import Derived.Test.YtmfikppnkjhmjaaGreatDoorUAp
import Derived.Test.YtmfikppnkjhmjaaGreatDoorUAg
namespace Go.Proofs.YtmfikppnkjhmjaaGreatDoor
open Go Go.RowKit Go.Bw
set_option linter.unusedVariables false
set_option linter.unusedSimpArgs false

set_option maxHeartbeats 400000 in
theorem mAbs_any {x : Nat} (hx : x ≤ 18446744073709551615) (w : World) : Calls Tryz.prog 24 #[.float .f64 x] w fun e w' => e = .returned (.float .f64 (x % 9223372036854775808)) ∧ w = w' := by
  have hb := run_float64bitsG x
  have hf := run_float64frombitsG (x % 9223372036854775808 : Nat)
  rw [Int.toNat_natCast] at hf
  have e1 : bits .andNot .u64 (x : Int) 9223372036854775808 = ((x % 9223372036854775808 : Nat) : Int) := by
    rw [andnot_sign _ (by omega) (by omega)]; unfold mag; omega
  generalize x % 9223372036854775808 = y at *
  go_enter Tryz.func24, Tryz.ntmps24
  go_wp2_with fail
  go_ret
  exact ⟨rfl, rfl⟩

theorem gt_max {x : Nat} (hf : finN x) : (FloatKind.f64.format.order (x % 9223372036854775808) 9218868437227405311 == some .gt) = false := by
  unfold finN at hf
  have h := (order_lt (x % 9223372036854775808) 9218868437227405311 (by omega) (by omega) (by unfold fin mag; simp; omega) (by decide)).2.1
  rw [h]
  refine decide_eq_false ?_
  unfold sm mag
  split <;> omega

set_option maxHeartbeats 400000 in
theorem mIsInf_fin {x : Nat} (hx : x ≤ 18446744073709551615) (hf : finN x) (w : World) : Calls Tryz.prog 8 #[.float .f64 x, .int .i64 0] w fun e w' => e = .returned (.bool false) ∧ w = w' := by
  have hg := gt_max hf
  go_enter Tryz.func8, Tryz.ntmps8
  go_wp2_with fail
  with_reducible refine (mAbs_any hx _).mono ?_
  rintro e w1 ⟨rfl, rfl⟩
  go_wp2_with fail
  go_ret
  exact ⟨rfl, rfl⟩

set_option maxHeartbeats 400000 in
theorem mNormalize_one (w : World) : Calls Tryz.prog 72 #[.float .f64 4607182418800017408] w fun e w' => e = .returned (.tuple #[.float .f64 4607182418800017408, .int .i64 0]) ∧ w = w' := by
  have h9 : (FloatKind.f64.format.order (4607182418800017408 % 9223372036854775808) 4503599627370496 == some .lt) = false := by decide
  go_enter Tryz.func72, Tryz.ntmps72
  go_wp2_with fail
  with_reducible refine (mAbs_any (x := 4607182418800017408) (by omega) _).mono ?_
  rintro e w1 ⟨rfl, rfl⟩
  go_wp2_with fail
  go_ret2
  exact ⟨rfl, rfl⟩

set_option maxHeartbeats 400000 in
theorem mIsNaN_one (w : World) : Calls Tryz.prog 71 #[.float .f64 4607182418800017408] w fun e w' => e = .returned (.bool false) ∧ w = w' := by
  have h9 : (FloatKind.f64.format.order 4607182418800017408 4607182418800017408 != some .eq) = false := by decide
  go_enter Tryz.func71, Tryz.ntmps71
  go_wp2_with fail
  go_ret
  exact ⟨rfl, rfl⟩

theorem two_bits {p : Int} (p0 : -99 ≤ p) (p1 : p ≤ 99) : (twoW p : Int) = (p + 1023) * 4503599627370496 := by
  have e := (shw_facts (one_stays (p := p) (by omega) (by omega))).1
  have e0 : (oneW : Int) = 4607182418800017408 := rfl
  rw [e0] at e
  unfold twoW
  omega
set_option maxRecDepth 100000 in
set_option maxHeartbeats 1000000 in
theorem ldexp_one {p : Int} (p0 : -99 ≤ p) (p1 : p ≤ 99) (w : World) : Calls Tryz.prog 44 #[.float .f64 4607182418800017408, .int .i64 p] w fun e w' => e = .returned (.float .f64 (twoW p)) ∧ w = w' := by
  have h9 : (FloatKind.f64.format.order 4607182418800017408 0 == some .eq) = false := by decide
  have h8 := run_float64bitsG 4607182418800017408
  have h7 : bits .andNot .u64 4607182418800017408 9218868437227405312 = 0 := by decide
  have h6 : bits .or .u64 0 ((p + 1023) * 4503599627370496) = (p + 1023) * 4503599627370496 := by
    have := two_bits p0 p1
    rw [← this, u64_or 0 _ (by decide) (by omega) (by omega) (by omega)]
    simp
  have h5 := run_float64frombitsG (twoW p : Int)
  rw [Int.toNat_natCast, two_bits p0 p1] at h5
  have h4 : floatBits .mul .f64 4607182418800017408 (twoW p) = some (twoW p) := mul_one (by have := two_bits p0 p1; omega) (by have := two_bits p0 p1; unfold finN; omega)
  have h1 : ∀ W : World, (binOp .mul 22 (.float .f64 4607182418800017408) (.float .f64 (twoW p))).run Tryz.prog W = .ok (.float .f64 (twoW p)) W := fun W => run_float_arith W .mul 22 .f64 4607182418800017408 (twoW p) (twoW p) h4
  clear h4
  have h2 : bits .and .i64 1023 2047 = 1023 := by decide
  generalize twoW p = T at *
  go_enter Tryz.func44, Tryz.ntmps44
  go_wp2_with fail
  with_reducible refine (mIsInf_fin (x := 4607182418800017408) (by omega) (by unfold finN; decide) _).mono ?_
  rintro e w1 ⟨rfl, rfl⟩
  go_wp2_with fail
  with_reducible refine (mIsNaN_one _).mono ?_
  rintro e w1 ⟨rfl, rfl⟩
  go_wp2_with fail
  with_reducible refine (mNormalize_one _).mono ?_
  rintro e w1 ⟨rfl, rfl⟩
  go_wp2_with fail
  go_ret
  exact ⟨rfl, rfl⟩

set_option maxHeartbeats 1000000 in
theorem mLdexp_one {p : Int} (p0 : -99 ≤ p) (p1 : p ≤ 99) (w : World) : Calls Tryz.prog 17 #[.float .f64 4607182418800017408, .int .i64 p] w fun e w' => e = .returned (.float .f64 (twoW p)) ∧ w = w' := by
  go_enter Tryz.func17, Tryz.ntmps17
  go_wp2_with fail
  with_reducible refine (ldexp_one p0 p1 _).mono ?_
  rintro e w1 ⟨rfl, rfl⟩
  go_wp2_with fail
  go_ret
  exact ⟨rfl, rfl⟩
end Go.Proofs.YtmfikppnkjhmjaaGreatDoor
namespace Go.Proofs.YtmfikppnkjhmjaaGreatDoor
open Go Go.RowKit Go.Bw
set_option linter.unusedVariables false
set_option linter.unusedSimpArgs false

/-- a float is 0 or within the range -/
def rgB (x : Nat) : Bool := decide (x % 9223372036854775808 = 0 ∨ 2805742567851819008 ≤ x % 9223372036854775808 ∧ x % 9223372036854775808 ≤ 6408622269748215808)
theorem rgB_iff {x : Nat} (hx : x ≤ 18446744073709551615) : rgB x = true ↔ Rg x := by
  unfold rgB Rg
  rw [decide_eq_true_iff]
  exact ⟨fun h => ⟨hx, h⟩, fun h => h.2⟩
theorem ord_none {a b : Nat} (ha : isN a = true) (bA : a ≤ 18446744073709551615) (bB : b ≤ 18446744073709551615) : FloatKind.f64.format.order a b = none := by
  rw [← aord_is bA bB, af_none ha]; rfl
theorem ord_is {a b : Nat} (ha : a ≤ 9218868437227405312) (hb : b ≤ 9218868437227405312) : (FloatKind.f64.format.order a b == some .gt) = decide (b < a) ∧ (FloatKind.f64.format.order a b == some .lt) = decide (a < b) ∧ (FloatKind.f64.format.order a b == some .eq) = decide (a = b) := ord_mag ha hb

theorem rgB_of {x r : Nat} (hx : x ≤ 18446744073709551615) (h1 : af r = absA (af x)) (b1 : r ≤ 18446744073709551615) : rgB x = ((FloatKind.f64.format.order r 0 == some .eq) || ((FloatKind.f64.format.order r 2805742567851819008 == some .gt || FloatKind.f64.format.order r 2805742567851819008 == some .eq) && (FloatKind.f64.format.order r 6408622269748215808 == some .lt || FloatKind.f64.format.order r 6408622269748215808 == some .eq))) := by
  rw [← abs_is x] at h1
  rcases same_af h1 with ⟨n1, n2⟩ | ⟨n1, e⟩
  · rw [ord_none n1 b1 (by omega), ord_none n1 b1 (by omega), ord_none n1 b1 (by omega)]
    unfold isN at n2
    have := of_decide_eq_true n2
    unfold rgB
    rw [decide_eq_false (by omega)]
    rfl
  · have hl := notN_le n1
    have er : r % 9223372036854775808 = r := by omega
    rw [er] at hl
    rw [(ord_is hl (by omega)).2.2, (ord_is hl (by omega)).1, (ord_is hl (by omega)).2.2, (ord_is hl (by omega)).2.1, (ord_is hl (by omega)).2.2]
    unfold rgB
    rw [← e, ← Bool.decide_or, ← Bool.decide_or, ← Bool.decide_and, ← Bool.decide_or]
    refine decide_eq_decide.2 ?_
    constructor <;> intro h <;> omega
set_option maxHeartbeats 1000000 in
theorem in_any {x : Nat} (hx : x ≤ 18446744073709551615) (w : World) : Calls Tryz.prog 4 #[.float .f64 x] w fun e w' => e = .returned (.bool (rgB x)) ∧ w = w' := by
  go_enter Tryz.func4, Tryz.ntmps4
  go_wp2_with fail
  with_reducible refine (rAbs_any hx _).mono ?_
  rintro e w1 ⟨r, rfl, h1, b1, rfl⟩
  have hr := Lib.hid (rgB_of hx h1 b1)
  clear h1
  cases c1 : (FloatKind.f64.format.order r 0 == some .eq)
  · cases c2 : (FloatKind.f64.format.order r 2805742567851819008 == some .gt || FloatKind.f64.format.order r 2805742567851819008 == some .eq)
    · go_wp2_with fail
      go_ret
      exact ⟨by rw [hr.out, c1, c2]; rfl, rfl⟩
    · cases c3 : (FloatKind.f64.format.order r 6408622269748215808 == some .lt || FloatKind.f64.format.order r 6408622269748215808 == some .eq)
      · go_wp2_with fail
        go_ret
        exact ⟨by rw [hr.out, c1, c2, c3]; rfl, rfl⟩
      · go_wp2_with fail
        go_ret
        exact ⟨by rw [hr.out, c1, c2, c3]; rfl, rfl⟩
  · go_wp2_with fail
    go_ret
    exact ⟨by rw [hr.out, c1]; rfl, rfl⟩
end Go.Proofs.YtmfikppnkjhmjaaGreatDoor
namespace Go.Proofs.YtmfikppnkjhmjaaGreatDoor
open Go.RowKit Go.Sort Go.Bw
set_option linter.unusedVariables false
set_option linter.unusedSimpArgs false

theorem fin_notN {x : Nat} (h : finN x) : isN x = false := by
  unfold finN at h
  unfold isN
  exact decide_eq_false (by omega)
theorem mul_fin {x z : Nat} (hx : finN x) (hz : finN z) : ∃ r, Ieee.double.mul x z = some r := by
  unfold Ieee.Format.mul
  rw [read_word x hx, read_word z hz, prod_num]
  exact ⟨_, rfl⟩
theorem sc_fin {x : Nat} {k : Int} (h : Rg x) (k0 : -99 ≤ k) (k1 : k ≤ 99) : finN (sc x k) := by
  unfold sc
  by_cases h0 : x % 9223372036854775808 = 0
  · rw [if_pos h0]; exact h.fin
  · rw [if_neg h0]; exact (shw_facts (rg_stays h h0 k0 k1)).2.2.2.2.2.2

theorem known_all : ConKnown := known_any gHypot_any gNorm_any gGivens_any gEigen_any gSingular_any
abbrev RT (w : World) (e : Ending) (w' : World) : Prop := e = .returned (.bool true) ∧ Below w.heap.size w w'

set_option maxRecDepth 100000 in
set_option maxHeartbeats 1000000 in
theorem turns_no {f g : Nat} {p : Int} {w : World} (hf : f ≤ 18446744073709551615) (hg : g ≤ 18446744073709551615) (h : rgB f = false ∨ rgB g = false ∨ p < -99 ∨ 99 < p) :
    Calls Tryz.prog 3 #[.float .f64 f, .float .f64 g, .int .i64 p] w (RT w) := by
  have iF : ∀ W : World, Calls Tryz.prog 4 #[.float .f64 f] W fun e w' => e = .returned (.bool (rgB f)) ∧ W = w' := fun W => in_any hf W
  have iG : ∀ W : World, Calls Tryz.prog 4 #[.float .f64 g] W fun e w' => e = .returned (.bool (rgB g)) ∧ W = w' := fun W => in_any hg W
  go_enter Tryz.func3, Tryz.ntmps3
  generalize rgB f = F at *
  generalize rgB g = G at *
  cases F
  · go_wp2_with fail
    with_reducible refine (iF _).mono ?_
    rintro e w1 ⟨rfl, rfl⟩
    go_wp2_with fail
    with_reducible refine (known_all _).mono ?_
    rintro e w1 ⟨rfl, hb⟩
    go_wp2_with fail
    go_ret
    exact ⟨rfl, hb⟩
  · cases G
    · go_wp2_with fail
      with_reducible refine (iF _).mono ?_
      rintro e w1 ⟨rfl, rfl⟩
      go_wp2_with fail
      with_reducible refine (iG _).mono ?_
      rintro e w1 ⟨rfl, rfl⟩
      go_wp2_with fail
      with_reducible refine (known_all _).mono ?_
      rintro e w1 ⟨rfl, hb⟩
      go_wp2_with fail
      go_ret
      exact ⟨rfl, hb⟩
    · have hp : p < -99 ∨ 99 < p := by simpa using h
      clear h
      rcases Int.lt_or_le p (-99) with c | c
      · go_wp2_with fail
        with_reducible refine (iF _).mono ?_
        rintro e w1 ⟨rfl, rfl⟩
        go_wp2_with fail
        with_reducible refine (iG _).mono ?_
        rintro e w1 ⟨rfl, rfl⟩
        clear hp
        go_wp2_with fail
        with_reducible refine (known_all _).mono ?_
        rintro e w1 ⟨rfl, hb⟩
        go_wp2_with fail
        go_ret
        exact ⟨rfl, hb⟩
      · have c2 : 99 < p := by omega
        clear hp
        go_wp2_with fail
        with_reducible refine (iF _).mono ?_
        rintro e w1 ⟨rfl, rfl⟩
        go_wp2_with fail
        with_reducible refine (iG _).mono ?_
        rintro e w1 ⟨rfl, rfl⟩
        go_wp2_with fail
        with_reducible refine (known_all _).mono ?_
        rintro e w1 ⟨rfl, hb⟩
        go_wp2_with fail
        go_ret
        exact ⟨rfl, hb⟩

set_option maxRecDepth 100000 in
set_option maxHeartbeats 16000000 in
theorem turns_yes {f g : Nat} {p : Int} {w : World} (hf : Rg f) (hg : Rg g) (p0 : -99 ≤ p) (p1 : p ≤ 99) (hT : Tab w) :
    Calls Tryz.prog 3 #[.float .f64 f, .float .f64 g, .int .i64 p] w (RT w) := by
  have iF : ∀ W : World, Calls Tryz.prog 4 #[.float .f64 f] W fun e w' => e = .returned (.bool true) ∧ W = w' := fun W => by have := in_any hf.1 W; rwa [(rgB_iff hf.1).2 hf] at this
  have iG : ∀ W : World, Calls Tryz.prog 4 #[.float .f64 g] W fun e w' => e = .returned (.bool true) ∧ W = w' := fun W => by have := in_any hg.1 W; rwa [(rgB_iff hg.1).2 hg] at this
  obtain ⟨c, s, r, eG, hu, fr, br⟩ := giv_any hf hg
  obtain ⟨h, eH, fh, bh0, eS⟩ := hyp_sc hf hg p0 p1
  have bh : h ≤ 18446744073709551615 := by omega
  have bc := hu.2.2.1
  have bs := hu.2.2.2.1
  have fc := hu.1
  have fs := hu.2.1
  have hle := unitN_le hu
  unfold unitN at hle
  have af_f := af_some (fin_notN hf.fin)
  have af_g := af_some (fin_notN hg.fin)
  have tG : ∀ W : World, Calls Tryz.prog 6 #[.float .f64 f, .float .f64 g] W fun e w' => e = .returned (.tuple #[.float .f64 c, .float .f64 s, .float .f64 r]) ∧ Below W.heap.size W w' := fun W => by
    refine (gGivens_any hf.1 hg.1 W).mono ?_
    rintro e w' ⟨x, y, z, rfl, ⟨h1, h2, h3⟩, -, -, -, dd⟩
    rw [af_f, af_g, eG] at h1 h2 h3
    obtain rfl := af_eq h1
    obtain rfl := af_eq h2
    obtain rfl := af_eq h3
    exact ⟨rfl, dd.below _⟩
  have tH : ∀ W : World, Calls Tryz.prog 7 #[.float .f64 f, .float .f64 g] W fun e w' => e = .returned (.float .f64 h) ∧ Below W.heap.size W w' := fun W => by
    refine (gHypot_any hf.1 hg.1 W).mono ?_
    rintro e w' ⟨x, rfl, h1, -, dd⟩
    rw [af_f, af_g, eH] at h1
    obtain rfl := af_eq h1
    exact ⟨rfl, dd.below _⟩
  have tN : ∀ W : World, Calls Tryz.prog 19 #[.slice (some ⟨W.heap.size, 0, none⟩) 2 2] (W.alloc (.cells #[.float .f64 f, .float .f64 g] 22)) fun e w' => e = .returned (.float .f64 h) ∧ Below W.heap.size W w' := fun W => by
    have fb : FL (W.alloc (.cells #[.float .f64 f, .float .f64 g] 22)) (some ⟨W.heap.size, 0, none⟩) 2 2 [(f : Int), (g : Int)] := fl_built (W := W) (l := [(f : Int), (g : Int)]) (fun x hx => by simp only [List.mem_cons, List.not_mem_nil, or_false] at hx; have := hf.1; have := hg.1; omega) (by simp)
    refine (gNorm_any fb).mono ?_
    rintro e w' ⟨x, rfl, h1, -, dd⟩
    rw [norm_hyp hf.fin hg.fin hf.1 hg.1, eH] at h1
    obtain rfl := af_eq h1
    exact ⟨rfl, ((Below.refl _ W).alloc (Nat.le_refl _) _).trans (dd.below _)⟩
  obtain ⟨two, etw⟩ : ∃ two, twoW p = two := ⟨_, rfl⟩
  have ftw := (two_word p0 p1).2
  have tL : ∀ W : World, Calls Tryz.prog 17 #[.float .f64 4607182418800017408, .int .i64 p] W fun e w' => e = .returned (.float .f64 two) ∧ W = w' := fun W => by have := mLdexp_one p0 p1 W; rwa [etw] at this
  have mF := mul_sc (k := p) hf p0 p1
  have mG := mul_sc (k := p) hg p0 p1
  obtain ⟨z, mH⟩ := mul_fin fh ftw
  rw [etw] at mF mG mH eS ftw
  rw [mul_aop] at mF mG eS
  have fF := sc_fin (k := p) hf p0 p1
  have fG := sc_fin (k := p) hg p0 p1
  obtain ⟨F, eF⟩ : ∃ F, sc f p = F := ⟨_, rfl⟩
  obtain ⟨G, eGG⟩ : ∃ G, sc g p = G := ⟨_, rfl⟩
  rw [eF] at mF eS fF
  rw [eGG] at mG eS fG
  have bF : F ≤ 18446744073709551615 := word_le (op := .mul) (x := f) (y := two) mF
  have bG : G ≤ 18446744073709551615 := word_le (op := .mul) (x := g) (y := two) mG
  have bz : z ≤ 18446744073709551615 := word_le (op := .mul) (x := h) (y := two) mH
  rw [mH] at eS
  have tH2 : ∀ W : World, Calls Tryz.prog 7 #[.float .f64 F, .float .f64 G] W fun e w' => e = .returned (.float .f64 z) ∧ Below W.heap.size W w' := fun W => by
    refine (gHypot_any bF bG W).mono ?_
    rintro e w' ⟨x, rfl, h1, -, dd⟩
    rw [af_some (fin_notN fF), af_some (fin_notN fG), eS] at h1
    obtain rfl := af_eq h1
    exact ⟨rfl, dd.below _⟩
  have tN2 : ∀ W : World, Calls Tryz.prog 19 #[.slice (some ⟨W.heap.size, 0, none⟩) 2 2] (W.alloc (.cells #[.float .f64 F, .float .f64 G] 22)) fun e w' => e = .returned (.float .f64 z) ∧ Below W.heap.size W w' := fun W => by
    have fb : FL (W.alloc (.cells #[.float .f64 F, .float .f64 G] 22)) (some ⟨W.heap.size, 0, none⟩) 2 2 [(F : Int), (G : Int)] := fl_built (W := W) (l := [(F : Int), (G : Int)]) (fun x hx => by simp only [List.mem_cons, List.not_mem_nil, or_false] at hx; omega) (by simp)
    refine (gNorm_any fb).mono ?_
    rintro e w' ⟨x, rfl, h1, -, dd⟩
    rw [norm_hyp fF fG bF bG, eS] at h1
    obtain rfl := af_eq h1
    exact ⟨rfl, ((Below.refl _ W).alloc (Nat.le_refl _) _).trans (dd.below _)⟩
  have RF : ∀ W : World, (binOp .mul 22 (.float .f64 f) (.float .f64 two)).run Tryz.prog W = .ok (.float .f64 F) W := fun W => run_float_arith W .mul 22 .f64 f two F mF
  have RG : ∀ W : World, (binOp .mul 22 (.float .f64 g) (.float .f64 two)).run Tryz.prog W = .ok (.float .f64 G) W := fun W => run_float_arith W .mul 22 .f64 g two G mG
  have RH : ∀ W : World, (binOp .mul 22 (.float .f64 h) (.float .f64 two)).run Tryz.prog W = .ok (.float .f64 z) W := fun W => run_float_arith W .mul 22 .f64 h two z mH
  have tS : ∀ W : World, Calls Tryz.prog 18 #[.float .f64 z, .float .f64 z] W fun e w' => e = .returned (.bool true) ∧ W = w' := fun W => rSame_any bz bz rfl W
  have nh : (FloatKind.f64.format.order h h != some .eq) = false := by rw [ne_is h bh]; exact fin_notN fh
  have nr : (FloatKind.f64.format.order r r != some .eq) = false := by rw [ne_is r br]; exact fin_notN fr
  have tI : ∀ W : World, Calls Tryz.prog 8 #[.float .f64 h, .int .i64 0] W fun e w' => e = .returned (.bool false) ∧ W = w' := mIsInf_fin bh fh
  have tJ : ∀ W : World, Calls Tryz.prog 8 #[.float .f64 r, .int .i64 0] W fun e w' => e = .returned (.bool false) ∧ W = w' := mIsInf_fin br fr
  have i3 := wN_in c (fin_cls fc)
  have i4 := wN_in s (fin_cls fs)
  have o3 := wN_ok c
  have o4 := wN_ok s
  have pC : ∀ W : World, Tab W → Calls Tryz.prog 9 #[.float .f64 c] W (DyK (wN c) 0 W) := fun W tt => tOf bc fc tt
  have pS : ∀ W : World, Tab W → Calls Tryz.prog 9 #[.float .f64 s] W (DyK (wN s) 0 W) := fun W tt => tOf bs fs tt
  generalize wN c = C at pC i3 o3 hle
  generalize wN s = S at pS i4 o4 hle
  clear hu fr fh bh0 eH eS eG mF mG mH etw ftw eF eGG fF fG bF bG bz fc fs bc bs br bh
  have i5 := mulN_in i3 i3
  have i6 := mulN_in i4 i4
  have i7 := sumN_in (mulN_ok C C) (mulN_ok S S) i5 i6 (by omega)
  have i9 := nf_one_in
  have i10 := sumN_in (sumN_ok (mulN C C) (mulN S S)) (negN_ok (nf 1 0)) i7 (negN_in (nf_ok 1 0) (Nf.In.mono i9 (by omega) (by omega))) (by omega)
  have i11 := absN_in i10
  obtain ⟨sg, hsg⟩ : ∃ sg, sgn (sumN (absN (sumN (sumN (mulN C C) (mulN S S)) (negN (nf 1 0)))) (negN halfN)) = sg := ⟨_, rfl⟩
  rw [hsg] at hle
  have HSG := Lib.hid hsg
  clear hsg
  have bw : Below w.heap.size w w := Below.refl _ _
  go_enter Tryz.func3, Tryz.ntmps3
  go_wp2_with fail
  with_reducible refine (iF _).mono ?_
  rintro e v1 ⟨rfl, rfl⟩
  go_wp2_with fail
  with_reducible refine (iG _).mono ?_
  rintro e v2 ⟨rfl, rfl⟩
  go_wp2_with fail
  with_reducible refine (tG _).mono ?_
  rintro e w3 ⟨rfl, hb⟩
  have hs3 := hb.size
  try simp only [World.size_alloc, World.size_setCell] at hs3
  replace bw : Below w.heap.size w w3 := dy_end (by go_grown) hb
  clear hb
  go_wp2_with fail
  with_reducible refine (tH _).mono ?_
  rintro e w4 ⟨rfl, hb⟩
  have hs4 := hb.size
  try simp only [World.size_alloc, World.size_setCell] at hs4
  replace bw : Below w.heap.size w w4 := dy_end (by go_grown) hb
  clear hb
  go_wp2_with fail
  with_reducible refine (tI _).mono ?_
  rintro e v5 ⟨rfl, rfl⟩
  go_wp2_with fail
  with_reducible refine (tJ _).mono ?_
  rintro e v6 ⟨rfl, rfl⟩
  go_wp2_with fail
  with_reducible refine (pC _ (hT.onD (by go_grown))).mono ?_
  rintro e w7 ⟨b3, q3, A3, c3, x3, rfl, hd3, m3, hb⟩
  have hs7 := hb.size
  try simp only [World.size_alloc, World.size_setCell] at hs7
  replace bw : Below w.heap.size w w7 := dy_end (by go_grown) hb
  clear hb
  replace m3 := Lv.alloc m3 (.cells #[.bool b3, .slice A3 q3.length c3, .int .i64 x3] 31)
  have HB := Blk.new w7 [.bool b3, .slice A3 q3.length c3, .int .i64 x3] 31
  have HB_0 := Blk.cell HB 0 rfl
  have HB_1 := Blk.cell HB 1 rfl
  have HB_2 := Blk.cell HB 2 rfl
  have HB_f0 := Blk.free HB 0
  have HB_f1 := Blk.free HB 1
  have HB_f2 := Blk.free HB 2
  go_wp2_with fail
  with_reducible refine (pS _ (hT.onD (by go_grown))).mono ?_
  rintro e w8 ⟨b4, q4, A4, c4, x4, rfl, hd4, m4, hb⟩
  clear HB_0 HB_1 HB_2 HB_f0 HB_f1 HB_f2
  have hs8 := hb.size
  try simp only [World.size_alloc, World.size_setCell] at hs8
  replace bw : Below w.heap.size w w8 := dy_end (by go_grown) hb
  replace m3 := Lv.on m3 hb
  replace HB := Blk.on HB hb
  clear hb
  have HB_0 := Blk.cell HB 0 rfl
  have HB_1 := Blk.cell HB 1 rfl
  have HB_2 := Blk.cell HB 2 rfl
  have HB_f0 := Blk.free HB 0
  have HB_f1 := Blk.free HB 1
  have HB_f2 := Blk.free HB 2
  replace m3 := Lv.alloc m3 (.cells #[.bool b4, .slice A4 q4.length c4, .int .i64 x4] 31)
  replace m4 := Lv.alloc m4 (.cells #[.bool b4, .slice A4 q4.length c4, .int .i64 x4] 31)
  replace HB := Blk.alloc HB (.cells #[.bool b4, .slice A4 q4.length c4, .int .i64 x4] 31)
  have IB := Blk.new w8 [.bool b4, .slice A4 q4.length c4, .int .i64 x4] 31
  have HB_v0_0 := Blk.cell HB 0 rfl
  have HB_v0_1 := Blk.cell HB 1 rfl
  have HB_v0_2 := Blk.cell HB 2 rfl
  have HB_v0_f0 := Blk.free HB 0
  have HB_v0_f1 := Blk.free HB 1
  have HB_v0_f2 := Blk.free HB 2
  have IB_0 := Blk.cell IB 0 rfl
  have IB_1 := Blk.cell IB 1 rfl
  have IB_2 := Blk.cell IB 2 rfl
  have IB_f0 := Blk.free IB 0
  have IB_f1 := Blk.free IB 1
  have IB_f2 := Blk.free IB 2
  go_upto_region 11 with fail
  clear HB_0 HB_1 HB_2 HB_f0 HB_f1 HB_f2 HB_v0_0 HB_v0_1 HB_v0_2 HB_v0_f0 HB_v0_f1 HB_v0_f2
  clear IB_0 IB_1 IB_2 IB_f0 IB_f1 IB_f2
  replace bw : Below w.heap.size w (w8.alloc (.cells #[.bool b4, .slice A4 q4.length c4, .int .i64 x4] 31)) := by go_grown
  have ltHB := Blk.lt HB
  have ltIB := Blk.lt IB
  generalize (w8.alloc (.cells #[.bool b4, .slice A4 q4.length c4, .int .i64 x4] 31)) = W1 at bw m3 m4 HB IB ltHB ltIB ⊢
  have HB_0 := Blk.cell HB 0 rfl
  have HB_1 := Blk.cell HB 1 rfl
  have HB_2 := Blk.cell HB 2 rfl
  have HB_f0 := Blk.free HB 0
  have HB_f1 := Blk.free HB 1
  have HB_f2 := Blk.free HB 2
  have IB_0 := Blk.cell IB 0 rfl
  have IB_1 := Blk.cell IB 1 rfl
  have IB_2 := Blk.cell IB 2 rfl
  have IB_f0 := Blk.free IB 0
  have IB_f1 := Blk.free IB 1
  have IB_f2 := Blk.free IB 2
  go_wp2_with fail
  with_reducible refine (dMul_in m3 hd3 m3 hd3 (hT.onD (by go_grown)) i3 i3 (by omega) (by omega) (by omega) (by omega) (by omega) (by omega) (by omega) (by omega)).mono ?_
  rintro e w9 ⟨b5, q5, A5, c5, x5, rfl, hd5, m5, hb⟩
  clear HB_0 HB_1 HB_2 HB_f0 HB_f1 HB_f2
  clear IB_0 IB_1 IB_2 IB_f0 IB_f1 IB_f2
  have hs9 := hb.size
  try simp only [World.size_alloc, World.size_setCell] at hs9
  replace bw : Below w.heap.size w w9 := dy_end (by go_grown) hb
  replace m3 := Lv.on m3 hb
  replace m4 := Lv.on m4 hb
  replace HB := Blk.on HB hb
  replace IB := Blk.on IB hb
  clear hb
  have HB_0 := Blk.cell HB 0 rfl
  have HB_1 := Blk.cell HB 1 rfl
  have HB_2 := Blk.cell HB 2 rfl
  have HB_f0 := Blk.free HB 0
  have HB_f1 := Blk.free HB 1
  have HB_f2 := Blk.free HB 2
  have IB_0 := Blk.cell IB 0 rfl
  have IB_1 := Blk.cell IB 1 rfl
  have IB_2 := Blk.cell IB 2 rfl
  have IB_f0 := Blk.free IB 0
  have IB_f1 := Blk.free IB 1
  have IB_f2 := Blk.free IB 2
  replace m3 := Lv.put m3 HB (b5) (A5) (q5.length) (c5) (x5)
  replace m4 := Lv.put m4 HB (b5) (A5) (q5.length) (c5) (x5)
  replace m5 := Lv.put m5 HB (b5) (A5) (q5.length) (c5) (x5)
  replace IB := Blk.putO IB (g := w7.heap.size) (by omega) (.bool (b5)) (.slice (A5) (q5.length) (c5)) (.int .i64 (x5))
  replace HB := Dbx.put HB (b5) (A5) (q5.length) (c5) (x5)
  go_upto_region 12 with fail
  clear HB_0 HB_1 HB_2 HB_f0 HB_f1 HB_f2
  clear IB_0 IB_1 IB_2 IB_f0 IB_f1 IB_f2
  replace bw : Below w.heap.size w (((w9.setCell ⟨w7.heap.size, 0, none⟩ (.bool b5)).setCell ⟨w7.heap.size, 1, none⟩ (.slice A5 q5.length c5)).setCell ⟨w7.heap.size, 2, none⟩ (.int .i64 x5)) := by go_grown
  have ltHB := Blk.lt HB
  have ltIB := Blk.lt IB
  generalize (((w9.setCell ⟨w7.heap.size, 0, none⟩ (.bool b5)).setCell ⟨w7.heap.size, 1, none⟩ (.slice A5 q5.length c5)).setCell ⟨w7.heap.size, 2, none⟩ (.int .i64 x5)) = W2 at bw m3 m4 m5 HB IB ltHB ltIB ⊢
  have HB_0 := Blk.cell HB 0 rfl
  have HB_1 := Blk.cell HB 1 rfl
  have HB_2 := Blk.cell HB 2 rfl
  have HB_f0 := Blk.free HB 0
  have HB_f1 := Blk.free HB 1
  have HB_f2 := Blk.free HB 2
  have IB_0 := Blk.cell IB 0 rfl
  have IB_1 := Blk.cell IB 1 rfl
  have IB_2 := Blk.cell IB 2 rfl
  have IB_f0 := Blk.free IB 0
  have IB_f1 := Blk.free IB 1
  have IB_f2 := Blk.free IB 2
  go_wp2_with fail
  with_reducible refine (dMul_in m4 hd4 m4 hd4 (hT.onD (by go_grown)) i4 i4 (by omega) (by omega) (by omega) (by omega) (by omega) (by omega) (by omega) (by omega)).mono ?_
  rintro e w10 ⟨b6, q6, A6, c6, x6, rfl, hd6, m6, hb⟩
  clear HB_0 HB_1 HB_2 HB_f0 HB_f1 HB_f2
  clear IB_0 IB_1 IB_2 IB_f0 IB_f1 IB_f2
  have hs10 := hb.size
  try simp only [World.size_alloc, World.size_setCell] at hs10
  replace bw : Below w.heap.size w w10 := dy_end (by go_grown) hb
  replace m3 := Lv.on m3 hb
  replace m4 := Lv.on m4 hb
  replace m5 := Lv.on m5 hb
  replace HB := Blk.on HB hb
  replace IB := Blk.on IB hb
  clear hb
  have HB_0 := Blk.cell HB 0 rfl
  have HB_1 := Blk.cell HB 1 rfl
  have HB_2 := Blk.cell HB 2 rfl
  have HB_f0 := Blk.free HB 0
  have HB_f1 := Blk.free HB 1
  have HB_f2 := Blk.free HB 2
  have IB_0 := Blk.cell IB 0 rfl
  have IB_1 := Blk.cell IB 1 rfl
  have IB_2 := Blk.cell IB 2 rfl
  have IB_f0 := Blk.free IB 0
  have IB_f1 := Blk.free IB 1
  have IB_f2 := Blk.free IB 2
  replace m3 := Lv.put m3 IB (b6) (A6) (q6.length) (c6) (x6)
  replace m4 := Lv.put m4 IB (b6) (A6) (q6.length) (c6) (x6)
  replace m5 := Lv.put m5 IB (b6) (A6) (q6.length) (c6) (x6)
  replace m6 := Lv.put m6 IB (b6) (A6) (q6.length) (c6) (x6)
  replace HB := Blk.putO HB (g := w8.heap.size) (by omega) (.bool (b6)) (.slice (A6) (q6.length) (c6)) (.int .i64 (x6))
  replace IB := Dbx.put IB (b6) (A6) (q6.length) (c6) (x6)
  go_upto_region 15 with fail
  clear HB_0 HB_1 HB_2 HB_f0 HB_f1 HB_f2
  clear IB_0 IB_1 IB_2 IB_f0 IB_f1 IB_f2
  replace bw : Below w.heap.size w (((w10.setCell ⟨w8.heap.size, 0, none⟩ (.bool b6)).setCell ⟨w8.heap.size, 1, none⟩ (.slice A6 q6.length c6)).setCell ⟨w8.heap.size, 2, none⟩ (.int .i64 x6)) := by go_grown
  have ltHB := Blk.lt HB
  have ltIB := Blk.lt IB
  generalize (((w10.setCell ⟨w8.heap.size, 0, none⟩ (.bool b6)).setCell ⟨w8.heap.size, 1, none⟩ (.slice A6 q6.length c6)).setCell ⟨w8.heap.size, 2, none⟩ (.int .i64 x6)) = W3 at bw m3 m4 m5 m6 HB IB ltHB ltIB ⊢
  have HB_0 := Blk.cell HB 0 rfl
  have HB_1 := Blk.cell HB 1 rfl
  have HB_2 := Blk.cell HB 2 rfl
  have HB_f0 := Blk.free HB 0
  have HB_f1 := Blk.free HB 1
  have HB_f2 := Blk.free HB 2
  have IB_0 := Blk.cell IB 0 rfl
  have IB_1 := Blk.cell IB 1 rfl
  have IB_2 := Blk.cell IB 2 rfl
  have IB_f0 := Blk.free IB 0
  have IB_f1 := Blk.free IB 1
  have IB_f2 := Blk.free IB 2
  go_wp2_with fail
  with_reducible refine (dAdd_in m5 hd5 m6 hd6 (hT.onD (by go_grown)) i5 i6 (by omega) (by omega) (by omega) (by omega)).mono ?_
  rintro e w11 ⟨b7, q7, A7, c7, x7, rfl, hd7, m7, hb⟩
  clear HB_0 HB_1 HB_2 HB_f0 HB_f1 HB_f2
  clear IB_0 IB_1 IB_2 IB_f0 IB_f1 IB_f2
  have hs11 := hb.size
  try simp only [World.size_alloc, World.size_setCell] at hs11
  replace bw : Below w.heap.size w w11 := dy_end (by go_grown) hb
  replace m3 := Lv.on m3 hb
  replace m4 := Lv.on m4 hb
  replace m5 := Lv.on m5 hb
  replace m6 := Lv.on m6 hb
  replace HB := Blk.on HB hb
  replace IB := Blk.on IB hb
  clear hb
  have HB_0 := Blk.cell HB 0 rfl
  have HB_1 := Blk.cell HB 1 rfl
  have HB_2 := Blk.cell HB 2 rfl
  have HB_f0 := Blk.free HB 0
  have HB_f1 := Blk.free HB 1
  have HB_f2 := Blk.free HB 2
  have IB_0 := Blk.cell IB 0 rfl
  have IB_1 := Blk.cell IB 1 rfl
  have IB_2 := Blk.cell IB 2 rfl
  have IB_f0 := Blk.free IB 0
  have IB_f1 := Blk.free IB 1
  have IB_f2 := Blk.free IB 2
  replace m3 := Lv.alloc m3 (.cells #[.bool b7, .slice A7 q7.length c7, .int .i64 x7] 31)
  replace m4 := Lv.alloc m4 (.cells #[.bool b7, .slice A7 q7.length c7, .int .i64 x7] 31)
  replace m5 := Lv.alloc m5 (.cells #[.bool b7, .slice A7 q7.length c7, .int .i64 x7] 31)
  replace m6 := Lv.alloc m6 (.cells #[.bool b7, .slice A7 q7.length c7, .int .i64 x7] 31)
  replace m7 := Lv.alloc m7 (.cells #[.bool b7, .slice A7 q7.length c7, .int .i64 x7] 31)
  replace HB := Blk.alloc HB (.cells #[.bool b7, .slice A7 q7.length c7, .int .i64 x7] 31)
  replace IB := Blk.alloc IB (.cells #[.bool b7, .slice A7 q7.length c7, .int .i64 x7] 31)
  have TB := Blk.new w11 [.bool b7, .slice A7 q7.length c7, .int .i64 x7] 31
  have HB_v1_0 := Blk.cell HB 0 rfl
  have HB_v1_1 := Blk.cell HB 1 rfl
  have HB_v1_2 := Blk.cell HB 2 rfl
  have HB_v1_f0 := Blk.free HB 0
  have HB_v1_f1 := Blk.free HB 1
  have HB_v1_f2 := Blk.free HB 2
  have IB_v2_0 := Blk.cell IB 0 rfl
  have IB_v2_1 := Blk.cell IB 1 rfl
  have IB_v2_2 := Blk.cell IB 2 rfl
  have IB_v2_f0 := Blk.free IB 0
  have IB_v2_f1 := Blk.free IB 1
  have IB_v2_f2 := Blk.free IB 2
  have TB_0 := Blk.cell TB 0 rfl
  have TB_1 := Blk.cell TB 1 rfl
  have TB_2 := Blk.cell TB 2 rfl
  have TB_f0 := Blk.free TB 0
  have TB_f1 := Blk.free TB 1
  have TB_f2 := Blk.free TB 2
  go_upto_region 18 with fail
  clear HB_0 HB_1 HB_2 HB_f0 HB_f1 HB_f2 HB_v1_0 HB_v1_1 HB_v1_2 HB_v1_f0 HB_v1_f1 HB_v1_f2
  clear IB_0 IB_1 IB_2 IB_f0 IB_f1 IB_f2 IB_v2_0 IB_v2_1 IB_v2_2 IB_v2_f0 IB_v2_f1 IB_v2_f2
  clear TB_0 TB_1 TB_2 TB_f0 TB_f1 TB_f2
  replace bw : Below w.heap.size w (w11.alloc (.cells #[.bool b7, .slice A7 q7.length c7, .int .i64 x7] 31)) := by go_grown
  have ltHB := Blk.lt HB
  have ltIB := Blk.lt IB
  have ltTB := Blk.lt TB
  generalize (w11.alloc (.cells #[.bool b7, .slice A7 q7.length c7, .int .i64 x7] 31)) = W4 at bw m3 m4 m5 m6 m7 HB IB TB ltHB ltIB ltTB ⊢
  have HB_0 := Blk.cell HB 0 rfl
  have HB_1 := Blk.cell HB 1 rfl
  have HB_2 := Blk.cell HB 2 rfl
  have HB_f0 := Blk.free HB 0
  have HB_f1 := Blk.free HB 1
  have HB_f2 := Blk.free HB 2
  have IB_0 := Blk.cell IB 0 rfl
  have IB_1 := Blk.cell IB 1 rfl
  have IB_2 := Blk.cell IB 2 rfl
  have IB_f0 := Blk.free IB 0
  have IB_f1 := Blk.free IB 1
  have IB_f2 := Blk.free IB 2
  have TB_0 := Blk.cell TB 0 rfl
  have TB_1 := Blk.cell TB 1 rfl
  have TB_2 := Blk.cell TB 2 rfl
  have TB_f0 := Blk.free TB 0
  have TB_f1 := Blk.free TB 1
  have TB_f2 := Blk.free TB 2
  clear HB_0 HB_1 HB_2 HB_f0 HB_f1 HB_f2
  clear IB_0 IB_1 IB_2 IB_f0 IB_f1 IB_f2
  clear TB_0 TB_1 TB_2 TB_f0 TB_f1 TB_f2
  have hb : Below W4.heap.size W4 W4.drew := (Below.refl _ _).drew
  replace m3 := Lv.on m3 hb
  replace m4 := Lv.on m4 hb
  replace m5 := Lv.on m5 hb
  replace m6 := Lv.on m6 hb
  replace m7 := Lv.on m7 hb
  replace HB := Blk.on HB hb
  replace IB := Blk.on IB hb
  replace TB := Blk.on TB hb
  replace bw : Below w.heap.size w W4.drew := dy_end bw hb
  clear hb
  have HB_0 := Blk.cell HB 0 rfl
  have HB_1 := Blk.cell HB 1 rfl
  have HB_2 := Blk.cell HB 2 rfl
  have HB_f0 := Blk.free HB 0
  have HB_f1 := Blk.free HB 1
  have HB_f2 := Blk.free HB 2
  have IB_0 := Blk.cell IB 0 rfl
  have IB_1 := Blk.cell IB 1 rfl
  have IB_2 := Blk.cell IB 2 rfl
  have IB_f0 := Blk.free IB 0
  have IB_f1 := Blk.free IB 1
  have IB_f2 := Blk.free IB 2
  have TB_0 := Blk.cell TB 0 rfl
  have TB_1 := Blk.cell TB 1 rfl
  have TB_2 := Blk.cell TB 2 rfl
  have TB_f0 := Blk.free TB 0
  have TB_f1 := Blk.free TB 1
  have TB_f2 := Blk.free TB 2
  refine wp_region_held_drew (S := fun _ => True) (by kernel_rfl) trivial (fun _ => ?_)
  refine wpAnyH_ready (rs := [0, 1]) (by kernel_rfl) (by simp) ?_
  refine (AllReadyH.cons rfl (fun K hK => ?_) (AllReadyH.cons rfl (fun K hK => ?_) AllReadyH.nil))
  · go_simp
    refine hK.out _ _ trivial (fun _ => ?_)
    clear hK K
    try simp only [Act.put, List.setIfInBounds_toArray, List.set_cons_zero, List.set_cons_succ, List.getElem_toArray, List.getElem_cons_zero, List.getElem_cons_succ]
    refine wpAnyH_ready (rs := [1]) (by kernel_rfl) (by simp) ?_
    refine (AllReadyH.cons rfl (fun K hK => ?_) AllReadyH.nil)
    go_simp
    with_reducible refine (dWhole_any 1 (hT.onD (by go_grown)) (by omega) (by omega)).mono ?_
    rintro e w12 ⟨b9, q9, A9, c9, x9, rfl, hd9, m9, hb⟩
    clear HB_0 HB_1 HB_2 HB_f0 HB_f1 HB_f2
    clear IB_0 IB_1 IB_2 IB_f0 IB_f1 IB_f2
    clear TB_0 TB_1 TB_2 TB_f0 TB_f1 TB_f2
    replace bw : Below w.heap.size w w12 := dy_end (by go_grown) hb
    replace m3 := Lv.on m3 hb
    replace m4 := Lv.on m4 hb
    replace m5 := Lv.on m5 hb
    replace m6 := Lv.on m6 hb
    replace m7 := Lv.on m7 hb
    replace HB := Blk.on HB hb
    replace IB := Blk.on IB hb
    replace TB := Blk.on TB hb
    clear hb
    have HB_0 := Blk.cell HB 0 rfl
    have HB_1 := Blk.cell HB 1 rfl
    have HB_2 := Blk.cell HB 2 rfl
    have HB_f0 := Blk.free HB 0
    have HB_f1 := Blk.free HB 1
    have HB_f2 := Blk.free HB 2
    have IB_0 := Blk.cell IB 0 rfl
    have IB_1 := Blk.cell IB 1 rfl
    have IB_2 := Blk.cell IB 2 rfl
    have IB_f0 := Blk.free IB 0
    have IB_f1 := Blk.free IB 1
    have IB_f2 := Blk.free IB 2
    have TB_0 := Blk.cell TB 0 rfl
    have TB_1 := Blk.cell TB 1 rfl
    have TB_2 := Blk.cell TB 2 rfl
    have TB_f0 := Blk.free TB 0
    have TB_f1 := Blk.free TB 1
    have TB_f2 := Blk.free TB 2
    refine hK.out _ _ trivial (fun _ => ?_)
    clear hK K
    try simp only [Act.put, List.setIfInBounds_toArray, List.set_cons_zero, List.set_cons_succ, List.getElem_toArray, List.getElem_cons_zero, List.getElem_cons_succ]
    refine wpAnyH_ready (rs := [2]) (by kernel_rfl) (by simp) ?_
    refine (AllReadyH.cons rfl (fun K hK => ?_) AllReadyH.nil)
    go_simp
    with_reducible refine (dSub_in m7 hd7 m9 hd9 (hT.onD (by go_grown)) i7 (Nf.In.mono i9 (by omega) (by omega)) (by omega) (by omega) (by omega) (by omega)).mono ?_
    rintro e w13 ⟨b10, q10, A10, c10, x10, rfl, hd10, m10, hb⟩
    clear HB_0 HB_1 HB_2 HB_f0 HB_f1 HB_f2
    clear IB_0 IB_1 IB_2 IB_f0 IB_f1 IB_f2
    clear TB_0 TB_1 TB_2 TB_f0 TB_f1 TB_f2
    replace bw : Below w.heap.size w w13 := dy_end (by go_grown) hb
    replace m3 := Lv.on m3 hb
    replace m4 := Lv.on m4 hb
    replace m5 := Lv.on m5 hb
    replace m6 := Lv.on m6 hb
    replace m7 := Lv.on m7 hb
    replace m9 := Lv.on m9 hb
    replace HB := Blk.on HB hb
    replace IB := Blk.on IB hb
    replace TB := Blk.on TB hb
    clear hb
    have HB_0 := Blk.cell HB 0 rfl
    have HB_1 := Blk.cell HB 1 rfl
    have HB_2 := Blk.cell HB 2 rfl
    have HB_f0 := Blk.free HB 0
    have HB_f1 := Blk.free HB 1
    have HB_f2 := Blk.free HB 2
    have IB_0 := Blk.cell IB 0 rfl
    have IB_1 := Blk.cell IB 1 rfl
    have IB_2 := Blk.cell IB 2 rfl
    have IB_f0 := Blk.free IB 0
    have IB_f1 := Blk.free IB 1
    have IB_f2 := Blk.free IB 2
    have TB_0 := Blk.cell TB 0 rfl
    have TB_1 := Blk.cell TB 1 rfl
    have TB_2 := Blk.cell TB 2 rfl
    have TB_f0 := Blk.free TB 0
    have TB_f1 := Blk.free TB 1
    have TB_f2 := Blk.free TB 2
    refine hK.out _ _ trivial (fun _ => ?_)
    clear hK K
    try simp only [Act.put, List.setIfInBounds_toArray, List.set_cons_zero, List.set_cons_succ, List.getElem_toArray, List.getElem_cons_zero, List.getElem_cons_succ]
    refine wpAnyH_take (i := 3) (v := ?v3_1) rfl (by kernel_rfl) (by kernel_rfl) (by kernel_rfl) (fun _ _ _ h => h) (Or.inl ⟨by rfl, ?hy3_1⟩) (by trivial) ?rest3_1
    case hy3_1 => (intro w9 hSw; clear hSw; go_simp; try with_reducible rfl)
    simp only [Act.put, List.setIfInBounds_toArray, List.set_cons_zero, List.set_cons_succ, List.getElem_toArray, List.getElem_cons_zero, List.getElem_cons_succ]
    refine wpAnyH_take (i := 4) (v := ?v4_2) rfl (by kernel_rfl) (by kernel_rfl) (by kernel_rfl) (fun _ _ _ h => h) (Or.inl ⟨by rfl, ?hy4_2⟩) (by trivial) ?rest4_2
    case hy4_2 => (intro w9 hSw; clear hSw; go_simp; try with_reducible rfl)
    simp only [Act.put, List.setIfInBounds_toArray, List.set_cons_zero, List.set_cons_succ, List.getElem_toArray, List.getElem_cons_zero, List.getElem_cons_succ]
    refine wpAnyH_take (i := 5) (v := ?v5_3) rfl (by kernel_rfl) (by kernel_rfl) (by kernel_rfl) (fun _ _ _ h => h) (Or.inl ⟨by rfl, ?hy5_3⟩) (by trivial) ?rest5_3
    case hy5_3 => (intro w9 hSw; clear hSw; go_simp; try with_reducible rfl)
    simp only [Act.put, List.setIfInBounds_toArray, List.set_cons_zero, List.set_cons_succ, List.getElem_toArray, List.getElem_cons_zero, List.getElem_cons_succ]
    refine wpAnyH_ready (rs := [6]) (by kernel_rfl) (by simp) ?_
    refine (AllReadyH.cons rfl (fun K hK => ?_) AllReadyH.nil)
    go_simp
    clear HB_0 HB_1 HB_2 HB_f0 HB_f1 HB_f2
    clear IB_0 IB_1 IB_2 IB_f0 IB_f1 IB_f2
    clear TB_0 TB_1 TB_2 TB_f0 TB_f1 TB_f2
    replace m3 := Lv.put m3 TB (b10) (A10) (q10.length) (c10) (x10)
    replace m4 := Lv.put m4 TB (b10) (A10) (q10.length) (c10) (x10)
    replace m5 := Lv.put m5 TB (b10) (A10) (q10.length) (c10) (x10)
    replace m6 := Lv.put m6 TB (b10) (A10) (q10.length) (c10) (x10)
    replace m7 := Lv.put m7 TB (b10) (A10) (q10.length) (c10) (x10)
    replace m9 := Lv.put m9 TB (b10) (A10) (q10.length) (c10) (x10)
    replace m10 := Lv.put m10 TB (b10) (A10) (q10.length) (c10) (x10)
    replace HB := Blk.putO HB (g := w11.heap.size) (by omega) (.bool (b10)) (.slice (A10) (q10.length) (c10)) (.int .i64 (x10))
    replace IB := Blk.putO IB (g := w11.heap.size) (by omega) (.bool (b10)) (.slice (A10) (q10.length) (c10)) (.int .i64 (x10))
    replace TB := Dbx.put TB (b10) (A10) (q10.length) (c10) (x10)
    have HB_0 := Blk.cell HB 0 rfl
    have HB_1 := Blk.cell HB 1 rfl
    have HB_2 := Blk.cell HB 2 rfl
    have HB_f0 := Blk.free HB 0
    have HB_f1 := Blk.free HB 1
    have HB_f2 := Blk.free HB 2
    have IB_0 := Blk.cell IB 0 rfl
    have IB_1 := Blk.cell IB 1 rfl
    have IB_2 := Blk.cell IB 2 rfl
    have IB_f0 := Blk.free IB 0
    have IB_f1 := Blk.free IB 1
    have IB_f2 := Blk.free IB 2
    have TB_0 := Blk.cell TB 0 rfl
    have TB_1 := Blk.cell TB 1 rfl
    have TB_2 := Blk.cell TB 2 rfl
    have TB_f0 := Blk.free TB 0
    have TB_f1 := Blk.free TB 1
    have TB_f2 := Blk.free TB 2
    refine hK.out _ _ trivial (fun _ => ?_)
    clear hK K
    try simp only [Act.put, List.setIfInBounds_toArray, List.set_cons_zero, List.set_cons_succ, List.getElem_toArray, List.getElem_cons_zero, List.getElem_cons_succ]
    refine wpAnyH_ready (rs := [7]) (by kernel_rfl) (by simp) ?_
    refine (AllReadyH.cons rfl (fun K hK => ?_) AllReadyH.nil)
    go_simp
    refine hK.out _ _ trivial (fun _ => ?_)
    clear hK K
    try simp only [Act.put, List.setIfInBounds_toArray, List.set_cons_zero, List.set_cons_succ, List.getElem_toArray, List.getElem_cons_zero, List.getElem_cons_succ]
    refine wpAnyH_done (by kernel_rfl) ?_ _
    go_upto_region 21 with fail
    clear HB_0 HB_1 HB_2 HB_f0 HB_f1 HB_f2
    clear IB_0 IB_1 IB_2 IB_f0 IB_f1 IB_f2
    clear TB_0 TB_1 TB_2 TB_f0 TB_f1 TB_f2
    replace bw : Below w.heap.size w (((w13.setCell ⟨w11.heap.size, 0, none⟩ (.bool b10)).setCell ⟨w11.heap.size, 1, none⟩ (.slice A10 q10.length c10)).setCell ⟨w11.heap.size, 2, none⟩ (.int .i64 x10)) := by go_grown
    have ltHB := Blk.lt HB
    have ltIB := Blk.lt IB
    have ltTB := Blk.lt TB
    generalize (((w13.setCell ⟨w11.heap.size, 0, none⟩ (.bool b10)).setCell ⟨w11.heap.size, 1, none⟩ (.slice A10 q10.length c10)).setCell ⟨w11.heap.size, 2, none⟩ (.int .i64 x10)) = W5 at bw m3 m4 m5 m6 m7 m9 m10 HB IB TB ltHB ltIB ltTB ⊢
    have HB_0 := Blk.cell HB 0 rfl
    have HB_1 := Blk.cell HB 1 rfl
    have HB_2 := Blk.cell HB 2 rfl
    have HB_f0 := Blk.free HB 0
    have HB_f1 := Blk.free HB 1
    have HB_f2 := Blk.free HB 2
    have IB_0 := Blk.cell IB 0 rfl
    have IB_1 := Blk.cell IB 1 rfl
    have IB_2 := Blk.cell IB 2 rfl
    have IB_f0 := Blk.free IB 0
    have IB_f1 := Blk.free IB 1
    have IB_f2 := Blk.free IB 2
    have TB_0 := Blk.cell TB 0 rfl
    have TB_1 := Blk.cell TB 1 rfl
    have TB_2 := Blk.cell TB 2 rfl
    have TB_f0 := Blk.free TB 0
    have TB_f1 := Blk.free TB 1
    have TB_f2 := Blk.free TB 2
    go_wp2_with fail
    with_reducible refine (tAbs m10 hd10 (hT.onD (by go_grown)) (Nf.In.mono i10 (by omega) (by omega))).mono ?_
    rintro e w14 ⟨b11, q11, A11, c11, x11, rfl, hd11, m11, hb⟩
    clear HB_0 HB_1 HB_2 HB_f0 HB_f1 HB_f2
    clear IB_0 IB_1 IB_2 IB_f0 IB_f1 IB_f2
    clear TB_0 TB_1 TB_2 TB_f0 TB_f1 TB_f2
    have hs14 := hb.size
    try simp only [World.size_alloc, World.size_setCell] at hs14
    replace bw : Below w.heap.size w w14 := dy_end (by go_grown) hb
    replace m3 := Lv.on m3 hb
    replace m4 := Lv.on m4 hb
    replace m5 := Lv.on m5 hb
    replace m6 := Lv.on m6 hb
    replace m7 := Lv.on m7 hb
    replace m9 := Lv.on m9 hb
    replace m10 := Lv.on m10 hb
    replace HB := Blk.on HB hb
    replace IB := Blk.on IB hb
    replace TB := Blk.on TB hb
    clear hb
    have HB_0 := Blk.cell HB 0 rfl
    have HB_1 := Blk.cell HB 1 rfl
    have HB_2 := Blk.cell HB 2 rfl
    have HB_f0 := Blk.free HB 0
    have HB_f1 := Blk.free HB 1
    have HB_f2 := Blk.free HB 2
    have IB_0 := Blk.cell IB 0 rfl
    have IB_1 := Blk.cell IB 1 rfl
    have IB_2 := Blk.cell IB 2 rfl
    have IB_f0 := Blk.free IB 0
    have IB_f1 := Blk.free IB 1
    have IB_f2 := Blk.free IB 2
    have TB_0 := Blk.cell TB 0 rfl
    have TB_1 := Blk.cell TB 1 rfl
    have TB_2 := Blk.cell TB 2 rfl
    have TB_f0 := Blk.free TB 0
    have TB_f1 := Blk.free TB 1
    have TB_f2 := Blk.free TB 2
    replace m3 := Lv.put m3 TB (b11) (A11) (q11.length) (c11) (x11)
    replace m4 := Lv.put m4 TB (b11) (A11) (q11.length) (c11) (x11)
    replace m5 := Lv.put m5 TB (b11) (A11) (q11.length) (c11) (x11)
    replace m6 := Lv.put m6 TB (b11) (A11) (q11.length) (c11) (x11)
    replace m7 := Lv.put m7 TB (b11) (A11) (q11.length) (c11) (x11)
    replace m9 := Lv.put m9 TB (b11) (A11) (q11.length) (c11) (x11)
    replace m10 := Lv.put m10 TB (b11) (A11) (q11.length) (c11) (x11)
    replace m11 := Lv.put m11 TB (b11) (A11) (q11.length) (c11) (x11)
    replace HB := Blk.putO HB (g := w11.heap.size) (by omega) (.bool (b11)) (.slice (A11) (q11.length) (c11)) (.int .i64 (x11))
    replace IB := Blk.putO IB (g := w11.heap.size) (by omega) (.bool (b11)) (.slice (A11) (q11.length) (c11)) (.int .i64 (x11))
    replace TB := Dbx.put TB (b11) (A11) (q11.length) (c11) (x11)
    go_upto_region 24 with fail
    clear HB_0 HB_1 HB_2 HB_f0 HB_f1 HB_f2
    clear IB_0 IB_1 IB_2 IB_f0 IB_f1 IB_f2
    clear TB_0 TB_1 TB_2 TB_f0 TB_f1 TB_f2
    replace bw : Below w.heap.size w (((w14.setCell ⟨w11.heap.size, 0, none⟩ (.bool b11)).setCell ⟨w11.heap.size, 1, none⟩ (.slice A11 q11.length c11)).setCell ⟨w11.heap.size, 2, none⟩ (.int .i64 x11)) := by go_grown
    have ltHB := Blk.lt HB
    have ltIB := Blk.lt IB
    have ltTB := Blk.lt TB
    generalize (((w14.setCell ⟨w11.heap.size, 0, none⟩ (.bool b11)).setCell ⟨w11.heap.size, 1, none⟩ (.slice A11 q11.length c11)).setCell ⟨w11.heap.size, 2, none⟩ (.int .i64 x11)) = W6 at bw m3 m4 m5 m6 m7 m9 m10 m11 HB IB TB ltHB ltIB ltTB ⊢
    have HB_0 := Blk.cell HB 0 rfl
    have HB_1 := Blk.cell HB 1 rfl
    have HB_2 := Blk.cell HB 2 rfl
    have HB_f0 := Blk.free HB 0
    have HB_f1 := Blk.free HB 1
    have HB_f2 := Blk.free HB 2
    have IB_0 := Blk.cell IB 0 rfl
    have IB_1 := Blk.cell IB 1 rfl
    have IB_2 := Blk.cell IB 2 rfl
    have IB_f0 := Blk.free IB 0
    have IB_f1 := Blk.free IB 1
    have IB_f2 := Blk.free IB 2
    have TB_0 := Blk.cell TB 0 rfl
    have TB_1 := Blk.cell TB 1 rfl
    have TB_2 := Blk.cell TB 2 rfl
    have TB_f0 := Blk.free TB 0
    have TB_f1 := Blk.free TB 1
    have TB_f2 := Blk.free TB 2
    go_wp2_with fail
    with_reducible refine (tHalf _).mono ?_
    rintro e w15 ⟨b12, q12, A12, c12, x12, rfl, hd12, m12, hb⟩
    clear HB_0 HB_1 HB_2 HB_f0 HB_f1 HB_f2
    clear IB_0 IB_1 IB_2 IB_f0 IB_f1 IB_f2
    clear TB_0 TB_1 TB_2 TB_f0 TB_f1 TB_f2
    have hs15 := hb.size
    try simp only [World.size_alloc, World.size_setCell] at hs15
    replace bw : Below w.heap.size w w15 := dy_end (by go_grown) hb
    replace m3 := Lv.on m3 hb
    replace m4 := Lv.on m4 hb
    replace m5 := Lv.on m5 hb
    replace m6 := Lv.on m6 hb
    replace m7 := Lv.on m7 hb
    replace m9 := Lv.on m9 hb
    replace m10 := Lv.on m10 hb
    replace m11 := Lv.on m11 hb
    replace HB := Blk.on HB hb
    replace IB := Blk.on IB hb
    replace TB := Blk.on TB hb
    clear hb
    have HB_0 := Blk.cell HB 0 rfl
    have HB_1 := Blk.cell HB 1 rfl
    have HB_2 := Blk.cell HB 2 rfl
    have HB_f0 := Blk.free HB 0
    have HB_f1 := Blk.free HB 1
    have HB_f2 := Blk.free HB 2
    have IB_0 := Blk.cell IB 0 rfl
    have IB_1 := Blk.cell IB 1 rfl
    have IB_2 := Blk.cell IB 2 rfl
    have IB_f0 := Blk.free IB 0
    have IB_f1 := Blk.free IB 1
    have IB_f2 := Blk.free IB 2
    have TB_0 := Blk.cell TB 0 rfl
    have TB_1 := Blk.cell TB 1 rfl
    have TB_2 := Blk.cell TB 2 rfl
    have TB_f0 := Blk.free TB 0
    have TB_f1 := Blk.free TB 1
    have TB_f2 := Blk.free TB 2
    replace m3 := Lv.alloc m3 (.cells #[.bool b12, .slice A12 q12.length c12, .int .i64 x12] 31)
    replace m4 := Lv.alloc m4 (.cells #[.bool b12, .slice A12 q12.length c12, .int .i64 x12] 31)
    replace m5 := Lv.alloc m5 (.cells #[.bool b12, .slice A12 q12.length c12, .int .i64 x12] 31)
    replace m6 := Lv.alloc m6 (.cells #[.bool b12, .slice A12 q12.length c12, .int .i64 x12] 31)
    replace m7 := Lv.alloc m7 (.cells #[.bool b12, .slice A12 q12.length c12, .int .i64 x12] 31)
    replace m9 := Lv.alloc m9 (.cells #[.bool b12, .slice A12 q12.length c12, .int .i64 x12] 31)
    replace m10 := Lv.alloc m10 (.cells #[.bool b12, .slice A12 q12.length c12, .int .i64 x12] 31)
    replace m11 := Lv.alloc m11 (.cells #[.bool b12, .slice A12 q12.length c12, .int .i64 x12] 31)
    replace m12 := Lv.alloc m12 (.cells #[.bool b12, .slice A12 q12.length c12, .int .i64 x12] 31)
    replace HB := Blk.alloc HB (.cells #[.bool b12, .slice A12 q12.length c12, .int .i64 x12] 31)
    replace IB := Blk.alloc IB (.cells #[.bool b12, .slice A12 q12.length c12, .int .i64 x12] 31)
    replace TB := Blk.alloc TB (.cells #[.bool b12, .slice A12 q12.length c12, .int .i64 x12] 31)
    have MB := Blk.new w15 [.bool b12, .slice A12 q12.length c12, .int .i64 x12] 31
    have HB_v3_0 := Blk.cell HB 0 rfl
    have HB_v3_1 := Blk.cell HB 1 rfl
    have HB_v3_2 := Blk.cell HB 2 rfl
    have HB_v3_f0 := Blk.free HB 0
    have HB_v3_f1 := Blk.free HB 1
    have HB_v3_f2 := Blk.free HB 2
    have IB_v4_0 := Blk.cell IB 0 rfl
    have IB_v4_1 := Blk.cell IB 1 rfl
    have IB_v4_2 := Blk.cell IB 2 rfl
    have IB_v4_f0 := Blk.free IB 0
    have IB_v4_f1 := Blk.free IB 1
    have IB_v4_f2 := Blk.free IB 2
    have TB_v5_0 := Blk.cell TB 0 rfl
    have TB_v5_1 := Blk.cell TB 1 rfl
    have TB_v5_2 := Blk.cell TB 2 rfl
    have TB_v5_f0 := Blk.free TB 0
    have TB_v5_f1 := Blk.free TB 1
    have TB_v5_f2 := Blk.free TB 2
    have MB_0 := Blk.cell MB 0 rfl
    have MB_1 := Blk.cell MB 1 rfl
    have MB_2 := Blk.cell MB 2 rfl
    have MB_f0 := Blk.free MB 0
    have MB_f1 := Blk.free MB 1
    have MB_f2 := Blk.free MB 2
    go_upto_region 27 with fail
    clear HB_0 HB_1 HB_2 HB_f0 HB_f1 HB_f2 HB_v3_0 HB_v3_1 HB_v3_2 HB_v3_f0 HB_v3_f1 HB_v3_f2
    clear IB_0 IB_1 IB_2 IB_f0 IB_f1 IB_f2 IB_v4_0 IB_v4_1 IB_v4_2 IB_v4_f0 IB_v4_f1 IB_v4_f2
    clear TB_0 TB_1 TB_2 TB_f0 TB_f1 TB_f2 TB_v5_0 TB_v5_1 TB_v5_2 TB_v5_f0 TB_v5_f1 TB_v5_f2
    clear MB_0 MB_1 MB_2 MB_f0 MB_f1 MB_f2
    replace bw : Below w.heap.size w (w15.alloc (.cells #[.bool b12, .slice A12 q12.length c12, .int .i64 x12] 31)) := by go_grown
    have ltHB := Blk.lt HB
    have ltIB := Blk.lt IB
    have ltTB := Blk.lt TB
    have ltMB := Blk.lt MB
    generalize (w15.alloc (.cells #[.bool b12, .slice A12 q12.length c12, .int .i64 x12] 31)) = W7 at bw m3 m4 m5 m6 m7 m9 m10 m11 m12 HB IB TB MB ltHB ltIB ltTB ltMB ⊢
    have HB_0 := Blk.cell HB 0 rfl
    have HB_1 := Blk.cell HB 1 rfl
    have HB_2 := Blk.cell HB 2 rfl
    have HB_f0 := Blk.free HB 0
    have HB_f1 := Blk.free HB 1
    have HB_f2 := Blk.free HB 2
    have IB_0 := Blk.cell IB 0 rfl
    have IB_1 := Blk.cell IB 1 rfl
    have IB_2 := Blk.cell IB 2 rfl
    have IB_f0 := Blk.free IB 0
    have IB_f1 := Blk.free IB 1
    have IB_f2 := Blk.free IB 2
    have TB_0 := Blk.cell TB 0 rfl
    have TB_1 := Blk.cell TB 1 rfl
    have TB_2 := Blk.cell TB 2 rfl
    have TB_f0 := Blk.free TB 0
    have TB_f1 := Blk.free TB 1
    have TB_f2 := Blk.free TB 2
    have MB_0 := Blk.cell MB 0 rfl
    have MB_1 := Blk.cell MB 1 rfl
    have MB_2 := Blk.cell MB 2 rfl
    have MB_f0 := Blk.free MB 0
    have MB_f1 := Blk.free MB 1
    have MB_f2 := Blk.free MB 2
    go_wp2_with fail
    with_reducible refine (nCmp m11 (Nst.of hd11 m11.lim (Nf.In.mono i11 (by omega) (by omega))) m12 (Nst.of hd12 m12.lim halfN_in) (hT.onD (by go_grown)) (Nf.In.mono i11 (by omega) (by omega)) halfN_in HSG.out).mono ?_
    rintro e w16 ⟨rfl, hb⟩
    clear HB_0 HB_1 HB_2 HB_f0 HB_f1 HB_f2
    clear IB_0 IB_1 IB_2 IB_f0 IB_f1 IB_f2
    clear TB_0 TB_1 TB_2 TB_f0 TB_f1 TB_f2
    clear MB_0 MB_1 MB_2 MB_f0 MB_f1 MB_f2
    have hs16 := hb.size
    try simp only [World.size_alloc, World.size_setCell] at hs16
    replace bw : Below w.heap.size w w16 := dy_end (by go_grown) hb
    replace m3 := Lv.on m3 hb
    replace m4 := Lv.on m4 hb
    replace m5 := Lv.on m5 hb
    replace m6 := Lv.on m6 hb
    replace m7 := Lv.on m7 hb
    replace m9 := Lv.on m9 hb
    replace m10 := Lv.on m10 hb
    replace m11 := Lv.on m11 hb
    replace m12 := Lv.on m12 hb
    replace HB := Blk.on HB hb
    replace IB := Blk.on IB hb
    replace TB := Blk.on TB hb
    replace MB := Blk.on MB hb
    clear hb
    have HB_0 := Blk.cell HB 0 rfl
    have HB_1 := Blk.cell HB 1 rfl
    have HB_2 := Blk.cell HB 2 rfl
    have HB_f0 := Blk.free HB 0
    have HB_f1 := Blk.free HB 1
    have HB_f2 := Blk.free HB 2
    have IB_0 := Blk.cell IB 0 rfl
    have IB_1 := Blk.cell IB 1 rfl
    have IB_2 := Blk.cell IB 2 rfl
    have IB_f0 := Blk.free IB 0
    have IB_f1 := Blk.free IB 1
    have IB_f2 := Blk.free IB 2
    have TB_0 := Blk.cell TB 0 rfl
    have TB_1 := Blk.cell TB 1 rfl
    have TB_2 := Blk.cell TB 2 rfl
    have TB_f0 := Blk.free TB 0
    have TB_f1 := Blk.free TB 1
    have TB_f2 := Blk.free TB 2
    have MB_0 := Blk.cell MB 0 rfl
    have MB_1 := Blk.cell MB 1 rfl
    have MB_2 := Blk.cell MB 2 rfl
    have MB_f0 := Blk.free MB 0
    have MB_f1 := Blk.free MB 1
    have MB_f2 := Blk.free MB 2
    go_wp2_with fail
    with_reducible refine (tL _).mono ?_
    rintro e v17 ⟨rfl, rfl⟩
    go_wp2_with fail
    with_reducible refine (tH2 _).mono ?_
    rintro e w18 ⟨rfl, hb⟩
    clear HB_0 HB_1 HB_2 HB_f0 HB_f1 HB_f2
    clear IB_0 IB_1 IB_2 IB_f0 IB_f1 IB_f2
    clear TB_0 TB_1 TB_2 TB_f0 TB_f1 TB_f2
    clear MB_0 MB_1 MB_2 MB_f0 MB_f1 MB_f2
    have hs18 := hb.size
    try simp only [World.size_alloc, World.size_setCell] at hs18
    replace bw : Below w.heap.size w w18 := dy_end (by go_grown) hb
    replace m3 := Lv.on m3 hb
    replace m4 := Lv.on m4 hb
    replace m5 := Lv.on m5 hb
    replace m6 := Lv.on m6 hb
    replace m7 := Lv.on m7 hb
    replace m9 := Lv.on m9 hb
    replace m10 := Lv.on m10 hb
    replace m11 := Lv.on m11 hb
    replace m12 := Lv.on m12 hb
    replace HB := Blk.on HB hb
    replace IB := Blk.on IB hb
    replace TB := Blk.on TB hb
    replace MB := Blk.on MB hb
    clear hb
    have HB_0 := Blk.cell HB 0 rfl
    have HB_1 := Blk.cell HB 1 rfl
    have HB_2 := Blk.cell HB 2 rfl
    have HB_f0 := Blk.free HB 0
    have HB_f1 := Blk.free HB 1
    have HB_f2 := Blk.free HB 2
    have IB_0 := Blk.cell IB 0 rfl
    have IB_1 := Blk.cell IB 1 rfl
    have IB_2 := Blk.cell IB 2 rfl
    have IB_f0 := Blk.free IB 0
    have IB_f1 := Blk.free IB 1
    have IB_f2 := Blk.free IB 2
    have TB_0 := Blk.cell TB 0 rfl
    have TB_1 := Blk.cell TB 1 rfl
    have TB_2 := Blk.cell TB 2 rfl
    have TB_f0 := Blk.free TB 0
    have TB_f1 := Blk.free TB 1
    have TB_f2 := Blk.free TB 2
    have MB_0 := Blk.cell MB 0 rfl
    have MB_1 := Blk.cell MB 1 rfl
    have MB_2 := Blk.cell MB 2 rfl
    have MB_f0 := Blk.free MB 0
    have MB_f1 := Blk.free MB 1
    have MB_f2 := Blk.free MB 2
    go_wp2_with fail
    with_reducible refine (tS _).mono ?_
    rintro e v19 ⟨rfl, rfl⟩
    go_wp2_with fail
    with_reducible refine (tN2 _).mono ?_
    rintro e w20 ⟨rfl, hb⟩
    clear HB_0 HB_1 HB_2 HB_f0 HB_f1 HB_f2
    clear IB_0 IB_1 IB_2 IB_f0 IB_f1 IB_f2
    clear TB_0 TB_1 TB_2 TB_f0 TB_f1 TB_f2
    clear MB_0 MB_1 MB_2 MB_f0 MB_f1 MB_f2
    have hs20 := hb.size
    try simp only [World.size_alloc, World.size_setCell] at hs20
    replace bw : Below w.heap.size w w20 := dy_end (by go_grown) hb
    replace m3 := Lv.on m3 hb
    replace m4 := Lv.on m4 hb
    replace m5 := Lv.on m5 hb
    replace m6 := Lv.on m6 hb
    replace m7 := Lv.on m7 hb
    replace m9 := Lv.on m9 hb
    replace m10 := Lv.on m10 hb
    replace m11 := Lv.on m11 hb
    replace m12 := Lv.on m12 hb
    replace HB := Blk.on HB hb
    replace IB := Blk.on IB hb
    replace TB := Blk.on TB hb
    replace MB := Blk.on MB hb
    clear hb
    have HB_0 := Blk.cell HB 0 rfl
    have HB_1 := Blk.cell HB 1 rfl
    have HB_2 := Blk.cell HB 2 rfl
    have HB_f0 := Blk.free HB 0
    have HB_f1 := Blk.free HB 1
    have HB_f2 := Blk.free HB 2
    have IB_0 := Blk.cell IB 0 rfl
    have IB_1 := Blk.cell IB 1 rfl
    have IB_2 := Blk.cell IB 2 rfl
    have IB_f0 := Blk.free IB 0
    have IB_f1 := Blk.free IB 1
    have IB_f2 := Blk.free IB 2
    have TB_0 := Blk.cell TB 0 rfl
    have TB_1 := Blk.cell TB 1 rfl
    have TB_2 := Blk.cell TB 2 rfl
    have TB_f0 := Blk.free TB 0
    have TB_f1 := Blk.free TB 1
    have TB_f2 := Blk.free TB 2
    have MB_0 := Blk.cell MB 0 rfl
    have MB_1 := Blk.cell MB 1 rfl
    have MB_2 := Blk.cell MB 2 rfl
    have MB_f0 := Blk.free MB 0
    have MB_f1 := Blk.free MB 1
    have MB_f2 := Blk.free MB 2
    go_wp2_with fail
    with_reducible refine (tN _).mono ?_
    rintro e w21 ⟨rfl, hb⟩
    clear HB_0 HB_1 HB_2 HB_f0 HB_f1 HB_f2
    clear IB_0 IB_1 IB_2 IB_f0 IB_f1 IB_f2
    clear TB_0 TB_1 TB_2 TB_f0 TB_f1 TB_f2
    clear MB_0 MB_1 MB_2 MB_f0 MB_f1 MB_f2
    have hs21 := hb.size
    try simp only [World.size_alloc, World.size_setCell] at hs21
    replace bw : Below w.heap.size w w21 := dy_end (by go_grown) hb
    replace m3 := Lv.on m3 hb
    replace m4 := Lv.on m4 hb
    replace m5 := Lv.on m5 hb
    replace m6 := Lv.on m6 hb
    replace m7 := Lv.on m7 hb
    replace m9 := Lv.on m9 hb
    replace m10 := Lv.on m10 hb
    replace m11 := Lv.on m11 hb
    replace m12 := Lv.on m12 hb
    replace HB := Blk.on HB hb
    replace IB := Blk.on IB hb
    replace TB := Blk.on TB hb
    replace MB := Blk.on MB hb
    clear hb
    have HB_0 := Blk.cell HB 0 rfl
    have HB_1 := Blk.cell HB 1 rfl
    have HB_2 := Blk.cell HB 2 rfl
    have HB_f0 := Blk.free HB 0
    have HB_f1 := Blk.free HB 1
    have HB_f2 := Blk.free HB 2
    have IB_0 := Blk.cell IB 0 rfl
    have IB_1 := Blk.cell IB 1 rfl
    have IB_2 := Blk.cell IB 2 rfl
    have IB_f0 := Blk.free IB 0
    have IB_f1 := Blk.free IB 1
    have IB_f2 := Blk.free IB 2
    have TB_0 := Blk.cell TB 0 rfl
    have TB_1 := Blk.cell TB 1 rfl
    have TB_2 := Blk.cell TB 2 rfl
    have TB_f0 := Blk.free TB 0
    have TB_f1 := Blk.free TB 1
    have TB_f2 := Blk.free TB 2
    have MB_0 := Blk.cell MB 0 rfl
    have MB_1 := Blk.cell MB 1 rfl
    have MB_2 := Blk.cell MB 2 rfl
    have MB_f0 := Blk.free MB 0
    have MB_f1 := Blk.free MB 1
    have MB_f2 := Blk.free MB 2
    go_wp2_with fail
    with_reducible refine (tS _).mono ?_
    rintro e v22 ⟨rfl, rfl⟩
    go_wp2_with fail
    with_reducible refine (known_all _).mono ?_
    rintro e w23 ⟨rfl, hb⟩
    clear HB_0 HB_1 HB_2 HB_f0 HB_f1 HB_f2
    clear IB_0 IB_1 IB_2 IB_f0 IB_f1 IB_f2
    clear TB_0 TB_1 TB_2 TB_f0 TB_f1 TB_f2
    clear MB_0 MB_1 MB_2 MB_f0 MB_f1 MB_f2
    have hs23 := hb.size
    try simp only [World.size_alloc, World.size_setCell] at hs23
    replace bw : Below w.heap.size w w23 := dy_end (by go_grown) hb
    replace m3 := Lv.on m3 hb
    replace m4 := Lv.on m4 hb
    replace m5 := Lv.on m5 hb
    replace m6 := Lv.on m6 hb
    replace m7 := Lv.on m7 hb
    replace m9 := Lv.on m9 hb
    replace m10 := Lv.on m10 hb
    replace m11 := Lv.on m11 hb
    replace m12 := Lv.on m12 hb
    replace HB := Blk.on HB hb
    replace IB := Blk.on IB hb
    replace TB := Blk.on TB hb
    replace MB := Blk.on MB hb
    clear hb
    have HB_0 := Blk.cell HB 0 rfl
    have HB_1 := Blk.cell HB 1 rfl
    have HB_2 := Blk.cell HB 2 rfl
    have HB_f0 := Blk.free HB 0
    have HB_f1 := Blk.free HB 1
    have HB_f2 := Blk.free HB 2
    have IB_0 := Blk.cell IB 0 rfl
    have IB_1 := Blk.cell IB 1 rfl
    have IB_2 := Blk.cell IB 2 rfl
    have IB_f0 := Blk.free IB 0
    have IB_f1 := Blk.free IB 1
    have IB_f2 := Blk.free IB 2
    have TB_0 := Blk.cell TB 0 rfl
    have TB_1 := Blk.cell TB 1 rfl
    have TB_2 := Blk.cell TB 2 rfl
    have TB_f0 := Blk.free TB 0
    have TB_f1 := Blk.free TB 1
    have TB_f2 := Blk.free TB 2
    have MB_0 := Blk.cell MB 0 rfl
    have MB_1 := Blk.cell MB 1 rfl
    have MB_2 := Blk.cell MB 2 rfl
    have MB_f0 := Blk.free MB 0
    have MB_f1 := Blk.free MB 1
    have MB_f2 := Blk.free MB 2
    go_wp2_with fail
    go_ret
    exact ⟨rfl, by go_grown⟩
  · go_simp
    with_reducible refine (dWhole_any 1 (hT.onD (by go_grown)) (by omega) (by omega)).mono ?_
    rintro e w24 ⟨b9, q9, A9, c9, x9, rfl, hd9, m9, hb⟩
    clear HB_0 HB_1 HB_2 HB_f0 HB_f1 HB_f2
    clear IB_0 IB_1 IB_2 IB_f0 IB_f1 IB_f2
    clear TB_0 TB_1 TB_2 TB_f0 TB_f1 TB_f2
    replace bw : Below w.heap.size w w24 := dy_end (by go_grown) hb
    replace m3 := Lv.on m3 hb
    replace m4 := Lv.on m4 hb
    replace m5 := Lv.on m5 hb
    replace m6 := Lv.on m6 hb
    replace m7 := Lv.on m7 hb
    replace HB := Blk.on HB hb
    replace IB := Blk.on IB hb
    replace TB := Blk.on TB hb
    clear hb
    have HB_0 := Blk.cell HB 0 rfl
    have HB_1 := Blk.cell HB 1 rfl
    have HB_2 := Blk.cell HB 2 rfl
    have HB_f0 := Blk.free HB 0
    have HB_f1 := Blk.free HB 1
    have HB_f2 := Blk.free HB 2
    have IB_0 := Blk.cell IB 0 rfl
    have IB_1 := Blk.cell IB 1 rfl
    have IB_2 := Blk.cell IB 2 rfl
    have IB_f0 := Blk.free IB 0
    have IB_f1 := Blk.free IB 1
    have IB_f2 := Blk.free IB 2
    have TB_0 := Blk.cell TB 0 rfl
    have TB_1 := Blk.cell TB 1 rfl
    have TB_2 := Blk.cell TB 2 rfl
    have TB_f0 := Blk.free TB 0
    have TB_f1 := Blk.free TB 1
    have TB_f2 := Blk.free TB 2
    refine hK.out _ _ trivial (fun _ => ?_)
    clear hK K
    try simp only [Act.put, List.setIfInBounds_toArray, List.set_cons_zero, List.set_cons_succ, List.getElem_toArray, List.getElem_cons_zero, List.getElem_cons_succ]
    refine wpAnyH_ready (rs := [0]) (by kernel_rfl) (by simp) ?_
    refine (AllReadyH.cons rfl (fun K hK => ?_) AllReadyH.nil)
    go_simp
    refine hK.out _ _ trivial (fun _ => ?_)
    clear hK K
    try simp only [Act.put, List.setIfInBounds_toArray, List.set_cons_zero, List.set_cons_succ, List.getElem_toArray, List.getElem_cons_zero, List.getElem_cons_succ]
    refine wpAnyH_ready (rs := [2]) (by kernel_rfl) (by simp) ?_
    refine (AllReadyH.cons rfl (fun K hK => ?_) AllReadyH.nil)
    go_simp
    with_reducible refine (dSub_in m7 hd7 m9 hd9 (hT.onD (by go_grown)) i7 (Nf.In.mono i9 (by omega) (by omega)) (by omega) (by omega) (by omega) (by omega)).mono ?_
    rintro e w25 ⟨b10, q10, A10, c10, x10, rfl, hd10, m10, hb⟩
    clear HB_0 HB_1 HB_2 HB_f0 HB_f1 HB_f2
    clear IB_0 IB_1 IB_2 IB_f0 IB_f1 IB_f2
    clear TB_0 TB_1 TB_2 TB_f0 TB_f1 TB_f2
    replace bw : Below w.heap.size w w25 := dy_end (by go_grown) hb
    replace m3 := Lv.on m3 hb
    replace m4 := Lv.on m4 hb
    replace m5 := Lv.on m5 hb
    replace m6 := Lv.on m6 hb
    replace m7 := Lv.on m7 hb
    replace m9 := Lv.on m9 hb
    replace HB := Blk.on HB hb
    replace IB := Blk.on IB hb
    replace TB := Blk.on TB hb
    clear hb
    have HB_0 := Blk.cell HB 0 rfl
    have HB_1 := Blk.cell HB 1 rfl
    have HB_2 := Blk.cell HB 2 rfl
    have HB_f0 := Blk.free HB 0
    have HB_f1 := Blk.free HB 1
    have HB_f2 := Blk.free HB 2
    have IB_0 := Blk.cell IB 0 rfl
    have IB_1 := Blk.cell IB 1 rfl
    have IB_2 := Blk.cell IB 2 rfl
    have IB_f0 := Blk.free IB 0
    have IB_f1 := Blk.free IB 1
    have IB_f2 := Blk.free IB 2
    have TB_0 := Blk.cell TB 0 rfl
    have TB_1 := Blk.cell TB 1 rfl
    have TB_2 := Blk.cell TB 2 rfl
    have TB_f0 := Blk.free TB 0
    have TB_f1 := Blk.free TB 1
    have TB_f2 := Blk.free TB 2
    refine hK.out _ _ trivial (fun _ => ?_)
    clear hK K
    try simp only [Act.put, List.setIfInBounds_toArray, List.set_cons_zero, List.set_cons_succ, List.getElem_toArray, List.getElem_cons_zero, List.getElem_cons_succ]
    refine wpAnyH_take (i := 3) (v := ?v3_4) rfl (by kernel_rfl) (by kernel_rfl) (by kernel_rfl) (fun _ _ _ h => h) (Or.inl ⟨by rfl, ?hy3_4⟩) (by trivial) ?rest3_4
    case hy3_4 => (intro w9 hSw; clear hSw; go_simp; try with_reducible rfl)
    simp only [Act.put, List.setIfInBounds_toArray, List.set_cons_zero, List.set_cons_succ, List.getElem_toArray, List.getElem_cons_zero, List.getElem_cons_succ]
    refine wpAnyH_take (i := 4) (v := ?v4_5) rfl (by kernel_rfl) (by kernel_rfl) (by kernel_rfl) (fun _ _ _ h => h) (Or.inl ⟨by rfl, ?hy4_5⟩) (by trivial) ?rest4_5
    case hy4_5 => (intro w9 hSw; clear hSw; go_simp; try with_reducible rfl)
    simp only [Act.put, List.setIfInBounds_toArray, List.set_cons_zero, List.set_cons_succ, List.getElem_toArray, List.getElem_cons_zero, List.getElem_cons_succ]
    refine wpAnyH_take (i := 5) (v := ?v5_6) rfl (by kernel_rfl) (by kernel_rfl) (by kernel_rfl) (fun _ _ _ h => h) (Or.inl ⟨by rfl, ?hy5_6⟩) (by trivial) ?rest5_6
    case hy5_6 => (intro w9 hSw; clear hSw; go_simp; try with_reducible rfl)
    simp only [Act.put, List.setIfInBounds_toArray, List.set_cons_zero, List.set_cons_succ, List.getElem_toArray, List.getElem_cons_zero, List.getElem_cons_succ]
    refine wpAnyH_ready (rs := [6]) (by kernel_rfl) (by simp) ?_
    refine (AllReadyH.cons rfl (fun K hK => ?_) AllReadyH.nil)
    go_simp
    clear HB_0 HB_1 HB_2 HB_f0 HB_f1 HB_f2
    clear IB_0 IB_1 IB_2 IB_f0 IB_f1 IB_f2
    clear TB_0 TB_1 TB_2 TB_f0 TB_f1 TB_f2
    replace m3 := Lv.put m3 TB (b10) (A10) (q10.length) (c10) (x10)
    replace m4 := Lv.put m4 TB (b10) (A10) (q10.length) (c10) (x10)
    replace m5 := Lv.put m5 TB (b10) (A10) (q10.length) (c10) (x10)
    replace m6 := Lv.put m6 TB (b10) (A10) (q10.length) (c10) (x10)
    replace m7 := Lv.put m7 TB (b10) (A10) (q10.length) (c10) (x10)
    replace m9 := Lv.put m9 TB (b10) (A10) (q10.length) (c10) (x10)
    replace m10 := Lv.put m10 TB (b10) (A10) (q10.length) (c10) (x10)
    replace HB := Blk.putO HB (g := w11.heap.size) (by omega) (.bool (b10)) (.slice (A10) (q10.length) (c10)) (.int .i64 (x10))
    replace IB := Blk.putO IB (g := w11.heap.size) (by omega) (.bool (b10)) (.slice (A10) (q10.length) (c10)) (.int .i64 (x10))
    replace TB := Dbx.put TB (b10) (A10) (q10.length) (c10) (x10)
    have HB_0 := Blk.cell HB 0 rfl
    have HB_1 := Blk.cell HB 1 rfl
    have HB_2 := Blk.cell HB 2 rfl
    have HB_f0 := Blk.free HB 0
    have HB_f1 := Blk.free HB 1
    have HB_f2 := Blk.free HB 2
    have IB_0 := Blk.cell IB 0 rfl
    have IB_1 := Blk.cell IB 1 rfl
    have IB_2 := Blk.cell IB 2 rfl
    have IB_f0 := Blk.free IB 0
    have IB_f1 := Blk.free IB 1
    have IB_f2 := Blk.free IB 2
    have TB_0 := Blk.cell TB 0 rfl
    have TB_1 := Blk.cell TB 1 rfl
    have TB_2 := Blk.cell TB 2 rfl
    have TB_f0 := Blk.free TB 0
    have TB_f1 := Blk.free TB 1
    have TB_f2 := Blk.free TB 2
    refine hK.out _ _ trivial (fun _ => ?_)
    clear hK K
    try simp only [Act.put, List.setIfInBounds_toArray, List.set_cons_zero, List.set_cons_succ, List.getElem_toArray, List.getElem_cons_zero, List.getElem_cons_succ]
    refine wpAnyH_ready (rs := [7]) (by kernel_rfl) (by simp) ?_
    refine (AllReadyH.cons rfl (fun K hK => ?_) AllReadyH.nil)
    go_simp
    refine hK.out _ _ trivial (fun _ => ?_)
    clear hK K
    try simp only [Act.put, List.setIfInBounds_toArray, List.set_cons_zero, List.set_cons_succ, List.getElem_toArray, List.getElem_cons_zero, List.getElem_cons_succ]
    refine wpAnyH_done (by kernel_rfl) ?_ _
    go_upto_region 21 with fail
    clear HB_0 HB_1 HB_2 HB_f0 HB_f1 HB_f2
    clear IB_0 IB_1 IB_2 IB_f0 IB_f1 IB_f2
    clear TB_0 TB_1 TB_2 TB_f0 TB_f1 TB_f2
    replace bw : Below w.heap.size w (((w25.setCell ⟨w11.heap.size, 0, none⟩ (.bool b10)).setCell ⟨w11.heap.size, 1, none⟩ (.slice A10 q10.length c10)).setCell ⟨w11.heap.size, 2, none⟩ (.int .i64 x10)) := by go_grown
    have ltHB := Blk.lt HB
    have ltIB := Blk.lt IB
    have ltTB := Blk.lt TB
    generalize (((w25.setCell ⟨w11.heap.size, 0, none⟩ (.bool b10)).setCell ⟨w11.heap.size, 1, none⟩ (.slice A10 q10.length c10)).setCell ⟨w11.heap.size, 2, none⟩ (.int .i64 x10)) = W5 at bw m3 m4 m5 m6 m7 m9 m10 HB IB TB ltHB ltIB ltTB ⊢
    have HB_0 := Blk.cell HB 0 rfl
    have HB_1 := Blk.cell HB 1 rfl
    have HB_2 := Blk.cell HB 2 rfl
    have HB_f0 := Blk.free HB 0
    have HB_f1 := Blk.free HB 1
    have HB_f2 := Blk.free HB 2
    have IB_0 := Blk.cell IB 0 rfl
    have IB_1 := Blk.cell IB 1 rfl
    have IB_2 := Blk.cell IB 2 rfl
    have IB_f0 := Blk.free IB 0
    have IB_f1 := Blk.free IB 1
    have IB_f2 := Blk.free IB 2
    have TB_0 := Blk.cell TB 0 rfl
    have TB_1 := Blk.cell TB 1 rfl
    have TB_2 := Blk.cell TB 2 rfl
    have TB_f0 := Blk.free TB 0
    have TB_f1 := Blk.free TB 1
    have TB_f2 := Blk.free TB 2
    go_wp2_with fail
    with_reducible refine (tAbs m10 hd10 (hT.onD (by go_grown)) (Nf.In.mono i10 (by omega) (by omega))).mono ?_
    rintro e w26 ⟨b11, q11, A11, c11, x11, rfl, hd11, m11, hb⟩
    clear HB_0 HB_1 HB_2 HB_f0 HB_f1 HB_f2
    clear IB_0 IB_1 IB_2 IB_f0 IB_f1 IB_f2
    clear TB_0 TB_1 TB_2 TB_f0 TB_f1 TB_f2
    have hs26 := hb.size
    try simp only [World.size_alloc, World.size_setCell] at hs26
    replace bw : Below w.heap.size w w26 := dy_end (by go_grown) hb
    replace m3 := Lv.on m3 hb
    replace m4 := Lv.on m4 hb
    replace m5 := Lv.on m5 hb
    replace m6 := Lv.on m6 hb
    replace m7 := Lv.on m7 hb
    replace m9 := Lv.on m9 hb
    replace m10 := Lv.on m10 hb
    replace HB := Blk.on HB hb
    replace IB := Blk.on IB hb
    replace TB := Blk.on TB hb
    clear hb
    have HB_0 := Blk.cell HB 0 rfl
    have HB_1 := Blk.cell HB 1 rfl
    have HB_2 := Blk.cell HB 2 rfl
    have HB_f0 := Blk.free HB 0
    have HB_f1 := Blk.free HB 1
    have HB_f2 := Blk.free HB 2
    have IB_0 := Blk.cell IB 0 rfl
    have IB_1 := Blk.cell IB 1 rfl
    have IB_2 := Blk.cell IB 2 rfl
    have IB_f0 := Blk.free IB 0
    have IB_f1 := Blk.free IB 1
    have IB_f2 := Blk.free IB 2
    have TB_0 := Blk.cell TB 0 rfl
    have TB_1 := Blk.cell TB 1 rfl
    have TB_2 := Blk.cell TB 2 rfl
    have TB_f0 := Blk.free TB 0
    have TB_f1 := Blk.free TB 1
    have TB_f2 := Blk.free TB 2
    replace m3 := Lv.put m3 TB (b11) (A11) (q11.length) (c11) (x11)
    replace m4 := Lv.put m4 TB (b11) (A11) (q11.length) (c11) (x11)
    replace m5 := Lv.put m5 TB (b11) (A11) (q11.length) (c11) (x11)
    replace m6 := Lv.put m6 TB (b11) (A11) (q11.length) (c11) (x11)
    replace m7 := Lv.put m7 TB (b11) (A11) (q11.length) (c11) (x11)
    replace m9 := Lv.put m9 TB (b11) (A11) (q11.length) (c11) (x11)
    replace m10 := Lv.put m10 TB (b11) (A11) (q11.length) (c11) (x11)
    replace m11 := Lv.put m11 TB (b11) (A11) (q11.length) (c11) (x11)
    replace HB := Blk.putO HB (g := w11.heap.size) (by omega) (.bool (b11)) (.slice (A11) (q11.length) (c11)) (.int .i64 (x11))
    replace IB := Blk.putO IB (g := w11.heap.size) (by omega) (.bool (b11)) (.slice (A11) (q11.length) (c11)) (.int .i64 (x11))
    replace TB := Dbx.put TB (b11) (A11) (q11.length) (c11) (x11)
    go_upto_region 24 with fail
    clear HB_0 HB_1 HB_2 HB_f0 HB_f1 HB_f2
    clear IB_0 IB_1 IB_2 IB_f0 IB_f1 IB_f2
    clear TB_0 TB_1 TB_2 TB_f0 TB_f1 TB_f2
    replace bw : Below w.heap.size w (((w26.setCell ⟨w11.heap.size, 0, none⟩ (.bool b11)).setCell ⟨w11.heap.size, 1, none⟩ (.slice A11 q11.length c11)).setCell ⟨w11.heap.size, 2, none⟩ (.int .i64 x11)) := by go_grown
    have ltHB := Blk.lt HB
    have ltIB := Blk.lt IB
    have ltTB := Blk.lt TB
    generalize (((w26.setCell ⟨w11.heap.size, 0, none⟩ (.bool b11)).setCell ⟨w11.heap.size, 1, none⟩ (.slice A11 q11.length c11)).setCell ⟨w11.heap.size, 2, none⟩ (.int .i64 x11)) = W6 at bw m3 m4 m5 m6 m7 m9 m10 m11 HB IB TB ltHB ltIB ltTB ⊢
    have HB_0 := Blk.cell HB 0 rfl
    have HB_1 := Blk.cell HB 1 rfl
    have HB_2 := Blk.cell HB 2 rfl
    have HB_f0 := Blk.free HB 0
    have HB_f1 := Blk.free HB 1
    have HB_f2 := Blk.free HB 2
    have IB_0 := Blk.cell IB 0 rfl
    have IB_1 := Blk.cell IB 1 rfl
    have IB_2 := Blk.cell IB 2 rfl
    have IB_f0 := Blk.free IB 0
    have IB_f1 := Blk.free IB 1
    have IB_f2 := Blk.free IB 2
    have TB_0 := Blk.cell TB 0 rfl
    have TB_1 := Blk.cell TB 1 rfl
    have TB_2 := Blk.cell TB 2 rfl
    have TB_f0 := Blk.free TB 0
    have TB_f1 := Blk.free TB 1
    have TB_f2 := Blk.free TB 2
    go_wp2_with fail
    with_reducible refine (tHalf _).mono ?_
    rintro e w27 ⟨b12, q12, A12, c12, x12, rfl, hd12, m12, hb⟩
    clear HB_0 HB_1 HB_2 HB_f0 HB_f1 HB_f2
    clear IB_0 IB_1 IB_2 IB_f0 IB_f1 IB_f2
    clear TB_0 TB_1 TB_2 TB_f0 TB_f1 TB_f2
    have hs27 := hb.size
    try simp only [World.size_alloc, World.size_setCell] at hs27
    replace bw : Below w.heap.size w w27 := dy_end (by go_grown) hb
    replace m3 := Lv.on m3 hb
    replace m4 := Lv.on m4 hb
    replace m5 := Lv.on m5 hb
    replace m6 := Lv.on m6 hb
    replace m7 := Lv.on m7 hb
    replace m9 := Lv.on m9 hb
    replace m10 := Lv.on m10 hb
    replace m11 := Lv.on m11 hb
    replace HB := Blk.on HB hb
    replace IB := Blk.on IB hb
    replace TB := Blk.on TB hb
    clear hb
    have HB_0 := Blk.cell HB 0 rfl
    have HB_1 := Blk.cell HB 1 rfl
    have HB_2 := Blk.cell HB 2 rfl
    have HB_f0 := Blk.free HB 0
    have HB_f1 := Blk.free HB 1
    have HB_f2 := Blk.free HB 2
    have IB_0 := Blk.cell IB 0 rfl
    have IB_1 := Blk.cell IB 1 rfl
    have IB_2 := Blk.cell IB 2 rfl
    have IB_f0 := Blk.free IB 0
    have IB_f1 := Blk.free IB 1
    have IB_f2 := Blk.free IB 2
    have TB_0 := Blk.cell TB 0 rfl
    have TB_1 := Blk.cell TB 1 rfl
    have TB_2 := Blk.cell TB 2 rfl
    have TB_f0 := Blk.free TB 0
    have TB_f1 := Blk.free TB 1
    have TB_f2 := Blk.free TB 2
    replace m3 := Lv.alloc m3 (.cells #[.bool b12, .slice A12 q12.length c12, .int .i64 x12] 31)
    replace m4 := Lv.alloc m4 (.cells #[.bool b12, .slice A12 q12.length c12, .int .i64 x12] 31)
    replace m5 := Lv.alloc m5 (.cells #[.bool b12, .slice A12 q12.length c12, .int .i64 x12] 31)
    replace m6 := Lv.alloc m6 (.cells #[.bool b12, .slice A12 q12.length c12, .int .i64 x12] 31)
    replace m7 := Lv.alloc m7 (.cells #[.bool b12, .slice A12 q12.length c12, .int .i64 x12] 31)
    replace m9 := Lv.alloc m9 (.cells #[.bool b12, .slice A12 q12.length c12, .int .i64 x12] 31)
    replace m10 := Lv.alloc m10 (.cells #[.bool b12, .slice A12 q12.length c12, .int .i64 x12] 31)
    replace m11 := Lv.alloc m11 (.cells #[.bool b12, .slice A12 q12.length c12, .int .i64 x12] 31)
    replace m12 := Lv.alloc m12 (.cells #[.bool b12, .slice A12 q12.length c12, .int .i64 x12] 31)
    replace HB := Blk.alloc HB (.cells #[.bool b12, .slice A12 q12.length c12, .int .i64 x12] 31)
    replace IB := Blk.alloc IB (.cells #[.bool b12, .slice A12 q12.length c12, .int .i64 x12] 31)
    replace TB := Blk.alloc TB (.cells #[.bool b12, .slice A12 q12.length c12, .int .i64 x12] 31)
    have MB := Blk.new w27 [.bool b12, .slice A12 q12.length c12, .int .i64 x12] 31
    have HB_v6_0 := Blk.cell HB 0 rfl
    have HB_v6_1 := Blk.cell HB 1 rfl
    have HB_v6_2 := Blk.cell HB 2 rfl
    have HB_v6_f0 := Blk.free HB 0
    have HB_v6_f1 := Blk.free HB 1
    have HB_v6_f2 := Blk.free HB 2
    have IB_v7_0 := Blk.cell IB 0 rfl
    have IB_v7_1 := Blk.cell IB 1 rfl
    have IB_v7_2 := Blk.cell IB 2 rfl
    have IB_v7_f0 := Blk.free IB 0
    have IB_v7_f1 := Blk.free IB 1
    have IB_v7_f2 := Blk.free IB 2
    have TB_v8_0 := Blk.cell TB 0 rfl
    have TB_v8_1 := Blk.cell TB 1 rfl
    have TB_v8_2 := Blk.cell TB 2 rfl
    have TB_v8_f0 := Blk.free TB 0
    have TB_v8_f1 := Blk.free TB 1
    have TB_v8_f2 := Blk.free TB 2
    have MB_0 := Blk.cell MB 0 rfl
    have MB_1 := Blk.cell MB 1 rfl
    have MB_2 := Blk.cell MB 2 rfl
    have MB_f0 := Blk.free MB 0
    have MB_f1 := Blk.free MB 1
    have MB_f2 := Blk.free MB 2
    go_upto_region 27 with fail
    clear HB_0 HB_1 HB_2 HB_f0 HB_f1 HB_f2 HB_v6_0 HB_v6_1 HB_v6_2 HB_v6_f0 HB_v6_f1 HB_v6_f2
    clear IB_0 IB_1 IB_2 IB_f0 IB_f1 IB_f2 IB_v7_0 IB_v7_1 IB_v7_2 IB_v7_f0 IB_v7_f1 IB_v7_f2
    clear TB_0 TB_1 TB_2 TB_f0 TB_f1 TB_f2 TB_v8_0 TB_v8_1 TB_v8_2 TB_v8_f0 TB_v8_f1 TB_v8_f2
    clear MB_0 MB_1 MB_2 MB_f0 MB_f1 MB_f2
    replace bw : Below w.heap.size w (w27.alloc (.cells #[.bool b12, .slice A12 q12.length c12, .int .i64 x12] 31)) := by go_grown
    have ltHB := Blk.lt HB
    have ltIB := Blk.lt IB
    have ltTB := Blk.lt TB
    have ltMB := Blk.lt MB
    generalize (w27.alloc (.cells #[.bool b12, .slice A12 q12.length c12, .int .i64 x12] 31)) = W7 at bw m3 m4 m5 m6 m7 m9 m10 m11 m12 HB IB TB MB ltHB ltIB ltTB ltMB ⊢
    have HB_0 := Blk.cell HB 0 rfl
    have HB_1 := Blk.cell HB 1 rfl
    have HB_2 := Blk.cell HB 2 rfl
    have HB_f0 := Blk.free HB 0
    have HB_f1 := Blk.free HB 1
    have HB_f2 := Blk.free HB 2
    have IB_0 := Blk.cell IB 0 rfl
    have IB_1 := Blk.cell IB 1 rfl
    have IB_2 := Blk.cell IB 2 rfl
    have IB_f0 := Blk.free IB 0
    have IB_f1 := Blk.free IB 1
    have IB_f2 := Blk.free IB 2
    have TB_0 := Blk.cell TB 0 rfl
    have TB_1 := Blk.cell TB 1 rfl
    have TB_2 := Blk.cell TB 2 rfl
    have TB_f0 := Blk.free TB 0
    have TB_f1 := Blk.free TB 1
    have TB_f2 := Blk.free TB 2
    have MB_0 := Blk.cell MB 0 rfl
    have MB_1 := Blk.cell MB 1 rfl
    have MB_2 := Blk.cell MB 2 rfl
    have MB_f0 := Blk.free MB 0
    have MB_f1 := Blk.free MB 1
    have MB_f2 := Blk.free MB 2
    go_wp2_with fail
    with_reducible refine (nCmp m11 (Nst.of hd11 m11.lim (Nf.In.mono i11 (by omega) (by omega))) m12 (Nst.of hd12 m12.lim halfN_in) (hT.onD (by go_grown)) (Nf.In.mono i11 (by omega) (by omega)) halfN_in HSG.out).mono ?_
    rintro e w28 ⟨rfl, hb⟩
    clear HB_0 HB_1 HB_2 HB_f0 HB_f1 HB_f2
    clear IB_0 IB_1 IB_2 IB_f0 IB_f1 IB_f2
    clear TB_0 TB_1 TB_2 TB_f0 TB_f1 TB_f2
    clear MB_0 MB_1 MB_2 MB_f0 MB_f1 MB_f2
    have hs28 := hb.size
    try simp only [World.size_alloc, World.size_setCell] at hs28
    replace bw : Below w.heap.size w w28 := dy_end (by go_grown) hb
    replace m3 := Lv.on m3 hb
    replace m4 := Lv.on m4 hb
    replace m5 := Lv.on m5 hb
    replace m6 := Lv.on m6 hb
    replace m7 := Lv.on m7 hb
    replace m9 := Lv.on m9 hb
    replace m10 := Lv.on m10 hb
    replace m11 := Lv.on m11 hb
    replace m12 := Lv.on m12 hb
    replace HB := Blk.on HB hb
    replace IB := Blk.on IB hb
    replace TB := Blk.on TB hb
    replace MB := Blk.on MB hb
    clear hb
    have HB_0 := Blk.cell HB 0 rfl
    have HB_1 := Blk.cell HB 1 rfl
    have HB_2 := Blk.cell HB 2 rfl
    have HB_f0 := Blk.free HB 0
    have HB_f1 := Blk.free HB 1
    have HB_f2 := Blk.free HB 2
    have IB_0 := Blk.cell IB 0 rfl
    have IB_1 := Blk.cell IB 1 rfl
    have IB_2 := Blk.cell IB 2 rfl
    have IB_f0 := Blk.free IB 0
    have IB_f1 := Blk.free IB 1
    have IB_f2 := Blk.free IB 2
    have TB_0 := Blk.cell TB 0 rfl
    have TB_1 := Blk.cell TB 1 rfl
    have TB_2 := Blk.cell TB 2 rfl
    have TB_f0 := Blk.free TB 0
    have TB_f1 := Blk.free TB 1
    have TB_f2 := Blk.free TB 2
    have MB_0 := Blk.cell MB 0 rfl
    have MB_1 := Blk.cell MB 1 rfl
    have MB_2 := Blk.cell MB 2 rfl
    have MB_f0 := Blk.free MB 0
    have MB_f1 := Blk.free MB 1
    have MB_f2 := Blk.free MB 2
    go_wp2_with fail
    with_reducible refine (tL _).mono ?_
    rintro e v29 ⟨rfl, rfl⟩
    go_wp2_with fail
    with_reducible refine (tH2 _).mono ?_
    rintro e w30 ⟨rfl, hb⟩
    clear HB_0 HB_1 HB_2 HB_f0 HB_f1 HB_f2
    clear IB_0 IB_1 IB_2 IB_f0 IB_f1 IB_f2
    clear TB_0 TB_1 TB_2 TB_f0 TB_f1 TB_f2
    clear MB_0 MB_1 MB_2 MB_f0 MB_f1 MB_f2
    have hs30 := hb.size
    try simp only [World.size_alloc, World.size_setCell] at hs30
    replace bw : Below w.heap.size w w30 := dy_end (by go_grown) hb
    replace m3 := Lv.on m3 hb
    replace m4 := Lv.on m4 hb
    replace m5 := Lv.on m5 hb
    replace m6 := Lv.on m6 hb
    replace m7 := Lv.on m7 hb
    replace m9 := Lv.on m9 hb
    replace m10 := Lv.on m10 hb
    replace m11 := Lv.on m11 hb
    replace m12 := Lv.on m12 hb
    replace HB := Blk.on HB hb
    replace IB := Blk.on IB hb
    replace TB := Blk.on TB hb
    replace MB := Blk.on MB hb
    clear hb
    have HB_0 := Blk.cell HB 0 rfl
    have HB_1 := Blk.cell HB 1 rfl
    have HB_2 := Blk.cell HB 2 rfl
    have HB_f0 := Blk.free HB 0
    have HB_f1 := Blk.free HB 1
    have HB_f2 := Blk.free HB 2
    have IB_0 := Blk.cell IB 0 rfl
    have IB_1 := Blk.cell IB 1 rfl
    have IB_2 := Blk.cell IB 2 rfl
    have IB_f0 := Blk.free IB 0
    have IB_f1 := Blk.free IB 1
    have IB_f2 := Blk.free IB 2
    have TB_0 := Blk.cell TB 0 rfl
    have TB_1 := Blk.cell TB 1 rfl
    have TB_2 := Blk.cell TB 2 rfl
    have TB_f0 := Blk.free TB 0
    have TB_f1 := Blk.free TB 1
    have TB_f2 := Blk.free TB 2
    have MB_0 := Blk.cell MB 0 rfl
    have MB_1 := Blk.cell MB 1 rfl
    have MB_2 := Blk.cell MB 2 rfl
    have MB_f0 := Blk.free MB 0
    have MB_f1 := Blk.free MB 1
    have MB_f2 := Blk.free MB 2
    go_wp2_with fail
    with_reducible refine (tS _).mono ?_
    rintro e v31 ⟨rfl, rfl⟩
    go_wp2_with fail
    with_reducible refine (tN2 _).mono ?_
    rintro e w32 ⟨rfl, hb⟩
    clear HB_0 HB_1 HB_2 HB_f0 HB_f1 HB_f2
    clear IB_0 IB_1 IB_2 IB_f0 IB_f1 IB_f2
    clear TB_0 TB_1 TB_2 TB_f0 TB_f1 TB_f2
    clear MB_0 MB_1 MB_2 MB_f0 MB_f1 MB_f2
    have hs32 := hb.size
    try simp only [World.size_alloc, World.size_setCell] at hs32
    replace bw : Below w.heap.size w w32 := dy_end (by go_grown) hb
    replace m3 := Lv.on m3 hb
    replace m4 := Lv.on m4 hb
    replace m5 := Lv.on m5 hb
    replace m6 := Lv.on m6 hb
    replace m7 := Lv.on m7 hb
    replace m9 := Lv.on m9 hb
    replace m10 := Lv.on m10 hb
    replace m11 := Lv.on m11 hb
    replace m12 := Lv.on m12 hb
    replace HB := Blk.on HB hb
    replace IB := Blk.on IB hb
    replace TB := Blk.on TB hb
    replace MB := Blk.on MB hb
    clear hb
    have HB_0 := Blk.cell HB 0 rfl
    have HB_1 := Blk.cell HB 1 rfl
    have HB_2 := Blk.cell HB 2 rfl
    have HB_f0 := Blk.free HB 0
    have HB_f1 := Blk.free HB 1
    have HB_f2 := Blk.free HB 2
    have IB_0 := Blk.cell IB 0 rfl
    have IB_1 := Blk.cell IB 1 rfl
    have IB_2 := Blk.cell IB 2 rfl
    have IB_f0 := Blk.free IB 0
    have IB_f1 := Blk.free IB 1
    have IB_f2 := Blk.free IB 2
    have TB_0 := Blk.cell TB 0 rfl
    have TB_1 := Blk.cell TB 1 rfl
    have TB_2 := Blk.cell TB 2 rfl
    have TB_f0 := Blk.free TB 0
    have TB_f1 := Blk.free TB 1
    have TB_f2 := Blk.free TB 2
    have MB_0 := Blk.cell MB 0 rfl
    have MB_1 := Blk.cell MB 1 rfl
    have MB_2 := Blk.cell MB 2 rfl
    have MB_f0 := Blk.free MB 0
    have MB_f1 := Blk.free MB 1
    have MB_f2 := Blk.free MB 2
    go_wp2_with fail
    with_reducible refine (tN _).mono ?_
    rintro e w33 ⟨rfl, hb⟩
    clear HB_0 HB_1 HB_2 HB_f0 HB_f1 HB_f2
    clear IB_0 IB_1 IB_2 IB_f0 IB_f1 IB_f2
    clear TB_0 TB_1 TB_2 TB_f0 TB_f1 TB_f2
    clear MB_0 MB_1 MB_2 MB_f0 MB_f1 MB_f2
    have hs33 := hb.size
    try simp only [World.size_alloc, World.size_setCell] at hs33
    replace bw : Below w.heap.size w w33 := dy_end (by go_grown) hb
    replace m3 := Lv.on m3 hb
    replace m4 := Lv.on m4 hb
    replace m5 := Lv.on m5 hb
    replace m6 := Lv.on m6 hb
    replace m7 := Lv.on m7 hb
    replace m9 := Lv.on m9 hb
    replace m10 := Lv.on m10 hb
    replace m11 := Lv.on m11 hb
    replace m12 := Lv.on m12 hb
    replace HB := Blk.on HB hb
    replace IB := Blk.on IB hb
    replace TB := Blk.on TB hb
    replace MB := Blk.on MB hb
    clear hb
    have HB_0 := Blk.cell HB 0 rfl
    have HB_1 := Blk.cell HB 1 rfl
    have HB_2 := Blk.cell HB 2 rfl
    have HB_f0 := Blk.free HB 0
    have HB_f1 := Blk.free HB 1
    have HB_f2 := Blk.free HB 2
    have IB_0 := Blk.cell IB 0 rfl
    have IB_1 := Blk.cell IB 1 rfl
    have IB_2 := Blk.cell IB 2 rfl
    have IB_f0 := Blk.free IB 0
    have IB_f1 := Blk.free IB 1
    have IB_f2 := Blk.free IB 2
    have TB_0 := Blk.cell TB 0 rfl
    have TB_1 := Blk.cell TB 1 rfl
    have TB_2 := Blk.cell TB 2 rfl
    have TB_f0 := Blk.free TB 0
    have TB_f1 := Blk.free TB 1
    have TB_f2 := Blk.free TB 2
    have MB_0 := Blk.cell MB 0 rfl
    have MB_1 := Blk.cell MB 1 rfl
    have MB_2 := Blk.cell MB 2 rfl
    have MB_f0 := Blk.free MB 0
    have MB_f1 := Blk.free MB 1
    have MB_f2 := Blk.free MB 2
    go_wp2_with fail
    with_reducible refine (tS _).mono ?_
    rintro e v34 ⟨rfl, rfl⟩
    go_wp2_with fail
    with_reducible refine (known_all _).mono ?_
    rintro e w35 ⟨rfl, hb⟩
    clear HB_0 HB_1 HB_2 HB_f0 HB_f1 HB_f2
    clear IB_0 IB_1 IB_2 IB_f0 IB_f1 IB_f2
    clear TB_0 TB_1 TB_2 TB_f0 TB_f1 TB_f2
    clear MB_0 MB_1 MB_2 MB_f0 MB_f1 MB_f2
    have hs35 := hb.size
    try simp only [World.size_alloc, World.size_setCell] at hs35
    replace bw : Below w.heap.size w w35 := dy_end (by go_grown) hb
    replace m3 := Lv.on m3 hb
    replace m4 := Lv.on m4 hb
    replace m5 := Lv.on m5 hb
    replace m6 := Lv.on m6 hb
    replace m7 := Lv.on m7 hb
    replace m9 := Lv.on m9 hb
    replace m10 := Lv.on m10 hb
    replace m11 := Lv.on m11 hb
    replace m12 := Lv.on m12 hb
    replace HB := Blk.on HB hb
    replace IB := Blk.on IB hb
    replace TB := Blk.on TB hb
    replace MB := Blk.on MB hb
    clear hb
    have HB_0 := Blk.cell HB 0 rfl
    have HB_1 := Blk.cell HB 1 rfl
    have HB_2 := Blk.cell HB 2 rfl
    have HB_f0 := Blk.free HB 0
    have HB_f1 := Blk.free HB 1
    have HB_f2 := Blk.free HB 2
    have IB_0 := Blk.cell IB 0 rfl
    have IB_1 := Blk.cell IB 1 rfl
    have IB_2 := Blk.cell IB 2 rfl
    have IB_f0 := Blk.free IB 0
    have IB_f1 := Blk.free IB 1
    have IB_f2 := Blk.free IB 2
    have TB_0 := Blk.cell TB 0 rfl
    have TB_1 := Blk.cell TB 1 rfl
    have TB_2 := Blk.cell TB 2 rfl
    have TB_f0 := Blk.free TB 0
    have TB_f1 := Blk.free TB 1
    have TB_f2 := Blk.free TB 2
    have MB_0 := Blk.cell MB 0 rfl
    have MB_1 := Blk.cell MB 1 rfl
    have MB_2 := Blk.cell MB 2 rfl
    have MB_f0 := Blk.free MB 0
    have MB_f1 := Blk.free MB 1
    have MB_f2 := Blk.free MB 2
    go_wp2_with fail
    go_ret
    exact ⟨rfl, by go_grown⟩

theorem turns_law {f g : Nat} (hf : f ≤ 18446744073709551615) (hg : g ≤ 18446744073709551615) (p : Int) {w : World} (hT : Tab w) :
    Calls Tryz.prog 3 #[.float .f64 f, .float .f64 g, .int .i64 p] w (RT w) := by
  by_cases h : rgB f = false ∨ rgB g = false ∨ p < -99 ∨ 99 < p
  · exact turns_no hf hg h
  · have h1 : rgB f = true := by cases e : rgB f; exact absurd (.inl e) h; rfl
    have h2 : rgB g = true := by cases e : rgB g; exact absurd (.inr (.inl e)) h; rfl
    exact turns_yes ((rgB_iff hf).1 h1) ((rgB_iff hg).1 h2) (by omega) (by omega) hT
end Go.Proofs.YtmfikppnkjhmjaaGreatDoor
