/-
  Layer 2, walks, part seventeen: one limb of a quotient.
-/
import Derived.Test.YtigphbjgodfhpaaDoorNatR
import Derived.Lib.QuietBelow
namespace Go.Proofs.YtigphbjgodfhpaaDoor
open Go.RowKit
set_option linter.unusedVariables false

/-- the estimate, reckoned -/
def est (r0 r1 r2 b0 b1 : Int) : Int := min 18446744073709551615 (((r0 * 18446744073709551616 + r1) * 18446744073709551616 + r2) / (b0 * 18446744073709551616 + b1))
theorem est_is {r0 r1 r2 b0 b1 t : Int} (hb0 : 0 < b0) (hb2 : 0 ≤ b1) (t1 : t ≤ 18446744073709551615)
    (h : t * (b0 * 18446744073709551616 + b1) ≤ (r0 * 18446744073709551616 + r1) * 18446744073709551616 + r2 ∧
      (t = 18446744073709551615 ∨ (r0 * 18446744073709551616 + r1) * 18446744073709551616 + r2 < (t + 1) * (b0 * 18446744073709551616 + b1))) : t = est r0 r1 r2 b0 b1 := by
  have hD : 0 < b0 * 18446744073709551616 + b1 := by omega
  unfold est
  generalize (r0 * 18446744073709551616 + r1) * 18446744073709551616 + r2 = N at *
  generalize b0 * 18446744073709551616 + b1 = Dd at *
  have h1 := (Int.le_ediv_iff_mul_le hD).2 h.1
  rcases h.2 with h2 | h2
  · omega
  · have h3 := (Int.ediv_lt_iff_lt_mul hD).2 h2
    omega

theorem estimate_at (r0 r1 r2 b0 b1 : Int) (w : World) (h00 : 0 ≤ r0) (h10 : 0 ≤ r1) (h11 : r1 < 18446744073709551616) (h20 : 0 ≤ r2) (h21 : r2 < 18446744073709551616) (hb0 : 0 < b0) (hb1 : b0 < 18446744073709551616) (hb2 : 0 ≤ b1) (hb3 : b1 < 18446744073709551616) (h01 : r0 ≤ b0) :
    Calls Tryd.prog 95 #[.agg #[.int .u64 r0, .int .u64 r1, .int .u64 r2], .agg #[.int .u64 b0, .int .u64 b1]] w fun e w' => e = .returned (.int .u64 (est r0 r1 r2 b0 b1)) ∧ Below w.heap.size w w' := by
  refine (estimate_any r0 r1 r2 b0 b1 w h00 h10 h11 h20 h21 hb0 hb1 hb2 hb3 h01).mono ?_
  rintro e w' ⟨t, rfl, t0, t1, h, hb⟩
  exact ⟨ret_int (est_is hb0 hb2 t1 h.out), hb⟩
theorem est_spec {r0 r1 r2 b0 b1 : Int} (h00 : 0 ≤ r0) (h10 : 0 ≤ r1) (h20 : 0 ≤ r2) (hb0 : 0 < b0) (hb2 : 0 ≤ b1) :
    0 ≤ est r0 r1 r2 b0 b1 ∧ est r0 r1 r2 b0 b1 ≤ 18446744073709551615 ∧ est r0 r1 r2 b0 b1 * (b0 * 18446744073709551616 + b1) ≤ (r0 * 18446744073709551616 + r1) * 18446744073709551616 + r2 ∧
      (est r0 r1 r2 b0 b1 = 18446744073709551615 ∨ (r0 * 18446744073709551616 + r1) * 18446744073709551616 + r2 < (est r0 r1 r2 b0 b1 + 1) * (b0 * 18446744073709551616 + b1)) := by
  have hD : 0 < b0 * 18446744073709551616 + b1 := by omega
  unfold est
  have hN : 0 ≤ (r0 * 18446744073709551616 + r1) * 18446744073709551616 + r2 := by omega
  generalize (r0 * 18446744073709551616 + r1) * 18446744073709551616 + r2 = N at *
  generalize b0 * 18446744073709551616 + b1 = Dd at *
  have h0 : 0 ≤ N / Dd := Int.ediv_nonneg hN (Int.le_of_lt hD)
  refine ⟨by omega, by omega, (Int.le_ediv_iff_mul_le hD).1 (by omega), ?_⟩
  rcases (show 18446744073709551615 ≤ N / Dd ∨ N / Dd < 18446744073709551615 by omega) with h | h
  · exact .inl (by omega)
  · right
    have e : min 18446744073709551615 (N / Dd) = N / Dd := by omega
    rw [e]
    exact (Int.ediv_lt_iff_lt_mul hD).1 (by omega)

/-- one limb of a quotient, in plain numbers -/
theorem most_math {P V vl rl r0 r1 r2 b0 b1 R0 t : Int} (hP : 0 < P) (hV : V = (b0 * 18446744073709551616 + b1) * P + vl) (hv0 : 0 ≤ vl) (hv1 : vl < P) (hR : R0 = ((r0 * 18446744073709551616 + r1) * 18446744073709551616 + r2) * P + rl) (hr0 : 0 ≤ rl) (hr1 : rl < P)
    (hlt : R0 < V * 18446744073709551616) (hb0 : 1 ≤ b0) (hb2 : 0 ≤ b1) (h0 : 0 ≤ t) (h1 : t ≤ 18446744073709551615)
    (h2 : t * (b0 * 18446744073709551616 + b1) ≤ (r0 * 18446744073709551616 + r1) * 18446744073709551616 + r2)
    (h3 : t = 18446744073709551615 ∨ (r0 * 18446744073709551616 + r1) * 18446744073709551616 + r2 < (t + 1) * (b0 * 18446744073709551616 + b1)) :
    R0 - V * t < V ∧ - V ≤ R0 - V * t := by
  generalize (r0 * 18446744073709551616 + r1) * 18446744073709551616 + r2 = N at *
  constructor
  · rcases h3 with h3 | h3
    · subst h3; omega
    · generalize b0 * 18446744073709551616 + b1 = Dd at *
      have a := Int.mul_le_mul_of_nonneg_right (show N + 1 ≤ (t + 1) * Dd by omega) (Int.le_of_lt hP)
      have b : 0 ≤ (t + 1) * vl := Int.mul_nonneg (by omega) hv0
      have e1 : (N + 1) * P = N * P + P := by grind
      have e2 : (t + 1) * Dd * P = V * t + V - (t + 1) * vl := by rw [hV]; grind
      omega
  · have a := Int.mul_le_mul_of_nonneg_right h2 (Int.le_of_lt hP)
    have b : t * vl ≤ 18446744073709551615 * P := Int.mul_le_mul h1 (by omega) hv0 (by omega)
    have c : 0 ≤ (b0 - 1) * P := Int.mul_nonneg (by omega) (by omega)
    have d : 0 ≤ b1 * P := Int.mul_nonneg hb2 (by omega)
    have e1 : (b0 - 1) * P = b0 * P - P := by grind
    have e2 : V = b0 * P * 18446744073709551616 + b1 * P + vl := by rw [hV]; grind
    have e3 : V * t = t * (b0 * 18446744073709551616 + b1) * P + t * vl := by rw [hV]; grind
    omega
/-- what comes first is not above what is divided by -/
theorem most_top {P V vl rl r0 r1 r2 b0 b1 R0 : Int} (hP : 0 < P) (hV : V = (b0 * 18446744073709551616 + b1) * P + vl) (hv1 : vl < P) (hR : R0 = ((r0 * 18446744073709551616 + r1) * 18446744073709551616 + r2) * P + rl) (hr0 : 0 ≤ rl)
    (hlt : R0 < V * 18446744073709551616) (h1 : 0 ≤ r1) (h2 : 0 ≤ r2) (hb1 : b1 < 18446744073709551616) : r0 ≤ b0 := by
  rcases (show r0 ≤ b0 ∨ b0 + 1 ≤ r0 by omega) with h | h
  · exact h
  · have a : 0 ≤ (r0 - b0 - 1) * P := Int.mul_nonneg (by omega) (by omega)
    have b : 0 ≤ r1 * P := Int.mul_nonneg h1 (by omega)
    have c : 0 ≤ r2 * P := Int.mul_nonneg h2 (by omega)
    have d : 0 ≤ (18446744073709551615 - b1) * P := Int.mul_nonneg (by omega) (by omega)
    have e1 : (r0 - b0 - 1) * P = r0 * P - b0 * P - P := by grind
    have e2 : R0 = r0 * P * 18446744073709551616 * 18446744073709551616 + r1 * P * 18446744073709551616 + r2 * P + rl := by rw [hR]; grind
    have e3 : V * 18446744073709551616 = b0 * P * 18446744073709551616 * 18446744073709551616 + b1 * P * 18446744073709551616 + vl * 18446744073709551616 := by rw [hV]; grind
    have e4 : (18446744073709551615 - b1) * P = 18446744073709551615 * P - b1 * P := by grind
    omega
theorem S_top2 {f : Nat → Int} (n : Nat) : S 18446744073709551616 f (n + 2) = (f (n + 1) * 18446744073709551616 + f n) * 18446744073709551616 ^ n + S 18446744073709551616 f n := by
  rw [show n + 2 = n + 1 + 1 from rfl, S_succ, S_succ, Int.pow_succ]; grind
theorem S_top3 {f : Nat → Int} (n : Nat) : S 18446744073709551616 f (n + 3) = ((f (n + 2) * 18446744073709551616 + f (n + 1)) * 18446744073709551616 + f n) * 18446744073709551616 ^ n + S 18446744073709551616 f n := by
  rw [show n + 3 = n + 2 + 1 from rfl, S_succ, show n + 2 = n + 1 + 1 from rfl, S_succ, S_succ, Int.pow_succ, Int.pow_succ]; grind
theorem mixed : Tryd.prog.follows .mixedOrders = true := by kernel_rfl
/-- one limb of the quotient, and what is left -/
def MostPost (K : Nat) (C0 m : List Int) (o g : Nat) (w0 : World) (e : Ending) (w : World) : Prop :=
  ∃ (C : List Int) (t : Int), e = .returned (.int .u64 t) ∧ 0 ≤ t ∧ t < 18446744073709551616 ∧ C.length = C0.length ∧ Lim 18446744073709551616 C ∧ Pre w g K C ∧ w0.grownBy w (some g) ∧
    Hid (∀ i, (i < o ∨ o + (m.length + 1) ≤ i) → D C i = D C0 i) ∧
    Hid (S 18446744073709551616 (fun i => D C0 (o + i)) (m.length + 1) = t * val 18446744073709551616 m + S 18446744073709551616 (fun i => D C (o + i)) (m.length + 1) ∧
      S 18446744073709551616 (fun i => D C (o + i)) (m.length + 1) < val 18446744073709551616 m)

theorem only_of_below {a w : World} (h : Below a.heap.size a w) (row : Option Nat) : a.grownBy w row := ⟨h.os, h.tape, h.output, h.size, fun i hi _ => h.block i hi⟩

set_option maxRecDepth 100000 in
set_option maxHeartbeats 4000000 in
theorem takemost_any (K : Nat) (C0 : List Int) (g o cc : Nat) (A2 : Option Addr) (c2 : Nat) (m : List Int) (w : World) (hr0 : Pre w g K C0) (hC0 : Lim 18446744073709551616 C0) (ho : o + m.length + 1 ≤ C0.length) (hcc : m.length + 1 ≤ cc) (hco : C0.length ≤ 4000000)
    (h2 : Nums w w.heap.size A2 c2 m) (hne : ∀ ad, A2 = some ad → ad.block ≠ g) (hl2 : Lim 18446744073709551616 m) (hm2 : 2 ≤ m.length) (htop : 1 ≤ D m (m.length - 1))
    (hlt : S 18446744073709551616 (fun i => D C0 (o + i)) (m.length + 1) < val 18446744073709551616 m * 18446744073709551616) :
    Calls Tryd.prog 82 #[.slice (some ⟨g, o, none⟩) (m.length + 1) cc, .slice A2 m.length c2] w (MostPost K C0 m o g w) := by
  have hg0 := hr0.lt
  obtain ⟨p, hp⟩ : ∃ p, m.length = p + 2 := ⟨m.length - 2, by omega⟩
  have x0 := D_lim (b := 18446744073709551616) (by omega) hC0 (o + (p + 2))
  have x1 := D_lim (b := 18446744073709551616) (by omega) hC0 (o + (p + 1))
  have x2 := D_lim (b := 18446744073709551616) (by omega) hC0 (o + p)
  have y0 := D_lim (b := 18446744073709551616) (by omega) hl2 (p + 1)
  have y1 := D_lim (b := 18446744073709551616) (by omega) hl2 p
  have hV : val 18446744073709551616 m = (D m (p + 1) * 18446744073709551616 + D m p) * 18446744073709551616 ^ p + S 18446744073709551616 (D m) p := by unfold val; rw [hp, S_top2]
  have hR : S 18446744073709551616 (fun i => D C0 (o + i)) (m.length + 1) = ((D C0 (o + (p + 2)) * 18446744073709551616 + D C0 (o + (p + 1))) * 18446744073709551616 + D C0 (o + p)) * 18446744073709551616 ^ p + S 18446744073709551616 (fun i => D C0 (o + i)) p := by rw [hp, show p + 2 + 1 = p + 3 from rfl, S_top3]
  have bV := S_of_bound (b := 18446744073709551616) (by omega) hl2 p
  have bR := S_bound (b := 18446744073709551616) (f := fun i => D C0 (o + i)) (k := p) (by omega) (fun i _ => D_lim (by omega) hC0 _)
  have hP := pow_pos' (b := 18446744073709551616) (by omega) p
  have ht1 : 1 ≤ D m (p + 1) := by rw [hp] at htop; exact htop
  have hle := most_top hP hV bV.2 hR bR.1 hlt x1.1 x2.1 y1.2
  obtain ⟨t0, t1, t2, t3⟩ := est_spec (r0 := D C0 (o + (p + 2))) (r1 := D C0 (o + (p + 1))) (r2 := D C0 (o + p)) (b0 := D m (p + 1)) (b1 := D m p) x0.1 x1.1 x2.1 (by omega) y1.1
  have hmm := most_math hP hV bV.1 bV.2 hR bR.1 bR.2 hlt ht1 y1.1 t0 t1 t2 t3
  have HE := Lib.hid (fun W => estimate_at (D C0 (o + (p + 2))) (D C0 (o + (p + 1))) (D C0 (o + p)) (D m (p + 1)) (D m p) W x0.1 x1.1 x1.2 x2.1 x2.2 (by omega) y0.2 y1.1 y1.2 hle)
  obtain ⟨t, ht⟩ : ∃ t, est (D C0 (o + (p + 2))) (D C0 (o + (p + 1))) (D C0 (o + p)) (D m (p + 1)) (D m p) = t := ⟨_, rfl⟩
  rw [ht] at t0 t1 hmm HE
  have HM := Lib.hid hmm
  obtain ⟨ad, rfl, hadb⟩ := h2.some_ (by omega)
  have g0 := cell_regrown (hr0.cell (k := o + (p + 2)) (by omega))
  have g1 := cell_regrown (hr0.cell (k := o + (p + 1)) (by omega))
  have g2 := cell_regrown (hr0.cell (k := o + p) (by omega))
  have g3 := cell_regrown (h2.at_some (k := p + 1) (by omega))
  have g4 := cell_regrown (h2.at_some (k := p) (by omega))
  have hn0 : (m.length : Int) = p + 2 := by omega
  have cE : ∀ d os, Calls Tryd.prog 95 #[.agg #[.int .u64 (D C0 (o + (p + 2))), .int .u64 (D C0 (o + (p + 1))), .int .u64 (D C0 (o + p))], .agg #[.int .u64 (D m (p + 1)), .int .u64 (D m p)]] (Go.Sort.grow (redrawn w d) os) fun e w'' => e = .returned (.int .u64 t) ∧ ∃ p : Regrown, w'' = Go.Sort.grow (redrawn w p.d) p.os := fun d os => Calls.regrown_of (HE.out _)
  obtain ⟨p1, hp1⟩ : ∃ p1, p1 = p + 1 := ⟨_, rfl⟩
  have hp2 : (p1 : Int) = (p : Int) + 1 := by omega
  rw [← hp1] at g1 g3 cE
  have HP2 := Lib.hid hp2
  clear hmm ht t2 t3 hle htop hV hR bV bR hlt HE hp1 hp2 hp
  go_enter Tryd.func82, Tryd.ntmps82
  go_wp2_with fail
  have hp2 := HP2.out
  have hw1 : IntKind.i64.wrap ((p : Int) + 2 - 1) = (p1 : Int) := by rw [IntKind.wrap_i64]; omega
  have hw2 : IntKind.i64.wrap ((p : Int) + 2 - 2) = (p : Int) := by rw [IntKind.wrap_i64]; omega
  have hw3 : IntKind.i64.wrap (p : Int) = (p : Int) := by rw [IntKind.wrap_i64]; omega
  have ht2 : ((p : Int) + 2).toNat = p + 2 := by omega
  have i0 : (0 : Int) ≤ (p : Int) + 2 := by omega
  have i1 : (0 : Int) ≤ (p1 : Int) := by omega
  have i2 : (0 : Int) ≤ (p : Int) := by omega
  have i3 : (p : Int) + 2 < (p : Int) + 2 + 1 := by omega
  have i4 : (p1 : Int) < (p : Int) + 2 + 1 := by omega
  have i5 : (p : Int) < (p : Int) + 2 + 1 := by omega
  have i6 : (p1 : Int) < (p : Int) + 2 := by omega
  have i7 : (p : Int) < (p : Int) + 2 := by omega
  clear hp2
  refine wp_region_quiet_below mixed (by kernel_rfl) ?_
  repeat (quiet_step (first | exact cE _ _))
  refine wpQuiet_nil ?_
  intro _ hw'
  obtain ⟨⟨dq, osq⟩, hw''⟩ := hw'
  subst hw''
  have hb1 := below_regrown w dq osq
  clear g0 g1 g2 g3 g4 cE hw1 hw2 hw3 ht2 i0 i1 i2 i3 i4 i5 i6 i7 hn0
  generalize Go.Sort.grow (redrawn w dq) osq = w1 at hb1 ⊢
  have hr1 := hr0.below hb1 hg0
  have hB := S_bound (b := 18446744073709551616) (f := fun i => D C0 (o + i)) (k := m.length + 1) (by omega) (fun i _ => D_lim (by omega) hC0 _)
  have hBV := val_bound (b := 18446744073709551616) (by omega) hl2
  go_wp2_with fail
  with_reducible refine (taketimes_any K C0 g o cc (some ad) c2 m t w1 hr1 hC0 (by omega) hcc hco (h2.on hb1 (Nat.le_refl _)) hne hl2 t0 (by omega)).mono ?_
  rintro e w2 ⟨C1, bl, rfl, hC1, hCl1, hr2, hg2, ho1, he1⟩
  have hB1 := S_bound (b := 18446744073709551616) (f := fun i => D C1 (o + i)) (k := m.length + 1) (by omega) (fun i _ => D_lim (by omega) hCl1 _)
  have hg12 := (only_of_below hb1 (some g)).trans hg2
  cases bl
  · have hfin : S 18446744073709551616 (fun i => D C0 (o + i)) (m.length + 1) = t * val 18446744073709551616 m + S 18446744073709551616 (fun i => D C1 (o + i)) (m.length + 1) ∧
      S 18446744073709551616 (fun i => D C1 (o + i)) (m.length + 1) < val 18446744073709551616 m := by
      have h1 := he1.out
      have h2 := HM.out
      simp only [Bool.false_eq_true, if_false] at h1
      rw [Int.mul_comm t]
      omega
    have HF := Lib.hid hfin
    clear hfin hB hBV hB1
    go_wp2_with fail
    go_ret
    exact ⟨C1, t, rfl, t0, by omega, hC1, hCl1, hr2, hg12, ho1, HF.out⟩
  · have ht1' : 1 ≤ t := by
      have h1 := he1.out
      simp only [if_true] at h1
      rcases (show t = 0 ∨ 1 ≤ t by omega) with h | h
      · subst h; rw [Int.mul_zero] at h1; omega
      · exact h
    have H1 := Lib.hid hB
    have H2 := Lib.hid hBV
    have H3 := Lib.hid hB1
    have hlen1 : o + (m.length + 1) ≤ C1.length := by omega
    have hlen2 : C1.length ≤ 4000000 := by omega
    have hnums := h2.on hb1 (Nat.le_refl _)
    have hn2 : Nums w2 w2.heap.size (some ad) c2 m := by
      refine ⟨h2.1, h2.2.1, fun hn => ⟨ad, rfl, by have := hg2.size; have := hb1.size; omega, fun j hj => ?_⟩⟩
      rw [World.cell?_of_block (hg2.block (ad.add j).block (by rw [add_block]; have := hb1.size; omega) (fun e' => hne ad rfl (by rw [add_block] at e'; injection e')))]
      exact hnums.at_some hj
    clear hB hBV hB1
    go_wp2_with (go_at_call 97; ((with_reducible refine (giveback_any K C1 g o (m.length + 1) cc (some ad) c2 m _ hr2 hCl1 hlen1 (Nat.le_succ _) hcc hlen2 hn2 hne hl2).mono ?_); rintro e w3 ⟨C2, d, rfl, hC2, hCl2, hr3, hg3, ho2, he2⟩))
    go_ret
    refine ⟨C2, t - 1, rfl, by omega, by omega, hC2.trans hC1, hCl2, hr3, hg12.trans hg3, fun i hi => (ho2.out i hi).trans (ho1.out i hi), ?_⟩
    have h1 := he1.out
    have h2 := he2.out
    simp only [if_true] at h1
    have b0 := H1.out
    have b1 := H2.out
    have b2 := H3.out
    have b3 := S_bound (b := 18446744073709551616) (f := fun i => D C2 (o + i)) (k := m.length + 1) (by omega) (fun i _ => D_lim (by omega) hCl2 _)
    have b4 := HM.out
    have b5 := pow_le' (b := 18446744073709551616) (by omega) (Nat.le_succ m.length)
    have e1 : (t - 1) * val 18446744073709551616 m = val 18446744073709551616 m * t - val 18446744073709551616 m := by rw [Int.sub_mul, Int.one_mul, Int.mul_comm]
    show _ ∧ _
    rw [e1]
    generalize S 18446744073709551616 (fun i => D C0 (o + i)) (m.length + 1) = X0 at *
    generalize S 18446744073709551616 (fun i => D C1 (o + i)) (m.length + 1) = X1 at *
    generalize S 18446744073709551616 (fun i => D C2 (o + i)) (m.length + 1) = X2 at *
    generalize val 18446744073709551616 m * t = Y at *
    generalize val 18446744073709551616 m = V at *
    generalize (18446744073709551616 : Int) ^ (m.length + 1) = Q at *
    generalize (18446744073709551616 : Int) ^ m.length = Q1 at *
    have hd : d = 1 := by
      rcases (show d ≤ 0 ∨ d = 1 ∨ 2 ≤ d by omega) with h | h | h
      · have : 0 ≤ (0 - d) * Q := Int.mul_nonneg (by omega) (by omega)
        have e : (0 - d) * Q = - (d * Q) := by grind
        omega
      · exact h
      · have : 0 ≤ (d - 2) * Q := Int.mul_nonneg (by omega) (by omega)
        have e : (d - 2) * Q = d * Q - 2 * Q := by grind
        omega
    subst hd
    omega
end Go.Proofs.YtigphbjgodfhpaaDoor
