/-
  Layer 2, the laws, part four: what the reference holds against each other; NatCompares.
-/
import Derived.Test.YtigphbjgodfhpaaDoorNatAO
import Derived.BigQuiet
namespace Go.Proofs.YtigphbjgodfhpaaDoor
open Go.RowKit
set_option linter.unusedVariables false

set_option maxHeartbeats 2000000 in
theorem refCmp_any {A A2 : Option Addr} {n m c c2 : Nat} {l s : List Int} {w : World} (h : Lv w A n c l) (h2 : Lv w A2 m c2 s) (hn : n ≤ 100000) (hm : m ≤ 100000) :
    Calls Tryd.prog 19 #[.slice A n c, .slice A2 m c2] w fun e w' => e = .returned (.int .i64 (sg (val 18446744073709551616 l) (val 18446744073709551616 s))) ∧ Below w.heap.size w w' := by
  have e1 := norm_val 18446744073709551616 l
  have e2 := norm_val 18446744073709551616 s
  rw [← e1, ← e2]
  clear e1 e2
  have k1 := refNorm_any A c l w h.2.1 h.2.2 (by rw [h.1]; omega)
  rw [h.1] at k1
  have g1 := norm_lim h.2.2
  have g2 := norm_lim h2.2.2
  have g3 := norm_normal l
  have g4 := norm_normal s
  have g5 : (norm l).length ≤ 100000 := by have := norm_length l; have := h.1; omega
  have g6 : (norm s).length ≤ 100000 := by have := norm_length s; have := h2.1; omega
  obtain ⟨x, hx⟩ : ∃ x, norm l = x := ⟨_, rfl⟩
  obtain ⟨y, hy⟩ : ∃ y, norm s = y := ⟨_, rfl⟩
  unfold NormPost at k1
  rw [hx] at k1 g1 g3 g5 ⊢
  rw [hy] at g2 g4 g6 ⊢
  by_cases hlen : x.length = y.length
  · have h0 : ((x.length : Int) != (y.length : Int)) = false := by simp; omega
    have HL := Lib.hid hlen
    have hlt : (x.length : Int) ≤ y.length := by omega
    have hlt2 : (y.length : Int) ≤ x.length := by omega
    clear hlen
    go_enter Tryd.func19, Tryd.ntmps19
    go_wp2_with (first
      | (go_at_call 22; ((with_reducible refine k1.mono ?_); rintro e w1 ⟨A3, c3, rfl, o1, b1⟩; clear k1; have h3 := h2.on b1; have k2 := refNorm_any A2 c2 s w1 h3.2.1 h3.2.2 (by rw [h3.1]; omega); rw [h3.1] at k2; unfold NormPost at k2; rw [hy] at k2))
      | (go_at_call 22; ((with_reducible refine k2.mono ?_); rintro e w2 ⟨A4, c4, rfl, o2, b2⟩)))
    have n1 := (o1.nums.on b2 (Nat.le_refl _))
    have n2 := o2.nums
    have bw : Below w.heap.size w w2 := b1.trans (b2.mono b1.size)
    go_loopw [5] (fun i wr => ∃ k n : Nat, k ≤ x.length ∧ (∀ j, x.length - k ≤ j → D x j = D y j) ∧ i = .int .i64 ((x.length : Int) - 1 - k) ∧ wr = w2.drewN n) (fun i _ => (intOf i + 1).toNat)
    case atStart => exact ⟨0, 0, Nat.zero_le _, fun j hj => by rw [D_out (by omega), D_out (by have := HL.out; omega)], by go_num, rfl⟩
    case round =>
      obtain ⟨k, n, hk, hz, rfl, rfl⟩ := hrel
      have HZ := Lib.hid hz
      clear hz
      by_cases hkl : k < x.length
      · obtain ⟨j, hj⟩ : ∃ j, x.length - 1 - k = j := ⟨_, rfl⟩
        have he : (x.length : Int) - 1 - k = j := by omega
        have hj1 : j < x.length := by omega
        have hj2 : j < y.length := by omega
        obtain ⟨ad, rfl, hb, hc⟩ := n1.at_ hj1
        obtain ⟨ad2, rfl, hb2, hc2⟩ := n2.at_ hj2
        have i0 : (0 : Int) ≤ j := by omega
        have i1 : (j : Int) < x.length := by omega
        have i2 : (j : Int) < y.length := by omega
        have HJ := Lib.hid hj
        have hu : Hid (∀ i, j < i → i < x.length → D x i = D y i) := fun i h3 h4 => HZ.out i (by have := HJ.out; omega)
        clear hj
        rcases Int.lt_trichotomy (D x j) (D y j) with h3 | h3 | h3
        · have hs : (-1 : Int) = sg (val 18446744073709551616 x) (val 18446744073709551616 y) := by
            have := S_lt_of_digit (b := 18446744073709551616) (by omega) g1 g2 hj1 hu.out h3
            rw [S_val (Nat.le_refl _), S_val (by omega)] at this
            rw [sg_lt this]
          have HS := Lib.hid hs
          clear hs
          go_wp2_with fail
          go_quiet (fail)
          go_wp2_with fail
          go_ret
          exact ⟨ret_int HS.out, below_drewN (below_drewN bw _) _⟩
        · have l1 : decide (D x j < D y j) = false := by simp; omega
          have l2 : decide (D x j > D y j) = false := by simp; omega
          have H3 := Lib.hid h3
          clear h3 hu
          go_wp2_with fail
          go_quiet (fail)
          go_wp2_with fail
          go_quiet (fail)
          go_wp2_with fail
          go_roundw
          case rel =>
            refine ⟨k + 1, _, by omega, fun i hi => ?_, by go_num, rfl⟩
            rcases Nat.lt_or_ge i (x.length - k) with h4 | h4
            · obtain rfl : i = j := by have := HJ.out; omega
              exact H3.out
            · exact HZ.out i h4
          case measure => simp [intOf]; omega
        · have hs : (1 : Int) = sg (val 18446744073709551616 x) (val 18446744073709551616 y) := by
            have := S_lt_of_digit (b := 18446744073709551616) (by omega) g2 g1 hj1 (fun i h4 h5 => (hu.out i h4 h5).symm) h3
            rw [S_val (Nat.le_refl _), S_val (by omega)] at this
            rw [sg_gt this]
          have l1 : decide (D x j < D y j) = false := by simp; omega
          have HS := Lib.hid hs
          clear hs hu
          go_wp2_with fail
          go_quiet (fail)
          go_wp2_with fail
          go_quiet (fail)
          go_wp2_with fail
          go_ret
          exact ⟨ret_int HS.out, below_drewN (below_drewN (below_drewN bw _) _) _⟩
      · obtain rfl : k = x.length := by omega
        have hs : (0 : Int) = sg (val 18446744073709551616 x) (val 18446744073709551616 y) := by
          have : x = y := D_ext HL.out fun i hi => HZ.out i (by omega)
          rw [this, sg_eq]
        have HS := Lib.hid hs
        have hneg : ¬ (0 : Int) ≤ (x.length : Int) - 1 - x.length := by omega
        clear hs
        go_wp2_with fail
        go_ret
        exact ⟨ret_int HS.out, below_drewN bw _⟩
  · have hne : ((x.length : Int) != (y.length : Int)) = true := by simp; omega
    rcases Nat.lt_or_ge x.length y.length with k | k
    · have hs : (-1 : Int) = sg (val 18446744073709551616 x) (val 18446744073709551616 y) := (sg_lt (longer_greater (by omega) g1 g2 g4 k)).symm
      have k' : (x.length : Int) < y.length := by omega
      have HS := Lib.hid hs
      clear hs
      go_enter Tryd.func19, Tryd.ntmps19
      go_wp2_with (first
        | (go_at_call 22; ((with_reducible refine k1.mono ?_); rintro e w1 ⟨A3, c3, rfl, o1, b1⟩; clear k1; have h3 := h2.on b1; have k2 := refNorm_any A2 c2 s w1 h3.2.1 h3.2.2 (by rw [h3.1]; omega); rw [h3.1] at k2; unfold NormPost at k2; rw [hy] at k2))
        | (go_at_call 22; ((with_reducible refine k2.mono ?_); rintro e w2 ⟨A4, c4, rfl, o2, b2⟩)))
      go_ret
      exact ⟨ret_int HS.out, b1.trans (b2.mono b1.size)⟩
    · have k3 : y.length < x.length := by omega
      have hs : (1 : Int) = sg (val 18446744073709551616 x) (val 18446744073709551616 y) := (sg_gt (longer_greater (by omega) g2 g1 g3 k3)).symm
      have k' : (y.length : Int) < x.length := by omega
      have HS := Lib.hid hs
      clear hs
      go_enter Tryd.func19, Tryd.ntmps19
      go_wp2_with (first
        | (go_at_call 22; ((with_reducible refine k1.mono ?_); rintro e w1 ⟨A3, c3, rfl, o1, b1⟩; clear k1; have h3 := h2.on b1; have k2 := refNorm_any A2 c2 s w1 h3.2.1 h3.2.2 (by rw [h3.1]; omega); rw [h3.1] at k2; unfold NormPost at k2; rw [hy] at k2))
        | (go_at_call 22; ((with_reducible refine k2.mono ?_); rintro e w2 ⟨A4, c4, rfl, o2, b2⟩)))
      go_ret
      exact ⟨ret_int HS.out, b1.trans (b2.mono b1.size)⟩

/-- a law's walk where a list is longer than is gone through -/
theorem long_lv {A : Option Addr} {n c : Nat} {l : List Int} {w : World} (h : Lv w A n c l) (w' : World) : Calls Tryd.prog 15 #[.slice A n c] w' fun e w'' => e = .returned (.bool (decide (60 < n))) ∧ w' = w'' :=
  long_any A n c (by have := h.2.1.length; have := h.1; omega) w'

set_option maxRecDepth 100000 in
set_option maxHeartbeats 4000000 in
theorem compares_lv {A A2 : Option Addr} {n m c c2 : Nat} {l s : List Int} {w : World} (h : Lv w A n c l) (h2 : Lv w A2 m c2 s) (hT : Tab w) :
    Calls Tryd.prog 3 #[.slice A n c, .slice A2 m c2] w fun e w' => e = .returned (.bool true) ∧ Below w.heap.size w w' := by
  have q1 := long_lv h
  have q2 := long_lv h2
  by_cases k1 : 60 < n
  · have k2 : decide (60 < n) = true := by simp [k1]
    rw [k2] at q1
    go_enter Tryd.func3, Tryd.ntmps3
    go_wp2_with (first
      | (go_at_call 15; ((with_reducible refine (q1 _).mono ?_); rintro e w1 ⟨rfl, rfl⟩))
      | (go_at_call 16; ((with_reducible refine (known_any _ hT).mono ?_); rintro e w1 ⟨rfl, hb⟩)))
    go_ret
    exact ⟨rfl, hb⟩
  have k2 : decide (60 < n) = false := by simp [k1]
  rw [k2] at q1
  by_cases k3 : 60 < m
  · have k4 : decide (60 < m) = true := by simp [k3]
    rw [k4] at q2
    go_enter Tryd.func3, Tryd.ntmps3
    go_wp2_with (first
      | (go_at_call 15; ((with_reducible refine (q1 _).mono ?_); rintro e w1 ⟨rfl, rfl⟩))
      | (go_at_call 15; ((with_reducible refine (q2 _).mono ?_); rintro e w1 ⟨rfl, rfl⟩))
      | (go_at_call 16; ((with_reducible refine (known_any _ hT).mono ?_); rintro e w1 ⟨rfl, hb⟩)))
    go_ret
    exact ⟨rfl, hb⟩
  have k4 : decide (60 < m) = false := by simp [k3]
  rw [k4] at q2
  have p1 := Cmp_any A c l A2 c2 s w h.2.1 h.2.2 h2.2.1 h2.2.2 (norm_le h.1 (by omega)) (norm_le h2.1 (by omega))
  rw [h.1, h2.1] at p1
  obtain ⟨g, hg⟩ : ∃ g, sg (val 18446744073709551616 l) (val 18446744073709551616 s) = g := ⟨_, rfl⟩
  rw [hg] at p1
  have H1 := Lib.hid k1
  have H3 := Lib.hid k3
  clear k1 k3
  go_enter Tryd.func3, Tryd.ntmps3
  go_wp2_with (first
    | (go_at_call 15; ((with_reducible refine (q1 _).mono ?_); rintro e w1 ⟨rfl, rfl⟩))
    | (go_at_call 15; ((with_reducible refine (q2 _).mono ?_); rintro e w1 ⟨rfl, rfl⟩)))
  with_reducible refine p1.mono ?_
  rintro e w1 ⟨rfl, k, rfl⟩
  have b1 : Below w.heap.size w (w.drewN k) := below_drewN (Below.refl _ w) k
  replace h := h.on b1
  replace h2 := h2.on b1
  replace hT := hT.on b1
  have p2 := norm_any A c l _ h.2.1 h.2.2 (norm_le h.1 (by have := H1.out; omega))
  rw [h.1] at p2
  unfold New2Post at p2
  go_wp2_with fail
  with_reducible refine p2.mono ?_
  rintro e w2 ⟨A3, c3, rfl, o3, b2⟩
  replace h := h.on b2
  replace h2 := h2.on b2
  replace hT := hT.on b2
  have bw := bel_then b1 b2
  have n3 : Lv w2 A3 (norm l).length c3 (norm l) := ⟨rfl, o3.nums, norm_lim h.2.2⟩
  have p3 := refCmp_any h h2 (by have := H1.out; omega) (by have := H3.out; omega)
  rw [hg] at p3
  go_wp2_with fail
  with_reducible refine p3.mono ?_
  rintro e w3 ⟨rfl, b3⟩
  replace h := h.on b3
  replace hT := hT.on b3
  replace n3 := n3.on b3
  replace bw := bel_then bw b3
  go_wp2_with (go_at_call 20; ((with_reducible refine (num_any 0 _).mono ?_); rintro e w4 ⟨rfl, rfl⟩))
  have p4 := refNorm_any A c l _ h.2.1 h.2.2 (by have := H1.out; have := h.1; omega)
  rw [h.1] at p4
  unfold NormPost at p4
  with_reducible refine p4.mono ?_
  rintro e w5 ⟨A5, c5, rfl, o5, b5⟩
  replace hT := hT.on b5
  replace n3 := n3.on b5
  replace bw := bel_then bw b5
  go_wp2_with fail
  have p6 := same_true A3 c3 A5 c5 (norm l) _ _ _ n3.2.1 o5.nums
  with_reducible refine p6.mono ?_
  rintro e w6 ⟨rfl, k6, rfl⟩
  have b6 : Below w5.heap.size w5 (w5.drewN k6) := below_drewN (Below.refl _ w5) k6
  replace hT := hT.on b6
  replace bw := bel_then bw b6
  go_wp2_with fail
  with_reducible refine (known_any _ hT).mono ?_
  rintro e w7 ⟨rfl, b7⟩
  go_wp2_with fail
  go_ret
  exact ⟨rfl, bel_then bw b7⟩

theorem compares_law (a0 : Option Addr) (len0 cap0 : Nat) (z0 : List Int) (a1 : Option Addr) (len1 cap1 : Nat) (z1 : List Int) (w : World) (w0 : IsRow .u64 w a0 len0 cap0 z0) (w1 : IsRow .u64 w a1 len1 cap1 z1) (hT : Tab w) :
    Calls Tryd.prog 3 #[.slice a0 len0 cap0, .slice a1 len1 cap1] w fun e w' => e = .returned (.bool true) ∧ Below w.heap.size w w' := by
  obtain ⟨l, h⟩ := w0.lv
  obtain ⟨s, h2⟩ := w1.lv
  exact compares_lv h h2 hT
end Go.Proofs.YtigphbjgodfhpaaDoor
