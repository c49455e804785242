/-
  Layer 2, joined (wip/tools/merge.py): NatY NatZ NatAA NatAB.
  Layer 2, plain mathematics of a square root by halves.
  Layer 2, walks, part twenty: a limb's square root; divisions, as they are handed out.
  Layer 2, walks, part twenty-one: a number's square root.
  Layer 2, walks, part twenty-two: square roots, as they are handed out; a number divided by a limb in place.
-/
import Derived.Test.YtfjellhbcjnjkaaGreatDoorSNG3
namespace Go.Proofs.YtfjellhbcjnjkaaGreatDoor
set_option linter.unusedVariables false

/-- s is v's root, r what is left -/
def IsRoot (v s r : Int) : Prop := v = s * s + r ∧ 0 ≤ s ∧ 0 ≤ r ∧ r ≤ 2 * s

section
variable {v P a lo s r : Int}
/-- of the upper half -/
theorem root_upper (hP : 1 ≤ P) (hv : v = a * (P * P) + lo) (hlo0 : 0 ≤ lo) (hlo1 : lo < P * P) (ha : P * P ≤ a) (h : IsRoot a s r) :
    P ≤ s ∧ a ≤ v ∧ lo ≤ v ∧ s ≤ v ∧ r ≤ v ∧ r * P ≤ v ∧ s * P ≤ v ∧ P * P ≤ v ∧ lo / P ≤ v ∧ 0 ≤ lo / P ∧ lo / P < P ∧ 0 ≤ lo % P ∧ lo % P < P ∧ lo = lo / P * P + lo % P := by
  obtain ⟨h1, h2, h3, h4⟩ := h
  have hPP : 1 ≤ P * P := by
    have := Int.mul_le_mul_of_nonneg_left hP (show 0 ≤ P by omega); omega
  have haP : a * 1 ≤ a * (P * P) := Int.mul_le_mul_of_nonneg_left hPP (by omega)
  have hs0 : P ≤ s := by
    rcases (show P ≤ s ∨ s + 1 ≤ P by omega) with h | h
    · exact h
    · have a1 : (s + 1) * (s + 1) ≤ P * P := Int.mul_le_mul h h (by omega) (by omega)
      have e : (s + 1) * (s + 1) = s * s + 2 * s + 1 := by grind
      omega
  have hss : s * 1 ≤ s * s := Int.mul_le_mul_of_nonneg_left (by omega) h2
  have hrP : r * P ≤ a * (P * P) := by
    have b1 : r * P ≤ a * P := Int.mul_le_mul_of_nonneg_right (by omega) (by omega)
    have b2 : a * P * 1 ≤ a * P * P := Int.mul_le_mul_of_nonneg_left hP (Int.mul_nonneg (by omega) (by omega))
    have e : a * P * P = a * (P * P) := by grind
    omega
  have hsP : s * P ≤ a * (P * P) := by
    have b1 : s * P ≤ a * P := Int.mul_le_mul_of_nonneg_right (by omega) (by omega)
    have b2 : a * P * 1 ≤ a * P * P := Int.mul_le_mul_of_nonneg_left hP (Int.mul_nonneg (by omega) (by omega))
    have e : a * P * P = a * (P * P) := by grind
    omega
  have d1 := Int.mul_ediv_add_emod lo P
  have d2 := Int.emod_nonneg lo (show P ≠ 0 by omega)
  have d3 := Int.emod_lt_of_pos lo (show 0 < P by omega)
  have d4 : 0 ≤ lo / P := Int.ediv_nonneg hlo0 (by omega)
  have d5 : lo / P < P := Int.ediv_lt_of_lt_mul (by omega) hlo1
  have d6 : lo / P ≤ lo := Int.ediv_le_self _ hlo0
  refine ⟨hs0, by omega, by omega, by omega, by omega, by omega, by omega, by omega, by omega, d4, d5, d2, d3, ?_⟩
  have : P * (lo / P) = lo / P * P := Int.mul_comm _ _
  omega
/-- of both halves -/
theorem root_both {Q R lh ll : Int} (hP : 1 ≤ P) (hv : v = a * (P * P) + (lh * P + ll)) (h : IsRoot a s r) (hs : P ≤ s) (h0 : 0 ≤ lh) (h1 : lh < P) (h2 : 0 ≤ ll) (h3 : ll < P)
    (hQ : r * P + lh = Q * (s * 2) + R) (hQ0 : 0 ≤ Q) (hR0 : 0 ≤ R) (hR : R < s * 2) :
    Q ≤ P ∧ R * P + ll - Q * Q = v - (s * P + Q) * (s * P + Q) ∧ (Q * Q ≤ R * P + ll → IsRoot v (s * P + Q) (R * P + ll - Q * Q)) ∧
      (R * P + ll < Q * Q → 1 ≤ s * P + Q ∧ IsRoot v (s * P + Q - 1) (R * P + ll + ((s * P + Q - 1) * 2 + 1) - Q * Q) ∧ Q * Q ≤ R * P + ll + ((s * P + Q - 1) * 2 + 1)) := by
  obtain ⟨g1, g2, g3, g4⟩ := h
  have hQP : Q ≤ P := by
    rcases (show Q ≤ P ∨ P + 1 ≤ Q by omega) with h | h
    · exact h
    · have b1 : (P + 1) * (s * 2) ≤ Q * (s * 2) := Int.mul_le_mul_of_nonneg_right h (by omega)
      have b2 : r * P ≤ 2 * s * P := Int.mul_le_mul_of_nonneg_right g4 (by omega)
      have e : (P + 1) * (s * 2) = 2 * s * P + 2 * s := by grind
      omega
  have hD : R * P + ll - Q * Q = v - (s * P + Q) * (s * P + Q) := by
    have e1 : R = r * P + lh - Q * (s * 2) := by omega
    rw [hv, g1, e1]; grind
  have hsP : P * P ≤ s * P := Int.mul_le_mul_of_nonneg_right hs (by omega)
  have hQQ : Q * Q ≤ P * P := Int.mul_le_mul hQP hQP hQ0 (by omega)
  have hRP : R * P ≤ (s * 2 - 1) * P := Int.mul_le_mul_of_nonneg_right (by omega) (by omega)
  have e2 : (s * 2 - 1) * P = 2 * (s * P) - P := by grind
  have hRP0 : 0 ≤ R * P := Int.mul_nonneg hR0 (by omega)
  have hQQ0 : 0 ≤ Q * Q := Int.mul_nonneg hQ0 hQ0
  have hPP : 1 ≤ P * P := by
    have := Int.mul_le_mul_of_nonneg_left hP (show 0 ≤ P by omega); omega
  refine ⟨hQP, hD, fun h => ⟨by omega, by omega, by omega, by omega⟩, fun h => ⟨by omega, ⟨?_, by omega, by omega, by omega⟩, by omega⟩⟩
  have e3 : (s * P + Q - 1) * (s * P + Q - 1) = (s * P + Q) * (s * P + Q) - 2 * (s * P + Q) + 1 := by grind
  omega
end
end Go.Proofs.YtfjellhbcjnjkaaGreatDoor
namespace Go.Proofs.YtfjellhbcjnjkaaGreatDoor
open Go.RowKit
set_option linter.unusedVariables false

theorem divided_any (A : Option Addr) (c : Nat) (l : List Int) (A2 : Option Addr) (c2 : Nat) (m : List Int) (w : World) (h : Nums w w.heap.size A c l) (hl : Lim 18446744073709551616 l) (nl : Normal l)
    (h2 : Nums w w.heap.size A2 c2 m) (hl2 : Lim 18446744073709551616 m) (nm : Normal m) (hb1 : l.length ≤ 900000) (hb2 : m.length ≤ 900000) (hm : 0 < val 18446744073709551616 m) :
    Calls Tryz.prog 88 #[.slice A l.length c, .slice A2 m.length c2] w (Two (val 18446744073709551616 l) (val 18446744073709551616 m) w) := by
  have hpos := val_pos_len (l := m) (by omega)
  rcases Nat.lt_or_ge l.length m.length with h0 | h0
  · exact divided_less A c l A2 c2 m w h hl nl h2 hl2 nm (by omega) (by omega) h0
  · rcases (show m.length = 1 ∨ 2 ≤ m.length by omega) with h1 | h1
    · exact divided_one A c l A2 c2 m w h hl h2 hl2 nm (by omega) h1 (by omega)
    · exact divided_more A c l A2 c2 m w h hl nl h2 hl2 nm hb1 h1 h0

/-- a quotient and a rest, and no error -/
def Two2 (vl vm : Int) (w : World) (e : Ending) (w' : World) : Prop :=
  ∃ q r A1 c1 A2 c2, e = .returned (.tuple #[.slice A1 q.length c1, .slice A2 r.length c2, .int .i64 0]) ∧ Lim 18446744073709551616 q ∧ Lim 18446744073709551616 r ∧ Normal q ∧ Normal r ∧
    Hid (vl = val 18446744073709551616 q * vm + val 18446744073709551616 r ∧ val 18446744073709551616 r < vm) ∧ Own w' w.heap.size A1 c1 q ∧ Own w' w.heap.size A2 c2 r ∧ Below w.heap.size w w'

set_option maxHeartbeats 1000000 in
theorem Div_any (A : Option Addr) (c : Nat) (l : List Int) (A2 : Option Addr) (c2 : Nat) (m : List Int) (w : World) (h : Nums w w.heap.size A c l) (hl : Lim 18446744073709551616 l)
    (h2 : Nums w w.heap.size A2 c2 m) (hl2 : Lim 18446744073709551616 m) (hlen : (norm l).length ≤ 4096) (hlen2 : (norm m).length ≤ 4096) (hm : 0 < val 18446744073709551616 m) :
    Calls Tryz.prog 49 #[.slice A l.length c, .slice A2 m.length c2] w (Two2 (val 18446744073709551616 l) (val 18446744073709551616 m) w) := by
  have e1 := norm_val 18446744073709551616 l
  have e2 := norm_val 18446744073709551616 m
  rw [← e2] at hm
  rw [← e1, ← e2]
  have hpos := val_pos_len (l := norm m) (by omega)
  have hm0 : (((norm m).length : Int) == 0) = false := beq_eq_false_iff_ne.2 (by omega)
  clear e1 e2
  go_enter Tryz.func49, Tryz.ntmps49
  go_wp2_with (first
    | (go_at_call 87; ((with_reducible refine (both_any A c l A2 c2 m _ _ h hl hlen h2 hl2 hlen2).mono ?_); rintro e w' ⟨A', c', A2', c2', rfl, ht, ht2, rfl⟩))
    | (go_at_call 88; ((with_reducible refine (divided_any A' c' (norm l) A2' c2' (norm m) _ (ht.nums h) (norm_lim hl) (norm_normal l) (ht2.nums h2) (norm_lim hl2) (norm_normal m) (by omega) (by omega) hm).mono ?_); rintro e w' ⟨q, r, A3, c3, A4, c4, rfl, hq1, hr1, hq2, hr2, hdiv, hq3, hr3, hb⟩)))
  go_ret3
  exact ⟨q, r, A3, c3, A4, c4, rfl, hq1, hr1, hq2, hr2, hdiv, hq3, hr3, hb⟩

set_option maxHeartbeats 1000000 in
theorem Div_zero (A : Option Addr) (c : Nat) (l : List Int) (A2 : Option Addr) (c2 : Nat) (m : List Int) (w : World) (h : Nums w w.heap.size A c l) (hl : Lim 18446744073709551616 l)
    (h2 : Nums w w.heap.size A2 c2 m) (hl2 : Lim 18446744073709551616 m) (hlen : (norm l).length ≤ 4096) (hm : norm m = []) :
    Calls Tryz.prog 49 #[.slice A l.length c, .slice A2 m.length c2] w fun e w' => e = .returned (.tuple #[.slice none 0 0, .slice none 0 0, .int .i64 2]) ∧ w = w' := by
  have hb := both_any A c l A2 c2 m w _ h hl hlen h2 hl2 (by rw [hm]; simp)
  unfold BothPost at hb
  rw [hm] at hb
  have HB := Lib.hid hb
  clear hb hm
  go_enter Tryz.func49, Tryz.ntmps49
  go_wp2_with (go_at_call 87; ((with_reducible refine HB.out.mono ?_); rintro e w' ⟨A', c', A2', c2', rfl, ht, ht2, rfl⟩))
  go_ret3
  exact ⟨rfl, rfl⟩

/-! ### a limb's root -/
/-- a root and what is left, in new memory -/
def RootPost (v : Int) (w : World) (e : Ending) (w' : World) : Prop :=
  ∃ s r A1 c1 A2 c2, e = .returned (.tuple #[.slice A1 s.length c1, .slice A2 r.length c2]) ∧ Lim 18446744073709551616 s ∧ Lim 18446744073709551616 r ∧ Normal s ∧ Normal r ∧
    Hid (IsRoot v (val 18446744073709551616 s) (val 18446744073709551616 r)) ∧ Own w' w.heap.size A1 c1 s ∧ Own w' w.heap.size A2 c2 r ∧ Below w.heap.size w w'

set_option maxRecDepth 100000 in
set_option maxHeartbeats 4000000 in
theorem rootOfLimb_any (n : Int) (w : World) (h0 : 0 ≤ n) (h1 : n < 18446744073709551616) :
    Calls Tryz.prog 130 #[.int .u64 n] w (RootPost n w) := by
  go_enter Tryz.func130, Tryz.ntmps130
  go_wp2_with fail
  go_loop [4, 7] (fun a i => ∃ (k : Nat) (m : Int), k ≤ 32 ∧ i = .int .i64 k ∧ a = .int .u64 m ∧ 0 ≤ m ∧ m + 2 ^ (32 - k) ≤ 4294967296 ∧ Hid (m % 2 ^ (32 - k) = 0 ∧ m * m ≤ n ∧ n < (m + 2 ^ (32 - k)) * (m + 2 ^ (32 - k)))) (fun _ i => 32 - (intOf i).toNat)
  case atStart => exact ⟨0, 0, by omega, rfl, rfl, by omega, by decide, by simp, by omega, by simpa using h1⟩
  case round =>
    obtain ⟨k, m, hk, rfl, rfl, hm0, hm1, HM⟩ := hrel
    by_cases hkn : k < 32
    · obtain ⟨e, he⟩ : ∃ e, 31 - k = e := ⟨_, rfl⟩
      have hei : (31 : Int) - k = e := by omega
      have e1 : 32 - k = e + 1 := by omega
      have e2 : 32 - (k + 1) = e := by omega
      have hM := HM.out
      rw [e1] at hM hm1
      have hp := two_pos e
      have hp1 : (2 : Int) ^ (e + 1) = 2 ^ e * 2 := Int.pow_succ _ _
      have hpw : (2 : Int) ^ e < 4294967296 := by
        have a := pow_le' (b := 2) (by omega) (show e ≤ 31 by omega)
        have b : (2 : Int) ^ 31 = 2147483648 := by decide
        omega
      rw [hp1] at hM hm1
      obtain ⟨g1, g2, g3⟩ := hM
      have hor : bits .or .u64 m (2 ^ e) = m + 2 ^ e := or_low (e + 1) m (2 ^ e) hm0 (by omega) (by rw [hp1]; exact g1) (by omega) (by rw [hp1]; omega) (by omega)
      obtain ⟨x, hx⟩ : ∃ x, m + 2 ^ e = x := ⟨_, rfl⟩
      rw [hx] at hor
      have hw : IntKind.u64.wrap ((2 : Int) ^ e) = 2 ^ e := by rw [IntKind.wrap_u64]; omega
      have hx0 : 0 ≤ x := by omega
      have hx1 : x ≤ 4294967295 := by omega
      have hq : x * x ≤ 4294967295 * 4294967295 := Int.mul_le_mul hx1 hx1 hx0 (by omega)
      have hq0 : 0 ≤ x * x := Int.mul_nonneg hx0 hx0
      have hmod : m % 2 ^ e = 0 := by
        have := Int.emod_emod_of_dvd m (show (2 : Int) ^ e ∣ 2 ^ e * 2 from ⟨2, rfl⟩)
        rw [g1] at this
        simpa using this.symm
      have hmod2 : x % 2 ^ e = 0 := by rw [← hx, Int.add_emod_right]; exact hmod
      obtain ⟨q, hqq⟩ : ∃ q, x * x = q := ⟨_, rfl⟩
      rw [hqq] at hq hq0
      have hq' : q ≤ 18446744065119617025 := by omega
      clear hq
      have G2 := Lib.hid g2
      have G3 := Lib.hid g3
      have HX := Lib.hid hx
      have HQ := Lib.hid hqq
      have E2 := Lib.hid e2
      have M1 := Lib.hid hmod
      have M2 := Lib.hid hmod2
      have HM1 := Lib.hid hm1
      clear g1 g2 g3 hx e1 e2 hp1 hmod hmod2 he hp hpw hm1
      by_cases hc : q ≤ n
      · go_wp2_with fail
        go_round
        case rel =>
          refine ⟨k + 1, x, by omega, by go_num, rfl, hx0, ?_, ?_, ?_, ?_⟩
          · rw [E2.out]; have := HX.out; have := HM1.out; omega
          · rw [E2.out]; exact M2.out
          · rw [HQ.out]; exact hc
          · rw [E2.out]; have := G3.out; have e3 : x + 2 ^ e = m + 2 ^ e * 2 := by have := HX.out; omega
            rw [e3]; exact this
        case measure => simp [intOf]; omega
      · go_wp2_with fail
        go_round
        case rel =>
          refine ⟨k + 1, m, by omega, by go_num, rfl, hm0, ?_, ?_, G2.out, ?_⟩
          · rw [E2.out]; have := HM1.out; have := two_pos e; omega
          · rw [E2.out]; exact M1.out
          · rw [E2.out, HX.out, HQ.out]; omega
        case measure => simp [intOf]; omega
    · obtain rfl : k = 32 := by omega
      have hM := HM.out
      simp only [Nat.sub_self, Int.pow_zero] at hM hm1
      obtain ⟨_, g2, g3⟩ := hM
      have hq0 : 0 ≤ m * m := Int.mul_nonneg hm0 hm0
      have e3 : (m + 1) * (m + 1) = m * m + 2 * m + 1 := by grind
      have hq1 : m * m ≤ 18446744073709551615 := by omega
      have hr : n - m * m ≤ 2 * m := by omega
      have HR : Hid (IsRoot n m (n - m * m)) := ⟨by omega, hm0, by omega, hr⟩
      have hd0 : 0 ≤ n - m * m := by omega
      have hd1 : n - m * m < 18446744073709551616 := by omega
      clear e3 g3
      go_wp2_with (first
        | (go_at_call 112; ((with_reducible refine (of_any m _ hm0 (by omega)).mono ?_); rintro e w1 ⟨A1, c1, rfl, ho1, hb1⟩))
        | (go_at_call 112; ((with_reducible refine (of_any (n - m * m) _ hd0 hd1).mono ?_); rintro e w2 ⟨A2, c2, rfl, ho2, hb2⟩)))
      go_ret2
      have l1 : Lim 18446744073709551616 [m] := fun x hx => by simp at hx; omega
      have l2 : Lim 18446744073709551616 [n - m * m] := fun x hx => by simp at hx; omega
      refine ⟨norm [m], norm [n - m * m], A1, c1, A2, c2, rfl, norm_lim l1, norm_lim l2, norm_normal _, norm_normal _, ?_, ho1.below hb2, ho2.less hb1.size, hb1.trans (hb2.mono hb1.size)⟩
      show IsRoot _ _ _
      rw [norm_val, norm_val, val_cons, val_cons, val_nil]
      simpa using HR.out
end Go.Proofs.YtfjellhbcjnjkaaGreatDoor
namespace Go.Proofs.YtfjellhbcjnjkaaGreatDoor
open Go.RowKit
set_option linter.unusedVariables false

theorem shiftedDown_at (A : Option Addr) (c : Nat) (l : List Int) (j : Nat) (i : Int) (hi : i = (j : Int)) (w : World) (h : Nums w w.heap.size A c l) (hl : Lim 18446744073709551616 l) (hb1 : l.length ≤ 1000000) (hj2 : j ≤ 9223372036854775807) :
    Calls Tryz.prog 118 #[.slice A l.length c, .int .i64 i] w (Made (val 18446744073709551616 l / 2 ^ j) w) := by
  subst hi; exact shiftedDown_any A c l j w h hl hb1 hj2
theorem lowest_at (A : Option Addr) (c : Nat) (l : List Int) (j : Nat) (i : Int) (hi : i = (j : Int)) (w : World) (h : Nums w w.heap.size A c l) (hl : Lim 18446744073709551616 l) (nl : Normal l) (hb1 : l.length ≤ 1000000) (hj2 : j ≤ 9223372036854775807) :
    Calls Tryz.prog 132 #[.slice A l.length c, .int .i64 i] w (Made (val 18446744073709551616 l % 2 ^ j) w) := by
  subst hi; exact lowest_any A c l j w h hl nl hb1 hj2
theorem shiftedUp_at (A : Option Addr) (c : Nat) (l : List Int) (j : Nat) (i : Int) (hi : i = (j : Int)) (w : World) (h : Nums w w.heap.size A c l) (hl : Lim 18446744073709551616 l) (hb1 : l.length ≤ 1000000) (hj : j ≤ 64000000) :
    Calls Tryz.prog 120 #[.slice A l.length c, .int .i64 i] w (Made (val 18446744073709551616 l * 2 ^ j) w) := by
  subst hi; exact shiftedUp_all A c l j w h hl hb1 hj
set_option maxHeartbeats 1000000 in
theorem rooted_small (A : Option Addr) (c : Nat) (l : List Int) (w : World) (h : Nums w w.heap.size A c l) (hl : Lim 18446744073709551616 l) (hlen : l.length ≤ 1) :
    Calls Tryz.prog 98 #[.slice A l.length c] w (RootPost (val 18446744073709551616 l) w) := by
  have hx := D_lim (b := 18446744073709551616) (by omega) hl 0
  have hv : val 18446744073709551616 l = D l 0 := by
    rw [← S_val (b := 18446744073709551616) (k := 1) hlen]; simp [S]
  rw [hv]
  clear hv
  go_enter Tryz.func98, Tryz.ntmps98
  go_wp2_with (first
    | (go_at_call 131; ((with_reducible refine (limb_at A c l 0 0 rfl _ _ h).mono ?_); rintro e w' ⟨rfl, rfl⟩))
    | (go_at_call 130; ((with_reducible refine (rootOfLimb_any (D l 0) _ hx.1 hx.2).mono ?_); rintro e w' ⟨s, r, A1, c1, A2, c2, rfl, h1, h2, h3, h4, h5, h6, h7, h8⟩)))
  go_ret2
  exact ⟨s, r, A1, c1, A2, c2, rfl, h1, h2, h3, h4, h5, h6, h7, h8⟩

theorem bits_le {v : Int} {N n : Nat} (h : v < 18446744073709551616 ^ N) (hn : IsBits v n) : n ≤ 64 * N := by
  obtain ⟨a, b, d⟩ := hn
  rw [pow64] at h
  rcases Nat.lt_or_ge (64 * N) n with g | g
  · have h1 := pow_le' (b := 2) (by omega) (show 64 * N ≤ n - 1 by omega)
    have h3 := d (by omega)
    omega
  · exact g

set_option maxRecDepth 100000 in
set_option maxHeartbeats 8000000 in
theorem rooted_step (k : Nat) (ih : ∀ j, j < k → ∀ (A : Option Addr) (c : Nat) (l : List Int) (w : World), Nums w w.heap.size A c l → Lim 18446744073709551616 l → Normal l → l.length ≤ 4097 → val 18446744073709551616 l < 2 ^ j →
      Calls Tryz.prog 98 #[.slice A l.length c] w (RootPost (val 18446744073709551616 l) w))
    (A : Option Addr) (c : Nat) (l : List Int) (w : World) (m_0 : Nums w w.heap.size A c l) (hl : Lim 18446744073709551616 l) (nl : Normal l) (hlen : l.length ≤ 4097) (hk : val 18446744073709551616 l < 2 ^ k) (h2 : 2 ≤ l.length) :
    Calls Tryz.prog 98 #[.slice A l.length c] w (RootPost (val 18446744073709551616 l) w) := by
  obtain ⟨v, hv⟩ : ∃ v, val 18446744073709551616 l = v := ⟨_, rfl⟩
  obtain ⟨N, hN⟩ : ∃ N : Nat, 4097 = N := ⟨_, rfl⟩
  have hlenN : l.length ≤ N := by omega
  have hM := (val_bound (b := 18446744073709551616) (by omega) hl).2
  have hM0 := (val_bound (b := 18446744073709551616) (by omega) hl).1
  have hM2 := pow_le' (b := 18446744073709551616) (by omega) hlenN
  have hge := normal_ge (b := 18446744073709551616) (by omega) hl nl (List.length_pos_iff.1 (by omega))
  have hge2 := pow_le' (b := 18446744073709551616) (by omega) (show 1 ≤ l.length - 1 by omega)
  have hHL : ∀ x, Lim 18446744073709551616 x → Normal x → val 18446744073709551616 x ≤ 15 * v → x.length ≤ 4098 := fun x h1 h2 h3 => by
    refine length_le_of_lt (b := 18446744073709551616) (by omega) h1 h2 ?_
    rw [show 4098 = N + 1 from by omega, Int.pow_succ]
    rw [hv] at hM
    generalize (18446744073709551616 : Int) ^ N = Z at *
    generalize (18446744073709551616 : Int) ^ l.length = Z2 at *
    omega
  have HL := Lib.hid hHL
  have hHL0 : ∀ x, Lim 18446744073709551616 x → Normal x → val 18446744073709551616 x ≤ v → x.length ≤ 4097 := fun x h1 h2 h3 => by
    rw [hN]
    refine length_le_of_lt (b := 18446744073709551616) (by omega) h1 h2 ?_
    rw [hv] at hM
    generalize (18446744073709551616 : Int) ^ N = Z at *
    generalize (18446744073709551616 : Int) ^ l.length = Z2 at *
    omega
  have HL0 := Lib.hid hHL0
  have hA1 : ∀ n, IsBits v n → 65 ≤ n ∧ n ≤ 262208 ∧ n ≤ k := by
    rintro n ⟨a, b, d⟩
    rw [hv] at hM hge hk
    refine ⟨?_, ?_, ?_⟩
    · rcases Nat.lt_or_ge n 65 with g | g
      · have := pow_le' (b := 2) (by omega) (show n ≤ 64 by omega)
        have e : (2 : Int) ^ 64 = 18446744073709551616 := by decide
        simp only [Int.pow_one] at hge2
        omega
      · exact g
    · have := bits_le (N := N) (by rw [← hv] at *; omega) ⟨a, b, d⟩
      omega
    · rcases Nat.lt_or_ge k n with g | g
      · have h1 := pow_le' (b := 2) (by omega) (show k ≤ n - 1 by omega)
        have h3 := d (by omega)
        omega
      · exact g
  have HA := Lib.hid hA1
  have hv0 : 0 ≤ v := by omega
  have bw := Below.refl w.heap.size w
  have hsz : w.heap.size ≤ w.heap.size := Nat.le_refl _
  have hb := bitsOf_any A c l w _ m_0 hl nl (by omega)
  rw [hv] at hb
  have HB := Lib.hid hb
  have HV := Lib.hid hv
  rw [hv]
  have hl2 : (2 : Int) ≤ l.length := by omega
  clear hb hM hM0 hM2 hge hge2 hHL hHL0 hA1 hk hv
  go_enter Tryz.func98, Tryz.ntmps98
  go_wp2_with fail
  with_reducible refine HB.out.mono ?_
  rintro e w' ⟨n, rfl, hn, rfl⟩
  obtain ⟨n1, n2, n3⟩ := HA.out n hn
  obtain ⟨q, hq⟩ : ∃ q, (n - 1) / 4 = q := ⟨_, rfl⟩
  have hqi : ((n : Int) - 1) / 4 = q := by omega
  have q1 : q ≤ 65552 := by omega
  have q2 : n - 2 * q < n := by omega
  have q3 : 4 * q ≤ n - 1 := by omega
  obtain ⟨P, hP⟩ : ∃ P : Int, (2 : Int) ^ q = P := ⟨_, rfl⟩
  have hPP : (2 : Int) ^ (2 * q) = P * P := by rw [← hP, show 2 * q = q + q from by omega, Int.pow_add]
  have p0 : 1 ≤ P := by rw [← hP]; have := two_pos q; omega
  have hmod := Int.emod_nonneg v (show P * P ≠ 0 from by have := Int.mul_le_mul_of_nonneg_left p0 (show 0 ≤ P by omega); omega)
  have hPPpos : 0 < P * P := by have := Int.mul_le_mul_of_nonneg_left p0 (show 0 ≤ P by omega); omega
  have hmod2 := Int.emod_lt_of_pos v hPPpos
  have hdm : v = v / (P * P) * (P * P) + v % (P * P) := by have := Int.mul_ediv_add_emod v (P * P); rw [Int.mul_comm] at this; omega
  have haP : P * P ≤ v / (P * P) := by
    apply (Int.le_ediv_iff_mul_le hPPpos).2
    have h1 := pow_le' (b := 2) (by omega) q3
    have h3 := hn.2.2 (by omega)
    have h4 : (2 : Int) ^ (4 * q) = P * P * (P * P) := by rw [show 4 * q = 2 * q + 2 * q from by omega, Int.pow_add, hPP]
    omega
  have halt : v / (P * P) < 2 ^ (n - 2 * q) := by
    apply (Int.ediv_lt_iff_lt_mul hPPpos).2
    rw [← hPP, ← Int.pow_add, show n - 2 * q + 2 * q = n from by omega]
    exact hn.2.1
  have hav : v / (P * P) ≤ v := Int.ediv_le_self _ hv0
  obtain ⟨a, ha⟩ : ∃ a, v / (P * P) = a := ⟨_, rfl⟩
  obtain ⟨lo, hlo⟩ : ∃ lo, v % (P * P) = lo := ⟨_, rfl⟩
  rw [ha] at hdm haP halt hav
  rw [hlo] at hmod hmod2 hdm
  have DM := Lib.hid hdm
  have EA := Lib.hid ha
  have ELO := Lib.hid hlo
  have EPP := Lib.hid hPP
  have EP := Lib.hid hP
  have ALT := Lib.hid halt
  clear hdm ha hlo hPP hP halt hn hq HB
  go_wp2_with fail
  with_reducible refine (shiftedDown_at A c l (2 * q) (2 * (q : Int)) (by omega) _ m_0 hl (by omega) (by omega)).mono ?_
  rintro e w1 ⟨x2, A2, c2, rfl, l2, n2, v2, o2, b1⟩
  have u2 := o2.nums
  have z2 := o2.less hsz
  replace m_0 := m_0.on b1 (Nat.le_refl _)
  replace bw := bw.trans (b1.mono hsz)
  replace hsz : w.heap.size ≤ w1.heap.size := Nat.le_trans hsz b1.size
  have m_2 := u2
  clear u2 z2 o2 b1
  have V2 := Lib.hid v2
  have y2 := HL.out x2 l2 n2 (by rw [v2]; rw [HV.out, EPP.out, EA.out]; omega)
  clear v2
  have e2 : val 18446744073709551616 x2 = a := by rw [V2.out, HV.out, EPP.out, EA.out]
  have y2' := HL0.out x2 l2 n2 (by rw [e2]; omega)
  have ih2 := ih (n - 2 * q) (by omega) A2 c2 x2 _ m_2 l2 n2 y2' (by rw [e2]; exact ALT.out)
  rw [e2] at ih2
  have IH := Lib.hid ih2
  clear ih2 e2
  go_wp2_with fail
  with_reducible refine IH.out.mono ?_
  rintro e w2 ⟨xs, xr, As, cs, Ar, cr, rfl, ls, lr, ns, nr, hroot, os, or_, b2⟩
  have us := os.nums
  have ur := or_.nums
  clear m_2
  replace m_0 := m_0.on b2 (Nat.le_refl _)
  replace bw := bw.trans (b2.mono hsz)
  replace hsz : w.heap.size ≤ w2.heap.size := Nat.le_trans hsz b2.size
  have m_s := us
  have m_r := ur
  clear us ur os or_ b2 IH
  obtain ⟨t1, t2, t3, t4, t5, t6, t7, t8, t9, t10, t11, t12, t13, t14⟩ := root_upper p0 DM.out hmod hmod2 haP hroot.out
  have ys := HL.out xs ls ns (by omega)
  have yr := HL.out xr lr nr (by omega)
  have T14 := Lib.hid t14
  clear t14
  have hs0 := (val_bound (b := 18446744073709551616) (by omega) ls).1
  have hr0 := (val_bound (b := 18446744073709551616) (by omega) lr).1
  go_wp2_with fail
  with_reducible refine (lowest_at A c l (2 * q) (2 * (q : Int)) (by omega) _ m_0 hl nl (by omega) (by omega)).mono ?_
  rintro e w3 ⟨x4, A4, c4, rfl, l4, n4, v4, o4, b3⟩
  have u4 := o4.nums
  have z4 := o4.less hsz
  replace m_0 := m_0.on b3 (Nat.le_refl _)
  replace m_s := m_s.on b3 (Nat.le_refl _)
  replace m_r := m_r.on b3 (Nat.le_refl _)
  replace bw := bw.trans (b3.mono hsz)
  replace hsz : w.heap.size ≤ w3.heap.size := Nat.le_trans hsz b3.size
  have m_4 := u4
  clear u4 z4 o4 b3
  have V4 := Lib.hid v4
  have y4 := HL.out x4 l4 n4 (by rw [v4]; rw [HV.out, EPP.out, ELO.out]; omega)
  clear v4
  clear m_0
  go_wp2_with fail
  with_reducible refine (shiftedUp_all Ar cr xr q _ m_r lr (by omega) (by omega)).mono ?_
  rintro e w4 ⟨x5, A5, c5, rfl, l5, n5, v5, o5, b4⟩
  have u5 := o5.nums
  have z5 := o5.less hsz
  replace m_s := m_s.on b4 (Nat.le_refl _)
  replace m_r := m_r.on b4 (Nat.le_refl _)
  replace m_4 := m_4.on b4 (Nat.le_refl _)
  replace bw := bw.trans (b4.mono hsz)
  replace hsz : w.heap.size ≤ w4.heap.size := Nat.le_trans hsz b4.size
  have m_5 := u5
  clear u5 z5 o5 b4
  have V5 := Lib.hid v5
  have y5 := HL.out x5 l5 n5 (by rw [v5]; rw [EP.out]; omega)
  clear v5
  clear m_r
  go_wp2_with fail
  with_reducible refine (shiftedDown_any A4 c4 x4 q _ m_4 l4 (by omega) (by omega)).mono ?_
  rintro e w5 ⟨x6, A6, c6, rfl, l6, n6, v6, o6, b5⟩
  have u6 := o6.nums
  have z6 := o6.less hsz
  replace m_s := m_s.on b5 (Nat.le_refl _)
  replace m_4 := m_4.on b5 (Nat.le_refl _)
  replace m_5 := m_5.on b5 (Nat.le_refl _)
  replace bw := bw.trans (b5.mono hsz)
  replace hsz : w.heap.size ≤ w5.heap.size := Nat.le_trans hsz b5.size
  have m_6 := u6
  clear u6 z6 o6 b5
  have V6 := Lib.hid v6
  have y6 := HL.out x6 l6 n6 (by rw [v6]; rw [V4.out, HV.out, EPP.out, ELO.out, EP.out]; omega)
  clear v6
  go_wp2_with fail
  with_reducible refine (sum_any A5 c5 x5 A6 c6 x6 _ m_5 l5 m_6 l6 (by omega) (by omega)).mono ?_
  rintro e w6 ⟨x7, A7, c7, rfl, l7, n7, v7, o7, b6⟩
  have u7 := o7.nums
  have z7 := o7.less hsz
  replace m_s := m_s.on b6 (Nat.le_refl _)
  replace m_4 := m_4.on b6 (Nat.le_refl _)
  replace m_5 := m_5.on b6 (Nat.le_refl _)
  replace m_6 := m_6.on b6 (Nat.le_refl _)
  replace bw := bw.trans (b6.mono hsz)
  replace hsz : w.heap.size ≤ w6.heap.size := Nat.le_trans hsz b6.size
  have m_7 := u7
  clear u7 z7 o7 b6
  have V7 := Lib.hid v7
  have y7 := HL.out x7 l7 n7 (by rw [v7]; rw [V5.out, V6.out, V4.out, HV.out, EPP.out, ELO.out, EP.out]; omega)
  clear v7
  clear m_5 m_6
  go_wp2_with fail
  with_reducible refine (shiftedUp_at As cs xs 1 1 rfl _ m_s ls (by omega) (by omega)).mono ?_
  rintro e w7 ⟨x8, A8, c8, rfl, l8, n8, v8, o8, b7⟩
  have u8 := o8.nums
  have z8 := o8.less hsz
  replace m_s := m_s.on b7 (Nat.le_refl _)
  replace m_4 := m_4.on b7 (Nat.le_refl _)
  replace m_7 := m_7.on b7 (Nat.le_refl _)
  replace bw := bw.trans (b7.mono hsz)
  replace hsz : w.heap.size ≤ w7.heap.size := Nat.le_trans hsz b7.size
  have m_8 := u8
  clear u8 z8 o8 b7
  have V8 := Lib.hid v8
  have y8 := HL.out x8 l8 n8 (by rw [v8]; omega)
  clear v8
  have e8 : val 18446744073709551616 x8 = val 18446744073709551616 xs * 2 := by rw [V8.out]; omega
  have e7 : val 18446744073709551616 x7 = val 18446744073709551616 xr * P + lo / P := by rw [V7.out, V5.out, V6.out, V4.out, HV.out, EPP.out, ELO.out, EP.out]
  have hd8 : 0 < val 18446744073709551616 x8 := by omega
  have E8 := Lib.hid e8
  have E7 := Lib.hid e7
  clear e8 e7
  go_wp2_with fail
  with_reducible refine (divided_any A7 c7 x7 A8 c8 x8 _ m_7 l7 n7 m_8 l8 n8 (by omega) (by omega) hd8).mono ?_
  rintro e w8 ⟨xq, xR, Aq, cq, AR, cR, rfl, lq, lR, nq, nR, hdiv, oq, oR, b8⟩
  have uq := oq.nums
  have uR := oR.nums
  clear m_7 m_8
  replace m_s := m_s.on b8 (Nat.le_refl _)
  replace m_4 := m_4.on b8 (Nat.le_refl _)
  replace bw := bw.trans (b8.mono hsz)
  replace hsz : w.heap.size ≤ w8.heap.size := Nat.le_trans hsz b8.size
  have m_q := uq
  have m_R := uR
  clear uq uR oq oR b8
  have hd1 := hdiv.out.1
  have hd2 := hdiv.out.2
  rw [E7.out, E8.out] at hd1
  rw [E8.out] at hd2
  have hq0 := (val_bound (b := 18446744073709551616) (by omega) lq).1
  have hR0 := (val_bound (b := 18446744073709551616) (by omega) lR).1
  obtain ⟨g1, g2, g3, g4⟩ := root_both (v := v) p0 (by rw [← T14.out]; exact DM.out) hroot.out t1 t10 t11 t12 t13 hd1 hq0 hR0 hd2
  have hPv : P ≤ v := by have := Int.mul_le_mul_of_nonneg_left p0 (show 0 ≤ P by omega); omega
  have hRP : val 18446744073709551616 xR * P ≤ 2 * v := by
    have h1 : val 18446744073709551616 xR * P ≤ val 18446744073709551616 xs * 2 * P := Int.mul_le_mul_of_nonneg_right (by omega) (by omega)
    have h3 : val 18446744073709551616 xs * 2 * P = 2 * (val 18446744073709551616 xs * P) := by rw [Int.mul_comm (val 18446744073709551616 xs) 2, Int.mul_assoc]
    omega
  have hQQ : val 18446744073709551616 xq * val 18446744073709551616 xq ≤ v := by
    have h1 : val 18446744073709551616 xq * val 18446744073709551616 xq ≤ P * P := Int.mul_le_mul g1 g1 hq0 (by omega)
    omega
  have yq := HL.out xq lq nq (by omega)
  have yR := HL.out xR lR nR (by omega)
  have G3 := Lib.hid g3
  have G4 := Lib.hid g4
  have hRP0 : 0 ≤ val 18446744073709551616 xR * P := Int.mul_nonneg hR0 (by omega)
  have hsP0 : 0 ≤ val 18446744073709551616 xs * P := Int.mul_nonneg hs0 (by omega)
  clear g2 g3 g4 hd1 hd2
  go_wp2_with fail
  with_reducible refine (shiftedUp_all As cs xs q _ m_s ls (by omega) (by omega)).mono ?_
  rintro e w9 ⟨x10, A10, c10, rfl, l10, n10, v10, o10, b9⟩
  have u10 := o10.nums
  have z10 := o10.less hsz
  replace m_s := m_s.on b9 (Nat.le_refl _)
  replace m_4 := m_4.on b9 (Nat.le_refl _)
  replace m_q := m_q.on b9 (Nat.le_refl _)
  replace m_R := m_R.on b9 (Nat.le_refl _)
  replace bw := bw.trans (b9.mono hsz)
  replace hsz : w.heap.size ≤ w9.heap.size := Nat.le_trans hsz b9.size
  have m_10 := u10
  clear u10 z10 o10 b9
  have V10 := Lib.hid v10
  have y10 := HL.out x10 l10 n10 (by rw [v10]; rw [EP.out]; omega)
  clear v10
  clear m_s
  go_wp2_with fail
  with_reducible refine (sum_any A10 c10 x10 Aq cq xq _ m_10 l10 m_q lq (by omega) (by omega)).mono ?_
  rintro e w10 ⟨x11, A11, c11, rfl, l11, n11, v11, o11, b10⟩
  have u11 := o11.nums
  have z11 := o11.less hsz
  replace m_4 := m_4.on b10 (Nat.le_refl _)
  replace m_q := m_q.on b10 (Nat.le_refl _)
  replace m_R := m_R.on b10 (Nat.le_refl _)
  replace m_10 := m_10.on b10 (Nat.le_refl _)
  replace bw := bw.trans (b10.mono hsz)
  replace hsz : w.heap.size ≤ w10.heap.size := Nat.le_trans hsz b10.size
  have m_11 := u11
  have o_11 := z11
  clear u11 z11 o11 b10
  have V11 := Lib.hid v11
  have y11 := HL.out x11 l11 n11 (by rw [v11]; rw [V10.out, EP.out]; omega)
  clear v11
  have e11 : val 18446744073709551616 x11 = val 18446744073709551616 xs * P + val 18446744073709551616 xq := by rw [V11.out, V10.out, EP.out]
  have E11 := Lib.hid e11
  clear e11
  clear m_10
  go_wp2_with fail
  with_reducible refine (shiftedUp_all AR cR xR q _ m_R lR (by omega) (by omega)).mono ?_
  rintro e w11 ⟨x12, A12, c12, rfl, l12, n12, v12, o12, b11⟩
  have u12 := o12.nums
  have z12 := o12.less hsz
  replace m_4 := m_4.on b11 (Nat.le_refl _)
  replace m_q := m_q.on b11 (Nat.le_refl _)
  replace m_R := m_R.on b11 (Nat.le_refl _)
  replace m_11 := m_11.on b11 (Nat.le_refl _)
  replace o_11 := o_11.below b11
  replace bw := bw.trans (b11.mono hsz)
  replace hsz : w.heap.size ≤ w11.heap.size := Nat.le_trans hsz b11.size
  have m_12 := u12
  clear u12 z12 o12 b11
  have V12 := Lib.hid v12
  have y12 := HL.out x12 l12 n12 (by rw [v12]; rw [EP.out]; omega)
  clear v12
  clear m_R
  go_wp2_with fail
  with_reducible refine (lowest_any A4 c4 x4 q _ m_4 l4 n4 (by omega) (by omega)).mono ?_
  rintro e w12 ⟨x13, A13, c13, rfl, l13, n13, v13, o13, b12⟩
  have u13 := o13.nums
  have z13 := o13.less hsz
  replace m_4 := m_4.on b12 (Nat.le_refl _)
  replace m_q := m_q.on b12 (Nat.le_refl _)
  replace m_11 := m_11.on b12 (Nat.le_refl _)
  replace m_12 := m_12.on b12 (Nat.le_refl _)
  replace o_11 := o_11.below b12
  replace bw := bw.trans (b12.mono hsz)
  replace hsz : w.heap.size ≤ w12.heap.size := Nat.le_trans hsz b12.size
  have m_13 := u13
  clear u13 z13 o13 b12
  have V13 := Lib.hid v13
  have y13 := HL.out x13 l13 n13 (by rw [v13]; rw [V4.out, HV.out, EPP.out, ELO.out, EP.out]; omega)
  clear v13
  clear m_4
  go_wp2_with fail
  with_reducible refine (sum_any A12 c12 x12 A13 c13 x13 _ m_12 l12 m_13 l13 (by omega) (by omega)).mono ?_
  rintro e w13 ⟨x14, A14, c14, rfl, l14, n14, v14, o14, b13⟩
  have u14 := o14.nums
  have z14 := o14.less hsz
  replace m_q := m_q.on b13 (Nat.le_refl _)
  replace m_11 := m_11.on b13 (Nat.le_refl _)
  replace m_12 := m_12.on b13 (Nat.le_refl _)
  replace m_13 := m_13.on b13 (Nat.le_refl _)
  replace o_11 := o_11.below b13
  replace bw := bw.trans (b13.mono hsz)
  replace hsz : w.heap.size ≤ w13.heap.size := Nat.le_trans hsz b13.size
  have m_14 := u14
  clear u14 z14 o14 b13
  have V14 := Lib.hid v14
  have y14 := HL.out x14 l14 n14 (by rw [v14]; rw [V12.out, V13.out, V4.out, HV.out, EPP.out, ELO.out, EP.out]; omega)
  clear v14
  have e14 : val 18446744073709551616 x14 = val 18446744073709551616 xR * P + lo % P := by rw [V14.out, V12.out, V13.out, V4.out, HV.out, EPP.out, ELO.out, EP.out]
  have E14 := Lib.hid e14
  clear e14
  clear m_12 m_13
  go_wp2_with fail
  with_reducible refine (product_any Aq cq xq Aq cq xq _ m_q lq m_q lq (by omega) (by omega)).mono ?_
  rintro e w14 ⟨x15, A15, c15, rfl, l15, n15, v15, o15, b14⟩
  have u15 := o15.nums
  have z15 := o15.less hsz
  replace m_q := m_q.on b14 (Nat.le_refl _)
  replace m_11 := m_11.on b14 (Nat.le_refl _)
  replace m_14 := m_14.on b14 (Nat.le_refl _)
  replace o_11 := o_11.below b14
  replace bw := bw.trans (b14.mono hsz)
  replace hsz : w.heap.size ≤ w14.heap.size := Nat.le_trans hsz b14.size
  have m_15 := u15
  clear u15 z15 o15 b14
  have V15 := Lib.hid v15
  have y15 := HL.out x15 l15 n15 (by rw [v15]; omega)
  clear v15
  clear m_q
  have b11 : val 18446744073709551616 x11 ≤ 3 * v := by rw [E11.out]; omega
  have b14 : val 18446744073709551616 x14 ≤ 3 * v := by rw [E14.out]; omega
  go_wp2_with fail
  with_reducible refine (compare_any A14 c14 x14 A15 c15 x15 _ m_14 l14 m_15 l15 n14 n15).mono ?_
  rintro e wc ⟨rfl, nd, rfl⟩
  replace m_11 := m_11.drewN nd
  replace m_14 := m_14.drewN nd
  replace m_15 := m_15.drewN nd
  replace o_11 : Own (w14.drewN nd) w.heap.size A11 c11 x11 := o_11
  replace bw := below_drewN bw nd
  replace hsz : w.heap.size ≤ (w14.drewN nd).heap.size := hsz
  by_cases hneg : val 18446744073709551616 x14 < val 18446744073709551616 x15
  · have hsg := sg_lt hneg
    have hng := hneg
    rw [E14.out, V15.out] at hng
    obtain ⟨k1, k2, k3⟩ := G4.out hng
    have K2 := Lib.hid k2
    have K3 := Lib.hid k3
    clear hng k2 k3
    go_wp2_with fail
    with_reducible refine (ofMade 1 _ (by omega) (by omega)).mono ?_
    rintro e w15 ⟨x17, A17, c17, rfl, l17, n17, v17, o17, b15⟩
    have u17 := o17.nums
    have z17 := o17.less hsz
    replace m_11 := m_11.on b15 (Nat.le_refl _)
    replace m_14 := m_14.on b15 (Nat.le_refl _)
    replace m_15 := m_15.on b15 (Nat.le_refl _)
    replace o_11 := o_11.below b15
    replace bw := bw.trans (b15.mono hsz)
    replace hsz : w.heap.size ≤ w15.heap.size := Nat.le_trans hsz b15.size
    have m_17 := u17
    clear u17 z17 o17 b15
    have V17 := Lib.hid v17
    have y17 := HL.out x17 l17 n17 (by rw [v17]; omega)
    clear v17
    have k17 : val 18446744073709551616 x17 ≤ val 18446744073709551616 x11 := by rw [V17.out, E11.out]; exact k1
    go_wp2_with fail
    with_reducible refine (difference_any A11 c11 x11 A17 c17 x17 _ m_11 l11 m_17 l17 (by omega) k17 n17).mono ?_
    rintro e w16 ⟨x18, A18, c18, rfl, l18, n18, v18, o18, b16⟩
    have u18 := o18.nums
    have z18 := o18.less hsz
    replace m_11 := m_11.on b16 (Nat.le_refl _)
    replace m_14 := m_14.on b16 (Nat.le_refl _)
    replace m_15 := m_15.on b16 (Nat.le_refl _)
    replace m_17 := m_17.on b16 (Nat.le_refl _)
    replace o_11 := o_11.below b16
    replace bw := bw.trans (b16.mono hsz)
    replace hsz : w.heap.size ≤ w16.heap.size := Nat.le_trans hsz b16.size
    have m_18 := u18
    have o_18 := z18
    clear u18 z18 o18 b16
    have V18 := Lib.hid v18
    have y18 := HL.out x18 l18 n18 (by rw [v18]; rw [V17.out]; omega)
    clear v18
    have e18 : val 18446744073709551616 x18 = val 18446744073709551616 xs * P + val 18446744073709551616 xq - 1 := by rw [V18.out, E11.out, V17.out]
    have b18 : val 18446744073709551616 x18 ≤ 3 * v := by rw [V18.out, V17.out]; omega
    have E18 := Lib.hid e18
    clear e18
    go_wp2_with fail
    with_reducible refine (shiftedUp_at A18 c18 x18 1 1 rfl _ m_18 l18 (by omega) (by omega)).mono ?_
    rintro e w17 ⟨x19, A19, c19, rfl, l19, n19, v19, o19, b17⟩
    have u19 := o19.nums
    have z19 := o19.less hsz
    replace m_11 := m_11.on b17 (Nat.le_refl _)
    replace m_14 := m_14.on b17 (Nat.le_refl _)
    replace m_15 := m_15.on b17 (Nat.le_refl _)
    replace m_17 := m_17.on b17 (Nat.le_refl _)
    replace m_18 := m_18.on b17 (Nat.le_refl _)
    replace o_11 := o_11.below b17
    replace o_18 := o_18.below b17
    replace bw := bw.trans (b17.mono hsz)
    replace hsz : w.heap.size ≤ w17.heap.size := Nat.le_trans hsz b17.size
    have m_19 := u19
    clear u19 z19 o19 b17
    have V19 := Lib.hid v19
    have y19 := HL.out x19 l19 n19 (by rw [v19]; omega)
    clear v19
    go_wp2_with fail
    with_reducible refine (ofMade 1 _ (by omega) (by omega)).mono ?_
    rintro e w18 ⟨x20, A20, c20, rfl, l20, n20, v20, o20, b18⟩
    have u20 := o20.nums
    have z20 := o20.less hsz
    replace m_11 := m_11.on b18 (Nat.le_refl _)
    replace m_14 := m_14.on b18 (Nat.le_refl _)
    replace m_15 := m_15.on b18 (Nat.le_refl _)
    replace m_17 := m_17.on b18 (Nat.le_refl _)
    replace m_18 := m_18.on b18 (Nat.le_refl _)
    replace m_19 := m_19.on b18 (Nat.le_refl _)
    replace o_11 := o_11.below b18
    replace o_18 := o_18.below b18
    replace bw := bw.trans (b18.mono hsz)
    replace hsz : w.heap.size ≤ w18.heap.size := Nat.le_trans hsz b18.size
    have m_20 := u20
    clear u20 z20 o20 b18
    have V20 := Lib.hid v20
    have y20 := HL.out x20 l20 n20 (by rw [v20]; omega)
    clear v20
    go_wp2_with fail
    with_reducible refine (sum_any A19 c19 x19 A20 c20 x20 _ m_19 l19 m_20 l20 (by omega) (by omega)).mono ?_
    rintro e w19 ⟨x21, A21, c21, rfl, l21, n21, v21, o21, b19⟩
    have u21 := o21.nums
    have z21 := o21.less hsz
    replace m_11 := m_11.on b19 (Nat.le_refl _)
    replace m_14 := m_14.on b19 (Nat.le_refl _)
    replace m_15 := m_15.on b19 (Nat.le_refl _)
    replace m_17 := m_17.on b19 (Nat.le_refl _)
    replace m_18 := m_18.on b19 (Nat.le_refl _)
    replace m_19 := m_19.on b19 (Nat.le_refl _)
    replace m_20 := m_20.on b19 (Nat.le_refl _)
    replace o_11 := o_11.below b19
    replace o_18 := o_18.below b19
    replace bw := bw.trans (b19.mono hsz)
    replace hsz : w.heap.size ≤ w19.heap.size := Nat.le_trans hsz b19.size
    have m_21 := u21
    clear u21 z21 o21 b19
    have V21 := Lib.hid v21
    have y21 := HL.out x21 l21 n21 (by rw [v21]; rw [V19.out, V20.out]; omega)
    clear v21
    go_wp2_with fail
    with_reducible refine (sum_any A14 c14 x14 A21 c21 x21 _ m_14 l14 m_21 l21 (by omega) (by omega)).mono ?_
    rintro e w20 ⟨x22, A22, c22, rfl, l22, n22, v22, o22, b20⟩
    have u22 := o22.nums
    have z22 := o22.less hsz
    replace m_11 := m_11.on b20 (Nat.le_refl _)
    replace m_14 := m_14.on b20 (Nat.le_refl _)
    replace m_15 := m_15.on b20 (Nat.le_refl _)
    replace m_17 := m_17.on b20 (Nat.le_refl _)
    replace m_18 := m_18.on b20 (Nat.le_refl _)
    replace m_19 := m_19.on b20 (Nat.le_refl _)
    replace m_20 := m_20.on b20 (Nat.le_refl _)
    replace m_21 := m_21.on b20 (Nat.le_refl _)
    replace o_11 := o_11.below b20
    replace o_18 := o_18.below b20
    replace bw := bw.trans (b20.mono hsz)
    replace hsz : w.heap.size ≤ w20.heap.size := Nat.le_trans hsz b20.size
    have m_22 := u22
    clear u22 z22 o22 b20
    have V22 := Lib.hid v22
    have y22 := HL.out x22 l22 n22 (by rw [v22]; rw [V21.out, V19.out, V20.out]; omega)
    clear v22
    have e22 : val 18446744073709551616 x22 = val 18446744073709551616 xR * P + lo % P + ((val 18446744073709551616 xs * P + val 18446744073709551616 xq - 1) * 2 + 1) := by rw [V22.out, E14.out, V21.out, V19.out, V20.out, E18.out]; omega
    have k22 : val 18446744073709551616 x15 ≤ val 18446744073709551616 x22 := by rw [V15.out, e22]; exact K3.out
    have E22 := Lib.hid e22
    clear e22
    go_wp2_with fail
    with_reducible refine (difference_any A22 c22 x22 A15 c15 x15 _ m_22 l22 m_15 l15 (by omega) k22 n15).mono ?_
    rintro e w21 ⟨x23, A23, c23, rfl, l23, n23, v23, o23, b21⟩
    have u23 := o23.nums
    have z23 := o23.less hsz
    replace m_11 := m_11.on b21 (Nat.le_refl _)
    replace m_14 := m_14.on b21 (Nat.le_refl _)
    replace m_15 := m_15.on b21 (Nat.le_refl _)
    replace m_17 := m_17.on b21 (Nat.le_refl _)
    replace m_18 := m_18.on b21 (Nat.le_refl _)
    replace m_19 := m_19.on b21 (Nat.le_refl _)
    replace m_20 := m_20.on b21 (Nat.le_refl _)
    replace m_21 := m_21.on b21 (Nat.le_refl _)
    replace m_22 := m_22.on b21 (Nat.le_refl _)
    replace o_11 := o_11.below b21
    replace o_18 := o_18.below b21
    replace bw := bw.trans (b21.mono hsz)
    replace hsz : w.heap.size ≤ w21.heap.size := Nat.le_trans hsz b21.size
    have m_23 := u23
    have o_23 := z23
    clear u23 z23 o23 b21
    have V23 := Lib.hid v23
    clear v23
    go_wp2_with fail
    go_ret2
    exact ⟨x18, x23, A18, c18, A23, c23, rfl, l18, l23, n18, n23, (by show IsRoot _ _ _; rw [E18.out, V23.out, E22.out, V15.out]; exact K2.out), o_18, o_23, bw⟩
  · have hsg : 0 ≤ sg (val 18446744073709551616 x14) (val 18446744073709551616 x15) := by unfold sg; rw [if_neg hneg]; split <;> omega
    have hps : val 18446744073709551616 x15 ≤ val 18446744073709551616 x14 := by omega
    have hng := hps
    rw [E14.out, V15.out] at hng
    have k2 := G3.out hng
    have K2 := Lib.hid k2
    clear hng k2
    go_wp2_with fail
    with_reducible refine (difference_any A14 c14 x14 A15 c15 x15 _ m_14 l14 m_15 l15 (by omega) hps n15).mono ?_
    rintro e w15 ⟨x23, A23, c23, rfl, l23, n23, v23, o23, b15⟩
    have u23 := o23.nums
    have z23 := o23.less hsz
    replace m_11 := m_11.on b15 (Nat.le_refl _)
    replace m_14 := m_14.on b15 (Nat.le_refl _)
    replace m_15 := m_15.on b15 (Nat.le_refl _)
    replace o_11 := o_11.below b15
    replace bw := bw.trans (b15.mono hsz)
    replace hsz : w.heap.size ≤ w15.heap.size := Nat.le_trans hsz b15.size
    have m_23 := u23
    have o_23 := z23
    clear u23 z23 o23 b15
    have V23 := Lib.hid v23
    clear v23
    go_wp2_with fail
    go_ret2
    exact ⟨x11, x23, A11, c11, A23, c23, rfl, l11, l23, n11, n23, (by show IsRoot _ _ _; rw [E11.out, V23.out, E14.out, V15.out]; exact K2.out), o_11, o_23, bw⟩
end Go.Proofs.YtfjellhbcjnjkaaGreatDoor
namespace Go.Proofs.YtfjellhbcjnjkaaGreatDoor
open Go.RowKit
set_option linter.unusedVariables false

theorem rooted_all (k : Nat) : ∀ (A : Option Addr) (c : Nat) (l : List Int) (w : World), Nums w w.heap.size A c l → Lim 18446744073709551616 l → Normal l → l.length ≤ 4097 → val 18446744073709551616 l < 2 ^ k →
      Calls Tryz.prog 98 #[.slice A l.length c] w (RootPost (val 18446744073709551616 l) w) := by
  induction k using Nat.strongRecOn with
  | _ k ih =>
    intro A c l w h hl nl hlen hk
    rcases Nat.lt_or_ge l.length 2 with h2 | h2
    · exact rooted_small A c l w h hl (by omega)
    · exact rooted_step k ih A c l w h hl nl hlen hk h2
theorem rooted_any (A : Option Addr) (c : Nat) (l : List Int) (w : World) (h : Nums w w.heap.size A c l) (hl : Lim 18446744073709551616 l) (nl : Normal l) (hlen : l.length ≤ 4097) :
    Calls Tryz.prog 98 #[.slice A l.length c] w (RootPost (val 18446744073709551616 l) w) :=
  rooted_all (64 * l.length) A c l w h hl nl hlen (by rw [← pow64]; exact (val_bound (by omega) hl).2)

/-- a root and what is left, and no error -/
def Root2 (v : Int) (w : World) (e : Ending) (w' : World) : Prop :=
  ∃ s r A1 c1 A2 c2, e = .returned (.tuple #[.slice A1 s.length c1, .slice A2 r.length c2, .int .i64 0]) ∧ Lim 18446744073709551616 s ∧ Lim 18446744073709551616 r ∧ Normal s ∧ Normal r ∧
    Hid (IsRoot v (val 18446744073709551616 s) (val 18446744073709551616 r)) ∧ Own w' w.heap.size A1 c1 s ∧ Own w' w.heap.size A2 c2 r ∧ Below w.heap.size w w'

set_option maxHeartbeats 1000000 in
theorem Sqrt_any (A : Option Addr) (c : Nat) (l : List Int) (w : World) (h : Nums w w.heap.size A c l) (hl : Lim 18446744073709551616 l) (hlen : (norm l).length ≤ 4096) :
    Calls Tryz.prog 59 #[.slice A l.length c] w (Root2 (val 18446744073709551616 l) w) := by
  have e1 := norm_val 18446744073709551616 l
  rw [← e1]
  clear e1
  go_enter Tryz.func59, Tryz.ntmps59
  go_wp2_with (first
    | (go_at_call 97; ((with_reducible refine (taken_any A c l _ _ h hl hlen).mono ?_); rintro e w' ⟨A', c', rfl, ht, rfl⟩))
    | (go_at_call 98; ((with_reducible refine (rooted_any A' c' (norm l) _ (ht.nums h) (norm_lim hl) (norm_normal l) (by omega)).mono ?_); rintro e w' ⟨s, r, A1, c1, A2, c2, rfl, h1, h2, h3, h4, h5, h6, h7, h8⟩)))
  go_ret3
  exact ⟨s, r, A1, c1, A2, c2, rfl, h1, h2, h3, h4, h5, h6, h7, h8⟩

end Go.Proofs.YtfjellhbcjnjkaaGreatDoor
