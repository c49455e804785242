/-
  Layer 2, walks, part twenty: a limb's square root; divisions, as they are handed out.
-/
import Derived.Test.YtigphbjgodfhpaaDoorNatX
import Derived.Test.YtigphbjgodfhpaaDoorNatY
namespace Go.Proofs.YtigphbjgodfhpaaDoor
open Go.RowKit
set_option linter.unusedVariables false

theorem divided_any (A : Option Addr) (c : Nat) (l : List Int) (A2 : Option Addr) (c2 : Nat) (m : List Int) (w : World) (h : Nums w w.heap.size A c l) (hl : Lim 18446744073709551616 l) (nl : Normal l)
    (h2 : Nums w w.heap.size A2 c2 m) (hl2 : Lim 18446744073709551616 m) (nm : Normal m) (hb1 : l.length ≤ 900000) (hb2 : m.length ≤ 900000) (hm : 0 < val 18446744073709551616 m) :
    Calls Tryd.prog 60 #[.slice A l.length c, .slice A2 m.length c2] w (Two (val 18446744073709551616 l) (val 18446744073709551616 m) w) := by
  have hpos := val_pos_len (l := m) (by omega)
  rcases Nat.lt_or_ge l.length m.length with h0 | h0
  · exact divided_less A c l A2 c2 m w h hl nl h2 hl2 nm (by omega) (by omega) h0
  · rcases (show m.length = 1 ∨ 2 ≤ m.length by omega) with h1 | h1
    · exact divided_one A c l A2 c2 m w h hl h2 hl2 nm (by omega) h1 (by omega)
    · exact divided_more A c l A2 c2 m w h hl nl h2 hl2 nm hb1 h1 h0

/-- a quotient and a rest, and no error -/
def Two2 (vl vm : Int) (w : World) (e : Ending) (w' : World) : Prop :=
  ∃ q r A1 c1 A2 c2, e = .returned (.tuple #[.slice A1 q.length c1, .slice A2 r.length c2, .int .i64 0]) ∧ Lim 18446744073709551616 q ∧ Lim 18446744073709551616 r ∧ Normal q ∧ Normal r ∧
    Hid (vl = val 18446744073709551616 q * vm + val 18446744073709551616 r ∧ val 18446744073709551616 r < vm) ∧ Own w' w.heap.size A1 c1 q ∧ Own w' w.heap.size A2 c2 r ∧ Below w.heap.size w w'

set_option maxHeartbeats 1000000 in
theorem Div_any (A : Option Addr) (c : Nat) (l : List Int) (A2 : Option Addr) (c2 : Nat) (m : List Int) (w : World) (h : Nums w w.heap.size A c l) (hl : Lim 18446744073709551616 l)
    (h2 : Nums w w.heap.size A2 c2 m) (hl2 : Lim 18446744073709551616 m) (hlen : (norm l).length ≤ 4096) (hlen2 : (norm m).length ≤ 4096) (hm : 0 < val 18446744073709551616 m) :
    Calls Tryd.prog 29 #[.slice A l.length c, .slice A2 m.length c2] w (Two2 (val 18446744073709551616 l) (val 18446744073709551616 m) w) := by
  have e1 := norm_val 18446744073709551616 l
  have e2 := norm_val 18446744073709551616 m
  rw [← e2] at hm
  rw [← e1, ← e2]
  have hpos := val_pos_len (l := norm m) (by omega)
  have hm0 : (((norm m).length : Int) == 0) = false := beq_eq_false_iff_ne.2 (by omega)
  clear e1 e2
  go_enter Tryd.func29, Tryd.ntmps29
  go_wp2_with (first
    | (go_at_call 49; ((with_reducible refine (both_any A c l A2 c2 m _ _ h hl hlen h2 hl2 hlen2).mono ?_); rintro e w' ⟨A', c', A2', c2', rfl, ht, ht2, rfl⟩))
    | (go_at_call 60; ((with_reducible refine (divided_any A' c' (norm l) A2' c2' (norm m) _ (ht.nums h) (norm_lim hl) (norm_normal l) (ht2.nums h2) (norm_lim hl2) (norm_normal m) (by omega) (by omega) hm).mono ?_); rintro e w' ⟨q, r, A3, c3, A4, c4, rfl, hq1, hr1, hq2, hr2, hdiv, hq3, hr3, hb⟩)))
  go_ret3
  exact ⟨q, r, A3, c3, A4, c4, rfl, hq1, hr1, hq2, hr2, hdiv, hq3, hr3, hb⟩

set_option maxHeartbeats 1000000 in
theorem Div_zero (A : Option Addr) (c : Nat) (l : List Int) (A2 : Option Addr) (c2 : Nat) (m : List Int) (w : World) (h : Nums w w.heap.size A c l) (hl : Lim 18446744073709551616 l)
    (h2 : Nums w w.heap.size A2 c2 m) (hl2 : Lim 18446744073709551616 m) (hlen : (norm l).length ≤ 4096) (hm : norm m = []) :
    Calls Tryd.prog 29 #[.slice A l.length c, .slice A2 m.length c2] w fun e w' => e = .returned (.tuple #[.slice none 0 0, .slice none 0 0, .int .i64 2]) ∧ w = w' := by
  have hb := both_any A c l A2 c2 m w _ h hl hlen h2 hl2 (by rw [hm]; simp)
  unfold BothPost at hb
  rw [hm] at hb
  have HB := Lib.hid hb
  clear hb hm
  go_enter Tryd.func29, Tryd.ntmps29
  go_wp2_with (go_at_call 49; ((with_reducible refine HB.out.mono ?_); rintro e w' ⟨A', c', A2', c2', rfl, ht, ht2, rfl⟩))
  go_ret3
  exact ⟨rfl, rfl⟩

/-! ### a limb's root -/
/-- a root and what is left, in new memory -/
def RootPost (v : Int) (w : World) (e : Ending) (w' : World) : Prop :=
  ∃ s r A1 c1 A2 c2, e = .returned (.tuple #[.slice A1 s.length c1, .slice A2 r.length c2]) ∧ Lim 18446744073709551616 s ∧ Lim 18446744073709551616 r ∧ Normal s ∧ Normal r ∧
    Hid (IsRoot v (val 18446744073709551616 s) (val 18446744073709551616 r)) ∧ Own w' w.heap.size A1 c1 s ∧ Own w' w.heap.size A2 c2 r ∧ Below w.heap.size w w'

theorem sq_lt {a b : Int} (h : a < b) (ha : 0 ≤ a) : a * a < b * b := by
  have h1 : (a + 1) * (a + 1) ≤ b * b := Int.mul_le_mul (by omega) (by omega) (by omega) (by omega)
  have h2 : (a + 1) * (a + 1) = a * a + 2 * a + 1 := by grind
  omega

set_option maxRecDepth 100000 in
set_option maxHeartbeats 4000000 in
theorem rootOfLimb_any (n : Int) (w : World) (h0 : 0 ≤ n) (h1 : n < 18446744073709551616) :
    Calls Tryd.prog 83 #[.int .u64 n] w (RootPost n w) := by
  go_enter Tryd.func83, Tryd.ntmps83
  go_wp2_with fail
  go_loop [4, 7] (fun a i => ∃ (k : Nat) (m : Int), k ≤ 32 ∧ i = .int .i64 k ∧ a = .int .u64 m ∧ 0 ≤ m ∧ m + 2 ^ (32 - k) ≤ 4294967296 ∧ Hid (m % 2 ^ (32 - k) = 0 ∧ m * m ≤ n ∧ n < (m + 2 ^ (32 - k)) * (m + 2 ^ (32 - k)))) (fun _ i => 32 - (intOf i).toNat)
  case atStart => exact ⟨0, 0, by omega, rfl, rfl, by omega, by decide, by simp, by omega, by simpa using h1⟩
  case round =>
    obtain ⟨k, m, hk, rfl, rfl, hm0, hm1, HM⟩ := hrel
    by_cases hkn : k < 32
    · obtain ⟨e, he⟩ : ∃ e, 31 - k = e := ⟨_, rfl⟩
      have hei : (31 : Int) - k = e := by omega
      have e1 : 32 - k = e + 1 := by omega
      have e2 : 32 - (k + 1) = e := by omega
      have hM := HM.out
      rw [e1] at hM hm1
      have hp := two_pos e
      have hp1 : (2 : Int) ^ (e + 1) = 2 ^ e * 2 := Int.pow_succ _ _
      have hpw : (2 : Int) ^ e < 4294967296 := by
        have a := pow_le' (b := 2) (by omega) (show e ≤ 31 by omega)
        have b : (2 : Int) ^ 31 = 2147483648 := by decide
        omega
      rw [hp1] at hM hm1
      obtain ⟨g1, g2, g3⟩ := hM
      have hor : bits .or .u64 m (2 ^ e) = m + 2 ^ e := or_low (e + 1) m (2 ^ e) hm0 (by omega) (by rw [hp1]; exact g1) (by omega) (by rw [hp1]; omega) (by omega)
      obtain ⟨x, hx⟩ : ∃ x, m + 2 ^ e = x := ⟨_, rfl⟩
      rw [hx] at hor
      have hw : IntKind.u64.wrap ((2 : Int) ^ e) = 2 ^ e := by rw [IntKind.wrap_u64]; omega
      have hx0 : 0 ≤ x := by omega
      have hx1 : x ≤ 4294967295 := by omega
      have hq : x * x ≤ 4294967295 * 4294967295 := Int.mul_le_mul hx1 hx1 hx0 (by omega)
      have hq0 : 0 ≤ x * x := Int.mul_nonneg hx0 hx0
      have hmod : m % 2 ^ e = 0 := by
        have := Int.emod_emod_of_dvd m (show (2 : Int) ^ e ∣ 2 ^ e * 2 from ⟨2, rfl⟩)
        rw [g1] at this
        simpa using this.symm
      have hmod2 : x % 2 ^ e = 0 := by rw [← hx, Int.add_emod_right]; exact hmod
      obtain ⟨q, hqq⟩ : ∃ q, x * x = q := ⟨_, rfl⟩
      rw [hqq] at hq hq0
      have hq' : q ≤ 18446744065119617025 := by omega
      clear hq
      have G2 := Lib.hid g2
      have G3 := Lib.hid g3
      have HX := Lib.hid hx
      have HQ := Lib.hid hqq
      have E2 := Lib.hid e2
      have M1 := Lib.hid hmod
      have M2 := Lib.hid hmod2
      have HM1 := Lib.hid hm1
      clear g1 g2 g3 hx e1 e2 hp1 hmod hmod2 he hp hpw hm1
      by_cases hc : q ≤ n
      · go_wp2_with fail
        go_round
        case rel =>
          refine ⟨k + 1, x, by omega, by go_num, rfl, hx0, ?_, ?_, ?_, ?_⟩
          · rw [E2.out]; have := HX.out; have := HM1.out; omega
          · rw [E2.out]; exact M2.out
          · rw [HQ.out]; exact hc
          · rw [E2.out]; have := G3.out; have e3 : x + 2 ^ e = m + 2 ^ e * 2 := by have := HX.out; omega
            rw [e3]; exact this
        case measure => simp [intOf]; omega
      · go_wp2_with fail
        go_round
        case rel =>
          refine ⟨k + 1, m, by omega, by go_num, rfl, hm0, ?_, ?_, G2.out, ?_⟩
          · rw [E2.out]; have := HM1.out; have := two_pos e; omega
          · rw [E2.out]; exact M1.out
          · rw [E2.out, HX.out, HQ.out]; omega
        case measure => simp [intOf]; omega
    · obtain rfl : k = 32 := by omega
      have hM := HM.out
      simp only [Nat.sub_self, Int.pow_zero] at hM hm1
      obtain ⟨_, g2, g3⟩ := hM
      have hq0 : 0 ≤ m * m := Int.mul_nonneg hm0 hm0
      have e3 : (m + 1) * (m + 1) = m * m + 2 * m + 1 := by grind
      have hq1 : m * m ≤ 18446744073709551615 := by omega
      have hr : n - m * m ≤ 2 * m := by omega
      have HR : Hid (IsRoot n m (n - m * m)) := ⟨by omega, hm0, by omega, hr⟩
      have hd0 : 0 ≤ n - m * m := by omega
      have hd1 : n - m * m < 18446744073709551616 := by omega
      clear e3 g3
      go_wp2_with (first
        | (go_at_call 47; ((with_reducible refine (of_any m _ hm0 (by omega)).mono ?_); rintro e w1 ⟨A1, c1, rfl, ho1, hb1⟩))
        | (go_at_call 47; ((with_reducible refine (of_any (n - m * m) _ hd0 hd1).mono ?_); rintro e w2 ⟨A2, c2, rfl, ho2, hb2⟩)))
      go_ret2
      have l1 : Lim 18446744073709551616 [m] := fun x hx => by simp at hx; omega
      have l2 : Lim 18446744073709551616 [n - m * m] := fun x hx => by simp at hx; omega
      refine ⟨norm [m], norm [n - m * m], A1, c1, A2, c2, rfl, norm_lim l1, norm_lim l2, norm_normal _, norm_normal _, ?_, ho1.below hb2, ho2.less hb1.size, hb1.trans (hb2.mono hb1.size)⟩
      show IsRoot _ _ _
      rw [norm_val, norm_val, val_cons, val_cons, val_nil]
      simpa using HR.out
end Go.Proofs.YtigphbjgodfhpaaDoor
