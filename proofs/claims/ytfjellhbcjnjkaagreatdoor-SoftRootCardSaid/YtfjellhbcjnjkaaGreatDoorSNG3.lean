/-
  Layer 2, joined (wip/tools/merge.py): NatV NatM NatN NatO NatQ NatR NatT NatU NatX.
  Layer 2, plain mathematics of a division of two words by one (Knuth's), digit by digit of 32 bits.
  Layer 2, walks, part twelve: the library's division of two words by one.
  Layer 2, walks, part thirteen: the library's division, whatever is divided; a number divided by one limb.
  Layer 2, walks, part fourteen: a number divided by one limb, into another list, or in place.
  Layer 2, walks, part fifteen: the estimate of a quotient's limb.
  Layer 2, walks, part sixteen: a product of one limb taken off; given back.
  Layer 2, walks, part seventeen: one limb of a quotient.
  Layer 2, walks, part eighteen: a number divided by a number.
  Layer 2, walks, part nineteen: a number divided by a number of two limbs or more.
-/
import Derived.Test.YtfjellhbcjnjkaaGreatDoorSNG2
import Derived.Deep.DeepCutAuto
import Derived.Deep.CutBlock
import Derived.Deep.CutRange
import Derived.Scope
import Derived.WalkMore
import Derived.ScopeJumps
import Derived.Lib.QuietBelow
namespace Go.Proofs.YtfjellhbcjnjkaaGreatDoor
open Go
set_option linter.unusedVariables false

/-- q is the quotient's digit -/
def Dig (u u1 y q : Int) : Prop := 0 ≤ q ∧ q < 4294967296 ∧ q * y ≤ 4294967296 * u + u1 ∧ 4294967296 * u + u1 < q * y + y

section
variable {u u1 y yn1 yn0 q r : Int}
theorem dig_start (hy : y = yn1 * 4294967296 + yn0) (h1 : 2147483648 ≤ yn1) (h2 : yn1 < 4294967296) (h3 : 0 ≤ yn0) (h4 : yn0 < 4294967296) (hu0 : 0 ≤ u) (hu : u < y) (hu1 : 0 ≤ u1) (hu2 : u1 < 4294967296) :
    0 ≤ u / yn1 ∧ u / yn1 ≤ 4294967297 ∧ 0 ≤ u % yn1 ∧ u % yn1 < 4294967296 ∧ u / yn1 * yn1 + u % yn1 = u ∧ 4294967296 * u + u1 < u / yn1 * y + y := by
  have e := Int.mul_ediv_add_emod u yn1
  have m0 := Int.emod_nonneg u (show yn1 ≠ 0 by omega)
  have m1 := Int.emod_lt_of_pos u (show 0 < yn1 by omega)
  have q0 : 0 ≤ u / yn1 := Int.ediv_nonneg hu0 (by omega)
  generalize u / yn1 = q at *
  generalize u % yn1 = r at *
  refine ⟨q0, ?_, m0, by omega, by grind, ?_⟩
  · rcases (show q ≤ 4294967297 ∨ 4294967298 ≤ q by omega) with h | h
    · exact h
    · have : 0 ≤ yn1 * (q - 4294967298) := Int.mul_nonneg (by omega) (by omega)
      have e2 : yn1 * (q - 4294967298) = yn1 * q - yn1 * 4294967298 := by grind
      omega
  · have a : 0 ≤ (q * yn1 + yn1 - 1 - u) * 4294967296 := by
      have : yn1 * q = q * yn1 := Int.mul_comm _ _
      exact Int.mul_nonneg (by omega) (by omega)
    have b : 0 ≤ (q + 1) * yn0 := Int.mul_nonneg (by omega) h3
    have e3 : q * y + y = (q * yn1 + yn1) * 4294967296 + (q + 1) * yn0 := by rw [hy]; grind
    omega
theorem dig_more (hy : y = yn1 * 4294967296 + yn0) (h1 : 2147483648 ≤ yn1) (h3 : 0 ≤ yn0) (hu : u < y) (hu2 : u1 < 4294967296) (hq : q * yn1 + r = u)
    (h : 4294967296 ≤ q ∨ 4294967296 * r + u1 < q * yn0) (hq0 : 0 ≤ q) : 4294967296 * u + u1 < q * y ∧ (q - 1) * yn1 + (r + yn1) = u := by
  refine ⟨?_, by grind⟩
  rcases h with h | h
  · have a : 0 ≤ (q - 4294967296) * y := Int.mul_nonneg (by omega) (by omega)
    have e : (q - 4294967296) * y = q * y - 4294967296 * y := by grind
    omega
  · have e : q * y = q * yn1 * 4294967296 + q * yn0 := by rw [hy]; grind
    omega
theorem dig_pos (h : 4294967296 * u + u1 < q * y) (hu : 0 ≤ u) (hu1 : 0 ≤ u1) (hy : 0 < y) (hq : 0 ≤ q) : 1 ≤ q := by
  rcases (show q = 0 ∨ 1 ≤ q by omega) with h2 | h2
  · subst h2; omega
  · exact h2
theorem dig_exit (hy : y = yn1 * 4294967296 + yn0) (hq : q * yn1 + r = u) (hq0 : 0 ≤ q) (hq1 : q < 4294967296) (h : q * yn0 ≤ 4294967296 * r + u1) (hlt : 4294967296 * u + u1 < q * y + y) : Dig u u1 y q := by
  have e : q * y = q * yn1 * 4294967296 + q * yn0 := by rw [hy]; grind
  exact ⟨hq0, hq1, by omega, hlt⟩
theorem dig_break (hy : y = yn1 * 4294967296 + yn0) (h1 : 2147483648 ≤ yn1) (h3 : 0 ≤ yn0) (h4 : yn0 < 4294967296) (hu : u < y) (hu1 : 0 ≤ u1) (hu2 : u1 < 4294967296) (hq : q * yn1 + r = u) (hq0 : 0 ≤ q) (hq1 : q ≤ 4294967296) (hr : 4294967296 ≤ r)
    (hlt : 4294967296 * u + u1 < q * y + y) : Dig u u1 y q := by
  have a : 0 ≤ (4294967296 - q) * yn0 := Int.mul_nonneg (by omega) h3
  have e1 : (4294967296 - q) * yn0 = 4294967296 * yn0 - q * yn0 := by grind
  have e : q * y = q * yn1 * 4294967296 + q * yn0 := by rw [hy]; grind
  have le : q * y ≤ 4294967296 * u + u1 := by omega
  refine ⟨hq0, ?_, le, hlt⟩
  rcases (show q < 4294967296 ∨ q = 4294967296 by omega) with h | h
  · exact h
  · subst h; omega
end

/-- both digits, put together; s: how far all was shifted -/
theorem dig_both {hi lo y0 y P u un10 u1 u0 q1 q0 : Int} (hP : 0 < P) (hy : y = y0 * P) (hN : (hi * 18446744073709551616 + lo) * P = u * 18446744073709551616 + un10) (h10 : un10 = u1 * 4294967296 + u0)
    (d1 : Dig u u1 y q1) (d0 : Dig (4294967296 * u + u1 - q1 * y) u0 y q0) :
    ∃ r, 4294967296 * (4294967296 * u + u1 - q1 * y) + u0 - q0 * y = r * P ∧ 0 ≤ r ∧ r < y0 ∧ hi * 18446744073709551616 + lo = (q1 * 4294967296 + q0) * y0 + r := by
  obtain ⟨_, _, a, b⟩ := d1
  obtain ⟨_, _, c, d⟩ := d0
  have e : 4294967296 * (4294967296 * u + u1 - q1 * y) + u0 - q0 * y = (hi * 18446744073709551616 + lo - (q1 * 4294967296 + q0) * y0) * P := by
    have : (hi * 18446744073709551616 + lo - (q1 * 4294967296 + q0) * y0) * P = (hi * 18446744073709551616 + lo) * P - (q1 * 4294967296 + q0) * (y0 * P) := by grind
    rw [this, hN, ← hy, h10]; grind
  refine ⟨hi * 18446744073709551616 + lo - (q1 * 4294967296 + q0) * y0, e, ?_, ?_, by omega⟩
  · rcases (show 0 ≤ hi * 18446744073709551616 + lo - (q1 * 4294967296 + q0) * y0 ∨ hi * 18446744073709551616 + lo - (q1 * 4294967296 + q0) * y0 ≤ -1 by omega) with h | h
    · exact h
    · have := Int.mul_le_mul_of_nonneg_right h (Int.le_of_lt hP)
      omega
  · generalize hi * 18446744073709551616 + lo - (q1 * 4294967296 + q0) * y0 = r at *
    rcases (show r < y0 ∨ y0 ≤ r by omega) with h | h
    · exact h
    · have := Int.mul_le_mul_of_nonneg_right h (Int.le_of_lt hP)
      omega
end Go.Proofs.YtfjellhbcjnjkaaGreatDoor
namespace Go.Proofs.YtfjellhbcjnjkaaGreatDoor
open Go.RowKit
set_option linter.unusedVariables false

theorem pred_mul (q y : Int) : (q - 1) * y = q * y - y := by grind
theorem mask32 (x : Int) (h0 : 0 ≤ x) (h1 : x < 18446744073709551616) : bits .and .u64 x 4294967295 = x % 4294967296 := by
  simpa using and_low 32 (by omega) x h0 h1

/-- a quotient and a rest -/
def DivPost (hi lo y : Int) (w : World) (e : Ending) (w' : World) : Prop :=
  ∃ q r : Int, e = .returned (.tuple #[.int .u64 q, .int .u64 r]) ∧ 0 ≤ q ∧ q < 18446744073709551616 ∧ 0 ≤ r ∧ r < y ∧ Hid (hi * 18446744073709551616 + lo = q * y + r) ∧ w = w'

set_option maxHeartbeats 4000000 in
theorem div64_core (hi lo y0 y yn1 yn0 u un10 u1 u0 q r : Int) (s : Nat) (w : World) (hhi : 0 < hi) (hhy : hi < y0) (hy01 : y0 < 18446744073709551616) (hlo : 0 ≤ lo) (hlo1 : lo < 18446744073709551616) (hs : s < 64)
    (hz : ∀ w, Calls Tryz.prog 123 #[.int .u64 y0] w fun e w' => e = .returned (.int .i64 s) ∧ w = w')
    (e1 : IntKind.u64.wrap (y0 * 2 ^ s) = y) (e2 : y / 4294967296 = yn1) (e3 : bits .and .u64 y 4294967295 = yn0) (e4 : bits .or .u64 (IntKind.u64.wrap (hi * 2 ^ s)) (lo / 2 ^ (64 - s)) = u)
    (e5 : IntKind.u64.wrap (lo * 2 ^ s) = un10) (e6 : un10 / 4294967296 = u1) (e7 : bits .and .u64 un10 4294967295 = u0) (e8 : u / yn1 = q) (e9 : u - q * yn1 = r)
    (hy0 : 0 ≤ y) (hy1 : y < 18446744073709551616) (hu0 : 0 ≤ u) (hu : u < y) (h10 : 0 ≤ un10) (h11 : un10 < 18446744073709551616) (n1 : 2147483648 ≤ yn1) (n2 : yn1 < 4294967296) (n3 : 0 ≤ yn0) (n4 : yn0 < 4294967296)
    (a1 : 0 ≤ u1) (a2 : u1 < 4294967296) (a3 : 0 ≤ u0) (a4 : u0 < 4294967296) (q0 : 0 ≤ q) (q1 : q ≤ 4294967297) (r0 : 0 ≤ r) (r1 : r < 4294967296) (m0 : 0 ≤ q * yn1) (m1 : q * yn1 ≤ 18446744073709551615)
    (HY : Hid (y = yn1 * 4294967296 + yn0)) (HG : Hid (4294967296 * u + u1 < q * y + y)) (HY0 : Hid (y = y0 * 2 ^ s)) (HN : Hid ((hi * 18446744073709551616 + lo) * 2 ^ s = u * 18446744073709551616 + un10)) (H10 : Hid (un10 = u1 * 4294967296 + u0)) :
    Calls Tryz.prog 166 #[.int .u64 hi, .int .u64 lo, .int .u64 y0] w (DivPost hi lo y0 w) := by
  have HZ := Lib.hid hz
  clear hz
  have hp := two_pos s
  have hx : (0 : Int) ≤ 64 - s := by omega
  go_enter Tryz.func166, Tryz.ntmps166
  go_upto_block 0 with (go_at_call 123; ((with_reducible refine (HZ.out _).mono ?_); rintro e w' ⟨rfl, rfl⟩))
  rw [e8]
  have HQ : Hid (q * yn1 + r = u) := by show _ = _; omega
  clear e1 e2 e3 e4 e5 e6 e7 e8 e9
  go_cut [15] (fun s15 wx => ∃ Q, s15 = .int .u64 Q ∧ Dig u u1 y Q ∧ wx = w)
  case first =>
    go_wp2_with fail
    go_loop [15, 16] (fun a b => ∃ q r : Int, a = .int .u64 q ∧ b = .int .u64 r ∧ 0 ≤ q ∧ q ≤ 4294967297 ∧ 0 ≤ r ∧ r < 4294967296 ∧ q * yn1 + r = u ∧ 4294967296 * u + u1 < q * y + y) (fun a _ => (intOf a).toNat)
    case atStart => exact ⟨q, r, rfl, rfl, q0, q1, r0, r1, HQ.out, HG.out⟩
    case round =>
      obtain ⟨q, r, rfl, rfl, q0, q1, r0, r1, hq, hlt⟩ := hrel
      have HQ := Lib.hid hq
      have HL := Lib.hid hlt
      clear hq hlt
      by_cases hbig : 4294967296 ≤ q
      · obtain ⟨g1, g2⟩ := dig_more HY.out n1 n3 hu a2 HQ.out (.inl hbig) q0
        have H1 := Lib.hid g1
        have H2 := Lib.hid g2
        clear g1 g2
        by_cases hb : 4294967296 ≤ r + yn1
        · go_wp2_with fail
          go_meet
          exact ⟨q - 1, rfl, dig_break HY.out n1 n3 n4 hu a1 a2 H2.out (by omega) (by omega) hb (by have := H1.out; have := pred_mul q y; omega), rfl⟩
        · go_wp2_with fail
          go_round
          case rel => exact ⟨q - 1, r + yn1, rfl, rfl, by omega, by omega, by omega, by omega, H2.out, by
            have := H1.out
            have := pred_mul q y
            omega⟩
          case measure => simp [intOf]; omega
      · obtain ⟨m, hm⟩ : ∃ m, q * yn0 = m := ⟨_, rfl⟩
        have hm0 : 0 ≤ m := by rw [← hm]; exact Int.mul_nonneg q0 n3
        have hm1 : m ≤ 4294967295 * 4294967295 := by rw [← hm]; exact Int.mul_le_mul (by omega) (by omega) n3 (by omega)
        have HM := Lib.hid hm
        by_cases hc : 4294967296 * r + u1 < m
        · obtain ⟨g1, g2⟩ := dig_more HY.out n1 n3 hu a2 HQ.out (.inr (by rw [HM.out]; exact hc)) q0
          have g3 := dig_pos g1 hu0 a1 (by omega) q0
          have H1 := Lib.hid g1
          have H2 := Lib.hid g2
          clear g1 g2
          by_cases hb : 4294967296 ≤ r + yn1
          · go_wp2_with fail
            go_meet
            exact ⟨q - 1, rfl, dig_break HY.out n1 n3 n4 hu a1 a2 H2.out (by omega) (by omega) hb (by have := H1.out; have := pred_mul q y; omega), rfl⟩
          · go_wp2_with fail
            go_round
            case rel => exact ⟨q - 1, r + yn1, rfl, rfl, by omega, by omega, by omega, by omega, H2.out, by
              have := H1.out
              have := pred_mul q y
              omega⟩
            case measure => simp [intOf]; omega
        · go_wp2_with fail
          go_meet
          exact ⟨q, rfl, dig_exit HY.out HQ.out q0 (by omega) (by rw [HM.out]; omega) HL.out, rfl⟩
  case rest =>
    obtain ⟨Q1, rfl, hd1, rfl⟩ := hcut
    have H1 := Lib.hid hd1
    obtain ⟨d10, d11, d12, d13⟩ := hd1
    obtain ⟨v, hv⟩ : ∃ v, v = 4294967296 * u + u1 - Q1 * y := ⟨_, rfl⟩
    have hv0 : 0 ≤ v := by omega
    have hv1 : v < y := by omega
    have f1 : IntKind.u64.wrap (IntKind.u64.wrap (IntKind.u64.wrap (u * 4294967296) + u1) - IntKind.u64.wrap (Q1 * y)) = v := by
      rw [IntKind.wrap_u64, IntKind.wrap_u64, IntKind.wrap_u64, IntKind.wrap_u64]
      omega
    obtain ⟨c0, c1, c2, c3, c4, c5⟩ := dig_start HY.out n1 n2 n3 n4 hv0 hv1 a3 a4
    obtain ⟨q2, hq2⟩ : ∃ q2, v / yn1 = q2 := ⟨_, rfl⟩
    obtain ⟨r2, hr2⟩ : ∃ r2, v % yn1 = r2 := ⟨_, rfl⟩
    rw [hq2] at c0 c1 c4 c5
    rw [hr2] at c2 c3 c4
    have f3 : v - q2 * yn1 = r2 := by omega
    have m2 : 0 ≤ q2 * yn1 := Int.mul_nonneg c0 (by omega)
    have m3 : q2 * yn1 ≤ 18446744073709551615 := by omega
    have HQ2 := Lib.hid c4
    have HG2 := Lib.hid c5
    have HV := Lib.hid hv
    clear hr2 hv c4 c5
    go_upto_block 2 with fail
    rw [hq2]
    clear f1 f3 hq2
    go_cut [18] (fun s18 wx => ∃ Q, s18 = .int .u64 Q ∧ Dig v u0 y Q ∧ wx = wc)
    case first =>
      go_wp2_with fail
      go_loop [18, 16] (fun a b => ∃ q r : Int, a = .int .u64 q ∧ b = .int .u64 r ∧ 0 ≤ q ∧ q ≤ 4294967297 ∧ 0 ≤ r ∧ r < 4294967296 ∧ q * yn1 + r = v ∧ 4294967296 * v + u0 < q * y + y) (fun a _ => (intOf a).toNat)
      case atStart => exact ⟨q2, r2, rfl, rfl, c0, c1, c2, c3, HQ2.out, HG2.out⟩
      case round =>
        obtain ⟨q, r, rfl, rfl, q0, q1, r0, r1, hq, hlt⟩ := hrel
        have HQ := Lib.hid hq
        have HL := Lib.hid hlt
        clear hq hlt
        by_cases hbig : 4294967296 ≤ q
        · obtain ⟨g1, g2⟩ := dig_more HY.out n1 n3 hv1 a4 HQ.out (.inl hbig) q0
          have H1 := Lib.hid g1
          have H2 := Lib.hid g2
          clear g1 g2
          by_cases hb : 4294967296 ≤ r + yn1
          · go_wp2_with fail
            go_meet
            exact ⟨q - 1, rfl, dig_break HY.out n1 n3 n4 hv1 a3 a4 H2.out (by omega) (by omega) hb (by have := H1.out; have := pred_mul q y; omega), rfl⟩
          · go_wp2_with fail
            go_round
            case rel => exact ⟨q - 1, r + yn1, rfl, rfl, by omega, by omega, by omega, by omega, H2.out, by
              have := H1.out
              have := pred_mul q y
              omega⟩
            case measure => simp [intOf]; omega
        · obtain ⟨m, hm⟩ : ∃ m, q * yn0 = m := ⟨_, rfl⟩
          have hm0 : 0 ≤ m := by rw [← hm]; exact Int.mul_nonneg q0 n3
          have hm1 : m ≤ 4294967295 * 4294967295 := by rw [← hm]; exact Int.mul_le_mul (by omega) (by omega) n3 (by omega)
          have HM := Lib.hid hm
          by_cases hc : 4294967296 * r + u0 < m
          · obtain ⟨g1, g2⟩ := dig_more HY.out n1 n3 hv1 a4 HQ.out (.inr (by rw [HM.out]; exact hc)) q0
            have g3 := dig_pos g1 hv0 a3 (by omega) q0
            have H1 := Lib.hid g1
            have H2 := Lib.hid g2
            clear g1 g2
            by_cases hb : 4294967296 ≤ r + yn1
            · go_wp2_with fail
              go_meet
              exact ⟨q - 1, rfl, dig_break HY.out n1 n3 n4 hv1 a3 a4 H2.out (by omega) (by omega) hb (by have := H1.out; have := pred_mul q y; omega), rfl⟩
            · go_wp2_with fail
              go_round
              case rel => exact ⟨q - 1, r + yn1, rfl, rfl, by omega, by omega, by omega, by omega, H2.out, by
                have := H1.out
                have := pred_mul q y
                omega⟩
              case measure => simp [intOf]; omega
          · go_wp2_with fail
            go_meet
            exact ⟨q, rfl, dig_exit HY.out HQ.out q0 (by omega) (by rw [HM.out]; omega) HL.out, rfl⟩
    case rest =>
      obtain ⟨Q0, rfl, hd0, rfl⟩ := hcut
      rw [HV.out] at hd0
      obtain ⟨rr, k1, k2, k3, k4⟩ := dig_both hp HY0.out HN.out H10.out H1.out hd0
      rw [← HV.out] at hd0 k1
      obtain ⟨d00, d01, d02, d03⟩ := hd0
      have f4 : IntKind.u64.wrap (IntKind.u64.wrap (IntKind.u64.wrap (v * 4294967296) + u0) - IntKind.u64.wrap (Q0 * y)) = rr * 2 ^ s := by
        rw [IntKind.wrap_u64, IntKind.wrap_u64, IntKind.wrap_u64, IntKind.wrap_u64, ← k1]
        omega
      have f5 : rr * 2 ^ s / 2 ^ s = rr := Int.mul_ediv_cancel _ (Int.ne_of_gt hp)
      have HK := Lib.hid k4
      clear k1 k4
      go_wp2_with fail
      go_ret2
      exact ⟨Q1 * 4294967296 + Q0, rr, rfl, by omega, by omega, k2, k3, HK, rfl⟩
end Go.Proofs.YtfjellhbcjnjkaaGreatDoor
namespace Go.Proofs.YtfjellhbcjnjkaaGreatDoor
open Go.RowKit
set_option linter.unusedVariables false

set_option maxHeartbeats 1000000 in
theorem div64_small (lo y : Int) (w : World) (hy : 0 < y) (hy1 : y < 18446744073709551616) (hlo : 0 ≤ lo) (hlo1 : lo < 18446744073709551616) :
    Calls Tryz.prog 166 #[.int .u64 0, .int .u64 lo, .int .u64 y] w (fun e w' => ∃ n, (DivPost 0 lo y (w.drewN n) e w')) := by
  have h1 := Int.emod_nonneg lo (Int.ne_of_gt hy)
  have h2 := Int.emod_lt_of_pos lo hy
  have h3 := Int.mul_ediv_add_emod lo y
  have h4 : 0 ≤ lo / y := Int.ediv_nonneg hlo (Int.le_of_lt hy)
  have h5 : lo / y ≤ lo := Int.ediv_le_self _ hlo
  have HE : Hid (0 * 18446744073709551616 + lo = lo / y * y + lo % y) := by
    show _ = _
    rw [Int.mul_comm] at h3
    omega
  clear h3
  have hz : ¬ y ≤ 0 := by omega
  have hy2 : (y == 0) = false := beq_eq_false_iff_ne.2 (by omega)
  have hy3 : y ≠ 0 := by omega
  have hy4 : 1 ≤ y := by omega
  go_enter Tryz.func166, Tryz.ntmps166
  go_wp2_with fail
  go_quiet (fail)
  go_wp2_with fail
  go_ret2
  exact ⟨_, lo / y, lo % y, rfl, h4, by omega, h1, h2, HE, rfl⟩

theorem div64_any (hi lo y0 : Int) (w : World) (h0 : 0 ≤ hi) (hhy : hi < y0) (hy01 : y0 < 18446744073709551616) (hlo : 0 ≤ lo) (hlo1 : lo < 18446744073709551616) :
    Calls Tryz.prog 166 #[.int .u64 hi, .int .u64 lo, .int .u64 y0] w (fun e w' => ∃ n, (DivPost hi lo y0 (w.drewN n) e w')) := by
  rcases (show hi = 0 ∨ 0 < hi by omega) with rfl | hhi
  · exact div64_small lo y0 w hhy hy01 hlo hlo1
  · obtain ⟨t1, t2, t3, t4⟩ := top_bits y0 (by omega) hy01
    have hz := fun w => Tryz.bits_LeadingZeros64 y0 w (by omega) (by omega)
    obtain ⟨t, ht⟩ : ∃ t, Lib.bitLen y0.toNat = t := ⟨_, rfl⟩
    rw [ht] at t1 t2 t3 t4 hz
    obtain ⟨s, hs⟩ : ∃ s, s = 64 - t := ⟨_, rfl⟩
    have hs64 : s < 64 := by omega
    have hz' : ∀ w, Calls Tryz.prog 123 #[.int .u64 y0] w fun e w' => e = .returned (.int .i64 s) ∧ w = w' := fun w => (hz w).mono fun e w' ⟨a, b⟩ => ⟨by rw [a]; exact ret_int (by omega), b.symm⟩
    have hp := two_pos s
    have e63 : (2 : Int) ^ (t - 1) * 2 ^ s = 9223372036854775808 := by rw [← Int.pow_add, show t - 1 + s = 63 from by omega]; decide
    have e64 : (2 : Int) ^ t * 2 ^ s = 18446744073709551616 := by rw [← Int.pow_add, show t + s = 64 from by omega]; decide
    have y1 : 9223372036854775808 ≤ y0 * 2 ^ s := by rw [← e63]; exact Int.mul_le_mul_of_nonneg_right t3 (Int.le_of_lt hp)
    have y2 : y0 * 2 ^ s < 18446744073709551616 := by rw [← e64]; exact Int.mul_lt_mul_of_pos_right t4 hp
    have u1 : hi * 2 ^ s + 2 ^ s ≤ y0 * 2 ^ s := by
      have := Int.mul_le_mul_of_nonneg_right (show hi + 1 ≤ y0 by omega) (Int.le_of_lt hp)
      rw [Int.add_mul, Int.one_mul] at this
      exact this
    have u0 : 0 ≤ hi * 2 ^ s := Int.mul_nonneg h0 (Int.le_of_lt hp)
    obtain ⟨r, r0, r1, q0, q1, he, hw, hl, _⟩ := shl_parts lo s hlo hlo1 (by omega)
    have hr0 : 0 ≤ r * 2 ^ s := Int.mul_nonneg r0 (Int.le_of_lt hp)
    have hor : bits .or .u64 (IntKind.u64.wrap (hi * 2 ^ s)) (lo / 2 ^ (64 - s)) = hi * 2 ^ s + lo / 2 ^ (64 - s) := by
      rw [IntKind.wrap_u64, Int.emod_eq_of_lt u0 (by omega)]
      exact or_low s _ _ u0 (by omega) (by rw [Int.mul_emod_left]) q0 q1 (by omega)
    have hN : (hi * 18446744073709551616 + lo) * 2 ^ s = (hi * 2 ^ s + lo / 2 ^ (64 - s)) * 18446744073709551616 + r * 2 ^ s := by
      have hP := pow_split (s := s) (by omega)
      generalize lo / 2 ^ (64 - s) = d at *
      generalize (2 : Int) ^ (64 - s) = Q at *
      generalize (2 : Int) ^ s = P at *
      rw [he, ← hP]; grind
    obtain ⟨y, hy⟩ : ∃ y, y0 * 2 ^ s = y := ⟨_, rfl⟩
    obtain ⟨u, hu⟩ : ∃ u, hi * 2 ^ s + lo / 2 ^ (64 - s) = u := ⟨_, rfl⟩
    obtain ⟨un, hun⟩ : ∃ un, r * 2 ^ s = un := ⟨_, rfl⟩
    rw [hy] at y1 y2 u1
    rw [hu] at hor hN
    rw [hun] at hw hl hr0 hN
    have huy : u < y := by omega
    have hu0 : 0 ≤ u := by omega
    obtain ⟨b0, b1, b2, b3, b4, b5⟩ := dig_start (u := u) (u1 := un / 4294967296) (y := y) (yn1 := y / 4294967296) (yn0 := y % 4294967296) (by omega) (by omega) (by omega) (by omega) (by omega) hu0 huy (by omega) (by omega)
    have m0 : 0 ≤ u / (y / 4294967296) * (y / 4294967296) := Int.mul_nonneg b0 (by omega)
    refine (div64_core hi lo y0 y (y / 4294967296) (y % 4294967296) u un (un / 4294967296) (un % 4294967296) (u / (y / 4294967296)) (u % (y / 4294967296)) s w hhi hhy hy01 hlo hlo1 hs64 hz'
      (by rw [hy, IntKind.wrap_u64]; omega) rfl (mask32 y (by omega) y2) hor hw rfl (mask32 un hr0 hl) rfl (by omega) (by omega) y2 hu0 huy hr0 hl (by omega) (by omega) (by omega) (by omega)
      (by omega) (by omega) (by omega) (by omega) b0 b1 b2 b3 m0 (by omega) (by show _ = _; omega) b5 (by show _ = _; omega) hN (by show _ = _; omega)).mono ?_
    exact fun e w' h => ⟨0, h⟩
end Go.Proofs.YtfjellhbcjnjkaaGreatDoor
namespace Go.Proofs.YtfjellhbcjnjkaaGreatDoor
open Go.RowKit
set_option linter.unusedVariables false

theorem val_drop (b : Int) (l : List Int) (i : Nat) (h : i < l.length) : val b (l.drop i) = D l i + b * val b (l.drop (i + 1)) := by
  rw [List.drop_eq_getElem_cons h, val_cons, D_in h]
theorem quot_step {l C : List Int} {i : Nat} {d r q r' : Int} (hl : i < l.length) (hC : C.length = l.length) (h : val 18446744073709551616 (l.drop (i + 1)) = val 18446744073709551616 (C.drop (i + 1)) * d + r)
    (h2 : r * 18446744073709551616 + D l i = q * d + r') : val 18446744073709551616 (l.drop i) = val 18446744073709551616 ((C.set i q).drop i) * d + r' := by
  rw [val_drop _ _ _ hl, val_drop _ (C.set i q) i (by rw [List.length_set]; omega), h, D_set _ _ (by omega), if_pos rfl, List.drop_set, if_pos (by omega)]
  generalize val 18446744073709551616 (C.drop (i + 1)) = T at *
  grind

theorem only_drewN {a w : World} {row : Option Nat} (h : a.grownBy w row) (n : Nat) : a.grownBy (w.drewN n) row := ⟨h.os, h.tape, h.output, h.size, h.block⟩

/-- what a division by one limb leaves -/
def QuotPost (l : List Int) (d : Int) (g : Nat) (w0 : World) (e : Ending) (w : World) : Prop :=
  ∃ (C : List Int) (r : Int), e = .returned (.int .u64 r) ∧ 0 ≤ r ∧ r < d ∧ C.length = l.length ∧ Lim 18446744073709551616 C ∧ Row w g C ∧ w0.grownBy w (some g) ∧ Hid (val 18446744073709551616 l = val 18446744073709551616 C * d + r)

set_option maxHeartbeats 4000000 in
theorem quotients_any (A : Option Addr) (c : Nat) (l C0 : List Int) (g : Nat) (d : Int) (w : World) (h : Nums w g A c l) (hl : Lim 18446744073709551616 l) (hr0 : Row w g C0) (hC0 : C0.length = l.length) (hCl0 : Lim 18446744073709551616 C0)
    (hb1 : l.length ≤ 1000000) (hd : 0 < d) (hd1 : d < 18446744073709551616) :
    Calls Tryz.prog 147 #[.slice (some ⟨g, 0, none⟩) l.length l.length, .slice A l.length c, .int .u64 d] w (QuotPost l d g w) := by
  have hg0 := hr0.lt
  have H0 := Lib.hid hC0
  clear hC0
  go_enter Tryz.func147, Tryz.ntmps147
  go_wp2_with fail
  go_loopw [6, 11] (fun a i wr => ∃ (k : Nat) (r : Int) (C : List Int), k ≤ l.length ∧ a = .int .u64 r ∧ i = .int .i64 k ∧ 0 ≤ r ∧ r < d ∧ Hid (C.length = l.length) ∧ Lim 18446744073709551616 C ∧ Row wr g C ∧ w.grownBy wr (some g) ∧
      Hid (val 18446744073709551616 (l.drop (l.length - k)) = val 18446744073709551616 (C.drop (l.length - k)) * d + r)) (fun _ i _ => l.length - (intOf i).toNat)
  case atStart => exact ⟨0, 0, C0, by omega, rfl, rfl, by omega, hd, H0, hCl0, hr0, World.grownBy.refl w _, by show _ = _; rw [List.drop_of_length_le (by omega), List.drop_of_length_le (by have := H0.out; omega)]; simp [val_nil]⟩
  case round =>
    obtain ⟨k, r, C, hk, rfl, rfl, r0, r1, HC, hCl, hr, hg, HE⟩ := hrel
    have hgl := hr.lt
    by_cases hkl : k < l.length
    · obtain ⟨j, hj⟩ : ∃ j, l.length - 1 - k = j := ⟨_, rfl⟩
      have he : (l.length : Int) - 1 - k = j := by omega
      have hj1 : j < l.length := by omega
      have e1 : l.length - k = j + 1 := by omega
      have e2 : l.length - (k + 1) = j := by omega
      have hx := D_lim (b := 18446744073709551616) (by omega) hl j
      have hnums : Nums wr g A c l := h.grown hg (by omega) (fun i e => by injection e; omega)
      obtain ⟨ad, rfl, hadb, c1⟩ := hnums.at_ hj1
      have i0 : (0 : Int) ≤ j := by omega
      have i1 : (j : Int) < l.length := by omega
      have c0 := hr.cell (k := j) (by rw [HC.out]; exact hj1)
      have f0 := hr.frozen j
      have hE := HE.out
      rw [e1] at hE
      have HE' := Lib.hid hE
      have E2 := Lib.hid e2
      clear hj e1 e2 hE
      go_wp2_with (go_at_call 166; ((with_reducible refine (div64_any r (D l j) d _ r0 r1 hd1 hx.1 hx.2).mono ?_); rintro e w' ⟨n, q, r', rfl, q0, q1, r0', r1', hdiv, rfl⟩))
      go_roundw
      case rel =>
        refine ⟨k + 1, r', C.set j q, by omega, rfl, by go_num, r0', r1', by show _ = _; rw [List.length_set, HC.out], hCl.set j q0 q1, (hr.drewN n).set_ j q, only_setCell (p := ⟨g, j, none⟩) (only_drewN hg n) (.inl rfl) _, ?_⟩
        show _ = _
        rw [E2.out]
        exact quot_step hj1 HC.out HE'.out hdiv.out
      case measure => simp [intOf]; omega
    · obtain rfl : k = l.length := by omega
      go_wp2_with fail
      go_ret
      refine ⟨C, r, rfl, r0, r1, HC.out, hCl, hr, hg, ?_⟩
      have := HE.out
      show _ = _
      simpa using this

set_option maxHeartbeats 2000000 in
theorem divideByLimb_any (A : Option Addr) (c : Nat) (l C0 : List Int) (g : Nat) (d : Int) (w0 w : World) (h : Nums w g A c l) (hl : Lim 18446744073709551616 l) (hr0 : Row w g C0) (hC0 : C0.length = l.length) (hCl0 : Lim 18446744073709551616 C0)
    (hb1 : l.length ≤ 1000000) (hd : 0 < d) (hd1 : d < 18446744073709551616) (hb : Below w0.heap.size w0 w) (hgw : w0.heap.size ≤ g) :
    Calls Tryz.prog 122 #[.slice (some ⟨g, 0, none⟩) l.length l.length, .slice A l.length c, .int .u64 d] w fun e w' =>
      ∃ q r A1 c1 A2 c2, e = .returned (.tuple #[.slice A1 q.length c1, .slice A2 r.length c2]) ∧ Lim 18446744073709551616 q ∧ Lim 18446744073709551616 r ∧ Normal q ∧ Normal r ∧
        Hid (val 18446744073709551616 l = val 18446744073709551616 q * d + val 18446744073709551616 r ∧ val 18446744073709551616 r < d) ∧ Own w' w0.heap.size A1 c1 q ∧ Own w' w0.heap.size A2 c2 r ∧ Below w0.heap.size w0 w' := by
  have hsz := hb.size
  go_enter Tryz.func122, Tryz.ntmps122
  go_wp2_with (first
    | (go_at_call 147; ((with_reducible refine (quotients_any A c l C0 g d _ h hl hr0 hC0 hCl0 hb1 hd hd1).mono ?_); rintro e w1 ⟨C, r, rfl, r0, r1, hC, hCl, hr, hg, hdiv⟩; have hb1 := below_of_only hb hg hsz hgw))
    | (go_at_call 125; ((with_reducible refine (trim_row hC hr hCl (by omega) hgw hb1).mono ?_); rintro e w2 ⟨q, A1, c1, rfl, hq1, hq2, hq3, hq4, hq5⟩; have HQ3 := Lib.hid hq3; clear hq3))
    | (go_at_call 112; ((with_reducible refine (of_any r _ r0 (by omega)).mono ?_); rintro e w3 ⟨A2, c2, rfl, ho1, ho2⟩)))
  go_ret2
  have hlr : Lim 18446744073709551616 [r] := fun x hx => by simp at hx; omega
  have hvr : val 18446744073709551616 (norm [r]) = r := by rw [norm_val, val_cons, val_nil]; omega
  refine ⟨q, norm [r], A1, c1, A2, c2, rfl, hq1, norm_lim hlr, hq2, norm_normal _, ⟨?_, ?_⟩, hq4.below ho2, ho1.less hq5.size, hq5.trans (ho2.mono hq5.size)⟩
  · rw [hvr, HQ3.out]; exact hdiv.out
  · rw [hvr]; exact r1
end Go.Proofs.YtfjellhbcjnjkaaGreatDoor
namespace Go.Proofs.YtfjellhbcjnjkaaGreatDoor
open Go.RowKit
set_option linter.unusedVariables false

/-- the estimate: how often the two limbs are in the three, capped at the greatest limb -/
def EstPost (r0 r1 r2 b0 b1 : Int) (w : World) (e : Ending) (w' : World) : Prop :=
  ∃ t : Int, e = .returned (.int .u64 t) ∧ 0 ≤ t ∧ t ≤ 18446744073709551615 ∧
    Hid (t * (b0 * 18446744073709551616 + b1) ≤ (r0 * 18446744073709551616 + r1) * 18446744073709551616 + r2 ∧
      (t = 18446744073709551615 ∨ (r0 * 18446744073709551616 + r1) * 18446744073709551616 + r2 < (t + 1) * (b0 * 18446744073709551616 + b1))) ∧ Below w.heap.size w w'

/-- what holds of the estimate and of what is left, at the label -/
def EstEq (r0 r1 r2 b0 b1 t left : Int) : Prop :=
  t * b0 + left = r0 * 18446744073709551616 + r1 ∧ (t = 18446744073709551615 ∨ (r0 * 18446744073709551616 + r1) * 18446744073709551616 + r2 < (t + 1) * (b0 * 18446744073709551616 + b1))
def EstInv (r0 r1 r2 b0 b1 t left : Int) : Prop := 0 ≤ t ∧ t ≤ 18446744073709551615 ∧ 0 ≤ left ∧ left < 18446744073709551616 ∧ EstEq r0 r1 r2 b0 b1 t left

section
variable {r0 r1 r2 b0 b1 t left hi lo : Int}
theorem est_more (h : EstEq r0 r1 r2 b0 b1 t left) (hm : t * b1 = hi * 18446744073709551616 + lo) (h10 : 0 ≤ r1) (h20 : 0 ≤ r2) (hb0 : 0 < b0) (hb2 : 0 ≤ b1) (i0 : 0 ≤ t) (i2 : 0 ≤ left) (m2 : 0 ≤ lo) (m3 : lo < 18446744073709551616) (h21 : r2 < 18446744073709551616)
    (hc : left < hi ∨ (hi = left ∧ r2 < lo)) : 1 ≤ t ∧ (r0 * 18446744073709551616 + r1) * 18446744073709551616 + r2 < t * (b0 * 18446744073709551616 + b1) := by
  have h1 : left * 18446744073709551616 + r2 < t * b1 := by rw [hm]; omega
  obtain ⟨h2, _⟩ := h
  constructor
  · rcases (show t = 0 ∨ 1 ≤ t by omega) with h | h
    · subst h; omega
    · exact h
  · have e : t * (b0 * 18446744073709551616 + b1) = t * b0 * 18446744073709551616 + t * b1 := by grind
    omega
theorem est_stop (h : EstEq r0 r1 r2 b0 b1 t left) (hm : t * b1 = hi * 18446744073709551616 + lo) (h20 : 0 ≤ r2) (m2 : 0 ≤ lo) (m3 : lo < 18446744073709551616)
    (hc : ¬ (left < hi ∨ (hi = left ∧ r2 < lo))) : t * (b0 * 18446744073709551616 + b1) ≤ (r0 * 18446744073709551616 + r1) * 18446744073709551616 + r2 := by
  have h1 : t * b1 ≤ left * 18446744073709551616 + r2 := by rw [hm]; omega
  obtain ⟨h2, _⟩ := h
  have e : t * (b0 * 18446744073709551616 + b1) = t * b0 * 18446744073709551616 + t * b1 := by grind
  omega
theorem est_over (h : EstEq r0 r1 r2 b0 b1 t left) (i0 : 0 ≤ t) (i1 : t ≤ 18446744073709551615) (ho : 18446744073709551616 ≤ left + b0) (hb2 : 0 ≤ b1) (hb3 : b1 < 18446744073709551616) (h20 : 0 ≤ r2) :
    (t - 1) * (b0 * 18446744073709551616 + b1) ≤ (r0 * 18446744073709551616 + r1) * 18446744073709551616 + r2 := by
  obtain ⟨h2, _⟩ := h
  have h3 : t * b1 ≤ 18446744073709551615 * 18446744073709551615 := Int.mul_le_mul i1 (by omega) hb2 (by omega)
  have e : (t - 1) * (b0 * 18446744073709551616 + b1) = t * b0 * 18446744073709551616 - b0 * 18446744073709551616 + t * b1 - b1 := by grind
  omega
theorem est_next (h : EstEq r0 r1 r2 b0 b1 t left) (h2 : (r0 * 18446744073709551616 + r1) * 18446744073709551616 + r2 < t * (b0 * 18446744073709551616 + b1)) : EstEq r0 r1 r2 b0 b1 (t - 1) (left + b0) := by
  obtain ⟨h1, _⟩ := h
  refine ⟨?_, .inr ?_⟩
  · have e : (t - 1) * b0 = t * b0 - b0 := by grind
    omega
  · rw [Int.sub_add_cancel]; exact h2
end

/-- the frame and the world at the label -/
def EstJ (r0 r1 r2 b0 b1 : Int) (w : World) (a' : Act) (w' : World) : Prop := ∃ (t left : Int) (m : Nat) (v7 v8 v9 v10 v11 v12 v13 v14 v15 v16 v17 v18 v19 v20 v21 v22 v23 v24 v25 v26 v27 v28 v29 v30 v31 v32 v33 v34 v35 v36 v37 v38 v39 v40 v41 v42 v43 v44 v45 v46 v47 v48 v49 v50 v51 v52 v53 v54 v55 v56 v57 v58 v59 v60 v61 v62 v63 v64 v65 v66 v67 : Value), a' = { tmps := #[.agg #[.int .u64 r0, .int .u64 r1, .int .u64 r2], .agg #[.int .u64 b0, .int .u64 b1], .pointer (some ⟨w.heap.size, 0, none⟩), .pointer (some ⟨w.heap.size + 1, 0, none⟩), .int .u64 0, .int .u64 t, .int .u64 left, v7, v8, v9, v10, v11, v12, v13, v14, v15, v16, v17, v18, v19, v20, v21, v22, v23, v24, v25, v26, v27, v28, v29, v30, v31, v32, v33, v34, v35, v36, v37, v38, v39, v40, v41, v42, v43, v44, v45, v46, v47, v48, v49, v50, v51, v52, v53, v54, v55, v56, v57, v58, v59, v60, v61, v62, v63, v64, v65, v66, v67], defers := [] } ∧
      w' = ((w.alloc (.cells #[.int .u64 r0, .int .u64 r1, .int .u64 r2] 136)).alloc (.cells #[.int .u64 b0, .int .u64 b1] 137)).drewN m ∧ EstInv r0 r1 r2 b0 b1 t left

theorem est_start {r0 r1 r2 b0 b1 t left : Int} (h : r0 * 18446744073709551616 + r1 = t * b0 + left) (h21 : r2 < 18446744073709551616) (hb2 : 0 ≤ b1) (hl : left < b0) (i0 : 0 ≤ t) : EstEq r0 r1 r2 b0 b1 t left := by
  refine ⟨by omega, .inr ?_⟩
  have e : (t + 1) * (b0 * 18446744073709551616 + b1) = (t * b0 + b0) * 18446744073709551616 + (t + 1) * b1 := by grind
  have h1 : 0 ≤ (t + 1) * b1 := Int.mul_nonneg (by omega) hb2
  omega

theorem wp_scope_jumps' {P : Program} {a : Act} {w : World} {Q : Exit → Act → World → Prop} {c rest : Code} (l : Nat) (J : Act → World → Prop) (μ : Act → World → Nat) (hf : findLabel c l = some (Code.seq .skip rest))
    (pass : ∀ a w, J a w → rest.wp P (Exit.jump l (fun a' w' => J a' w' ∧ μ a' w' < μ a w) Q) a w)
    (first : (∀ a w, J a w → rest.wp P (Exit.jump l J Q) a w) → c.wp P (Exit.jump l J Q) a w) : (Code.scope c).wp P Q a w :=
  wp_scope_jumps l J μ hf (first fun a w h => wp_mono (pass a w h) fun e a w hq => by
    cases e with
    | goto l' => exact ⟨hq.1, hq.2.1⟩
    | _ => exact hq) fun a w h => wp_seq (wp_skip (pass a w h))

set_option maxHeartbeats 8000000 in
set_option maxRecDepth 100000 in
theorem estimate_any (r0 r1 r2 b0 b1 : Int) (w : World) (h00 : 0 ≤ r0) (h10 : 0 ≤ r1) (h11 : r1 < 18446744073709551616) (h20 : 0 ≤ r2) (h21 : r2 < 18446744073709551616) (hb0 : 0 < b0) (hb1 : b0 < 18446744073709551616) (hb2 : 0 ≤ b1) (hb3 : b1 < 18446744073709551616) (h01 : r0 ≤ b0) :
    Calls Tryz.prog 149 #[.agg #[.int .u64 r0, .int .u64 r1, .int .u64 r2], .agg #[.int .u64 b0, .int .u64 b1]] w (EstPost r0 r1 r2 b0 b1 w) := by
  go_enter Tryz.func149, Tryz.ntmps149
  go_wp2_with fail
  refine wp_scope_jumps' 0 (EstJ r0 r1 r2 b0 b1 w) (fun a' _ => (intOf (a'.tmps.getD 5 undef)).toNat) rfl ?_ ?_
  · rintro a' w' ⟨t, left, m, v7, v8, v9, v10, v11, v12, v13, v14, v15, v16, v17, v18, v19, v20, v21, v22, v23, v24, v25, v26, v27, v28, v29, v30, v31, v32, v33, v34, v35, v36, v37, v38, v39, v40, v41, v42, v43, v44, v45, v46, v47, v48, v49, v50, v51, v52, v53, v54, v55, v56, v57, v58, v59, v60, v61, v62, v63, v64, v65, v66, v67, rfl, rfl, i0, i1, i2, i3, hi⟩
    have HI := Lib.hid hi
    clear hi
    obtain ⟨hi, lo, m0, m1, m2, m3, me, HM⟩ := mul_ex t b1 i0 (by omega) hb2 hb3
    have ME := Lib.hid me
    clear me
    by_cases hc : left < hi ∨ (hi = left ∧ r2 < lo)
    · obtain ⟨g1, g2⟩ := est_more HI.out ME.out h10 h20 hb0 hb2 i0 i2 m2 m3 h21 hc
      have G2 := Lib.hid g2
      clear g2
      by_cases ho : left + b0 < 18446744073709551616
      · rcases hc with hc | ⟨hc1, hc2⟩
        · go_wp2_with (go_at_call 167; ((with_reducible refine (HM _).mono ?_); rintro e w' ⟨rfl, rfl⟩))
          go_step3
          refine ⟨rfl, (show EstJ _ _ _ _ _ _ _ _ from ?_), ?_⟩
          · exact ⟨t - 1, left + b0, _, _, _, _, _, _, _, _, _, _, _, _, _, _, _, _, _, _, _, _, _, _, _, _, _, _, _, _, _, _, _, _, _, _, _, _, _, _, _, _, _, _, _, _, _, _, _, _, _, _, _, _, _, _, _, _, _, _, _, _, _, _, rfl, rfl, by omega, by omega, by omega, by omega, est_next HI.out G2.out⟩
          · simp [intOf]; omega
        · subst hc1
          go_wp2_with (go_at_call 167; ((with_reducible refine (HM _).mono ?_); rintro e w' ⟨rfl, rfl⟩))
          go_step3
          refine ⟨rfl, (show EstJ _ _ _ _ _ _ _ _ from ?_), ?_⟩
          · exact ⟨t - 1, hi + b0, _, _, _, _, _, _, _, _, _, _, _, _, _, _, _, _, _, _, _, _, _, _, _, _, _, _, _, _, _, _, _, _, _, _, _, _, _, _, _, _, _, _, _, _, _, _, _, _, _, _, _, _, _, _, _, _, _, _, _, _, _, _, rfl, rfl, by omega, by omega, by omega, by omega, est_next HI.out G2.out⟩
          · simp [intOf]; omega
      · have hw : IntKind.u64.wrap (left + b0) = left + b0 - 18446744073709551616 := by rw [IntKind.wrap_u64]; omega
        have hover := est_over HI.out i0 i1 (by omega) hb2 hb3 h20
        rcases hc with hc | ⟨hc1, hc2⟩
        · go_wp2_with (go_at_call 167; ((with_reducible refine (HM _).mono ?_); rintro e w' ⟨rfl, rfl⟩))
          simp only [Exit.jump]
          go_ret
          exact ⟨t - 1, rfl, by omega, by omega, ⟨hover, .inr (by rw [Int.sub_add_cancel]; exact G2.out)⟩, below_drewN (((Below.refl _ w).alloc (Nat.le_refl _) _).alloc (by simp) _) _⟩
        · subst hc1
          go_wp2_with (go_at_call 167; ((with_reducible refine (HM _).mono ?_); rintro e w' ⟨rfl, rfl⟩))
          simp only [Exit.jump]
          go_ret
          exact ⟨t - 1, rfl, by omega, by omega, ⟨hover, .inr (by rw [Int.sub_add_cancel]; exact G2.out)⟩, below_drewN (((Below.refl _ w).alloc (Nat.le_refl _) _).alloc (by simp) _) _⟩
    · have hstop := est_stop HI.out ME.out h20 m2 m3 hc
      by_cases hlt : hi < left
      · go_wp2_with (go_at_call 167; ((with_reducible refine (HM _).mono ?_); rintro e w' ⟨rfl, rfl⟩))
        simp only [Exit.jump]
        go_ret
        exact ⟨t, rfl, i0, i1, ⟨hstop, HI.out.2⟩, below_drewN (((Below.refl _ w).alloc (Nat.le_refl _) _).alloc (by simp) _) _⟩
      · obtain rfl : hi = left := by omega
        have hlo : lo ≤ r2 := by omega
        go_wp2_with (go_at_call 167; ((with_reducible refine (HM _).mono ?_); rintro e w' ⟨rfl, rfl⟩))
        simp only [Exit.jump]
        go_ret
        exact ⟨t, rfl, i0, i1, ⟨hstop, HI.out.2⟩, below_drewN (((Below.refl _ w).alloc (Nat.le_refl _) _).alloc (by simp) _) _⟩
  · intro hp
    have HP := Lib.hid hp
    clear hp
    rcases (show r0 < b0 ∨ r0 = b0 by omega) with h01' | h01'
    · go_wp2_with (go_at_call 166; ((with_reducible refine (div64_any r0 r1 b0 _ h00 h01' hb1 h10 h11).mono ?_); rintro e w' ⟨n, t, left, rfl, i0, i1', i2, i3', hdiv, rfl⟩))
      go_step3
      rename_i hK
      refine hK _ _ (HP.out _ _ ?_)
      exact ⟨t, left, _, _, _, _, _, _, _, _, _, _, _, _, _, _, _, _, _, _, _, _, _, _, _, _, _, _, _, _, _, _, _, _, _, _, _, _, _, _, _, _, _, _, _, _, _, _, _, _, _, _, _, _, _, _, _, _, _, _, _, _, _, _, rfl, rfl, by omega, by omega, by omega, by omega, est_start hdiv.out h21 hb2 i3' i0⟩
    · subst h01'
      obtain ⟨left, o, i2, i3, o0, o1, he, hr⟩ := run_add r1 r0 0 ((w.alloc (.cells #[.int .u64 r0, .int .u64 r1, .int .u64 r2] 136)).alloc (.cells #[.int .u64 r0, .int .u64 b1] 137)) h10 h11 (by omega) hb1 (by omega) (by omega)
      have HE := Lib.hid he
      clear he
      rcases (show o = 0 ∨ o = 1 by omega) with rfl | rfl
      · go_wp2_with fail
        go_step3
        rename_i hK
        refine hK _ _ (HP.out _ _ ?_)
        exact ⟨18446744073709551615, left, 0, _, _, _, _, _, _, _, _, _, _, _, _, _, _, _, _, _, _, _, _, _, _, _, _, _, _, _, _, _, _, _, _, _, _, _, _, _, _, _, _, _, _, _, _, _, _, _, _, _, _, _, _, _, _, _, _, _, _, _, _, _, rfl, rfl, by omega, by omega, by omega, by omega, ⟨by have := HE.out; omega, .inl rfl⟩⟩
      · have hover : 18446744073709551615 * (r0 * 18446744073709551616 + b1) ≤ (r0 * 18446744073709551616 + r1) * 18446744073709551616 + r2 := by have := HE.out; omega
        have HO := Lib.hid hover
        clear hover
        go_wp2_with fail
        simp only [Exit.jump]
        go_ret
        exact ⟨18446744073709551615, rfl, by omega, by omega, ⟨HO.out, .inl rfl⟩, ((Below.refl _ w).alloc (Nat.le_refl _) _).alloc (by simp) _⟩
end Go.Proofs.YtfjellhbcjnjkaaGreatDoor
namespace Go.Proofs.YtfjellhbcjnjkaaGreatDoor
open Go.RowKit
set_option linter.unusedVariables false

/-- the block g, of K cells, begins with the numbers of l -/
def Pre (w : World) (g K : Nat) (l : List Int) : Prop := ∃ cur : Array Value, w.heap[g]? = some (.cells cur 22 (0, 0)) ∧ cur.size = K ∧ cur.toList.take l.length = L l
section
variable {w w' : World} {g K B : Nat} {l : List Int}
theorem Row.pre (h : Row w g l) : Pre w g l.length l := ⟨_, h, by simp [L], by rw [List.take_of_length_le (by simp [L])]⟩
theorem Pre.lt (h : Pre w g K l) : g < w.heap.size := by obtain ⟨cur, h, _⟩ := h; exact lt_of_block h
theorem Pre.cell (h : Pre w g K l) {k : Nat} (hk : k < l.length) : w.cell? ⟨g, k, none⟩ = some (.int .u64 (D l k)) := by
  obtain ⟨cur, h1, h2, h3⟩ := h
  rw [cell_of_row w g k _ _ (0, 0) h1, ← L_get hk, ← h3, List.getElem?_take, if_pos hk]
  simp
theorem Pre.frozen (h : Pre w g K l) (k : Nat) : w.frozen? ⟨g, k, none⟩ = false := by
  obtain ⟨cur, h1, h2, h3⟩ := h
  simp [World.frozen?, h1]
theorem Pre.drew (h : Pre w g K l) : Pre w.drew g K l := h
theorem Pre.drewN (h : Pre w g K l) (n : Nat) : Pre (w.drewN n) g K l := h
theorem Pre.alloc (h : Pre w g K l) (o : Obj) : Pre (w.alloc o) g K l := by
  have hl := h.lt
  obtain ⟨cur, h1, h2⟩ := h
  exact ⟨cur, (Below.heap_alloc w o g hl).trans h1, h2⟩
theorem Pre.set_ (h : Pre w g K l) (k : Nat) (v : Int) : Pre (w.setCell ⟨g, k, none⟩ (.int .u64 v)) g K (l.set k v) := by
  obtain ⟨cur, h1, h2, h3⟩ := h
  refine ⟨cur.setIfInBounds k (.int .u64 v), ?_, by simpa using h2, ?_⟩
  · simp [World.setCell, Array.getElem?_modify, h1]
  · rw [List.length_set, Array.toList_setIfInBounds, List.take_set, h3]
    simp [L, List.map_set]
theorem Pre.far (h : Pre w g K l) {p : Addr} (hp : g ≠ p.block) (u : Value) : Pre (w.setCell p u) g K l := by
  obtain ⟨cur, h1, h2⟩ := h
  exact ⟨cur, (Below.heap_setCell w p u g hp).trans h1, h2⟩
theorem Pre.below (h : Pre w g K l) (hb : Below B w w') (hg : g < B) : Pre w' g K l := by
  obtain ⟨cur, h1, h2⟩ := h
  exact ⟨cur, (hb.block g hg).trans h1, h2⟩
theorem Pre.grown (h : Pre w g K l) {row : Option Nat} (hb : w.grownBy w' row) (hg : some g ≠ row) : Pre w' g K l := by
  have hl := h.lt
  obtain ⟨cur, h1, h2⟩ := h
  exact ⟨cur, (hb.block g hl hg).trans h1, h2⟩
theorem Own.pre {c : Nat} (h : Own w B (some ⟨g, 0, none⟩) c l) : Pre w g c l ∧ B ≤ g ∧ l.length ≤ c ∧ c ≤ maxLen := by
  rcases h.2 with ⟨h1, h2⟩ | ⟨g', cap, cur, hv, hg, hh, h3, h4, h5, h6⟩
  · cases h1
  · injection hv with hA hn hc
    injection hA with hA
    injection hA with hA
    subst hA; subst hc
    exact ⟨⟨cur, hh, by omega, by rw [Nat.mul_one] at h6; exact h6⟩, hg, h3, h4⟩
theorem Pre.own (h : Pre w g K l) (hB : B ≤ g) (h1 : l.length ≤ K) (h2 : K ≤ maxLen) : Own w B (some ⟨g, 0, none⟩) K l := by
  obtain ⟨cur, h3, h4, h5⟩ := h
  exact ⟨by rw [L_length]; omega, .inr ⟨g, K, cur, rfl, hB, h3, h1, h2, by omega, by rw [Nat.mul_one]; exact h5⟩⟩
end

/-- a step of a product that is taken off -/
def TakeStep (x y f c : Int) (b : Nat) (w : World) (e : Ending) (w' : World) : Prop :=
  ∃ z d : Int, e = .returned (.int .u64 z) ∧ 0 ≤ z ∧ z < 18446744073709551616 ∧ 0 ≤ d ∧ d < 18446744073709551616 ∧ Hid (x - (y * f + c) = z - d * 18446744073709551616) ∧ w.setCell ⟨b, 0, none⟩ (.int .u64 d) = w'

set_option maxHeartbeats 1000000 in
theorem takestep_any (x y f c : Int) (a b : Nat) (w : World) (ha : Row w a [f]) (h : Row w b [c]) (hx : 0 ≤ x) (hx1 : x < 18446744073709551616) (hy : 0 ≤ y) (hy1 : y < 18446744073709551616)
    (hf : 0 ≤ f) (hf1 : f < 18446744073709551616) (hc : 0 ≤ c) (hc1 : c < 18446744073709551616) :
    Calls Tryz.prog 168 #[.int .u64 x, .int .u64 y, .pointer (some ⟨a, 0, none⟩), .pointer (some ⟨b, 0, none⟩)] w (TakeStep x y f c b w) := by
  have h0 := h.cell (k := 0) (by simp)
  have a0 := ha.cell (k := 0) (by simp)
  have hfz := h.frozen 0
  simp only [D_cons_zero] at h0 a0
  obtain ⟨hi, lo, m0, m1, m2, m3, me, HM⟩ := mul_ex y f hy hy1 hf hf1
  obtain ⟨z1, o1, z10, z11, o10, o11, e1, r1⟩ := run_add lo c 0 w m2 m3 hc hc1 (by omega) (by omega)
  obtain ⟨z2, o2, z20, z21, o20, o21, e2, r2⟩ := run_sub x z1 0 w hx hx1 z10 z11 (by omega) (by omega)
  have hb : y * f ≤ 18446744073709551615 * 18446744073709551615 := Int.mul_le_mul (by omega) (by omega) (by omega) (by omega)
  have hbd : hi + o1 + o2 ≤ 18446744073709551615 := by omega
  have HE : Hid (x - (y * f + c) = z2 - (hi + o1 + o2) * 18446744073709551616) := by show _ = _; omega
  clear me e1 e2 hb
  go_enter Tryz.func168, Tryz.ntmps168
  go_wp2_with (go_at_call 167; ((with_reducible refine (HM _).mono ?_); rintro e w' ⟨rfl, rfl⟩))
  go_ret
  exact ⟨z2, hi + o1 + o2, rfl, z20, z21, by omega, by omega, HE, rfl⟩

/-- the round of a product that is taken off -/
def TakeInv (K : Nat) (C0 m : List Int) (f : Int) (o g : Nat) (w0 : World) (k : Nat) (w : World) : Prop :=
  ∃ (C : List Int) (d : Int), C.length = C0.length ∧ Lim 18446744073709551616 C ∧ 0 ≤ d ∧ d < 18446744073709551616 ∧ Pre w g K C ∧ Row w w0.heap.size [f] ∧ Row w (w0.heap.size + 1) [d] ∧ w0.grownBy w (some g) ∧
    (∀ i, (i < o ∨ o + k ≤ i) → D C i = D C0 i) ∧
    S 18446744073709551616 (fun i => D C (o + i)) k - d * 18446744073709551616 ^ k = S 18446744073709551616 (fun i => D C0 (o + i)) k - S 18446744073709551616 (D m) k * f
theorem takeinv_step {K : Nat} {C0 m C : List Int} {f d z d' : Int} {o g k : Nat} {w0 w : World} (hC : C.length = C0.length) (hCl : Lim 18446744073709551616 C) (hr : Pre w g K C) (ha : Row w w0.heap.size [f]) (hc : Row w (w0.heap.size + 1) [d]) (hg : w0.grownBy w (some g))
    (ho : ∀ i, (i < o ∨ o + k ≤ i) → D C i = D C0 i)
    (he : S 18446744073709551616 (fun i => D C (o + i)) k - d * 18446744073709551616 ^ k = S 18446744073709551616 (fun i => D C0 (o + i)) k - S 18446744073709551616 (D m) k * f) (hk : o + k < C0.length) (hg0 : g < w0.heap.size)
    (hz0 : 0 ≤ z) (hz1 : z < 18446744073709551616) (hd0 : 0 ≤ d') (hd1 : d' < 18446744073709551616) (he' : D C (o + k) - (D m k * f + d) = z - d' * 18446744073709551616) :
    TakeInv K C0 m f o g w0 (k + 1) ((w.setCell ⟨w0.heap.size + 1, 0, none⟩ (.int .u64 d')).setCell ⟨g, o + k, none⟩ (.int .u64 z)) := by
  refine ⟨C.set (o + k) z, d', by simp [hC], hCl.set _ hz0 hz1, hd0, hd1, (hr.far (by simp; omega) _).set_ _ z, (ha.far (by simp) _).far (by simp; omega) _, (hc.set_ 0 d').far (by simp; omega) _, only_setCell (p := ⟨g, o + k, none⟩) (only_setCell (p := ⟨w0.heap.size + 1, 0, none⟩) hg (.inr (by simp)) _) (.inl rfl) _, fun i hi => ?_, ?_⟩
  · rw [D_set z i (by omega), if_neg (by omega)]; exact ho i (by omega)
  · rw [S_succ, S_succ, S_succ, S_congr (g := fun i => D C (o + i)) (fun i hi => by rw [D_set z (o + i) (by omega), if_neg (by omega)]), D_set z (o + k) (by omega), if_pos rfl, Int.pow_succ]
    have := ho (o + k) (by omega)
    rw [this] at he'
    grind
theorem TakeInv.drew {K : Nat} {C0 m : List Int} {f : Int} {o g k : Nat} {w0 w : World} (h : TakeInv K C0 m f o g w0 k w) : TakeInv K C0 m f o g w0 k w.drew := by
  obtain ⟨C, d, h1, h2, h3, h4, h5, h6, h7, h8, h9⟩ := h
  exact ⟨C, d, h1, h2, h3, h4, h5.drew, h6.drew, h7.drew, only_drew h8, h9⟩

/-- what is left; was it too little? -/
def TakePost (K : Nat) (C0 m : List Int) (f : Int) (o g : Nat) (w0 : World) (e : Ending) (w : World) : Prop :=
  ∃ (C : List Int) (d : Bool), e = .returned (.bool d) ∧ C.length = C0.length ∧ Lim 18446744073709551616 C ∧ Pre w g K C ∧ w0.grownBy w (some g) ∧
    Hid (∀ i, (i < o ∨ o + (m.length + 1) ≤ i) → D C i = D C0 i) ∧
    Hid (S 18446744073709551616 (fun i => D C (o + i)) (m.length + 1) - (if d then 18446744073709551616 ^ (m.length + 1) else 0) = S 18446744073709551616 (fun i => D C0 (o + i)) (m.length + 1) - val 18446744073709551616 m * f)

set_option maxHeartbeats 4000000 in
theorem taketimes_any (K : Nat) (C0 : List Int) (g o cc : Nat) (A2 : Option Addr) (c2 : Nat) (m : List Int) (f : Int) (w : World) (hr0 : Pre w g K C0) (hC0 : Lim 18446744073709551616 C0) (ho : o + m.length + 1 ≤ C0.length) (hcc : m.length + 1 ≤ cc) (hco : C0.length ≤ 4000000)
    (h2 : Nums w w.heap.size A2 c2 m) (hne : ∀ ad, A2 = some ad → ad.block ≠ g) (hl2 : Lim 18446744073709551616 m) (hf : 0 ≤ f) (hf1 : f < 18446744073709551616) :
    Calls Tryz.prog 150 #[.slice (some ⟨g, o, none⟩) (m.length + 1) cc, .slice A2 m.length c2, .int .u64 f] w (TakePost K C0 m f o g w) := by
  have hg0 := hr0.lt
  have hml : m.length ≤ 4000000 := by omega
  go_enter Tryz.func150, Tryz.ntmps150
  go_wp2_with fail
  go_loopw [14] (fun i wr => ∃ k : Nat, k ≤ m.length ∧ i = .int .i64 k ∧ TakeInv K C0 m f o g w k wr) (fun i _ => m.length - (intOf i).toNat)
  case atStart =>
    refine ⟨0, by omega, rfl, C0, 0, rfl, hC0, by omega, by omega, (hr0.alloc _).alloc _, (Row.one w f).alloc _, ?_, only_alloc (only_alloc (World.grownBy.refl w _) _) _, fun _ _ => rfl, by simp [S]⟩
    have := Row.one (w.alloc (.cells #[Value.int .u64 f] 22)) 0
    simpa using this
  case round =>
    obtain ⟨k, hk, rfl, C, d, hC, hCl, hd0, hd1, hr, ha, hc, hg, hout, he⟩ := hrel
    have HC := Lib.hid hC
    have HE := Lib.hid he
    have HO := Lib.hid hout
    have hgw := hg.size
    clear hC he hout
    by_cases hkn : k < m.length
    · have hx := D_lim (b := 18446744073709551616) (by omega) hCl (o + k)
      have hy := D_lim (b := 18446744073709551616) (by omega) hl2 k
      have c0 := hr.cell (k := o + k) (by rw [HC.out]; omega)
      have f0 := hr.frozen (o + k)
      obtain ⟨ad, rfl, hadb, c1⟩ := h2.at_ hkn
      have hne' := hne ad rfl
      have c2' : wr.cell? (ad.add k) = some (.int .u64 (D m k)) := by
        rw [World.cell?_of_block (hg.block (ad.add k).block (by rw [add_block]; exact hadb) (fun e => hne' (by rw [add_block] at e; injection e)))]
        exact c1
      clear c1
      have i0 : (0 : Int) ≤ (k : Int) := by omega
      have i1 : (k : Int) < m.length := by omega
      have i2 : (k : Int) < m.length + 1 := by omega
      go_wp2_with fail
      go_region_with (go_at_call 168; ((with_reducible refine (takestep_any (D C (o + k)) (D m k) f d _ _ _ ha.drew hc.drew hx.1 hx.2 hy.1 hy.2 hf hf1 hd0 hd1).mono ?_); rintro e w' ⟨z, d', rfl, hz0, hz1, hd0', hd1', he', rfl⟩))
      all_goals
        go_wp2_with fail
        go_roundw
        case rel => exact ⟨k + 1, by omega, by go_num, (takeinv_step HC.out hCl hr ha hc hg HO.out HE.out (by omega) hg0 hz0 hz1 hd0' hd1' he'.out).drew⟩
        case measure => simp [intOf]; omega
    · obtain rfl : k = m.length := by omega
      have h0 := hc.cell (k := 0) (by simp)
      simp only [D_cons_zero] at h0
      have hx := D_lim (b := 18446744073709551616) (by omega) hCl (o + m.length)
      have c0 := hr.cell (k := o + m.length) (by rw [HC.out]; omega)
      have f0 := hr.frozen (o + m.length)
      have i1 : (m.length : Int) < m.length + 1 := by omega
      have hne2 : ¬ g = w.heap.size + 1 := by omega
      go_wp2_with fail
      go_ret
      have hw : ∃ t e : Int, IntKind.u64.wrap (D C (o + m.length) - d) = t ∧ 0 ≤ t ∧ t < 18446744073709551616 ∧ D C (o + m.length) - d = t - e * 18446744073709551616 ∧ e = if D C (o + m.length) < d then 1 else 0 := by
        refine ⟨_, _, rfl, ?_, ?_, ?_, rfl⟩ <;> rw [IntKind.wrap_u64] <;> (try split) <;> omega
      obtain ⟨t, e, ht, t0, t1, te, hee⟩ := hw
      refine ⟨C.set (o + m.length) t, decide (D C (o + m.length) < d), rfl, by rw [List.length_set, HC.out], hCl.set _ t0 t1, by rw [ht]; exact hr.set_ _ t, only_setCell (p := ⟨g, o + m.length, none⟩) hg (.inl rfl) _, fun i hi => ?_, ?_⟩
      · rw [D_set t i (by rw [HC.out]; omega), if_neg (by omega)]; exact HO.out i (by omega)
      · show _ = _
        rw [S_succ, S_succ, S_congr (g := fun i => D C (o + i)) (fun i hi => by rw [D_set t (o + i) (by rw [HC.out]; omega), if_neg (by omega)]), D_set t (o + m.length) (by rw [HC.out]; omega), if_pos rfl]
        have h1 := HE.out
        rw [S_val (Nat.le_refl _)] at h1
        rw [← HO.out (o + m.length) (by omega), Int.pow_succ]
        have h3 : (if decide (D C (o + m.length) < d) = true then (18446744073709551616 : Int) ^ m.length * 18446744073709551616 else 0) = e * (18446744073709551616 ^ m.length * 18446744073709551616) := by
          rw [hee]
          by_cases h4 : D C (o + m.length) < d
          · simp [h4]
          · simp [h4]
        rw [h3]
        generalize (18446744073709551616 : Int) ^ m.length = P at *
        generalize D C (o + m.length) = top at *
        generalize S 18446744073709551616 (fun i => D C (o + i)) m.length = X at *
        generalize S 18446744073709551616 (fun i => D C0 (o + i)) m.length = Y at *
        generalize val 18446744073709551616 m * f = V at *
        have h5 : t * P = (top - d) * P + e * (P * 18446744073709551616) := by rw [te]; grind
        have h6 : (top - d) * P = top * P - d * P := by grind
        omega

/-- the round of a giving back -/
def GiveInv (K : Nat) (C0 m : List Int) (n o g : Nat) (w0 : World) (k : Nat) (w : World) : Prop :=
  ∃ (C : List Int) (d : Int), C.length = C0.length ∧ Lim 18446744073709551616 C ∧ 0 ≤ d ∧ d ≤ 1 ∧ Pre w g K C ∧ Row w w0.heap.size [d] ∧ w0.grownBy w (some g) ∧
    (∀ i, (i < o ∨ o + k ≤ i) → D C i = D C0 i) ∧
    S 18446744073709551616 (fun i => D C (o + i)) k + d * 18446744073709551616 ^ k = S 18446744073709551616 (fun i => D C0 (o + i)) k + S 18446744073709551616 (D m) k
theorem giveinv_step {K : Nat} {C0 m C : List Int} {d z d' : Int} {n o g k : Nat} {w0 w : World} (hC : C.length = C0.length) (hCl : Lim 18446744073709551616 C) (hr : Pre w g K C) (hc : Row w w0.heap.size [d]) (hg : w0.grownBy w (some g))
    (ho : ∀ i, (i < o ∨ o + k ≤ i) → D C i = D C0 i)
    (he : S 18446744073709551616 (fun i => D C (o + i)) k + d * 18446744073709551616 ^ k = S 18446744073709551616 (fun i => D C0 (o + i)) k + S 18446744073709551616 (D m) k) (hk : o + k < C0.length) (hg0 : g < w0.heap.size)
    (hz0 : 0 ≤ z) (hz1 : z < 18446744073709551616) (hd0 : 0 ≤ d') (hd1 : d' ≤ 1) (he' : D C (o + k) + D m k + d = z + d' * 18446744073709551616) :
    GiveInv K C0 m n o g w0 (k + 1) ((w.setCell ⟨w0.heap.size, 0, none⟩ (.int .u64 d')).setCell ⟨g, o + k, none⟩ (.int .u64 z)) := by
  refine ⟨C.set (o + k) z, d', by simp [hC], hCl.set _ hz0 hz1, hd0, hd1, (hr.far (by simp; omega) _).set_ _ z, (hc.set_ 0 d').far (by simp; omega) _, only_setCell (p := ⟨g, o + k, none⟩) (only_setCell (p := ⟨w0.heap.size, 0, none⟩) hg (.inr (by simp)) _) (.inl rfl) _, fun i hi => ?_, ?_⟩
  · rw [D_set z i (by omega), if_neg (by omega)]; exact ho i (by omega)
  · rw [S_succ, S_succ, S_succ, S_congr (g := fun i => D C (o + i)) (fun i hi => by rw [D_set z (o + i) (by omega), if_neg (by omega)]), D_set z (o + k) (by omega), if_pos rfl, Int.pow_succ]
    have := ho (o + k) (by omega)
    rw [this] at he'
    grind
theorem GiveInv.drew {K : Nat} {C0 m : List Int} {n o g k : Nat} {w0 w : World} (h : GiveInv K C0 m n o g w0 k w) : GiveInv K C0 m n o g w0 k w.drew := by
  obtain ⟨C, d, h1, h2, h3, h4, h5, h6, h7, h8⟩ := h
  exact ⟨C, d, h1, h2, h3, h4, h5.drew, h6.drew, only_drew h7, h8⟩

def GivePost (K : Nat) (C0 m : List Int) (n o g : Nat) (w0 : World) (e : Ending) (w : World) : Prop :=
  ∃ (C : List Int) (d : Int), e = .returned (.tuple #[]) ∧ C.length = C0.length ∧ Lim 18446744073709551616 C ∧ Pre w g K C ∧ w0.grownBy w (some g) ∧
    Hid (∀ i, (i < o ∨ o + n ≤ i) → D C i = D C0 i) ∧
    Hid (S 18446744073709551616 (fun i => D C (o + i)) n + d * 18446744073709551616 ^ n = S 18446744073709551616 (fun i => D C0 (o + i)) n + val 18446744073709551616 m)

set_option maxHeartbeats 4000000 in
theorem giveback_any (K : Nat) (C0 : List Int) (g o n cc : Nat) (A2 : Option Addr) (c2 : Nat) (m : List Int) (w : World) (hr0 : Pre w g K C0) (hC0 : Lim 18446744073709551616 C0) (ho : o + n ≤ C0.length) (hnm : m.length ≤ n) (hcc : n ≤ cc) (hco : C0.length ≤ 4000000)
    (h2 : Nums w w.heap.size A2 c2 m) (hne : ∀ ad, A2 = some ad → ad.block ≠ g) (hl2 : Lim 18446744073709551616 m) :
    Calls Tryz.prog 151 #[.slice (some ⟨g, o, none⟩) n cc, .slice A2 m.length c2] w (GivePost K C0 m n o g w) := by
  have hg0 := hr0.lt
  have hml : m.length ≤ 4000000 := by omega
  go_enter Tryz.func151, Tryz.ntmps151
  go_wp2_with fail
  go_loopw [10] (fun i wr => ∃ k : Nat, k ≤ n ∧ i = .int .i64 k ∧ GiveInv K C0 m n o g w k wr) (fun i _ => n - (intOf i).toNat)
  case atStart =>
    exact ⟨0, by omega, rfl, C0, 0, rfl, hC0, by omega, by omega, hr0.alloc _, Row.one w 0, only_alloc (World.grownBy.refl w _) _, fun _ _ => rfl, by simp [S]⟩
  case round =>
    obtain ⟨k, hk, rfl, C, d, hC, hCl, hd0, hd1, hr, hc, hg, hout, he⟩ := hrel
    have HC := Lib.hid hC
    have HE := Lib.hid he
    have HO := Lib.hid hout
    have hgw := hg.size
    clear hC he hout
    by_cases hkn : k < n
    · have hx := D_lim (b := 18446744073709551616) (by omega) hCl (o + k)
      have hy := D_lim (b := 18446744073709551616) (by omega) hl2 k
      have c0 := hr.cell (k := o + k) (by rw [HC.out]; omega)
      have f0 := hr.frozen (o + k)
      have hn2 : Nums wr w.heap.size A2 c2 m := ⟨h2.1, h2.2.1, fun hn => by
        obtain ⟨ad, e, hb, hcell⟩ := h2.2.2 hn
        refine ⟨ad, e, hb, fun j hj => ?_⟩
        rw [World.cell?_of_block (hg.block (ad.add j).block (by rw [add_block]; exact hb) (fun e' => hne ad e (by rw [add_block] at e'; injection e')))]
        exact hcell j hj⟩
      have i0 : (0 : Int) ≤ (k : Int) := by omega
      have i1 : (k : Int) < n := by omega
      go_wp2_with fail
      go_region_with (first
        | (go_at_call 131; ((with_reducible refine (limb_any A2 c2 m k _ _ hn2.drew).mono ?_); rintro e w' ⟨rfl, rfl⟩))
        | (go_at_call 169; ((with_reducible refine (givestep_any (D C (o + k)) (D m k) d _ _ hc.drew hx.1 hx.2 hy.1 hy.2 hd0 hd1).mono ?_); rintro e w' ⟨z, d', rfl, hz0, hz1, hd0', hd1', he', rfl⟩)))
      all_goals
        go_wp2_with fail
        go_roundw
        case rel => exact ⟨k + 1, by omega, by go_num, (giveinv_step HC.out hCl hr hc hg HO.out HE.out (by omega) hg0 hz0 hz1 hd0' hd1' he'.out).drew⟩
        case measure => simp [intOf]; omega
    · obtain rfl : k = n := by omega
      go_wp2_with fail
      go_end0
      refine ⟨C, d, rfl, HC.out, hCl, hr, hg, HO.out, ?_⟩
      have := HE.out
      rw [S_val hnm] at this
      exact this
end Go.Proofs.YtfjellhbcjnjkaaGreatDoor
namespace Go.Proofs.YtfjellhbcjnjkaaGreatDoor
open Go.RowKit
set_option linter.unusedVariables false

/-- the estimate, reckoned -/
def est (r0 r1 r2 b0 b1 : Int) : Int := min 18446744073709551615 (((r0 * 18446744073709551616 + r1) * 18446744073709551616 + r2) / (b0 * 18446744073709551616 + b1))
theorem est_is {r0 r1 r2 b0 b1 t : Int} (hb0 : 0 < b0) (hb2 : 0 ≤ b1) (t1 : t ≤ 18446744073709551615)
    (h : t * (b0 * 18446744073709551616 + b1) ≤ (r0 * 18446744073709551616 + r1) * 18446744073709551616 + r2 ∧
      (t = 18446744073709551615 ∨ (r0 * 18446744073709551616 + r1) * 18446744073709551616 + r2 < (t + 1) * (b0 * 18446744073709551616 + b1))) : t = est r0 r1 r2 b0 b1 := by
  have hD : 0 < b0 * 18446744073709551616 + b1 := by omega
  unfold est
  generalize (r0 * 18446744073709551616 + r1) * 18446744073709551616 + r2 = N at *
  generalize b0 * 18446744073709551616 + b1 = Dd at *
  have h1 := (Int.le_ediv_iff_mul_le hD).2 h.1
  rcases h.2 with h2 | h2
  · omega
  · have h3 := (Int.ediv_lt_iff_lt_mul hD).2 h2
    omega

theorem estimate_at (r0 r1 r2 b0 b1 : Int) (w : World) (h00 : 0 ≤ r0) (h10 : 0 ≤ r1) (h11 : r1 < 18446744073709551616) (h20 : 0 ≤ r2) (h21 : r2 < 18446744073709551616) (hb0 : 0 < b0) (hb1 : b0 < 18446744073709551616) (hb2 : 0 ≤ b1) (hb3 : b1 < 18446744073709551616) (h01 : r0 ≤ b0) :
    Calls Tryz.prog 149 #[.agg #[.int .u64 r0, .int .u64 r1, .int .u64 r2], .agg #[.int .u64 b0, .int .u64 b1]] w fun e w' => e = .returned (.int .u64 (est r0 r1 r2 b0 b1)) ∧ Below w.heap.size w w' := by
  refine (estimate_any r0 r1 r2 b0 b1 w h00 h10 h11 h20 h21 hb0 hb1 hb2 hb3 h01).mono ?_
  rintro e w' ⟨t, rfl, t0, t1, h, hb⟩
  exact ⟨ret_int (est_is hb0 hb2 t1 h.out), hb⟩
theorem est_spec {r0 r1 r2 b0 b1 : Int} (h00 : 0 ≤ r0) (h10 : 0 ≤ r1) (h20 : 0 ≤ r2) (hb0 : 0 < b0) (hb2 : 0 ≤ b1) :
    0 ≤ est r0 r1 r2 b0 b1 ∧ est r0 r1 r2 b0 b1 ≤ 18446744073709551615 ∧ est r0 r1 r2 b0 b1 * (b0 * 18446744073709551616 + b1) ≤ (r0 * 18446744073709551616 + r1) * 18446744073709551616 + r2 ∧
      (est r0 r1 r2 b0 b1 = 18446744073709551615 ∨ (r0 * 18446744073709551616 + r1) * 18446744073709551616 + r2 < (est r0 r1 r2 b0 b1 + 1) * (b0 * 18446744073709551616 + b1)) := by
  have hD : 0 < b0 * 18446744073709551616 + b1 := by omega
  unfold est
  have hN : 0 ≤ (r0 * 18446744073709551616 + r1) * 18446744073709551616 + r2 := by omega
  generalize (r0 * 18446744073709551616 + r1) * 18446744073709551616 + r2 = N at *
  generalize b0 * 18446744073709551616 + b1 = Dd at *
  have h0 : 0 ≤ N / Dd := Int.ediv_nonneg hN (Int.le_of_lt hD)
  refine ⟨by omega, by omega, (Int.le_ediv_iff_mul_le hD).1 (by omega), ?_⟩
  rcases (show 18446744073709551615 ≤ N / Dd ∨ N / Dd < 18446744073709551615 by omega) with h | h
  · exact .inl (by omega)
  · right
    have e : min 18446744073709551615 (N / Dd) = N / Dd := by omega
    rw [e]
    exact (Int.ediv_lt_iff_lt_mul hD).1 (by omega)

/-- one limb of a quotient, in plain numbers -/
theorem most_math {P V vl rl r0 r1 r2 b0 b1 R0 t : Int} (hP : 0 < P) (hV : V = (b0 * 18446744073709551616 + b1) * P + vl) (hv0 : 0 ≤ vl) (hv1 : vl < P) (hR : R0 = ((r0 * 18446744073709551616 + r1) * 18446744073709551616 + r2) * P + rl) (hr0 : 0 ≤ rl) (hr1 : rl < P)
    (hlt : R0 < V * 18446744073709551616) (hb0 : 1 ≤ b0) (hb2 : 0 ≤ b1) (h0 : 0 ≤ t) (h1 : t ≤ 18446744073709551615)
    (h2 : t * (b0 * 18446744073709551616 + b1) ≤ (r0 * 18446744073709551616 + r1) * 18446744073709551616 + r2)
    (h3 : t = 18446744073709551615 ∨ (r0 * 18446744073709551616 + r1) * 18446744073709551616 + r2 < (t + 1) * (b0 * 18446744073709551616 + b1)) :
    R0 - V * t < V ∧ - V ≤ R0 - V * t := by
  generalize (r0 * 18446744073709551616 + r1) * 18446744073709551616 + r2 = N at *
  constructor
  · rcases h3 with h3 | h3
    · subst h3; omega
    · generalize b0 * 18446744073709551616 + b1 = Dd at *
      have a := Int.mul_le_mul_of_nonneg_right (show N + 1 ≤ (t + 1) * Dd by omega) (Int.le_of_lt hP)
      have b : 0 ≤ (t + 1) * vl := Int.mul_nonneg (by omega) hv0
      have e1 : (N + 1) * P = N * P + P := by grind
      have e2 : (t + 1) * Dd * P = V * t + V - (t + 1) * vl := by rw [hV]; grind
      omega
  · have a := Int.mul_le_mul_of_nonneg_right h2 (Int.le_of_lt hP)
    have b : t * vl ≤ 18446744073709551615 * P := Int.mul_le_mul h1 (by omega) hv0 (by omega)
    have c : 0 ≤ (b0 - 1) * P := Int.mul_nonneg (by omega) (by omega)
    have d : 0 ≤ b1 * P := Int.mul_nonneg hb2 (by omega)
    have e1 : (b0 - 1) * P = b0 * P - P := by grind
    have e2 : V = b0 * P * 18446744073709551616 + b1 * P + vl := by rw [hV]; grind
    have e3 : V * t = t * (b0 * 18446744073709551616 + b1) * P + t * vl := by rw [hV]; grind
    omega
/-- what comes first is not above what is divided by -/
theorem most_top {P V vl rl r0 r1 r2 b0 b1 R0 : Int} (hP : 0 < P) (hV : V = (b0 * 18446744073709551616 + b1) * P + vl) (hv1 : vl < P) (hR : R0 = ((r0 * 18446744073709551616 + r1) * 18446744073709551616 + r2) * P + rl) (hr0 : 0 ≤ rl)
    (hlt : R0 < V * 18446744073709551616) (h1 : 0 ≤ r1) (h2 : 0 ≤ r2) (hb1 : b1 < 18446744073709551616) : r0 ≤ b0 := by
  rcases (show r0 ≤ b0 ∨ b0 + 1 ≤ r0 by omega) with h | h
  · exact h
  · have a : 0 ≤ (r0 - b0 - 1) * P := Int.mul_nonneg (by omega) (by omega)
    have b : 0 ≤ r1 * P := Int.mul_nonneg h1 (by omega)
    have c : 0 ≤ r2 * P := Int.mul_nonneg h2 (by omega)
    have d : 0 ≤ (18446744073709551615 - b1) * P := Int.mul_nonneg (by omega) (by omega)
    have e1 : (r0 - b0 - 1) * P = r0 * P - b0 * P - P := by grind
    have e2 : R0 = r0 * P * 18446744073709551616 * 18446744073709551616 + r1 * P * 18446744073709551616 + r2 * P + rl := by rw [hR]; grind
    have e3 : V * 18446744073709551616 = b0 * P * 18446744073709551616 * 18446744073709551616 + b1 * P * 18446744073709551616 + vl * 18446744073709551616 := by rw [hV]; grind
    have e4 : (18446744073709551615 - b1) * P = 18446744073709551615 * P - b1 * P := by grind
    omega
theorem S_top2 {f : Nat → Int} (n : Nat) : S 18446744073709551616 f (n + 2) = (f (n + 1) * 18446744073709551616 + f n) * 18446744073709551616 ^ n + S 18446744073709551616 f n := by
  rw [show n + 2 = n + 1 + 1 from rfl, S_succ, S_succ, Int.pow_succ]; grind
theorem S_top3 {f : Nat → Int} (n : Nat) : S 18446744073709551616 f (n + 3) = ((f (n + 2) * 18446744073709551616 + f (n + 1)) * 18446744073709551616 + f n) * 18446744073709551616 ^ n + S 18446744073709551616 f n := by
  rw [show n + 3 = n + 2 + 1 from rfl, S_succ, show n + 2 = n + 1 + 1 from rfl, S_succ, S_succ, Int.pow_succ, Int.pow_succ]; grind
theorem mixed : Tryz.prog.follows .mixedOrders = true := by kernel_rfl
/-- one limb of the quotient, and what is left -/
def MostPost (K : Nat) (C0 m : List Int) (o g : Nat) (w0 : World) (e : Ending) (w : World) : Prop :=
  ∃ (C : List Int) (t : Int), e = .returned (.int .u64 t) ∧ 0 ≤ t ∧ t < 18446744073709551616 ∧ C.length = C0.length ∧ Lim 18446744073709551616 C ∧ Pre w g K C ∧ w0.grownBy w (some g) ∧
    Hid (∀ i, (i < o ∨ o + (m.length + 1) ≤ i) → D C i = D C0 i) ∧
    Hid (S 18446744073709551616 (fun i => D C0 (o + i)) (m.length + 1) = t * val 18446744073709551616 m + S 18446744073709551616 (fun i => D C (o + i)) (m.length + 1) ∧
      S 18446744073709551616 (fun i => D C (o + i)) (m.length + 1) < val 18446744073709551616 m)

theorem only_of_below {a w : World} (h : Below a.heap.size a w) (row : Option Nat) : a.grownBy w row := ⟨h.os, h.tape, h.output, h.size, fun i hi _ => h.block i hi⟩

set_option maxRecDepth 100000 in
set_option maxHeartbeats 4000000 in
theorem takemost_any (K : Nat) (C0 : List Int) (g o cc : Nat) (A2 : Option Addr) (c2 : Nat) (m : List Int) (w : World) (hr0 : Pre w g K C0) (hC0 : Lim 18446744073709551616 C0) (ho : o + m.length + 1 ≤ C0.length) (hcc : m.length + 1 ≤ cc) (hco : C0.length ≤ 4000000)
    (h2 : Nums w w.heap.size A2 c2 m) (hne : ∀ ad, A2 = some ad → ad.block ≠ g) (hl2 : Lim 18446744073709551616 m) (hm2 : 2 ≤ m.length) (htop : 1 ≤ D m (m.length - 1))
    (hlt : S 18446744073709551616 (fun i => D C0 (o + i)) (m.length + 1) < val 18446744073709551616 m * 18446744073709551616) :
    Calls Tryz.prog 124 #[.slice (some ⟨g, o, none⟩) (m.length + 1) cc, .slice A2 m.length c2] w (MostPost K C0 m o g w) := by
  have hg0 := hr0.lt
  obtain ⟨p, hp⟩ : ∃ p, m.length = p + 2 := ⟨m.length - 2, by omega⟩
  have x0 := D_lim (b := 18446744073709551616) (by omega) hC0 (o + (p + 2))
  have x1 := D_lim (b := 18446744073709551616) (by omega) hC0 (o + (p + 1))
  have x2 := D_lim (b := 18446744073709551616) (by omega) hC0 (o + p)
  have y0 := D_lim (b := 18446744073709551616) (by omega) hl2 (p + 1)
  have y1 := D_lim (b := 18446744073709551616) (by omega) hl2 p
  have hV : val 18446744073709551616 m = (D m (p + 1) * 18446744073709551616 + D m p) * 18446744073709551616 ^ p + S 18446744073709551616 (D m) p := by unfold val; rw [hp, S_top2]
  have hR : S 18446744073709551616 (fun i => D C0 (o + i)) (m.length + 1) = ((D C0 (o + (p + 2)) * 18446744073709551616 + D C0 (o + (p + 1))) * 18446744073709551616 + D C0 (o + p)) * 18446744073709551616 ^ p + S 18446744073709551616 (fun i => D C0 (o + i)) p := by rw [hp, show p + 2 + 1 = p + 3 from rfl, S_top3]
  have bV := S_of_bound (b := 18446744073709551616) (by omega) hl2 p
  have bR := S_bound (b := 18446744073709551616) (f := fun i => D C0 (o + i)) (k := p) (by omega) (fun i _ => D_lim (by omega) hC0 _)
  have hP := pow_pos' (b := 18446744073709551616) (by omega) p
  have ht1 : 1 ≤ D m (p + 1) := by rw [hp] at htop; exact htop
  have hle := most_top hP hV bV.2 hR bR.1 hlt x1.1 x2.1 y1.2
  obtain ⟨t0, t1, t2, t3⟩ := est_spec (r0 := D C0 (o + (p + 2))) (r1 := D C0 (o + (p + 1))) (r2 := D C0 (o + p)) (b0 := D m (p + 1)) (b1 := D m p) x0.1 x1.1 x2.1 (by omega) y1.1
  have hmm := most_math hP hV bV.1 bV.2 hR bR.1 bR.2 hlt ht1 y1.1 t0 t1 t2 t3
  have HE := Lib.hid (fun W => estimate_at (D C0 (o + (p + 2))) (D C0 (o + (p + 1))) (D C0 (o + p)) (D m (p + 1)) (D m p) W x0.1 x1.1 x1.2 x2.1 x2.2 (by omega) y0.2 y1.1 y1.2 hle)
  obtain ⟨t, ht⟩ : ∃ t, est (D C0 (o + (p + 2))) (D C0 (o + (p + 1))) (D C0 (o + p)) (D m (p + 1)) (D m p) = t := ⟨_, rfl⟩
  rw [ht] at t0 t1 hmm HE
  have HM := Lib.hid hmm
  obtain ⟨ad, rfl, hadb⟩ := h2.some_ (by omega)
  have g0 := cell_regrown (hr0.cell (k := o + (p + 2)) (by omega))
  have g1 := cell_regrown (hr0.cell (k := o + (p + 1)) (by omega))
  have g2 := cell_regrown (hr0.cell (k := o + p) (by omega))
  have g3 := cell_regrown (h2.at_some (k := p + 1) (by omega))
  have g4 := cell_regrown (h2.at_some (k := p) (by omega))
  have hn0 : (m.length : Int) = p + 2 := by omega
  have cE : ∀ d os, Calls Tryz.prog 149 #[.agg #[.int .u64 (D C0 (o + (p + 2))), .int .u64 (D C0 (o + (p + 1))), .int .u64 (D C0 (o + p))], .agg #[.int .u64 (D m (p + 1)), .int .u64 (D m p)]] (Go.Sort.grow (redrawn w d) os) fun e w'' => e = .returned (.int .u64 t) ∧ ∃ p : Regrown, w'' = Go.Sort.grow (redrawn w p.d) p.os := fun d os => Calls.regrown_of (HE.out _)
  obtain ⟨p1, hp1⟩ : ∃ p1, p1 = p + 1 := ⟨_, rfl⟩
  have hp2 : (p1 : Int) = (p : Int) + 1 := by omega
  rw [← hp1] at g1 g3 cE
  have HP2 := Lib.hid hp2
  clear hmm ht t2 t3 hle htop hV hR bV bR hlt HE hp1 hp2 hp
  go_enter Tryz.func124, Tryz.ntmps124
  go_wp2_with fail
  have hp2 := HP2.out
  have hw1 : IntKind.i64.wrap ((p : Int) + 2 - 1) = (p1 : Int) := by rw [IntKind.wrap_i64]; omega
  have hw2 : IntKind.i64.wrap ((p : Int) + 2 - 2) = (p : Int) := by rw [IntKind.wrap_i64]; omega
  have hw3 : IntKind.i64.wrap (p : Int) = (p : Int) := by rw [IntKind.wrap_i64]; omega
  have ht2 : ((p : Int) + 2).toNat = p + 2 := by omega
  have i0 : (0 : Int) ≤ (p : Int) + 2 := by omega
  have i1 : (0 : Int) ≤ (p1 : Int) := by omega
  have i2 : (0 : Int) ≤ (p : Int) := by omega
  have i3 : (p : Int) + 2 < (p : Int) + 2 + 1 := by omega
  have i4 : (p1 : Int) < (p : Int) + 2 + 1 := by omega
  have i5 : (p : Int) < (p : Int) + 2 + 1 := by omega
  have i6 : (p1 : Int) < (p : Int) + 2 := by omega
  have i7 : (p : Int) < (p : Int) + 2 := by omega
  clear hp2
  refine wp_region_quiet_below mixed (by kernel_rfl) ?_
  repeat (quiet_step (first | exact cE _ _))
  refine wpQuiet_nil ?_
  intro _ hw'
  obtain ⟨⟨dq, osq⟩, hw''⟩ := hw'
  subst hw''
  have hb1 := below_regrown w dq osq
  clear g0 g1 g2 g3 g4 cE hw1 hw2 hw3 ht2 i0 i1 i2 i3 i4 i5 i6 i7 hn0
  generalize Go.Sort.grow (redrawn w dq) osq = w1 at hb1 ⊢
  have hr1 := hr0.below hb1 hg0
  have hB := S_bound (b := 18446744073709551616) (f := fun i => D C0 (o + i)) (k := m.length + 1) (by omega) (fun i _ => D_lim (by omega) hC0 _)
  have hBV := val_bound (b := 18446744073709551616) (by omega) hl2
  go_wp2_with fail
  with_reducible refine (taketimes_any K C0 g o cc (some ad) c2 m t w1 hr1 hC0 (by omega) hcc hco (h2.on hb1 (Nat.le_refl _)) hne hl2 t0 (by omega)).mono ?_
  rintro e w2 ⟨C1, bl, rfl, hC1, hCl1, hr2, hg2, ho1, he1⟩
  have hB1 := S_bound (b := 18446744073709551616) (f := fun i => D C1 (o + i)) (k := m.length + 1) (by omega) (fun i _ => D_lim (by omega) hCl1 _)
  have hg12 := (only_of_below hb1 (some g)).trans hg2
  cases bl
  · have hfin : S 18446744073709551616 (fun i => D C0 (o + i)) (m.length + 1) = t * val 18446744073709551616 m + S 18446744073709551616 (fun i => D C1 (o + i)) (m.length + 1) ∧
      S 18446744073709551616 (fun i => D C1 (o + i)) (m.length + 1) < val 18446744073709551616 m := by
      have h1 := he1.out
      have h2 := HM.out
      simp only [Bool.false_eq_true, if_false] at h1
      rw [Int.mul_comm t]
      omega
    have HF := Lib.hid hfin
    clear hfin hB hBV hB1
    go_wp2_with fail
    go_ret
    exact ⟨C1, t, rfl, t0, by omega, hC1, hCl1, hr2, hg12, ho1, HF.out⟩
  · have ht1' : 1 ≤ t := by
      have h1 := he1.out
      simp only [if_true] at h1
      rcases (show t = 0 ∨ 1 ≤ t by omega) with h | h
      · subst h; rw [Int.mul_zero] at h1; omega
      · exact h
    have H1 := Lib.hid hB
    have H2 := Lib.hid hBV
    have H3 := Lib.hid hB1
    have hlen1 : o + (m.length + 1) ≤ C1.length := by omega
    have hlen2 : C1.length ≤ 4000000 := by omega
    have hnums := h2.on hb1 (Nat.le_refl _)
    have hn2 : Nums w2 w2.heap.size (some ad) c2 m := by
      refine ⟨h2.1, h2.2.1, fun hn => ⟨ad, rfl, by have := hg2.size; have := hb1.size; omega, fun j hj => ?_⟩⟩
      rw [World.cell?_of_block (hg2.block (ad.add j).block (by rw [add_block]; have := hb1.size; omega) (fun e' => hne ad rfl (by rw [add_block] at e'; injection e')))]
      exact hnums.at_some hj
    clear hB hBV hB1
    go_wp2_with (go_at_call 151; ((with_reducible refine (giveback_any K C1 g o (m.length + 1) cc (some ad) c2 m _ hr2 hCl1 hlen1 (Nat.le_succ _) hcc hlen2 hn2 hne hl2).mono ?_); rintro e w3 ⟨C2, d, rfl, hC2, hCl2, hr3, hg3, ho2, he2⟩))
    go_ret
    refine ⟨C2, t - 1, rfl, by omega, by omega, hC2.trans hC1, hCl2, hr3, hg12.trans hg3, fun i hi => (ho2.out i hi).trans (ho1.out i hi), ?_⟩
    have h1 := he1.out
    have h2 := he2.out
    simp only [if_true] at h1
    have b0 := H1.out
    have b1 := H2.out
    have b2 := H3.out
    have b3 := S_bound (b := 18446744073709551616) (f := fun i => D C2 (o + i)) (k := m.length + 1) (by omega) (fun i _ => D_lim (by omega) hCl2 _)
    have b4 := HM.out
    have b5 := pow_le' (b := 18446744073709551616) (by omega) (Nat.le_succ m.length)
    have e1 : (t - 1) * val 18446744073709551616 m = val 18446744073709551616 m * t - val 18446744073709551616 m := by rw [Int.sub_mul, Int.one_mul, Int.mul_comm]
    show _ ∧ _
    rw [e1]
    generalize S 18446744073709551616 (fun i => D C0 (o + i)) (m.length + 1) = X0 at *
    generalize S 18446744073709551616 (fun i => D C1 (o + i)) (m.length + 1) = X1 at *
    generalize S 18446744073709551616 (fun i => D C2 (o + i)) (m.length + 1) = X2 at *
    generalize val 18446744073709551616 m * t = Y at *
    generalize val 18446744073709551616 m = V at *
    generalize (18446744073709551616 : Int) ^ (m.length + 1) = Q at *
    generalize (18446744073709551616 : Int) ^ m.length = Q1 at *
    have hd : d = 1 := by
      rcases (show d ≤ 0 ∨ d = 1 ∨ 2 ≤ d by omega) with h | h | h
      · have : 0 ≤ (0 - d) * Q := Int.mul_nonneg (by omega) (by omega)
        have e : (0 - d) * Q = - (d * Q) := by grind
        omega
      · exact h
      · have : 0 ≤ (d - 2) * Q := Int.mul_nonneg (by omega) (by omega)
        have e : (d - 2) * Q = d * Q - 2 * Q := by grind
        omega
    subst hd
    omega
end Go.Proofs.YtfjellhbcjnjkaaGreatDoor
namespace Go.Proofs.YtfjellhbcjnjkaaGreatDoor
open Go.RowKit
set_option linter.unusedVariables false

/-- a quotient and a rest, in new memory -/
def Two (vl vm : Int) (w : World) (e : Ending) (w' : World) : Prop :=
  ∃ q r A1 c1 A2 c2, e = .returned (.tuple #[.slice A1 q.length c1, .slice A2 r.length c2]) ∧ Lim 18446744073709551616 q ∧ Lim 18446744073709551616 r ∧ Normal q ∧ Normal r ∧
    Hid (vl = val 18446744073709551616 q * vm + val 18446744073709551616 r ∧ val 18446744073709551616 r < vm) ∧ Own w' w.heap.size A1 c1 q ∧ Own w' w.heap.size A2 c2 r ∧ Below w.heap.size w w'

set_option maxHeartbeats 1000000 in
theorem divided_less (A : Option Addr) (c : Nat) (l : List Int) (A2 : Option Addr) (c2 : Nat) (m : List Int) (w : World) (h : Nums w w.heap.size A c l) (hl : Lim 18446744073709551616 l) (nl : Normal l)
    (h2 : Nums w w.heap.size A2 c2 m) (hl2 : Lim 18446744073709551616 m) (nm : Normal m) (hb1 : l.length ≤ 1000000) (hb2 : m.length ≤ 1000000) (hlt : l.length < m.length) :
    Calls Tryz.prog 88 #[.slice A l.length c, .slice A2 m.length c2] w (Two (val 18446744073709551616 l) (val 18446744073709551616 m) w) := by
  go_enter Tryz.func88, Tryz.ntmps88
  go_wp2_with (go_at_call 121; ((with_reducible refine (clone_any A c l _ h hb1).mono ?_); rintro e w1 ⟨A1, c1, rfl, hown, hb⟩))
  go_ret2
  exact ⟨[], l, none, 0, A1, c1, rfl, Lim.nil _, hl, Normal.nil, nl, ⟨by rw [val_nil, Int.zero_mul]; omega, longer_greater (by omega) hl hl2 nm hlt⟩, Own.nil _ _, hown, hb⟩

set_option maxHeartbeats 2000000 in
theorem divided_one (A : Option Addr) (c : Nat) (l : List Int) (A2 : Option Addr) (c2 : Nat) (m : List Int) (w : World) (h : Nums w w.heap.size A c l) (hl : Lim 18446744073709551616 l)
    (h2 : Nums w w.heap.size A2 c2 m) (hl2 : Lim 18446744073709551616 m) (nm : Normal m) (hb1 : l.length ≤ 1000000) (hm : m.length = 1) (hlt : 1 ≤ l.length) :
    Calls Tryz.prog 88 #[.slice A l.length c, .slice A2 m.length c2] w (Two (val 18446744073709551616 l) (val 18446744073709551616 m) w) := by
  have hmi : (m.length : Int) = 1 := by omega
  have hx := D_lim (b := 18446744073709551616) (by omega) hl2 0
  have hx0 : 0 < D m 0 := by
    rcases nm with h1 | h1
    · rw [h1] at hm; simp at hm
    · rw [hm] at h1; simp at h1; omega
  have hv : val 18446744073709551616 m = D m 0 := by unfold val; rw [hm]; simp [S]
  obtain ⟨ad, rfl, hadb, c1⟩ := h2.at_ (k := 0) (by omega)
  simp only [Addr.add, if_true] at c1
  have hmk := fun W => run_make l.length (by omega) W
  have hrow := Row.new w (List.replicate l.length 0)
  rw [hv]
  have HM := Lib.hid hm
  have hli : (1 : Int) ≤ l.length := by omega
  clear hm hv
  go_enter Tryz.func88, Tryz.ntmps88
  go_wp2_with (go_at_call 122; ((with_reducible refine (divideByLimb_any A c l (List.replicate l.length 0) w.heap.size (D m 0) w _ (h.alloc (Nat.le_refl _) _) hl hrow (by simp) (Lim.zeros (by omega) _) hb1 hx0 hx.2 ((Below.refl _ w).alloc (Nat.le_refl _) _) (Nat.le_refl _)).mono ?_); rintro e w1 ⟨q, r, A1, c1', A3, c3, rfl, hq1, hr1, hq2, hr2, hdiv, hq3, hr3, hb⟩))
  go_ret2
  exact ⟨q, r, A1, c1', A3, c3, rfl, hq1, hr1, hq2, hr2, hdiv, hq3, hr3, hb⟩
end Go.Proofs.YtfjellhbcjnjkaaGreatDoor
namespace Go.Proofs.YtfjellhbcjnjkaaGreatDoor
open Go.RowKit
set_option linter.unusedVariables false

theorem digit_zero {b : Int} (hb : 0 < b) {l : List Int} (hl : Lim b l) {e x : Nat} (h : val b l < b ^ e) (hx : e ≤ x) : D l x = 0 := by
  rcases Nat.lt_or_ge x l.length with g | g
  · have h0 := D_lim hb hl x
    rcases (show D l x = 0 ∨ 1 ≤ D l x by omega) with k | k
    · exact k
    · have h1 := val_take_drop b l (x + 1) (by omega)
      have h2 := val_bound hb (hl.drop (x + 1))
      have h3 := S_of_bound hb hl x
      have h4 := pow_pos' hb (x + 1)
      have h5 := pow_pos' hb x
      have h6 := pow_le' hb hx
      have h7 : 0 ≤ b ^ (x + 1) * val b (l.drop (x + 1)) := Int.mul_nonneg (by omega) h2.1
      have h8 : 0 ≤ (D l x - 1) * b ^ x := Int.mul_nonneg (by omega) (by omega)
      have h9 : (D l x - 1) * b ^ x = D l x * b ^ x - b ^ x := by grind
      rw [S_succ] at h1
      omega
  · exact D_out g

/-- the division's round, in plain numbers -/
theorem div_seg {R : List Int} {V : Int} {n i : Nat} (hR : Lim 18446744073709551616 R) (hi : i + n + 1 ≤ R.length) (hV : V < 18446744073709551616 ^ n) (hlt : val 18446744073709551616 R < V * 18446744073709551616 ^ (i + 1)) :
    val 18446744073709551616 R = S 18446744073709551616 (D R) i + 18446744073709551616 ^ i * S 18446744073709551616 (fun x => D R (i + x)) (n + 1) ∧ S 18446744073709551616 (fun x => D R (i + x)) (n + 1) < V * 18446744073709551616 := by
  have hp := pow_pos' (b := 18446744073709551616) (by omega) (i + 1)
  have h1 : val 18446744073709551616 R < 18446744073709551616 ^ (i + n + 1) := by
    have a := Int.mul_le_mul_of_nonneg_right (Int.le_of_lt hV) (Int.le_of_lt hp)
    rw [← Int.pow_add, show n + (i + 1) = i + n + 1 from by omega] at a
    omega
  have h2 : val 18446744073709551616 R = S 18446744073709551616 (D R) (i + (n + 1)) := by
    unfold val
    exact S_more (by omega) (fun x hx _ => digit_zero (by omega) hR h1 (by omega))
  rw [h2, S_split]
  refine ⟨rfl, ?_⟩
  rw [h2, S_split, Int.pow_succ] at hlt
  have h3 := S_of_bound (b := 18446744073709551616) (by omega) hR i
  have h4 := pow_pos' (b := 18446744073709551616) (by omega) i
  generalize S 18446744073709551616 (fun x => D R (i + x)) (n + 1) = T at *
  generalize S 18446744073709551616 (D R) i = U at *
  generalize (18446744073709551616 : Int) ^ i = P at *
  rcases (show T < V * 18446744073709551616 ∨ V * 18446744073709551616 ≤ T by omega) with h | h
  · exact h
  · have := Int.mul_le_mul_of_nonneg_left h (Int.le_of_lt h4)
    have e : P * (V * 18446744073709551616) = V * (P * 18446744073709551616) := by grind
    omega
theorem div_round {C R R' : List Int} {V V0 t : Int} {n i : Nat} (hC : i < C.length) (hR : Lim 18446744073709551616 R) (hR' : Lim 18446744073709551616 R') (hRl : R'.length = R.length) (hi : i + n + 1 ≤ R.length) (hV : V < 18446744073709551616 ^ n) (hlt : val 18446744073709551616 R < V * 18446744073709551616 ^ (i + 1))
    (he : V0 = val 18446744073709551616 (C.drop (i + 1)) * 18446744073709551616 ^ (i + 1) * V + val 18446744073709551616 R)
    (ho : ∀ x, (x < i ∨ i + (n + 1) ≤ x) → D R' x = D R x)
    (hs : S 18446744073709551616 (fun x => D R (i + x)) (n + 1) = t * V + S 18446744073709551616 (fun x => D R' (i + x)) (n + 1) ∧ S 18446744073709551616 (fun x => D R' (i + x)) (n + 1) < V) :
    V0 = val 18446744073709551616 ((C.set i t).drop i) * 18446744073709551616 ^ i * V + val 18446744073709551616 R' ∧ val 18446744073709551616 R' < V * 18446744073709551616 ^ i := by
  obtain ⟨h1, _⟩ := div_seg hR hi hV hlt
  have hp := pow_pos' (b := 18446744073709551616) (by omega) (i + 1)
  have h0 : val 18446744073709551616 R < 18446744073709551616 ^ (i + n + 1) := by
    have a := Int.mul_le_mul_of_nonneg_right (Int.le_of_lt hV) (Int.le_of_lt hp)
    rw [← Int.pow_add, show n + (i + 1) = i + n + 1 from by omega] at a
    omega
  have h2 : val 18446744073709551616 R' = S 18446744073709551616 (D R') (i + (n + 1)) := by
    unfold val
    exact S_more (by omega) (fun x hx _ => by rw [ho x (.inr (by omega))]; exact digit_zero (by omega) hR h0 (by omega))
  have h3 : S 18446744073709551616 (D R') i = S 18446744073709551616 (D R) i := S_congr fun x hx => ho x (.inl hx)
  rw [S_split, h3] at h2
  have h4 : val 18446744073709551616 ((C.set i t).drop i) = t + 18446744073709551616 * val 18446744073709551616 (C.drop (i + 1)) := by
    rw [val_drop _ _ _ (by rw [List.length_set]; exact hC), D_set _ _ hC, if_pos rfl, List.drop_set, if_pos (by omega)]
  have h5 := S_of_bound (b := 18446744073709551616) (by omega) hR i
  have h6 := pow_pos' (b := 18446744073709551616) (by omega) i
  rw [h4, h2]
  rw [h1, Int.pow_succ] at he
  obtain ⟨e1, e2⟩ := hs
  generalize S 18446744073709551616 (fun x => D R (i + x)) (n + 1) = T at *
  generalize S 18446744073709551616 (fun x => D R' (i + x)) (n + 1) = T' at *
  generalize S 18446744073709551616 (D R) i = U at *
  generalize (18446744073709551616 : Int) ^ i = P at *
  generalize val 18446744073709551616 (C.drop (i + 1)) = Q at *
  constructor
  · rw [he, e1]; grind
  · have := Int.mul_le_mul_of_nonneg_left (show T' + 1 ≤ V by omega) (Int.le_of_lt h6)
    have e : P * (T' + 1) = P * T' + P := by grind
    have e3 : P * V = V * P := Int.mul_comm _ _
    omega

/-- the division's end, in plain numbers -/
theorem div_end {vl vm q R P : Int} (hP : 0 < P) (h : vl * P = q * (vm * P) + R) (hR0 : 0 ≤ R) (hR : R < vm * P) : vl = q * vm + R / P ∧ R / P < vm := by
  have e : R = (vl - q * vm) * P := by
    have : (vl - q * vm) * P = vl * P - q * (vm * P) := by grind
    omega
  have h2 : R / P = vl - q * vm := by rw [e]; exact Int.mul_ediv_cancel _ (Int.ne_of_gt hP)
  refine ⟨by omega, ?_⟩
  exact (Int.ediv_lt_iff_lt_mul hP).2 hR

/-- a slice that begins a block, without the noughts at its end -/
theorem trim_pre {l : List Int} {g K n : Nat} {w0 w : World} (hn : l.length = n) (h : Pre w g K l) (hl : Lim 18446744073709551616 l) (hg : w0.heap.size ≤ g) (h1 : n ≤ K) (h2 : K ≤ maxLen) (hb : Below w0.heap.size w0 w) :
    Calls Tryz.prog 125 #[.slice (some ⟨g, 0, none⟩) n K] w fun e w' => (Made (val 18446744073709551616 l) w0) e w' ∧ w = w' := by
  subst hn
  have hown := h.own hg h1 h2
  refine (trim_any _ K l w w.heap.size hown.nums hl).mono ?_
  rintro e w' ⟨A', c', rfl, ht, rfl⟩
  exact ⟨⟨norm l, A', c', rfl, norm_lim hl, norm_normal l, norm_val _ l, ht.own hown, hb⟩, rfl⟩

/-- at the cut: what is left to be divided, one limb longer -/
def DivCut (l m d : List Int) (A3 : Option Addr) (c3 : Nat) (V0 : Int) (w0 : World) (s8 : Value) (w : World) : Prop :=
  ∃ (R : List Int) (g K : Nat), s8 = .slice (some ⟨g, 0, none⟩) (l.length + 1) K ∧ Hid (R.length = l.length + 1) ∧ Lim 18446744073709551616 R ∧ Hid (val 18446744073709551616 R = V0) ∧ Pre w g K R ∧ w0.heap.size + 1 ≤ g ∧
    Row w w0.heap.size (List.replicate (l.length - m.length + 1) 0) ∧ Nums w w.heap.size A3 c3 d ∧ (∀ ad, A3 = some ad → ad.block ≠ g ∧ w0.heap.size < ad.block) ∧ Below w0.heap.size w0 w ∧ l.length + 1 ≤ K ∧ K ≤ maxLen

theorem takemost_n (n K : Nat) (C0 : List Int) (g o cc : Nat) (A2 : Option Addr) (c2 : Nat) (m : List Int) (w : World) (hn : m.length = n) (hr0 : Pre w g K C0) (hC0 : Lim 18446744073709551616 C0) (ho : o + n + 1 ≤ C0.length) (hcc : n + 1 ≤ cc) (hco : C0.length ≤ 4000000)
    (h2 : Nums w w.heap.size A2 c2 m) (hne : ∀ ad, A2 = some ad → ad.block ≠ g) (hl2 : Lim 18446744073709551616 m) (hm2 : 2 ≤ n) (htop : 1 ≤ D m (n - 1))
    (hlt : S 18446744073709551616 (fun i => D C0 (o + i)) (n + 1) < val 18446744073709551616 m * 18446744073709551616) :
    Calls Tryz.prog 124 #[.slice (some ⟨g, o, none⟩) (n + 1) cc, .slice A2 m.length c2] w (MostPost K C0 m o g w) := by
  subst hn
  exact takemost_any K C0 g o cc A2 c2 m w hr0 hC0 ho hcc hco h2 hne hl2 hm2 htop hlt

set_option maxRecDepth 100000 in
set_option maxHeartbeats 8000000 in
theorem divided_more (A : Option Addr) (c : Nat) (l : List Int) (A2 : Option Addr) (c2 : Nat) (m : List Int) (w : World) (h : Nums w w.heap.size A c l) (hl : Lim 18446744073709551616 l) (nl : Normal l)
    (h2 : Nums w w.heap.size A2 c2 m) (hl2 : Lim 18446744073709551616 m) (nm : Normal m) (hb1 : l.length ≤ 900000) (hm2 : 2 ≤ m.length) (hle : m.length ≤ l.length) :
    Calls Tryz.prog 88 #[.slice A l.length c, .slice A2 m.length c2] w (Two (val 18446744073709551616 l) (val 18446744073709551616 m) w) := by
  have hk : m.length - 1 < m.length := by omega
  obtain ⟨ad, rfl, hadb, c1⟩ := h2.at_ hk
  have hx := D_lim (b := 18446744073709551616) (by omega) hl2 (m.length - 1)
  have hx0 : D m (m.length - 1) ≠ 0 := by
    rcases nm with h1 | h1
    · rw [h1] at hm2; simp at hm2
    · exact h1
  obtain ⟨t1, t2, t3, t4⟩ := top_bits (D m (m.length - 1)) (by omega) hx.2
  have hbits := isBits_of_top hl2 (by omega) t1 t3 t4
  obtain ⟨t, ht⟩ : ∃ t, Lib.bitLen (D m (m.length - 1)).toNat = t := ⟨_, rfl⟩
  have hlz := fun W => Tryz.bits_LeadingZeros64 (D m (m.length - 1)) W hx.1 (by omega)
  rw [ht] at hbits t1 t2 hlz
  obtain ⟨s, hs⟩ : ∃ s, s = 64 - t := ⟨_, rfl⟩
  have hlz' : ∀ W, Calls Tryz.prog 123 #[.int .u64 (D m (m.length - 1))] W fun e w' => e = .returned (.int .i64 s) ∧ W = w' := fun W => (hlz W).mono fun e w' ⟨a, b⟩ => ⟨by rw [a]; exact ret_int (by omega), b.symm⟩
  have HZ := Lib.hid hlz'
  have hs64 : s < 64 := by omega
  have hp := two_pos s
  -- the divisor, shifted: as many limbs
  have hVlt : val 18446744073709551616 m * 2 ^ s < 18446744073709551616 ^ m.length := by
    have a := Int.mul_lt_mul_of_pos_right hbits.2.1 hp
    rw [← Int.pow_add, show 64 * (m.length - 1) + t + s = 64 * m.length from by omega] at a
    rw [pow64]; exact a
  have hvm := normal_ge (b := 18446744073709551616) (by omega) hl2 nm (fun e => by subst e; simp at hm2)
  have hPm := pow_pos' (b := 18446744073709551616) (by omega) (m.length - 1)
  have hVge : 18446744073709551616 ^ (m.length - 1) ≤ val 18446744073709551616 m * 2 ^ s := by
    have := Int.mul_le_mul_of_nonneg_left (show 1 ≤ (2 : Int) ^ s by omega) (show 0 ≤ val 18446744073709551616 m by omega)
    omega
  have hdlen : ∀ d, Lim 18446744073709551616 d → Normal d → val 18446744073709551616 d = val 18446744073709551616 m * 2 ^ s → d.length = m.length := by
    intro d hd nd hv
    have a := length_le_of_lt (b := 18446744073709551616) (k := m.length) (by omega) hd nd (by rw [hv]; exact hVlt)
    have b := lt_length_of_ge (b := 18446744073709551616) (k := m.length - 1) (by omega) hd (by rw [hv]; exact hVge)
    omega
  -- what is divided, shifted: as many limbs, or one more
  have hlb := val_bound (b := 18446744073709551616) (by omega) hl
  have hp64 : (2 : Int) ^ s ≤ 18446744073709551616 := by
    have := pow_le' (b := 2) (by omega) (show s ≤ 64 by omega)
    have e : (2 : Int) ^ 64 = 18446744073709551616 := by decide
    omega
  have hRlen : ∀ r, Lim 18446744073709551616 r → Normal r → val 18446744073709551616 r = val 18446744073709551616 l * 2 ^ s → r.length = l.length ∨ r.length = l.length + 1 := by
    intro r hr nr hv
    have a := length_le_of_lt (b := 18446744073709551616) (k := l.length + 1) (by omega) hr nr (by
      rw [hv, Int.pow_succ]
      have a1 := Int.mul_lt_mul_of_pos_right hlb.2 hp
      have a2 := Int.mul_le_mul_of_nonneg_left hp64 (show 0 ≤ (18446744073709551616 : Int) ^ l.length by omega)
      omega)
    have b := lt_length_of_ge (b := 18446744073709551616) (k := l.length - 1) (by omega) hr (by
      rw [hv]
      have a1 := normal_ge (b := 18446744073709551616) (by omega) hl nl (List.length_pos_iff.1 (by omega))
      have a2 := Int.mul_le_mul_of_nonneg_left (show 1 ≤ (2 : Int) ^ s by omega) hlb.1
      omega)
    omega
  have hV0 : val 18446744073709551616 l * 2 ^ s < val 18446744073709551616 m * 2 ^ s * 18446744073709551616 ^ (l.length - m.length + 1) := by
    have a1 := Int.mul_lt_mul_of_pos_right hlb.2 hp
    have a2 := Int.mul_le_mul_of_nonneg_right hvm (Int.le_of_lt (pow_pos' (b := 18446744073709551616) (by omega) (l.length - m.length + 1)))
    rw [← Int.pow_add, show m.length - 1 + (l.length - m.length + 1) = l.length from by omega] at a2
    have a3 := Int.mul_le_mul_of_nonneg_right a2 (Int.le_of_lt hp)
    have e : val 18446744073709551616 m * 18446744073709551616 ^ (l.length - m.length + 1) * 2 ^ s = val 18446744073709551616 m * 2 ^ s * 18446744073709551616 ^ (l.length - m.length + 1) := by
      generalize val 18446744073709551616 m = x
      generalize (2 : Int) ^ s = y
      generalize (18446744073709551616 : Int) ^ (l.length - m.length + 1) = z
      grind
    omega
  have c1' := fun o => (h2.alloc (Nat.le_refl _) o).at_some hk
  have hA : ∀ o, Nums (w.alloc o) (w.alloc o).heap.size A c l := fun o => (h.alloc (Nat.le_refl _) o).more (by simp)
  have hA2 : ∀ o, Nums (w.alloc o) (w.alloc o).heap.size (some ad) c2 m := fun o => (h2.alloc (Nat.le_refl _) o).more (by simp)
  have HA := Lib.hid hA
  have HA2 := Lib.hid hA2
  clear c1 hA hA2
  have HD := Lib.hid hdlen
  have HR := Lib.hid hRlen
  have HV0 := Lib.hid hV0
  have HVlt := Lib.hid hVlt
  obtain ⟨nq, hnq⟩ : ∃ nq, l.length - m.length + 1 = nq := ⟨_, rfl⟩
  have hnqi : (l.length : Int) - m.length + 1 = nq := by omega
  have hmk := fun W => run_make nq (by omega) W
  have hm1 : ((m.length : Int) == 1) = false := beq_eq_false_iff_ne.2 (by omega)
  have hlm : decide (l.length < m.length) = false := decide_eq_false (by omega)
  have hmi : (1 : Int) ≤ m.length := by omega
  have HN := Lib.hid hnq
  clear hlz hlz' ht hx0 hx hVlt hvm hPm hVge hdlen hlb hp64 hRlen hV0 hnq hbits t3 t4 hs t1 t2
  go_enter Tryz.func88, Tryz.ntmps88
  go_upto_if 52 with (first
    | (go_at_call 123; ((with_reducible refine (HZ.out _).mono ?_); rintro e w' ⟨rfl, rfl⟩))
    | (go_at_call 120; ((with_reducible refine (shiftedUp_any A c l s _ (HA.out _) hl (by omega) (by omega) (by omega)).mono ?_); rintro e w1 ⟨r1, A1, c1', rfl, hr1, hr2, hr3, hr4, hr5⟩; have HR3 := Lib.hid hr3; clear hr3))
    | (go_at_call 120; ((with_reducible refine (shiftedUp_any (some ad) c2 m s _ ((HA2.out _).on hr5 (Nat.le_refl _)) hl2 (by omega) (by omega) (by omega)).mono ?_); rintro e w2 ⟨d, A3, c3, rfl, hd1, hd2, hd3, hd4, hd5⟩; have HD3 := Lib.hid hd3; clear hd3)))
  have hdl := HD.out d hd1 hd2 HD3.out
  have hrl := HR.out r1 hr1 hr2 HR3.out
  have HDL := Lib.hid hdl
  have hz1 := hr5.size
  have hz2 := hd5.size
  have hz0 : ∀ o, (w.alloc o).heap.size = w.heap.size + 1 := fun o => by simp
  rw [hz0] at hz1
  obtain ⟨g1, rfl, hg1, hg2⟩ := hr4.form (by omega)
  rw [hz0] at hg1
  obtain ⟨g3, rfl, hg3, hg4⟩ := hd4.form (by omega)
  clear hdl
  go_cut [8] (fun s8 wx => DivCut l m d (some ⟨g3, 0, none⟩) c3 (val 18446744073709551616 l * 2 ^ s) w s8 wx)
  case first =>
    have hrow0 : Row w2 w.heap.size (List.replicate (l.length - m.length + 1) 0) := by
      rw [HN.out]
      exact ((Row.new w (List.replicate nq 0)).below hr5 (by rw [hz0]; omega)).below hd5 (by omega)
    have hdn : Nums w2 w2.heap.size (some ⟨g3, 0, none⟩) c3 d := hd4.nums
    have hbel : Below w.heap.size w w2 := (((Below.refl _ w).alloc (Nat.le_refl _) _).trans (hr5.mono (by rw [hz0]; omega))).trans (hd5.mono (by omega))
    have hr1o := hr4.below hd5
    rcases hrl with hrl | hrl
    · have ht : ((r1.length : Int) == (l.length : Int)) = true := by simp; omega
      have hsrc := (Row.one w2 0).nums (B := w2.heap.size + 1) (c := 1) 0 1 (by simp) (by omega) (by unfold maxLen; omega) (by omega)
      simp only [List.drop_zero, List.take_succ_cons, List.take_zero] at hsrc
      have hlen : (r1 ++ [0]).length = l.length + 1 := by simp; omega
      have hval : val 18446744073709551616 (r1 ++ [0]) = val 18446744073709551616 l * 2 ^ s := by rw [val_append, val_cons, val_nil, HR3.out]; simp
      have HL := Lib.hid hlen
      have HVL := Lib.hid hval
      clear hlen hval
      go_wp2_with (at_builtin; refine wpList_app _ rfl _ _ rfl _ _ _ r1 rfl (hr1o.alloc_ _) _ (some ⟨w2.heap.size, 0, none⟩) 1 [0] rfl hsrc (by simp; omega) (by rw [hz0]; simp; omega) ?_; intro A4 c4 w4 hown hg hat)
      obtain ⟨g, rfl, hgg1, hgg2⟩ := hown.form (by simp)
      have hgc : g = g1 ∨ g = w2.heap.size + 1 := by simpa [Value.ownBlock] using hat
      obtain ⟨hpre, _, hk1, hk2⟩ := hown.pre
      have hsz4 := hg.size
      have hz4 : (w2.alloc (.cells #[Value.int .u64 0] 22)).heap.size = w2.heap.size + 1 := by simp
      rw [hz4] at hsz4
      have hd4' : Nums w4 w4.heap.size (some ⟨g3, 0, none⟩) c3 d := by
        refine ⟨hdn.1, hdn.2.1, fun hn => ⟨_, rfl, by show g3 < _; omega, fun j hj => ?_⟩⟩
        rw [World.cell?_of_block (hg.block ((⟨g3, 0, none⟩ : Addr).add j).block (by rw [add_block, hz4]; show g3 < _; omega) (by rw [add_block]; simp [Value.ownBlock]; omega))]
        exact ((hdn.alloc (Nat.le_refl _) _).at_some hj)
      have hrow4 : Row w4 w.heap.size (List.replicate (l.length - m.length + 1) 0) := (hrow0.alloc _).grown hg (by simp [Value.ownBlock]; omega)
      have hb4 : Below w.heap.size w w4 := (hbel.alloc (by omega) _).grown hg (by rw [hz4]; omega) (fun j hj => by simp [Value.ownBlock] at hj; omega)
      have hlim : Lim 18446744073709551616 (r1 ++ [0]) := hr1.append (fun x hx => by simp at hx; omega)
      rw [HL.out] at hk1
      clear hat
      go_wp2_with fail
      go_meet
      exact ⟨r1 ++ [0], g, c4, by first | rfl | rw [HL.out], HL, hlim, HVL, hpre, by omega, hrow4, hd4', fun a ha => by injection ha with ha; subst ha; exact ⟨by show g3 ≠ g; omega, by show w.heap.size < g3; omega⟩, hb4, hk1, hk2⟩
    · have ht : ((r1.length : Int) == (l.length : Int)) = false := beq_eq_false_iff_ne.2 (by omega)
      obtain ⟨hpre, _, hk1, hk2⟩ := hr1o.pre
      rw [hrl] at hk1
      have HL : Hid (r1.length = l.length + 1) := hrl
      go_wp2_with fail
      go_meet
      exact ⟨r1, g1, c1', by first | rfl | rw [HL.out], HL, hr1, HR3, hpre, hg1, hrow0, hdn, fun a ha => by injection ha with ha; subst ha; exact ⟨by show g3 ≠ g1; omega, by show w.heap.size < g3; omega⟩, hbel, hk1, hk2⟩
  case rest =>
    obtain ⟨R, g, K, rfl, HRl, hRl, HRv, hpre, hgg, hrow, hdn, hne, hbel, hk1, hk2⟩ := hcut
    have hKi : (l.length : Int) + 1 ≤ K := by omega
    have hK63 : K ≤ 9223372036854775807 := by unfold maxLen at hk2; omega
    have hnqm : nq + m.length = l.length + 1 := by have := HN.out; omega
    have HDv : Hid (val 18446744073709551616 d < 18446744073709551616 ^ m.length) := by show _ < _; rw [HD3.out]; exact HVlt.out
    have hdtop : 1 ≤ D d (m.length - 1) := by
      have hx := D_lim (b := 18446744073709551616) (by omega) hd1 (m.length - 1)
      rcases hd2 with h1 | h1
      · have h9 := HDL.out; rw [h1] at h9; simp at h9; omega
      · rw [HDL.out] at h1; omega
    rw [HN.out] at hrow
    go_wp2_with fail
    go_loopw [58] (fun i wr => ∃ (k : Nat) (C R : List Int), k ≤ nq ∧ i = .int .i64 k ∧ Hid (C.length = nq) ∧ Lim 18446744073709551616 C ∧ Hid (R.length = l.length + 1) ∧ Lim 18446744073709551616 R ∧
        Row wr w.heap.size C ∧ Pre wr g K R ∧ Nums wr wr.heap.size (some ⟨g3, 0, none⟩) c3 d ∧ Below w.heap.size w wr ∧
        Hid (val 18446744073709551616 l * 2 ^ s = val 18446744073709551616 (C.drop (nq - k)) * 18446744073709551616 ^ (nq - k) * val 18446744073709551616 d + val 18446744073709551616 R ∧ val 18446744073709551616 R < val 18446744073709551616 d * 18446744073709551616 ^ (nq - k)))
      (fun i _ => nq - (intOf i).toNat)
    case atStart =>
      refine ⟨0, List.replicate nq 0, R, by omega, rfl, by show _ = _; simp, Lim.zeros (by omega) _, HRl, hRl, hrow, hpre, hdn, hbel, ?_, ?_⟩
      · rw [Nat.sub_zero, List.drop_of_length_le (by simp), val_nil, HRv.out]; simp
      · rw [Nat.sub_zero, HRv.out, HD3.out, ← HN.out]; exact HV0.out
    case round =>
      obtain ⟨k, C, R, hk, rfl, HC, hCl, HRl', hRl', hrow', hpre', hdn', hbel', HE⟩ := hrel
      have hgq := hrow'.lt
      by_cases hkn : k < nq
      · obtain ⟨i, hi⟩ : ∃ i, nq - 1 - k = i := ⟨_, rfl⟩
        have hii : (nq : Int) - 1 - k = i := by omega
        have e1 : nq - k = i + 1 := by omega
        have e2 : nq - (k + 1) = i := by omega
        have hi1 : i < nq := by omega
        have hE := HE.out
        rw [e1] at hE
        obtain ⟨hE1, hE2⟩ := hE
        have hseg := (div_seg (n := m.length) (i := i) hRl' (by rw [HRl'.out]; omega) HDv.out hE2).2
        have hsl := fun W => run_cut g 0 (l.length + 1) K i (m.length + 1) ((i : Int) + m.length + 1) (by omega) (by omega) (by omega) W
        simp only [Nat.zero_add] at hsl
        have HTM := fun hcap => takemost_n m.length K R g i (K - i) (some ⟨g3, 0, none⟩) c3 d wr HDL.out hpre' hRl' (by rw [HRl'.out]; omega) hcap (by rw [HRl'.out]; omega) hdn' (fun a ha => (hne a ha).1) hd1 hm2 hdtop hseg
        have HT := Lib.hid (HTM (by omega))
        have E1 := Lib.hid hE1
        have E2 := Lib.hid hE2
        have E3 := Lib.hid e2
        have i0 : (0 : Int) ≤ i := by omega
        have i1 : (i : Int) < nq := by omega
        have HC2 := HC.out
        have c0 : i < C.length := by omega
        clear hi e1 e2 hE1 hE2 hseg HTM HC2
        go_wp2_with (go_at_call 124; ((with_reducible refine HT.out.mono ?_); rintro e w5 ⟨R', t, rfl, t0, t1, hR'1, hR'2, hR'3, hR'4, hR'5, hR'6⟩; have HR1 := Lib.hid hR'1; clear hR'1; have hrow5 := hrow'.grown hR'4 (by simp; omega); have cq := hrow5.cell (k := i) c0; have fq := hrow5.frozen i))
        go_roundw
        case rel =>
          have h5 := hR'5.out
          have h6 := hR'6.out
          rw [HDL.out] at h5 h6
          have hr2 := div_round (n := m.length) (i := i) c0 hRl' hR'2 HR1.out (by rw [HRl'.out]; omega) HDv.out E2.out E1.out h5 h6
          have hs5 := hR'4.size
          have hg3r : g3 < wr.heap.size := by
            obtain ⟨ad', e, hb⟩ := hdn'.some_ (by have := HDL.out; omega)
            injection e with e; subst e; exact hb
          refine ⟨k + 1, C.set i t, R', by omega, by go_num, by show _ = _; rw [List.length_set, HC.out], hCl.set i t0 t1, by show _ = _; rw [HR1.out, HRl'.out], hR'2, hrow5.set_ i t, hR'3.far (by simp; omega) _, ?_, ?_, ?_⟩
          · refine ⟨hdn'.1, hdn'.2.1, fun hn => ⟨_, rfl, by have := (hne _ rfl).2; simp; show g3 < _; omega, fun j hj => ?_⟩⟩
            rw [World.cell?_setCell_other _ _ _ _ (fun e => by have := (hne _ rfl).2; rw [add_at] at e; injection e with e; simp at this; omega)]
            rw [World.cell?_of_block (hR'4.block ((⟨g3, 0, none⟩ : Addr).add j).block (by rw [add_block]; show g3 < _; omega) (by rw [add_block]; have := (hne _ rfl).1; intro e; injection e with e; exact this e))]
            exact hdn'.at_some hj
          · exact (below_of_only hbel' hR'4 hbel'.size (by omega)).setCell (p := ⟨w.heap.size, i, none⟩) (Nat.le_refl _) _
          · show _ ∧ _
            rw [E3.out]; exact hr2
        case measure => simp [intOf]; omega
      · obtain rfl : k = nq := by omega
        have hE := HE.out
        rw [Nat.sub_self, List.drop_zero, Int.pow_zero, Int.mul_one, Int.mul_one] at hE
        have hend := div_end (vl := val 18446744073709551616 l) (vm := val 18446744073709551616 m) (P := 2 ^ s) hp (by rw [← HD3.out]; exact hE.1) (val_bound (b := 18446744073709551616) (by omega) hRl').1 (by rw [← HD3.out]; exact hE.2)
        have HEND := Lib.hid hend
        have hRb := (val_bound (b := 18446744073709551616) (by omega) hRl').2
        rw [HRl'.out] at hRb
        have hvlen : ∀ v, Lim 18446744073709551616 v → Normal v → val 18446744073709551616 v = val 18446744073709551616 R → v.length ≤ 1000000 := fun v h1 h2 h3 => by
          have := length_le_of_lt (b := 18446744073709551616) (k := l.length + 1) (by omega) h1 h2 (by rw [h3]; exact hRb)
          omega
        have HVL := Lib.hid hvlen
        have hpc := hrow'.pre
        rw [HC.out] at hpc
        have HT1 := Lib.hid (trim_pre HC.out hpc hCl (Nat.le_refl _) (Nat.le_refl _) (by unfold maxLen; omega) hbel')
        have HT2 := Lib.hid (trim_pre HRl'.out hpre' hRl' (by omega) hk1 hk2 hbel')
        have hsz := hbel'.size
        clear hE hend hRb hvlen
        go_wp2_with (first
          | (go_at_call 125; ((with_reducible refine HT1.out.mono ?_); rintro e w6 ⟨⟨q, A6, c6, rfl, hq1, hq2, hq3, hq4, hq5⟩, rfl⟩; have HQ3 := Lib.hid hq3; clear hq3))
          | (go_at_call 125; ((with_reducible refine HT2.out.mono ?_); rintro e w7 ⟨⟨v, A7, c7, rfl, hv1, hv2, hv3, hv4, hv5⟩, rfl⟩; have hvl := HVL.out v hv1 hv2 hv3; have HV3 := Lib.hid hv3; clear hv3))
          | (go_at_call 118; ((with_reducible refine (shiftedDown_any A7 c7 v s _ hv4.nums hv1 hvl (by omega)).mono ?_); rintro e w8 ⟨r, A8, c8, rfl, hx1, hx2, hx3, hx4, hx5⟩; have HX3 := Lib.hid hx3; clear hx3)))
        go_ret2
        refine ⟨q, r, A6, c6, A8, c8, rfl, hq1, hx1, hq2, hx2, ?_, hq4.below hx5, hx4.less hsz, hbel'.trans (hx5.mono hsz)⟩
        show _ ∧ _
        rw [HX3.out, HV3.out, HQ3.out]
        exact HEND.out
end Go.Proofs.YtfjellhbcjnjkaaGreatDoor
