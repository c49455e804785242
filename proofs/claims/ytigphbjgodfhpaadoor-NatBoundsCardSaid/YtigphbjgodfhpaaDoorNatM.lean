/-
  Layer 2, walks, part twelve: the library's division of two words by one.
-/
import Derived.Test.YtigphbjgodfhpaaDoorNatL
import Derived.Test.YtigphbjgodfhpaaDoorNatV
import Derived.Deep.DeepCutAuto
import Derived.Deep.CutBlock
import Derived.Deep.CutRange
namespace Go.Proofs.YtigphbjgodfhpaaDoor
open Go.RowKit
set_option linter.unusedVariables false

theorem pred_mul (q y : Int) : (q - 1) * y = q * y - y := by grind
theorem mask32 (x : Int) (h0 : 0 ≤ x) (h1 : x < 18446744073709551616) : bits .and .u64 x 4294967295 = x % 4294967296 := by
  simpa using and_low 32 (by omega) x h0 h1

/-- a quotient and a rest -/
def DivPost (hi lo y : Int) (w : World) (e : Ending) (w' : World) : Prop :=
  ∃ q r : Int, e = .returned (.tuple #[.int .u64 q, .int .u64 r]) ∧ 0 ≤ q ∧ q < 18446744073709551616 ∧ 0 ≤ r ∧ r < y ∧ Hid (hi * 18446744073709551616 + lo = q * y + r) ∧ w = w'

set_option maxHeartbeats 4000000 in
theorem div64_core (hi lo y0 y yn1 yn0 u un10 u1 u0 q r : Int) (s : Nat) (w : World) (hhi : 0 < hi) (hhy : hi < y0) (hy01 : y0 < 18446744073709551616) (hlo : 0 ≤ lo) (hlo1 : lo < 18446744073709551616) (hs : s < 64)
    (hz : ∀ w, Calls Tryd.prog 81 #[.int .u64 y0] w fun e w' => e = .returned (.int .i64 s) ∧ w = w')
    (e1 : IntKind.u64.wrap (y0 * 2 ^ s) = y) (e2 : y / 4294967296 = yn1) (e3 : bits .and .u64 y 4294967295 = yn0) (e4 : bits .or .u64 (IntKind.u64.wrap (hi * 2 ^ s)) (lo / 2 ^ (64 - s)) = u)
    (e5 : IntKind.u64.wrap (lo * 2 ^ s) = un10) (e6 : un10 / 4294967296 = u1) (e7 : bits .and .u64 un10 4294967295 = u0) (e8 : u / yn1 = q) (e9 : u - q * yn1 = r)
    (hy0 : 0 ≤ y) (hy1 : y < 18446744073709551616) (hu0 : 0 ≤ u) (hu : u < y) (h10 : 0 ≤ un10) (h11 : un10 < 18446744073709551616) (n1 : 2147483648 ≤ yn1) (n2 : yn1 < 4294967296) (n3 : 0 ≤ yn0) (n4 : yn0 < 4294967296)
    (a1 : 0 ≤ u1) (a2 : u1 < 4294967296) (a3 : 0 ≤ u0) (a4 : u0 < 4294967296) (q0 : 0 ≤ q) (q1 : q ≤ 4294967297) (r0 : 0 ≤ r) (r1 : r < 4294967296) (m0 : 0 ≤ q * yn1) (m1 : q * yn1 ≤ 18446744073709551615)
    (HY : Hid (y = yn1 * 4294967296 + yn0)) (HG : Hid (4294967296 * u + u1 < q * y + y)) (HY0 : Hid (y = y0 * 2 ^ s)) (HN : Hid ((hi * 18446744073709551616 + lo) * 2 ^ s = u * 18446744073709551616 + un10)) (H10 : Hid (un10 = u1 * 4294967296 + u0)) :
    Calls Tryd.prog 98 #[.int .u64 hi, .int .u64 lo, .int .u64 y0] w (DivPost hi lo y0 w) := by
  have HZ := Lib.hid hz
  clear hz
  have hp := two_pos s
  have hx : (0 : Int) ≤ 64 - s := by omega
  go_enter Tryd.func98, Tryd.ntmps98
  go_upto_block 0 with (go_at_call 81; ((with_reducible refine (HZ.out _).mono ?_); rintro e w' ⟨rfl, rfl⟩))
  rw [e8]
  have HQ : Hid (q * yn1 + r = u) := by show _ = _; omega
  clear e1 e2 e3 e4 e5 e6 e7 e8 e9
  go_cut [15] (fun s15 wx => ∃ Q, s15 = .int .u64 Q ∧ Dig u u1 y Q ∧ wx = w)
  case first =>
    go_wp2_with fail
    go_loop [15, 16] (fun a b => ∃ q r : Int, a = .int .u64 q ∧ b = .int .u64 r ∧ 0 ≤ q ∧ q ≤ 4294967297 ∧ 0 ≤ r ∧ r < 4294967296 ∧ q * yn1 + r = u ∧ 4294967296 * u + u1 < q * y + y) (fun a _ => (intOf a).toNat)
    case atStart => exact ⟨q, r, rfl, rfl, q0, q1, r0, r1, HQ.out, HG.out⟩
    case round =>
      obtain ⟨q, r, rfl, rfl, q0, q1, r0, r1, hq, hlt⟩ := hrel
      have HQ := Lib.hid hq
      have HL := Lib.hid hlt
      clear hq hlt
      by_cases hbig : 4294967296 ≤ q
      · obtain ⟨g1, g2⟩ := dig_more HY.out n1 n3 hu a2 HQ.out (.inl hbig) q0
        have H1 := Lib.hid g1
        have H2 := Lib.hid g2
        clear g1 g2
        by_cases hb : 4294967296 ≤ r + yn1
        · go_wp2_with fail
          go_meet
          exact ⟨q - 1, rfl, dig_break HY.out n1 n3 n4 hu a1 a2 H2.out (by omega) (by omega) hb (by have := H1.out; have := pred_mul q y; omega), rfl⟩
        · go_wp2_with fail
          go_round
          case rel => exact ⟨q - 1, r + yn1, rfl, rfl, by omega, by omega, by omega, by omega, H2.out, by
            have := H1.out
            have := pred_mul q y
            omega⟩
          case measure => simp [intOf]; omega
      · obtain ⟨m, hm⟩ : ∃ m, q * yn0 = m := ⟨_, rfl⟩
        have hm0 : 0 ≤ m := by rw [← hm]; exact Int.mul_nonneg q0 n3
        have hm1 : m ≤ 4294967295 * 4294967295 := by rw [← hm]; exact Int.mul_le_mul (by omega) (by omega) n3 (by omega)
        have HM := Lib.hid hm
        by_cases hc : 4294967296 * r + u1 < m
        · obtain ⟨g1, g2⟩ := dig_more HY.out n1 n3 hu a2 HQ.out (.inr (by rw [HM.out]; exact hc)) q0
          have g3 := dig_pos g1 hu0 a1 (by omega) q0
          have H1 := Lib.hid g1
          have H2 := Lib.hid g2
          clear g1 g2
          by_cases hb : 4294967296 ≤ r + yn1
          · go_wp2_with fail
            go_meet
            exact ⟨q - 1, rfl, dig_break HY.out n1 n3 n4 hu a1 a2 H2.out (by omega) (by omega) hb (by have := H1.out; have := pred_mul q y; omega), rfl⟩
          · go_wp2_with fail
            go_round
            case rel => exact ⟨q - 1, r + yn1, rfl, rfl, by omega, by omega, by omega, by omega, H2.out, by
              have := H1.out
              have := pred_mul q y
              omega⟩
            case measure => simp [intOf]; omega
        · go_wp2_with fail
          go_meet
          exact ⟨q, rfl, dig_exit HY.out HQ.out q0 (by omega) (by rw [HM.out]; omega) HL.out, rfl⟩
  case rest =>
    obtain ⟨Q1, rfl, hd1, rfl⟩ := hcut
    have H1 := Lib.hid hd1
    obtain ⟨d10, d11, d12, d13⟩ := hd1
    obtain ⟨v, hv⟩ : ∃ v, v = 4294967296 * u + u1 - Q1 * y := ⟨_, rfl⟩
    have hv0 : 0 ≤ v := by omega
    have hv1 : v < y := by omega
    have f1 : IntKind.u64.wrap (IntKind.u64.wrap (IntKind.u64.wrap (u * 4294967296) + u1) - IntKind.u64.wrap (Q1 * y)) = v := by
      rw [IntKind.wrap_u64, IntKind.wrap_u64, IntKind.wrap_u64, IntKind.wrap_u64]
      omega
    obtain ⟨c0, c1, c2, c3, c4, c5⟩ := dig_start HY.out n1 n2 n3 n4 hv0 hv1 a3 a4
    obtain ⟨q2, hq2⟩ : ∃ q2, v / yn1 = q2 := ⟨_, rfl⟩
    obtain ⟨r2, hr2⟩ : ∃ r2, v % yn1 = r2 := ⟨_, rfl⟩
    rw [hq2] at c0 c1 c4 c5
    rw [hr2] at c2 c3 c4
    have f3 : v - q2 * yn1 = r2 := by omega
    have m2 : 0 ≤ q2 * yn1 := Int.mul_nonneg c0 (by omega)
    have m3 : q2 * yn1 ≤ 18446744073709551615 := by omega
    have HQ2 := Lib.hid c4
    have HG2 := Lib.hid c5
    have HV := Lib.hid hv
    clear hr2 hv c4 c5
    go_upto_block 2 with fail
    rw [hq2]
    clear f1 f3 hq2
    go_cut [18] (fun s18 wx => ∃ Q, s18 = .int .u64 Q ∧ Dig v u0 y Q ∧ wx = wc)
    case first =>
      go_wp2_with fail
      go_loop [18, 16] (fun a b => ∃ q r : Int, a = .int .u64 q ∧ b = .int .u64 r ∧ 0 ≤ q ∧ q ≤ 4294967297 ∧ 0 ≤ r ∧ r < 4294967296 ∧ q * yn1 + r = v ∧ 4294967296 * v + u0 < q * y + y) (fun a _ => (intOf a).toNat)
      case atStart => exact ⟨q2, r2, rfl, rfl, c0, c1, c2, c3, HQ2.out, HG2.out⟩
      case round =>
        obtain ⟨q, r, rfl, rfl, q0, q1, r0, r1, hq, hlt⟩ := hrel
        have HQ := Lib.hid hq
        have HL := Lib.hid hlt
        clear hq hlt
        by_cases hbig : 4294967296 ≤ q
        · obtain ⟨g1, g2⟩ := dig_more HY.out n1 n3 hv1 a4 HQ.out (.inl hbig) q0
          have H1 := Lib.hid g1
          have H2 := Lib.hid g2
          clear g1 g2
          by_cases hb : 4294967296 ≤ r + yn1
          · go_wp2_with fail
            go_meet
            exact ⟨q - 1, rfl, dig_break HY.out n1 n3 n4 hv1 a3 a4 H2.out (by omega) (by omega) hb (by have := H1.out; have := pred_mul q y; omega), rfl⟩
          · go_wp2_with fail
            go_round
            case rel => exact ⟨q - 1, r + yn1, rfl, rfl, by omega, by omega, by omega, by omega, H2.out, by
              have := H1.out
              have := pred_mul q y
              omega⟩
            case measure => simp [intOf]; omega
        · obtain ⟨m, hm⟩ : ∃ m, q * yn0 = m := ⟨_, rfl⟩
          have hm0 : 0 ≤ m := by rw [← hm]; exact Int.mul_nonneg q0 n3
          have hm1 : m ≤ 4294967295 * 4294967295 := by rw [← hm]; exact Int.mul_le_mul (by omega) (by omega) n3 (by omega)
          have HM := Lib.hid hm
          by_cases hc : 4294967296 * r + u0 < m
          · obtain ⟨g1, g2⟩ := dig_more HY.out n1 n3 hv1 a4 HQ.out (.inr (by rw [HM.out]; exact hc)) q0
            have g3 := dig_pos g1 hv0 a3 (by omega) q0
            have H1 := Lib.hid g1
            have H2 := Lib.hid g2
            clear g1 g2
            by_cases hb : 4294967296 ≤ r + yn1
            · go_wp2_with fail
              go_meet
              exact ⟨q - 1, rfl, dig_break HY.out n1 n3 n4 hv1 a3 a4 H2.out (by omega) (by omega) hb (by have := H1.out; have := pred_mul q y; omega), rfl⟩
            · go_wp2_with fail
              go_round
              case rel => exact ⟨q - 1, r + yn1, rfl, rfl, by omega, by omega, by omega, by omega, H2.out, by
                have := H1.out
                have := pred_mul q y
                omega⟩
              case measure => simp [intOf]; omega
          · go_wp2_with fail
            go_meet
            exact ⟨q, rfl, dig_exit HY.out HQ.out q0 (by omega) (by rw [HM.out]; omega) HL.out, rfl⟩
    case rest =>
      obtain ⟨Q0, rfl, hd0, rfl⟩ := hcut
      rw [HV.out] at hd0
      obtain ⟨rr, k1, k2, k3, k4⟩ := dig_both hp HY0.out HN.out H10.out H1.out hd0
      rw [← HV.out] at hd0 k1
      obtain ⟨d00, d01, d02, d03⟩ := hd0
      have f4 : IntKind.u64.wrap (IntKind.u64.wrap (IntKind.u64.wrap (v * 4294967296) + u0) - IntKind.u64.wrap (Q0 * y)) = rr * 2 ^ s := by
        rw [IntKind.wrap_u64, IntKind.wrap_u64, IntKind.wrap_u64, IntKind.wrap_u64, ← k1]
        omega
      have f5 : rr * 2 ^ s / 2 ^ s = rr := Int.mul_ediv_cancel _ (Int.ne_of_gt hp)
      have HK := Lib.hid k4
      clear k1 k4
      go_wp2_with fail
      go_ret2
      exact ⟨Q1 * 4294967296 + Q0, rr, rfl, by omega, by omega, k2, k3, HK, rfl⟩
end Go.Proofs.YtigphbjgodfhpaaDoor
