/-
  Layer 2, walks, part thirteen: the library's division, whatever is divided; a number divided by one limb.
-/
import Derived.Test.YtigphbjgodfhpaaDoorNatM
namespace Go.Proofs.YtigphbjgodfhpaaDoor
open Go.RowKit
set_option linter.unusedVariables false

set_option maxHeartbeats 1000000 in
theorem div64_small (lo y : Int) (w : World) (hy : 0 < y) (hy1 : y < 18446744073709551616) (hlo : 0 ≤ lo) (hlo1 : lo < 18446744073709551616) :
    Calls Tryd.prog 98 #[.int .u64 0, .int .u64 lo, .int .u64 y] w (fun e w' => ∃ n, (DivPost 0 lo y (w.drewN n) e w')) := by
  have h1 := Int.emod_nonneg lo (Int.ne_of_gt hy)
  have h2 := Int.emod_lt_of_pos lo hy
  have h3 := Int.mul_ediv_add_emod lo y
  have h4 : 0 ≤ lo / y := Int.ediv_nonneg hlo (Int.le_of_lt hy)
  have h5 : lo / y ≤ lo := Int.ediv_le_self _ hlo
  have HE : Hid (0 * 18446744073709551616 + lo = lo / y * y + lo % y) := by
    show _ = _
    rw [Int.mul_comm] at h3
    omega
  clear h3
  have hz : ¬ y ≤ 0 := by omega
  have hy2 : (y == 0) = false := beq_eq_false_iff_ne.2 (by omega)
  have hy3 : y ≠ 0 := by omega
  have hy4 : 1 ≤ y := by omega
  go_enter Tryd.func98, Tryd.ntmps98
  go_wp2_with fail
  go_quiet (fail)
  go_wp2_with fail
  go_ret2
  exact ⟨_, lo / y, lo % y, rfl, h4, by omega, h1, h2, HE, rfl⟩

theorem div64_any (hi lo y0 : Int) (w : World) (h0 : 0 ≤ hi) (hhy : hi < y0) (hy01 : y0 < 18446744073709551616) (hlo : 0 ≤ lo) (hlo1 : lo < 18446744073709551616) :
    Calls Tryd.prog 98 #[.int .u64 hi, .int .u64 lo, .int .u64 y0] w (fun e w' => ∃ n, (DivPost hi lo y0 (w.drewN n) e w')) := by
  rcases (show hi = 0 ∨ 0 < hi by omega) with rfl | hhi
  · exact div64_small lo y0 w hhy hy01 hlo hlo1
  · obtain ⟨t1, t2, t3, t4⟩ := top_bits y0 (by omega) hy01
    have hz := fun w => Tryd.bits_LeadingZeros64 y0 w (by omega) (by omega)
    obtain ⟨t, ht⟩ : ∃ t, Lib.bitLen y0.toNat = t := ⟨_, rfl⟩
    rw [ht] at t1 t2 t3 t4 hz
    obtain ⟨s, hs⟩ : ∃ s, s = 64 - t := ⟨_, rfl⟩
    have hs64 : s < 64 := by omega
    have hz' : ∀ w, Calls Tryd.prog 81 #[.int .u64 y0] w fun e w' => e = .returned (.int .i64 s) ∧ w = w' := fun w => (hz w).mono fun e w' ⟨a, b⟩ => ⟨by rw [a]; exact ret_int (by omega), b.symm⟩
    have hp := two_pos s
    have e63 : (2 : Int) ^ (t - 1) * 2 ^ s = 9223372036854775808 := by rw [← Int.pow_add, show t - 1 + s = 63 from by omega]; decide
    have e64 : (2 : Int) ^ t * 2 ^ s = 18446744073709551616 := by rw [← Int.pow_add, show t + s = 64 from by omega]; decide
    have y1 : 9223372036854775808 ≤ y0 * 2 ^ s := by rw [← e63]; exact Int.mul_le_mul_of_nonneg_right t3 (Int.le_of_lt hp)
    have y2 : y0 * 2 ^ s < 18446744073709551616 := by rw [← e64]; exact Int.mul_lt_mul_of_pos_right t4 hp
    have u1 : hi * 2 ^ s + 2 ^ s ≤ y0 * 2 ^ s := by
      have := Int.mul_le_mul_of_nonneg_right (show hi + 1 ≤ y0 by omega) (Int.le_of_lt hp)
      rw [Int.add_mul, Int.one_mul] at this
      exact this
    have u0 : 0 ≤ hi * 2 ^ s := Int.mul_nonneg h0 (Int.le_of_lt hp)
    obtain ⟨r, r0, r1, q0, q1, he, hw, hl, _⟩ := shl_parts lo s hlo hlo1 (by omega)
    have hr0 : 0 ≤ r * 2 ^ s := Int.mul_nonneg r0 (Int.le_of_lt hp)
    have hor : bits .or .u64 (IntKind.u64.wrap (hi * 2 ^ s)) (lo / 2 ^ (64 - s)) = hi * 2 ^ s + lo / 2 ^ (64 - s) := by
      rw [IntKind.wrap_u64, Int.emod_eq_of_lt u0 (by omega)]
      exact or_low s _ _ u0 (by omega) (by rw [Int.mul_emod_left]) q0 q1 (by omega)
    have hN : (hi * 18446744073709551616 + lo) * 2 ^ s = (hi * 2 ^ s + lo / 2 ^ (64 - s)) * 18446744073709551616 + r * 2 ^ s := by
      have hP := pow_split (s := s) (by omega)
      generalize lo / 2 ^ (64 - s) = d at *
      generalize (2 : Int) ^ (64 - s) = Q at *
      generalize (2 : Int) ^ s = P at *
      rw [he, ← hP]; grind
    obtain ⟨y, hy⟩ : ∃ y, y0 * 2 ^ s = y := ⟨_, rfl⟩
    obtain ⟨u, hu⟩ : ∃ u, hi * 2 ^ s + lo / 2 ^ (64 - s) = u := ⟨_, rfl⟩
    obtain ⟨un, hun⟩ : ∃ un, r * 2 ^ s = un := ⟨_, rfl⟩
    rw [hy] at y1 y2 u1
    rw [hu] at hor hN
    rw [hun] at hw hl hr0 hN
    have huy : u < y := by omega
    have hu0 : 0 ≤ u := by omega
    obtain ⟨b0, b1, b2, b3, b4, b5⟩ := dig_start (u := u) (u1 := un / 4294967296) (y := y) (yn1 := y / 4294967296) (yn0 := y % 4294967296) (by omega) (by omega) (by omega) (by omega) (by omega) hu0 huy (by omega) (by omega)
    have m0 : 0 ≤ u / (y / 4294967296) * (y / 4294967296) := Int.mul_nonneg b0 (by omega)
    refine (div64_core hi lo y0 y (y / 4294967296) (y % 4294967296) u un (un / 4294967296) (un % 4294967296) (u / (y / 4294967296)) (u % (y / 4294967296)) s w hhi hhy hy01 hlo hlo1 hs64 hz'
      (by rw [hy, IntKind.wrap_u64]; omega) rfl (mask32 y (by omega) y2) hor hw rfl (mask32 un hr0 hl) rfl (by omega) (by omega) y2 hu0 huy hr0 hl (by omega) (by omega) (by omega) (by omega)
      (by omega) (by omega) (by omega) (by omega) b0 b1 b2 b3 m0 (by omega) (by show _ = _; omega) b5 (by show _ = _; omega) hN (by show _ = _; omega)).mono ?_
    exact fun e w' h => ⟨0, h⟩
end Go.Proofs.YtigphbjgodfhpaaDoor
