/-
  Layer 2, plain facts on shifts of words of 64 bits.
-/
import Derived.WalkKit
import Derived.Laws.BitsAllLaws
import Derived.Laws.BitsLemmas
import Derived.Test.YtigphbjgodfhpaaDoorNatA
namespace Go.Proofs.YtigphbjgodfhpaaDoor
open Go
set_option linter.unusedVariables false

theorem or_low (i : Nat) (x y : Int) (h0 : 0 ≤ x) (h1 : x < 18446744073709551616) (hx : x % 2 ^ i = 0) (hy : 0 ≤ y) (hy1 : y < 2 ^ i) (hy2 : y < 18446744073709551616) : bits .or .u64 x y = x + y := by
  obtain ⟨x, rfl⟩ := Int.eq_ofNat_of_zero_le h0
  obtain ⟨y, rfl⟩ := Int.eq_ofNat_of_zero_le hy
  rw [u64_or_nat x y (by omega) (by omega)]
  have e : ((2 ^ i : Nat) : Int) = 2 ^ i := by push_cast; rfl
  rw [← e] at hx hy1
  rw [nat_join i x y (by exact_mod_cast hx) (by omega)]
  push_cast; rfl
theorem or_swap (a b : Int) : bits .or .u64 a b = bits .or .u64 b a := by
  show IntKind.u64.wrap _ = IntKind.u64.wrap _
  rw [BitVec.or_comm]

theorem pow_split {s : Nat} (hs : s ≤ 64) : (2 : Int) ^ s * 2 ^ (64 - s) = 18446744073709551616 := by
  rw [← Int.pow_add, show s + (64 - s) = 64 from by omega]; decide
theorem two_pos (s : Nat) : (0 : Int) < 2 ^ s := Int.pow_pos (by decide)

/-- a word times 2^s, in two words -/
theorem shl_parts (x : Int) (s : Nat) (hx : 0 ≤ x) (hx1 : x < 18446744073709551616) (hs : s ≤ 64) :
    ∃ r : Int, 0 ≤ r ∧ r < 2 ^ (64 - s) ∧ 0 ≤ x / 2 ^ (64 - s) ∧ x / 2 ^ (64 - s) < 2 ^ s ∧ x = x / 2 ^ (64 - s) * 2 ^ (64 - s) + r ∧ IntKind.u64.wrap (x * 2 ^ s) = r * 2 ^ s ∧ r * 2 ^ s < 18446744073709551616 ∧ r = x % 2 ^ (64 - s) := by
  have hq := two_pos (64 - s)
  have hp := two_pos s
  have e := pow_split hs
  have h1 := Int.emod_nonneg x (Int.ne_of_gt hq)
  have h2 := Int.emod_lt_of_pos x hq
  have h3 := Int.mul_ediv_add_emod x (2 ^ (64 - s))
  have h4 : 0 ≤ x / 2 ^ (64 - s) := Int.ediv_nonneg hx (Int.le_of_lt hq)
  have h5 : x / 2 ^ (64 - s) < 2 ^ s := Int.ediv_lt_of_lt_mul hq (by rw [e]; exact hx1)
  generalize hr : x % 2 ^ (64 - s) = r at *
  generalize hd : x / 2 ^ (64 - s) = q at *
  generalize (2 : Int) ^ (64 - s) = Q at *
  generalize (2 : Int) ^ s = P at *
  have h6 : r * P < 18446744073709551616 := by
    have : 0 ≤ (Q - 1 - r) * P := Int.mul_nonneg (by omega) (by omega)
    grind
  have h7 : 0 ≤ r * P := Int.mul_nonneg h1 (by omega)
  refine ⟨r, h1, h2, h4, h5, by grind, ?_, h6, rfl⟩
  rw [IntKind.wrap_u64]
  have : x * P = r * P + q * 18446744073709551616 := by grind
  rw [this, Int.add_mul_emod_self_right, Int.emod_eq_of_lt h7 h6]

/-- a step of a shift up: a word, what comes from below, what goes on above -/
theorem shl_ex (x c : Int) (s : Nat) (hx : 0 ≤ x) (hx1 : x < 18446744073709551616) (hs : s < 64) (hc : 0 ≤ c) (hc1 : c < 2 ^ s) :
    ∃ z : Int, bits .or .u64 (IntKind.u64.wrap (x * 2 ^ s)) c = z ∧ 0 ≤ z ∧ z < 18446744073709551616 ∧ 0 ≤ x / 2 ^ (64 - s) ∧ x / 2 ^ (64 - s) < 2 ^ s ∧ x * 2 ^ s + c = z + x / 2 ^ (64 - s) * 18446744073709551616 := by
  obtain ⟨r, r0, r1, q0, q1, he, hw, hl, _⟩ := shl_parts x s hx hx1 (by omega)
  have e := pow_split (s := s) (by omega)
  have hp := two_pos s
  have hq := two_pos (64 - s)
  have hc2 : c < 18446744073709551616 := by
    have : 0 ≤ (2 ^ (64 - s) - 1) * (2 : Int) ^ s := Int.mul_nonneg (by omega) (by omega)
    grind
  have h7 : 0 ≤ r * 2 ^ s := Int.mul_nonneg r0 (by omega)
  have ho := or_low s (r * 2 ^ s) c h7 hl (by rw [Int.mul_emod_left]) hc hc1 hc2
  refine ⟨r * 2 ^ s + c, by rw [hw, ho], by omega, ?_, q0, q1, ?_⟩
  · generalize (2 : Int) ^ (64 - s) = Q at *
    generalize (2 : Int) ^ s = P at *
    have : 0 ≤ (Q - 1 - r) * P := Int.mul_nonneg (by omega) (by omega)
    grind
  · generalize x / 2 ^ (64 - s) = q at *
    generalize (2 : Int) ^ (64 - s) = Q at *
    generalize (2 : Int) ^ s = P at *
    grind

/-- a step of a shift down: a word, and the next one's lower bits -/
theorem shr_ex (x y : Int) (s : Nat) (hx : 0 ≤ x) (hx1 : x < 18446744073709551616) (hs : s < 64) (hy : 0 ≤ y) (hy1 : y < 18446744073709551616) :
    ∃ z : Int, bits .or .u64 (x / 2 ^ s) (IntKind.u64.wrap (y * 2 ^ (64 - s))) = z ∧ 0 ≤ z ∧ z < 18446744073709551616 ∧ z * 2 ^ s + x % 2 ^ s = x + y % 2 ^ s * 18446744073709551616 := by
  have e := pow_split (s := s) (by omega)
  have hp := two_pos s
  have hq := two_pos (64 - s)
  obtain ⟨r, r0, r1, q0, q1, he, hw, hl, hr⟩ := shl_parts y (64 - s) hy hy1 (by omega)
  rw [show 64 - (64 - s) = s from by omega] at r1 q0 q1 he hr
  have h7 : 0 ≤ r * 2 ^ (64 - s) := Int.mul_nonneg r0 (by omega)
  have x0 : 0 ≤ x / 2 ^ s := Int.ediv_nonneg hx (Int.le_of_lt hp)
  have x1 : x / 2 ^ s < 2 ^ (64 - s) := Int.ediv_lt_of_lt_mul hp (by rw [Int.mul_comm, e]; exact hx1)
  have x2 : x / 2 ^ s < 18446744073709551616 := Int.lt_of_le_of_lt (Int.ediv_le_self _ hx) hx1
  have h3 := Int.mul_ediv_add_emod x (2 ^ s)
  have ho := or_low (64 - s) (r * 2 ^ (64 - s)) (x / 2 ^ s) h7 hl (by rw [Int.mul_emod_left]) x0 x1 x2
  refine ⟨r * 2 ^ (64 - s) + x / 2 ^ s, by rw [or_swap, hw, ho], by omega, ?_, ?_⟩
  · generalize x / 2 ^ s = X at *
    generalize (2 : Int) ^ (64 - s) = Q at *
    generalize (2 : Int) ^ s = P at *
    have : 0 ≤ (P - 1 - r) * Q := Int.mul_nonneg (by omega) (by omega)
    grind
  · rw [← hr]
    generalize x / 2 ^ s = X at *
    generalize x % 2 ^ s = R at *
    generalize (2 : Int) ^ (64 - s) = Q at *
    generalize (2 : Int) ^ s = P at *
    grind
end Go.Proofs.YtigphbjgodfhpaaDoor
