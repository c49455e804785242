/-
  Layer 2, joined (wip/tools/merge.py): NatY NatZ NatAA NatAB.
  Layer 2, plain mathematics of a square root by halves.
  Layer 2, walks, part twenty: a limb's square root; divisions, as they are handed out.
  Layer 2, walks, part twenty-one: a number's square root.
  Layer 2, walks, part twenty-two: square roots, as they are handed out; a number divided by a limb in place.
-/
import Derived.Test.YtcdbjlmegkcaiaaGreatDoorZNG3
namespace Go.Proofs.YtcdbjlmegkcaiaaGreatDoor
set_option linter.unusedVariables false

/-- s is v's root, r what is left -/
def IsRoot (v s r : Int) : Prop := v = s * s + r ∧ 0 ≤ s ∧ 0 ≤ r ∧ r ≤ 2 * s

section
variable {v P a lo s r : Int}
/-- of the upper half -/
theorem root_upper (hP : 1 ≤ P) (hv : v = a * (P * P) + lo) (hlo0 : 0 ≤ lo) (hlo1 : lo < P * P) (ha : P * P ≤ a) (h : IsRoot a s r) :
    P ≤ s ∧ a ≤ v ∧ lo ≤ v ∧ s ≤ v ∧ r ≤ v ∧ r * P ≤ v ∧ s * P ≤ v ∧ P * P ≤ v ∧ lo / P ≤ v ∧ 0 ≤ lo / P ∧ lo / P < P ∧ 0 ≤ lo % P ∧ lo % P < P ∧ lo = lo / P * P + lo % P := by
  obtain ⟨h1, h2, h3, h4⟩ := h
  have hPP : 1 ≤ P * P := by
    have := Int.mul_le_mul_of_nonneg_left hP (show 0 ≤ P by omega); omega
  have haP : a * 1 ≤ a * (P * P) := Int.mul_le_mul_of_nonneg_left hPP (by omega)
  have hs0 : P ≤ s := by
    rcases (show P ≤ s ∨ s + 1 ≤ P by omega) with h | h
    · exact h
    · have a1 : (s + 1) * (s + 1) ≤ P * P := Int.mul_le_mul h h (by omega) (by omega)
      have e : (s + 1) * (s + 1) = s * s + 2 * s + 1 := by grind
      omega
  have hss : s * 1 ≤ s * s := Int.mul_le_mul_of_nonneg_left (by omega) h2
  have hrP : r * P ≤ a * (P * P) := by
    have b1 : r * P ≤ a * P := Int.mul_le_mul_of_nonneg_right (by omega) (by omega)
    have b2 : a * P * 1 ≤ a * P * P := Int.mul_le_mul_of_nonneg_left hP (Int.mul_nonneg (by omega) (by omega))
    have e : a * P * P = a * (P * P) := by grind
    omega
  have hsP : s * P ≤ a * (P * P) := by
    have b1 : s * P ≤ a * P := Int.mul_le_mul_of_nonneg_right (by omega) (by omega)
    have b2 : a * P * 1 ≤ a * P * P := Int.mul_le_mul_of_nonneg_left hP (Int.mul_nonneg (by omega) (by omega))
    have e : a * P * P = a * (P * P) := by grind
    omega
  have d1 := Int.mul_ediv_add_emod lo P
  have d2 := Int.emod_nonneg lo (show P ≠ 0 by omega)
  have d3 := Int.emod_lt_of_pos lo (show 0 < P by omega)
  have d4 : 0 ≤ lo / P := Int.ediv_nonneg hlo0 (by omega)
  have d5 : lo / P < P := Int.ediv_lt_of_lt_mul (by omega) hlo1
  have d6 : lo / P ≤ lo := Int.ediv_le_self _ hlo0
  refine ⟨hs0, by omega, by omega, by omega, by omega, by omega, by omega, by omega, by omega, d4, d5, d2, d3, ?_⟩
  have : P * (lo / P) = lo / P * P := Int.mul_comm _ _
  omega
/-- of both halves -/
theorem root_both {Q R lh ll : Int} (hP : 1 ≤ P) (hv : v = a * (P * P) + (lh * P + ll)) (h : IsRoot a s r) (hs : P ≤ s) (h0 : 0 ≤ lh) (h1 : lh < P) (h2 : 0 ≤ ll) (h3 : ll < P)
    (hQ : r * P + lh = Q * (s * 2) + R) (hQ0 : 0 ≤ Q) (hR0 : 0 ≤ R) (hR : R < s * 2) :
    Q ≤ P ∧ R * P + ll - Q * Q = v - (s * P + Q) * (s * P + Q) ∧ (Q * Q ≤ R * P + ll → IsRoot v (s * P + Q) (R * P + ll - Q * Q)) ∧
      (R * P + ll < Q * Q → 1 ≤ s * P + Q ∧ IsRoot v (s * P + Q - 1) (R * P + ll + ((s * P + Q - 1) * 2 + 1) - Q * Q) ∧ Q * Q ≤ R * P + ll + ((s * P + Q - 1) * 2 + 1)) := by
  obtain ⟨g1, g2, g3, g4⟩ := h
  have hQP : Q ≤ P := by
    rcases (show Q ≤ P ∨ P + 1 ≤ Q by omega) with h | h
    · exact h
    · have b1 : (P + 1) * (s * 2) ≤ Q * (s * 2) := Int.mul_le_mul_of_nonneg_right h (by omega)
      have b2 : r * P ≤ 2 * s * P := Int.mul_le_mul_of_nonneg_right g4 (by omega)
      have e : (P + 1) * (s * 2) = 2 * s * P + 2 * s := by grind
      omega
  have hD : R * P + ll - Q * Q = v - (s * P + Q) * (s * P + Q) := by
    have e1 : R = r * P + lh - Q * (s * 2) := by omega
    rw [hv, g1, e1]; grind
  have hsP : P * P ≤ s * P := Int.mul_le_mul_of_nonneg_right hs (by omega)
  have hQQ : Q * Q ≤ P * P := Int.mul_le_mul hQP hQP hQ0 (by omega)
  have hRP : R * P ≤ (s * 2 - 1) * P := Int.mul_le_mul_of_nonneg_right (by omega) (by omega)
  have e2 : (s * 2 - 1) * P = 2 * (s * P) - P := by grind
  have hRP0 : 0 ≤ R * P := Int.mul_nonneg hR0 (by omega)
  have hQQ0 : 0 ≤ Q * Q := Int.mul_nonneg hQ0 hQ0
  have hPP : 1 ≤ P * P := by
    have := Int.mul_le_mul_of_nonneg_left hP (show 0 ≤ P by omega); omega
  refine ⟨hQP, hD, fun h => ⟨by omega, by omega, by omega, by omega⟩, fun h => ⟨by omega, ⟨?_, by omega, by omega, by omega⟩, by omega⟩⟩
  have e3 : (s * P + Q - 1) * (s * P + Q - 1) = (s * P + Q) * (s * P + Q) - 2 * (s * P + Q) + 1 := by grind
  omega
end
end Go.Proofs.YtcdbjlmegkcaiaaGreatDoor
namespace Go.Proofs.YtcdbjlmegkcaiaaGreatDoor
open Go.RowKit
set_option linter.unusedVariables false

/-- a quotient and a rest, and no error -/
def Two2 (vl vm : Int) (w : World) (e : Ending) (w' : World) : Prop :=
  ∃ q r A1 c1 A2 c2, e = .returned (.tuple #[.slice A1 q.length c1, .slice A2 r.length c2, .int .i64 0]) ∧ Lim 18446744073709551616 q ∧ Lim 18446744073709551616 r ∧ Normal q ∧ Normal r ∧
    Hid (vl = val 18446744073709551616 q * vm + val 18446744073709551616 r ∧ val 18446744073709551616 r < vm) ∧ Own w' w.heap.size A1 c1 q ∧ Own w' w.heap.size A2 c2 r ∧ Below w.heap.size w w'

/-! ### a limb's root -/
/-- a root and what is left, in new memory -/
def RootPost (v : Int) (w : World) (e : Ending) (w' : World) : Prop :=
  ∃ s r A1 c1 A2 c2, e = .returned (.tuple #[.slice A1 s.length c1, .slice A2 r.length c2]) ∧ Lim 18446744073709551616 s ∧ Lim 18446744073709551616 r ∧ Normal s ∧ Normal r ∧
    Hid (IsRoot v (val 18446744073709551616 s) (val 18446744073709551616 r)) ∧ Own w' w.heap.size A1 c1 s ∧ Own w' w.heap.size A2 c2 r ∧ Below w.heap.size w w'

theorem sq_lt {a b : Int} (h : a < b) (ha : 0 ≤ a) : a * a < b * b := by
  have h1 : (a + 1) * (a + 1) ≤ b * b := Int.mul_le_mul (by omega) (by omega) (by omega) (by omega)
  have h2 : (a + 1) * (a + 1) = a * a + 2 * a + 1 := by grind
  omega

end Go.Proofs.YtcdbjlmegkcaiaaGreatDoor
namespace Go.Proofs.YtcdbjlmegkcaiaaGreatDoor
open Go.RowKit
set_option linter.unusedVariables false

theorem shiftedDown_at (A : Option Addr) (c : Nat) (l : List Int) (j : Nat) (i : Int) (hi : i = (j : Int)) (w : World) (h : Nums w w.heap.size A c l) (hl : Lim 18446744073709551616 l) (hb1 : l.length ≤ 1000000) (hj2 : j ≤ 9223372036854775807) :
    Calls Tryz.prog 78 #[.slice A l.length c, .int .i64 i] w (Made (val 18446744073709551616 l / 2 ^ j) w) := by
  subst hi; exact shiftedDown_any A c l j w h hl hb1 hj2
theorem shiftedUp_at (A : Option Addr) (c : Nat) (l : List Int) (j : Nat) (i : Int) (hi : i = (j : Int)) (w : World) (h : Nums w w.heap.size A c l) (hl : Lim 18446744073709551616 l) (hb1 : l.length ≤ 1000000) (hj : j ≤ 64000000) :
    Calls Tryz.prog 92 #[.slice A l.length c, .int .i64 i] w (Made (val 18446744073709551616 l * 2 ^ j) w) := by
  subst hi; exact shiftedUp_all A c l j w h hl hb1 hj
theorem bits_le {v : Int} {N n : Nat} (h : v < 18446744073709551616 ^ N) (hn : IsBits v n) : n ≤ 64 * N := by
  obtain ⟨a, b, d⟩ := hn
  rw [pow64] at h
  rcases Nat.lt_or_ge (64 * N) n with g | g
  · have h1 := pow_le' (b := 2) (by omega) (show 64 * N ≤ n - 1 by omega)
    have h3 := d (by omega)
    omega
  · exact g

end Go.Proofs.YtcdbjlmegkcaiaaGreatDoor
namespace Go.Proofs.YtcdbjlmegkcaiaaGreatDoor
open Go.RowKit
set_option linter.unusedVariables false

/-- a root and what is left, and no error -/
def Root2 (v : Int) (w : World) (e : Ending) (w' : World) : Prop :=
  ∃ s r A1 c1 A2 c2, e = .returned (.tuple #[.slice A1 s.length c1, .slice A2 r.length c2, .int .i64 0]) ∧ Lim 18446744073709551616 s ∧ Lim 18446744073709551616 r ∧ Normal s ∧ Normal r ∧
    Hid (IsRoot v (val 18446744073709551616 s) (val 18446744073709551616 r)) ∧ Own w' w.heap.size A1 c1 s ∧ Own w' w.heap.size A2 c2 r ∧ Below w.heap.size w w'

/-- what a division by one limb, in place, leaves -/
def SamePost (K : Nat) (l : List Int) (d : Int) (g : Nat) (w0 : World) (e : Ending) (w : World) : Prop :=
  ∃ (C : List Int) (r : Int), e = .returned (.int .u64 r) ∧ 0 ≤ r ∧ r < d ∧ C.length = l.length ∧ Lim 18446744073709551616 C ∧ Pre w g K C ∧ w0.grownBy w (some g) ∧ Hid (val 18446744073709551616 l = val 18446744073709551616 C * d + r)

end Go.Proofs.YtcdbjlmegkcaiaaGreatDoor
