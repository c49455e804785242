/-
  Layer 2, joined (wip/tools/merge.py): NatV NatM NatN NatO NatQ NatR NatT NatU NatX.
  Layer 2, plain mathematics of a division of two words by one (Knuth's), digit by digit of 32 bits.
  Layer 2, walks, part twelve: the library's division of two words by one.
  Layer 2, walks, part thirteen: the library's division, whatever is divided; a number divided by one limb.
  Layer 2, walks, part fourteen: a number divided by one limb, into another list, or in place.
  Layer 2, walks, part fifteen: the estimate of a quotient's limb.
  Layer 2, walks, part sixteen: a product of one limb taken off; given back.
  Layer 2, walks, part seventeen: one limb of a quotient.
  Layer 2, walks, part eighteen: a number divided by a number.
  Layer 2, walks, part nineteen: a number divided by a number of two limbs or more.
-/
import Derived.Test.YtcdbjlmegkcaiaaGreatDoorZNG2
import Derived.Deep.DeepCutAuto
import Derived.Deep.CutBlock
import Derived.Deep.CutRange
import Derived.Scope
import Derived.WalkMore
import Derived.ScopeJumps
import Derived.Lib.QuietBelow
namespace Go.Proofs.YtcdbjlmegkcaiaaGreatDoor
open Go
set_option linter.unusedVariables false

/-- q is the quotient's digit -/
def Dig (u u1 y q : Int) : Prop := 0 ≤ q ∧ q < 4294967296 ∧ q * y ≤ 4294967296 * u + u1 ∧ 4294967296 * u + u1 < q * y + y

section
variable {u u1 y yn1 yn0 q r : Int}
theorem dig_start (hy : y = yn1 * 4294967296 + yn0) (h1 : 2147483648 ≤ yn1) (h2 : yn1 < 4294967296) (h3 : 0 ≤ yn0) (h4 : yn0 < 4294967296) (hu0 : 0 ≤ u) (hu : u < y) (hu1 : 0 ≤ u1) (hu2 : u1 < 4294967296) :
    0 ≤ u / yn1 ∧ u / yn1 ≤ 4294967297 ∧ 0 ≤ u % yn1 ∧ u % yn1 < 4294967296 ∧ u / yn1 * yn1 + u % yn1 = u ∧ 4294967296 * u + u1 < u / yn1 * y + y := by
  have e := Int.mul_ediv_add_emod u yn1
  have m0 := Int.emod_nonneg u (show yn1 ≠ 0 by omega)
  have m1 := Int.emod_lt_of_pos u (show 0 < yn1 by omega)
  have q0 : 0 ≤ u / yn1 := Int.ediv_nonneg hu0 (by omega)
  generalize u / yn1 = q at *
  generalize u % yn1 = r at *
  refine ⟨q0, ?_, m0, by omega, by grind, ?_⟩
  · rcases (show q ≤ 4294967297 ∨ 4294967298 ≤ q by omega) with h | h
    · exact h
    · have : 0 ≤ yn1 * (q - 4294967298) := Int.mul_nonneg (by omega) (by omega)
      have e2 : yn1 * (q - 4294967298) = yn1 * q - yn1 * 4294967298 := by grind
      omega
  · have a : 0 ≤ (q * yn1 + yn1 - 1 - u) * 4294967296 := by
      have : yn1 * q = q * yn1 := Int.mul_comm _ _
      exact Int.mul_nonneg (by omega) (by omega)
    have b : 0 ≤ (q + 1) * yn0 := Int.mul_nonneg (by omega) h3
    have e3 : q * y + y = (q * yn1 + yn1) * 4294967296 + (q + 1) * yn0 := by rw [hy]; grind
    omega
theorem dig_more (hy : y = yn1 * 4294967296 + yn0) (h1 : 2147483648 ≤ yn1) (h3 : 0 ≤ yn0) (hu : u < y) (hu2 : u1 < 4294967296) (hq : q * yn1 + r = u)
    (h : 4294967296 ≤ q ∨ 4294967296 * r + u1 < q * yn0) (hq0 : 0 ≤ q) : 4294967296 * u + u1 < q * y ∧ (q - 1) * yn1 + (r + yn1) = u := by
  refine ⟨?_, by grind⟩
  rcases h with h | h
  · have a : 0 ≤ (q - 4294967296) * y := Int.mul_nonneg (by omega) (by omega)
    have e : (q - 4294967296) * y = q * y - 4294967296 * y := by grind
    omega
  · have e : q * y = q * yn1 * 4294967296 + q * yn0 := by rw [hy]; grind
    omega
theorem dig_pos (h : 4294967296 * u + u1 < q * y) (hu : 0 ≤ u) (hu1 : 0 ≤ u1) (hy : 0 < y) (hq : 0 ≤ q) : 1 ≤ q := by
  rcases (show q = 0 ∨ 1 ≤ q by omega) with h2 | h2
  · subst h2; omega
  · exact h2
theorem dig_exit (hy : y = yn1 * 4294967296 + yn0) (hq : q * yn1 + r = u) (hq0 : 0 ≤ q) (hq1 : q < 4294967296) (h : q * yn0 ≤ 4294967296 * r + u1) (hlt : 4294967296 * u + u1 < q * y + y) : Dig u u1 y q := by
  have e : q * y = q * yn1 * 4294967296 + q * yn0 := by rw [hy]; grind
  exact ⟨hq0, hq1, by omega, hlt⟩
theorem dig_break (hy : y = yn1 * 4294967296 + yn0) (h1 : 2147483648 ≤ yn1) (h3 : 0 ≤ yn0) (h4 : yn0 < 4294967296) (hu : u < y) (hu1 : 0 ≤ u1) (hu2 : u1 < 4294967296) (hq : q * yn1 + r = u) (hq0 : 0 ≤ q) (hq1 : q ≤ 4294967296) (hr : 4294967296 ≤ r)
    (hlt : 4294967296 * u + u1 < q * y + y) : Dig u u1 y q := by
  have a : 0 ≤ (4294967296 - q) * yn0 := Int.mul_nonneg (by omega) h3
  have e1 : (4294967296 - q) * yn0 = 4294967296 * yn0 - q * yn0 := by grind
  have e : q * y = q * yn1 * 4294967296 + q * yn0 := by rw [hy]; grind
  have le : q * y ≤ 4294967296 * u + u1 := by omega
  refine ⟨hq0, ?_, le, hlt⟩
  rcases (show q < 4294967296 ∨ q = 4294967296 by omega) with h | h
  · exact h
  · subst h; omega
theorem dig_unique {q' : Int} (h : Dig u u1 y q) (h' : Dig u u1 y q') (hy : 0 < y) : q = q' := by
  obtain ⟨_, _, a, b⟩ := h
  obtain ⟨_, _, c, d⟩ := h'
  rcases Int.lt_trichotomy q q' with g | g | g
  · have : 0 ≤ (q' - q - 1) * y := Int.mul_nonneg (by omega) (by omega)
    have e : (q' - q - 1) * y = q' * y - q * y - y := by grind
    omega
  · exact g
  · have : 0 ≤ (q - q' - 1) * y := Int.mul_nonneg (by omega) (by omega)
    have e : (q - q' - 1) * y = q * y - q' * y - y := by grind
    omega
end

/-- both digits, put together; s: how far all was shifted -/
theorem dig_both {hi lo y0 y P u un10 u1 u0 q1 q0 : Int} (hP : 0 < P) (hy : y = y0 * P) (hN : (hi * 18446744073709551616 + lo) * P = u * 18446744073709551616 + un10) (h10 : un10 = u1 * 4294967296 + u0)
    (d1 : Dig u u1 y q1) (d0 : Dig (4294967296 * u + u1 - q1 * y) u0 y q0) :
    ∃ r, 4294967296 * (4294967296 * u + u1 - q1 * y) + u0 - q0 * y = r * P ∧ 0 ≤ r ∧ r < y0 ∧ hi * 18446744073709551616 + lo = (q1 * 4294967296 + q0) * y0 + r := by
  obtain ⟨_, _, a, b⟩ := d1
  obtain ⟨_, _, c, d⟩ := d0
  have e : 4294967296 * (4294967296 * u + u1 - q1 * y) + u0 - q0 * y = (hi * 18446744073709551616 + lo - (q1 * 4294967296 + q0) * y0) * P := by
    have : (hi * 18446744073709551616 + lo - (q1 * 4294967296 + q0) * y0) * P = (hi * 18446744073709551616 + lo) * P - (q1 * 4294967296 + q0) * (y0 * P) := by grind
    rw [this, hN, ← hy, h10]; grind
  refine ⟨hi * 18446744073709551616 + lo - (q1 * 4294967296 + q0) * y0, e, ?_, ?_, by omega⟩
  · rcases (show 0 ≤ hi * 18446744073709551616 + lo - (q1 * 4294967296 + q0) * y0 ∨ hi * 18446744073709551616 + lo - (q1 * 4294967296 + q0) * y0 ≤ -1 by omega) with h | h
    · exact h
    · have := Int.mul_le_mul_of_nonneg_right h (Int.le_of_lt hP)
      omega
  · generalize hi * 18446744073709551616 + lo - (q1 * 4294967296 + q0) * y0 = r at *
    rcases (show r < y0 ∨ y0 ≤ r by omega) with h | h
    · exact h
    · have := Int.mul_le_mul_of_nonneg_right h (Int.le_of_lt hP)
      omega
end Go.Proofs.YtcdbjlmegkcaiaaGreatDoor
namespace Go.Proofs.YtcdbjlmegkcaiaaGreatDoor
open Go.RowKit
set_option linter.unusedVariables false

theorem pred_mul (q y : Int) : (q - 1) * y = q * y - y := by grind
theorem mask32 (x : Int) (h0 : 0 ≤ x) (h1 : x < 18446744073709551616) : bits .and .u64 x 4294967295 = x % 4294967296 := by
  simpa using and_low 32 (by omega) x h0 h1

/-- a quotient and a rest -/
def DivPost (hi lo y : Int) (w : World) (e : Ending) (w' : World) : Prop :=
  ∃ q r : Int, e = .returned (.tuple #[.int .u64 q, .int .u64 r]) ∧ 0 ≤ q ∧ q < 18446744073709551616 ∧ 0 ≤ r ∧ r < y ∧ Hid (hi * 18446744073709551616 + lo = q * y + r) ∧ w = w'

end Go.Proofs.YtcdbjlmegkcaiaaGreatDoor
namespace Go.Proofs.YtcdbjlmegkcaiaaGreatDoor
open Go.RowKit
set_option linter.unusedVariables false

end Go.Proofs.YtcdbjlmegkcaiaaGreatDoor
namespace Go.Proofs.YtcdbjlmegkcaiaaGreatDoor
open Go.RowKit
set_option linter.unusedVariables false

theorem val_drop (b : Int) (l : List Int) (i : Nat) (h : i < l.length) : val b (l.drop i) = D l i + b * val b (l.drop (i + 1)) := by
  rw [List.drop_eq_getElem_cons h, val_cons, D_in h]
theorem quot_step {l C : List Int} {i : Nat} {d r q r' : Int} (hl : i < l.length) (hC : C.length = l.length) (h : val 18446744073709551616 (l.drop (i + 1)) = val 18446744073709551616 (C.drop (i + 1)) * d + r)
    (h2 : r * 18446744073709551616 + D l i = q * d + r') : val 18446744073709551616 (l.drop i) = val 18446744073709551616 ((C.set i q).drop i) * d + r' := by
  rw [val_drop _ _ _ hl, val_drop _ (C.set i q) i (by rw [List.length_set]; omega), h, D_set _ _ (by omega), if_pos rfl, List.drop_set, if_pos (by omega)]
  generalize val 18446744073709551616 (C.drop (i + 1)) = T at *
  grind

theorem only_drewN {a w : World} {row : Option Nat} (h : a.grownBy w row) (n : Nat) : a.grownBy (w.drewN n) row := ⟨h.os, h.tape, h.output, h.size, h.block⟩

/-- what a division by one limb leaves -/
def QuotPost (l : List Int) (d : Int) (g : Nat) (w0 : World) (e : Ending) (w : World) : Prop :=
  ∃ (C : List Int) (r : Int), e = .returned (.int .u64 r) ∧ 0 ≤ r ∧ r < d ∧ C.length = l.length ∧ Lim 18446744073709551616 C ∧ Row w g C ∧ w0.grownBy w (some g) ∧ Hid (val 18446744073709551616 l = val 18446744073709551616 C * d + r)

end Go.Proofs.YtcdbjlmegkcaiaaGreatDoor
namespace Go.Proofs.YtcdbjlmegkcaiaaGreatDoor
open Go.RowKit
set_option linter.unusedVariables false

/-- the estimate: how often the two limbs are in the three, capped at the greatest limb -/
def EstPost (r0 r1 r2 b0 b1 : Int) (w : World) (e : Ending) (w' : World) : Prop :=
  ∃ t : Int, e = .returned (.int .u64 t) ∧ 0 ≤ t ∧ t ≤ 18446744073709551615 ∧
    Hid (t * (b0 * 18446744073709551616 + b1) ≤ (r0 * 18446744073709551616 + r1) * 18446744073709551616 + r2 ∧
      (t = 18446744073709551615 ∨ (r0 * 18446744073709551616 + r1) * 18446744073709551616 + r2 < (t + 1) * (b0 * 18446744073709551616 + b1))) ∧ Below w.heap.size w w'

/-- what holds of the estimate and of what is left, at the label -/
def EstEq (r0 r1 r2 b0 b1 t left : Int) : Prop :=
  t * b0 + left = r0 * 18446744073709551616 + r1 ∧ (t = 18446744073709551615 ∨ (r0 * 18446744073709551616 + r1) * 18446744073709551616 + r2 < (t + 1) * (b0 * 18446744073709551616 + b1))
def EstInv (r0 r1 r2 b0 b1 t left : Int) : Prop := 0 ≤ t ∧ t ≤ 18446744073709551615 ∧ 0 ≤ left ∧ left < 18446744073709551616 ∧ EstEq r0 r1 r2 b0 b1 t left

section
variable {r0 r1 r2 b0 b1 t left hi lo : Int}
theorem est_more (h : EstEq r0 r1 r2 b0 b1 t left) (hm : t * b1 = hi * 18446744073709551616 + lo) (h10 : 0 ≤ r1) (h20 : 0 ≤ r2) (hb0 : 0 < b0) (hb2 : 0 ≤ b1) (i0 : 0 ≤ t) (i2 : 0 ≤ left) (m2 : 0 ≤ lo) (m3 : lo < 18446744073709551616) (h21 : r2 < 18446744073709551616)
    (hc : left < hi ∨ (hi = left ∧ r2 < lo)) : 1 ≤ t ∧ (r0 * 18446744073709551616 + r1) * 18446744073709551616 + r2 < t * (b0 * 18446744073709551616 + b1) := by
  have h1 : left * 18446744073709551616 + r2 < t * b1 := by rw [hm]; omega
  obtain ⟨h2, _⟩ := h
  constructor
  · rcases (show t = 0 ∨ 1 ≤ t by omega) with h | h
    · subst h; omega
    · exact h
  · have e : t * (b0 * 18446744073709551616 + b1) = t * b0 * 18446744073709551616 + t * b1 := by grind
    omega
theorem est_stop (h : EstEq r0 r1 r2 b0 b1 t left) (hm : t * b1 = hi * 18446744073709551616 + lo) (h20 : 0 ≤ r2) (m2 : 0 ≤ lo) (m3 : lo < 18446744073709551616)
    (hc : ¬ (left < hi ∨ (hi = left ∧ r2 < lo))) : t * (b0 * 18446744073709551616 + b1) ≤ (r0 * 18446744073709551616 + r1) * 18446744073709551616 + r2 := by
  have h1 : t * b1 ≤ left * 18446744073709551616 + r2 := by rw [hm]; omega
  obtain ⟨h2, _⟩ := h
  have e : t * (b0 * 18446744073709551616 + b1) = t * b0 * 18446744073709551616 + t * b1 := by grind
  omega
theorem est_over (h : EstEq r0 r1 r2 b0 b1 t left) (i0 : 0 ≤ t) (i1 : t ≤ 18446744073709551615) (ho : 18446744073709551616 ≤ left + b0) (hb2 : 0 ≤ b1) (hb3 : b1 < 18446744073709551616) (h20 : 0 ≤ r2) :
    (t - 1) * (b0 * 18446744073709551616 + b1) ≤ (r0 * 18446744073709551616 + r1) * 18446744073709551616 + r2 := by
  obtain ⟨h2, _⟩ := h
  have h3 : t * b1 ≤ 18446744073709551615 * 18446744073709551615 := Int.mul_le_mul i1 (by omega) hb2 (by omega)
  have e : (t - 1) * (b0 * 18446744073709551616 + b1) = t * b0 * 18446744073709551616 - b0 * 18446744073709551616 + t * b1 - b1 := by grind
  omega
theorem est_next (h : EstEq r0 r1 r2 b0 b1 t left) (h2 : (r0 * 18446744073709551616 + r1) * 18446744073709551616 + r2 < t * (b0 * 18446744073709551616 + b1)) : EstEq r0 r1 r2 b0 b1 (t - 1) (left + b0) := by
  obtain ⟨h1, _⟩ := h
  refine ⟨?_, .inr ?_⟩
  · have e : (t - 1) * b0 = t * b0 - b0 := by grind
    omega
  · rw [Int.sub_add_cancel]; exact h2
end

theorem est_start {r0 r1 r2 b0 b1 t left : Int} (h : r0 * 18446744073709551616 + r1 = t * b0 + left) (h21 : r2 < 18446744073709551616) (hb2 : 0 ≤ b1) (hl : left < b0) (i0 : 0 ≤ t) : EstEq r0 r1 r2 b0 b1 t left := by
  refine ⟨by omega, .inr ?_⟩
  have e : (t + 1) * (b0 * 18446744073709551616 + b1) = (t * b0 + b0) * 18446744073709551616 + (t + 1) * b1 := by grind
  have h1 : 0 ≤ (t + 1) * b1 := Int.mul_nonneg (by omega) hb2
  omega

theorem wp_scope_jumps' {P : Program} {a : Act} {w : World} {Q : Exit → Act → World → Prop} {c rest : Code} (l : Nat) (J : Act → World → Prop) (μ : Act → World → Nat) (hf : findLabel c l = some (Code.seq .skip rest))
    (pass : ∀ a w, J a w → rest.wp P (Exit.jump l (fun a' w' => J a' w' ∧ μ a' w' < μ a w) Q) a w)
    (first : (∀ a w, J a w → rest.wp P (Exit.jump l J Q) a w) → c.wp P (Exit.jump l J Q) a w) : (Code.scope c).wp P Q a w :=
  wp_scope_jumps l J μ hf (first fun a w h => wp_mono (pass a w h) fun e a w hq => by
    cases e with
    | goto l' => exact ⟨hq.1, hq.2.1⟩
    | _ => exact hq) fun a w h => wp_seq (wp_skip (pass a w h))

end Go.Proofs.YtcdbjlmegkcaiaaGreatDoor
namespace Go.Proofs.YtcdbjlmegkcaiaaGreatDoor
open Go.RowKit
set_option linter.unusedVariables false

/-- the block g, of K cells, begins with the numbers of l -/
def Pre (w : World) (g K : Nat) (l : List Int) : Prop := ∃ cur : Array Value, w.heap[g]? = some (.cells cur 62 (0, 0)) ∧ cur.size = K ∧ cur.toList.take l.length = L l
section
variable {w w' : World} {g K B : Nat} {l : List Int}
theorem Row.pre (h : Row w g l) : Pre w g l.length l := ⟨_, h, by simp [L], by rw [List.take_of_length_le (by simp [L])]⟩
theorem Pre.lt (h : Pre w g K l) : g < w.heap.size := by obtain ⟨cur, h, _⟩ := h; exact lt_of_block h
theorem Pre.cell (h : Pre w g K l) {k : Nat} (hk : k < l.length) : w.cell? ⟨g, k, none⟩ = some (.int .u64 (D l k)) := by
  obtain ⟨cur, h1, h2, h3⟩ := h
  rw [cell_of_row w g k _ _ (0, 0) h1, ← L_get hk, ← h3, List.getElem?_take, if_pos hk]
  simp
theorem Pre.frozen (h : Pre w g K l) (k : Nat) : w.frozen? ⟨g, k, none⟩ = false := by
  obtain ⟨cur, h1, h2, h3⟩ := h
  simp [World.frozen?, h1]
theorem Pre.drew (h : Pre w g K l) : Pre w.drew g K l := h
theorem Pre.drewN (h : Pre w g K l) (n : Nat) : Pre (w.drewN n) g K l := h
theorem Pre.alloc (h : Pre w g K l) (o : Obj) : Pre (w.alloc o) g K l := by
  have hl := h.lt
  obtain ⟨cur, h1, h2⟩ := h
  exact ⟨cur, (Below.heap_alloc w o g hl).trans h1, h2⟩
theorem Pre.set_ (h : Pre w g K l) (k : Nat) (v : Int) : Pre (w.setCell ⟨g, k, none⟩ (.int .u64 v)) g K (l.set k v) := by
  obtain ⟨cur, h1, h2, h3⟩ := h
  refine ⟨cur.setIfInBounds k (.int .u64 v), ?_, by simpa using h2, ?_⟩
  · simp [World.setCell, Array.getElem?_modify, h1]
  · rw [List.length_set, Array.toList_setIfInBounds, List.take_set, h3]
    simp [L, List.map_set]
theorem Pre.far (h : Pre w g K l) {p : Addr} (hp : g ≠ p.block) (u : Value) : Pre (w.setCell p u) g K l := by
  obtain ⟨cur, h1, h2⟩ := h
  exact ⟨cur, (Below.heap_setCell w p u g hp).trans h1, h2⟩
theorem Pre.below (h : Pre w g K l) (hb : Below B w w') (hg : g < B) : Pre w' g K l := by
  obtain ⟨cur, h1, h2⟩ := h
  exact ⟨cur, (hb.block g hg).trans h1, h2⟩
theorem Pre.grown (h : Pre w g K l) {row : Option Nat} (hb : w.grownBy w' row) (hg : some g ≠ row) : Pre w' g K l := by
  have hl := h.lt
  obtain ⟨cur, h1, h2⟩ := h
  exact ⟨cur, (hb.block g hl hg).trans h1, h2⟩
theorem Own.pre {c : Nat} (h : Own w B (some ⟨g, 0, none⟩) c l) : Pre w g c l ∧ B ≤ g ∧ l.length ≤ c ∧ c ≤ maxLen := by
  rcases h.2 with ⟨h1, h2⟩ | ⟨g', cap, cur, hv, hg, hh, h3, h4, h5, h6⟩
  · cases h1
  · injection hv with hA hn hc
    injection hA with hA
    injection hA with hA
    subst hA; subst hc
    exact ⟨⟨cur, hh, by omega, by rw [Nat.mul_one] at h6; exact h6⟩, hg, h3, h4⟩
theorem Pre.own (h : Pre w g K l) (hB : B ≤ g) (h1 : l.length ≤ K) (h2 : K ≤ maxLen) : Own w B (some ⟨g, 0, none⟩) K l := by
  obtain ⟨cur, h3, h4, h5⟩ := h
  exact ⟨by rw [L_length]; omega, .inr ⟨g, K, cur, rfl, hB, h3, h1, h2, by omega, by rw [Nat.mul_one]; exact h5⟩⟩
end

/-- a step of a product that is taken off -/
def TakeStep (x y f c : Int) (b : Nat) (w : World) (e : Ending) (w' : World) : Prop :=
  ∃ z d : Int, e = .returned (.int .u64 z) ∧ 0 ≤ z ∧ z < 18446744073709551616 ∧ 0 ≤ d ∧ d < 18446744073709551616 ∧ Hid (x - (y * f + c) = z - d * 18446744073709551616) ∧ w.setCell ⟨b, 0, none⟩ (.int .u64 d) = w'

/-- the round of a product that is taken off -/
def TakeInv (K : Nat) (C0 m : List Int) (f : Int) (o g : Nat) (w0 : World) (k : Nat) (w : World) : Prop :=
  ∃ (C : List Int) (d : Int), C.length = C0.length ∧ Lim 18446744073709551616 C ∧ 0 ≤ d ∧ d < 18446744073709551616 ∧ Pre w g K C ∧ Row w w0.heap.size [f] ∧ Row w (w0.heap.size + 1) [d] ∧ w0.grownBy w (some g) ∧
    (∀ i, (i < o ∨ o + k ≤ i) → D C i = D C0 i) ∧
    S 18446744073709551616 (fun i => D C (o + i)) k - d * 18446744073709551616 ^ k = S 18446744073709551616 (fun i => D C0 (o + i)) k - S 18446744073709551616 (D m) k * f
theorem takeinv_step {K : Nat} {C0 m C : List Int} {f d z d' : Int} {o g k : Nat} {w0 w : World} (hC : C.length = C0.length) (hCl : Lim 18446744073709551616 C) (hr : Pre w g K C) (ha : Row w w0.heap.size [f]) (hc : Row w (w0.heap.size + 1) [d]) (hg : w0.grownBy w (some g))
    (ho : ∀ i, (i < o ∨ o + k ≤ i) → D C i = D C0 i)
    (he : S 18446744073709551616 (fun i => D C (o + i)) k - d * 18446744073709551616 ^ k = S 18446744073709551616 (fun i => D C0 (o + i)) k - S 18446744073709551616 (D m) k * f) (hk : o + k < C0.length) (hg0 : g < w0.heap.size)
    (hz0 : 0 ≤ z) (hz1 : z < 18446744073709551616) (hd0 : 0 ≤ d') (hd1 : d' < 18446744073709551616) (he' : D C (o + k) - (D m k * f + d) = z - d' * 18446744073709551616) :
    TakeInv K C0 m f o g w0 (k + 1) ((w.setCell ⟨w0.heap.size + 1, 0, none⟩ (.int .u64 d')).setCell ⟨g, o + k, none⟩ (.int .u64 z)) := by
  refine ⟨C.set (o + k) z, d', by simp [hC], hCl.set _ hz0 hz1, hd0, hd1, (hr.far (by simp; omega) _).set_ _ z, (ha.far (by simp) _).far (by simp; omega) _, (hc.set_ 0 d').far (by simp; omega) _, only_setCell (p := ⟨g, o + k, none⟩) (only_setCell (p := ⟨w0.heap.size + 1, 0, none⟩) hg (.inr (by simp)) _) (.inl rfl) _, fun i hi => ?_, ?_⟩
  · rw [D_set z i (by omega), if_neg (by omega)]; exact ho i (by omega)
  · rw [S_succ, S_succ, S_succ, S_congr (g := fun i => D C (o + i)) (fun i hi => by rw [D_set z (o + i) (by omega), if_neg (by omega)]), D_set z (o + k) (by omega), if_pos rfl, Int.pow_succ]
    have := ho (o + k) (by omega)
    rw [this] at he'
    grind
theorem TakeInv.drew {K : Nat} {C0 m : List Int} {f : Int} {o g k : Nat} {w0 w : World} (h : TakeInv K C0 m f o g w0 k w) : TakeInv K C0 m f o g w0 k w.drew := by
  obtain ⟨C, d, h1, h2, h3, h4, h5, h6, h7, h8, h9⟩ := h
  exact ⟨C, d, h1, h2, h3, h4, h5.drew, h6.drew, h7.drew, only_drew h8, h9⟩

/-- what is left; was it too little? -/
def TakePost (K : Nat) (C0 m : List Int) (f : Int) (o g : Nat) (w0 : World) (e : Ending) (w : World) : Prop :=
  ∃ (C : List Int) (d : Bool), e = .returned (.bool d) ∧ C.length = C0.length ∧ Lim 18446744073709551616 C ∧ Pre w g K C ∧ w0.grownBy w (some g) ∧
    Hid (∀ i, (i < o ∨ o + (m.length + 1) ≤ i) → D C i = D C0 i) ∧
    Hid (S 18446744073709551616 (fun i => D C (o + i)) (m.length + 1) - (if d then 18446744073709551616 ^ (m.length + 1) else 0) = S 18446744073709551616 (fun i => D C0 (o + i)) (m.length + 1) - val 18446744073709551616 m * f)

/-- the round of a giving back -/
def GiveInv (K : Nat) (C0 m : List Int) (n o g : Nat) (w0 : World) (k : Nat) (w : World) : Prop :=
  ∃ (C : List Int) (d : Int), C.length = C0.length ∧ Lim 18446744073709551616 C ∧ 0 ≤ d ∧ d ≤ 1 ∧ Pre w g K C ∧ Row w w0.heap.size [d] ∧ w0.grownBy w (some g) ∧
    (∀ i, (i < o ∨ o + k ≤ i) → D C i = D C0 i) ∧
    S 18446744073709551616 (fun i => D C (o + i)) k + d * 18446744073709551616 ^ k = S 18446744073709551616 (fun i => D C0 (o + i)) k + S 18446744073709551616 (D m) k
theorem giveinv_step {K : Nat} {C0 m C : List Int} {d z d' : Int} {n o g k : Nat} {w0 w : World} (hC : C.length = C0.length) (hCl : Lim 18446744073709551616 C) (hr : Pre w g K C) (hc : Row w w0.heap.size [d]) (hg : w0.grownBy w (some g))
    (ho : ∀ i, (i < o ∨ o + k ≤ i) → D C i = D C0 i)
    (he : S 18446744073709551616 (fun i => D C (o + i)) k + d * 18446744073709551616 ^ k = S 18446744073709551616 (fun i => D C0 (o + i)) k + S 18446744073709551616 (D m) k) (hk : o + k < C0.length) (hg0 : g < w0.heap.size)
    (hz0 : 0 ≤ z) (hz1 : z < 18446744073709551616) (hd0 : 0 ≤ d') (hd1 : d' ≤ 1) (he' : D C (o + k) + D m k + d = z + d' * 18446744073709551616) :
    GiveInv K C0 m n o g w0 (k + 1) ((w.setCell ⟨w0.heap.size, 0, none⟩ (.int .u64 d')).setCell ⟨g, o + k, none⟩ (.int .u64 z)) := by
  refine ⟨C.set (o + k) z, d', by simp [hC], hCl.set _ hz0 hz1, hd0, hd1, (hr.far (by simp; omega) _).set_ _ z, (hc.set_ 0 d').far (by simp; omega) _, only_setCell (p := ⟨g, o + k, none⟩) (only_setCell (p := ⟨w0.heap.size, 0, none⟩) hg (.inr (by simp)) _) (.inl rfl) _, fun i hi => ?_, ?_⟩
  · rw [D_set z i (by omega), if_neg (by omega)]; exact ho i (by omega)
  · rw [S_succ, S_succ, S_succ, S_congr (g := fun i => D C (o + i)) (fun i hi => by rw [D_set z (o + i) (by omega), if_neg (by omega)]), D_set z (o + k) (by omega), if_pos rfl, Int.pow_succ]
    have := ho (o + k) (by omega)
    rw [this] at he'
    grind
theorem GiveInv.drew {K : Nat} {C0 m : List Int} {n o g k : Nat} {w0 w : World} (h : GiveInv K C0 m n o g w0 k w) : GiveInv K C0 m n o g w0 k w.drew := by
  obtain ⟨C, d, h1, h2, h3, h4, h5, h6, h7, h8⟩ := h
  exact ⟨C, d, h1, h2, h3, h4, h5.drew, h6.drew, only_drew h7, h8⟩

def GivePost (K : Nat) (C0 m : List Int) (n o g : Nat) (w0 : World) (e : Ending) (w : World) : Prop :=
  ∃ (C : List Int) (d : Int), e = .returned (.tuple #[]) ∧ C.length = C0.length ∧ Lim 18446744073709551616 C ∧ Pre w g K C ∧ w0.grownBy w (some g) ∧
    Hid (∀ i, (i < o ∨ o + n ≤ i) → D C i = D C0 i) ∧
    Hid (S 18446744073709551616 (fun i => D C (o + i)) n + d * 18446744073709551616 ^ n = S 18446744073709551616 (fun i => D C0 (o + i)) n + val 18446744073709551616 m)

end Go.Proofs.YtcdbjlmegkcaiaaGreatDoor
namespace Go.Proofs.YtcdbjlmegkcaiaaGreatDoor
open Go.RowKit
set_option linter.unusedVariables false

/-- the estimate, reckoned -/
def est (r0 r1 r2 b0 b1 : Int) : Int := min 18446744073709551615 (((r0 * 18446744073709551616 + r1) * 18446744073709551616 + r2) / (b0 * 18446744073709551616 + b1))
theorem est_is {r0 r1 r2 b0 b1 t : Int} (hb0 : 0 < b0) (hb2 : 0 ≤ b1) (t1 : t ≤ 18446744073709551615)
    (h : t * (b0 * 18446744073709551616 + b1) ≤ (r0 * 18446744073709551616 + r1) * 18446744073709551616 + r2 ∧
      (t = 18446744073709551615 ∨ (r0 * 18446744073709551616 + r1) * 18446744073709551616 + r2 < (t + 1) * (b0 * 18446744073709551616 + b1))) : t = est r0 r1 r2 b0 b1 := by
  have hD : 0 < b0 * 18446744073709551616 + b1 := by omega
  unfold est
  generalize (r0 * 18446744073709551616 + r1) * 18446744073709551616 + r2 = N at *
  generalize b0 * 18446744073709551616 + b1 = Dd at *
  have h1 := (Int.le_ediv_iff_mul_le hD).2 h.1
  rcases h.2 with h2 | h2
  · omega
  · have h3 := (Int.ediv_lt_iff_lt_mul hD).2 h2
    omega

theorem est_spec {r0 r1 r2 b0 b1 : Int} (h00 : 0 ≤ r0) (h10 : 0 ≤ r1) (h20 : 0 ≤ r2) (hb0 : 0 < b0) (hb2 : 0 ≤ b1) :
    0 ≤ est r0 r1 r2 b0 b1 ∧ est r0 r1 r2 b0 b1 ≤ 18446744073709551615 ∧ est r0 r1 r2 b0 b1 * (b0 * 18446744073709551616 + b1) ≤ (r0 * 18446744073709551616 + r1) * 18446744073709551616 + r2 ∧
      (est r0 r1 r2 b0 b1 = 18446744073709551615 ∨ (r0 * 18446744073709551616 + r1) * 18446744073709551616 + r2 < (est r0 r1 r2 b0 b1 + 1) * (b0 * 18446744073709551616 + b1)) := by
  have hD : 0 < b0 * 18446744073709551616 + b1 := by omega
  unfold est
  have hN : 0 ≤ (r0 * 18446744073709551616 + r1) * 18446744073709551616 + r2 := by omega
  generalize (r0 * 18446744073709551616 + r1) * 18446744073709551616 + r2 = N at *
  generalize b0 * 18446744073709551616 + b1 = Dd at *
  have h0 : 0 ≤ N / Dd := Int.ediv_nonneg hN (Int.le_of_lt hD)
  refine ⟨by omega, by omega, (Int.le_ediv_iff_mul_le hD).1 (by omega), ?_⟩
  rcases (show 18446744073709551615 ≤ N / Dd ∨ N / Dd < 18446744073709551615 by omega) with h | h
  · exact .inl (by omega)
  · right
    have e : min 18446744073709551615 (N / Dd) = N / Dd := by omega
    rw [e]
    exact (Int.ediv_lt_iff_lt_mul hD).1 (by omega)

/-- one limb of a quotient, in plain numbers -/
theorem most_math {P V vl rl r0 r1 r2 b0 b1 R0 t : Int} (hP : 0 < P) (hV : V = (b0 * 18446744073709551616 + b1) * P + vl) (hv0 : 0 ≤ vl) (hv1 : vl < P) (hR : R0 = ((r0 * 18446744073709551616 + r1) * 18446744073709551616 + r2) * P + rl) (hr0 : 0 ≤ rl) (hr1 : rl < P)
    (hlt : R0 < V * 18446744073709551616) (hb0 : 1 ≤ b0) (hb2 : 0 ≤ b1) (h0 : 0 ≤ t) (h1 : t ≤ 18446744073709551615)
    (h2 : t * (b0 * 18446744073709551616 + b1) ≤ (r0 * 18446744073709551616 + r1) * 18446744073709551616 + r2)
    (h3 : t = 18446744073709551615 ∨ (r0 * 18446744073709551616 + r1) * 18446744073709551616 + r2 < (t + 1) * (b0 * 18446744073709551616 + b1)) :
    R0 - V * t < V ∧ - V ≤ R0 - V * t := by
  generalize (r0 * 18446744073709551616 + r1) * 18446744073709551616 + r2 = N at *
  constructor
  · rcases h3 with h3 | h3
    · subst h3; omega
    · generalize b0 * 18446744073709551616 + b1 = Dd at *
      have a := Int.mul_le_mul_of_nonneg_right (show N + 1 ≤ (t + 1) * Dd by omega) (Int.le_of_lt hP)
      have b : 0 ≤ (t + 1) * vl := Int.mul_nonneg (by omega) hv0
      have e1 : (N + 1) * P = N * P + P := by grind
      have e2 : (t + 1) * Dd * P = V * t + V - (t + 1) * vl := by rw [hV]; grind
      omega
  · have a := Int.mul_le_mul_of_nonneg_right h2 (Int.le_of_lt hP)
    have b : t * vl ≤ 18446744073709551615 * P := Int.mul_le_mul h1 (by omega) hv0 (by omega)
    have c : 0 ≤ (b0 - 1) * P := Int.mul_nonneg (by omega) (by omega)
    have d : 0 ≤ b1 * P := Int.mul_nonneg hb2 (by omega)
    have e1 : (b0 - 1) * P = b0 * P - P := by grind
    have e2 : V = b0 * P * 18446744073709551616 + b1 * P + vl := by rw [hV]; grind
    have e3 : V * t = t * (b0 * 18446744073709551616 + b1) * P + t * vl := by rw [hV]; grind
    omega
/-- what comes first is not above what is divided by -/
theorem most_top {P V vl rl r0 r1 r2 b0 b1 R0 : Int} (hP : 0 < P) (hV : V = (b0 * 18446744073709551616 + b1) * P + vl) (hv1 : vl < P) (hR : R0 = ((r0 * 18446744073709551616 + r1) * 18446744073709551616 + r2) * P + rl) (hr0 : 0 ≤ rl)
    (hlt : R0 < V * 18446744073709551616) (h1 : 0 ≤ r1) (h2 : 0 ≤ r2) (hb1 : b1 < 18446744073709551616) : r0 ≤ b0 := by
  rcases (show r0 ≤ b0 ∨ b0 + 1 ≤ r0 by omega) with h | h
  · exact h
  · have a : 0 ≤ (r0 - b0 - 1) * P := Int.mul_nonneg (by omega) (by omega)
    have b : 0 ≤ r1 * P := Int.mul_nonneg h1 (by omega)
    have c : 0 ≤ r2 * P := Int.mul_nonneg h2 (by omega)
    have d : 0 ≤ (18446744073709551615 - b1) * P := Int.mul_nonneg (by omega) (by omega)
    have e1 : (r0 - b0 - 1) * P = r0 * P - b0 * P - P := by grind
    have e2 : R0 = r0 * P * 18446744073709551616 * 18446744073709551616 + r1 * P * 18446744073709551616 + r2 * P + rl := by rw [hR]; grind
    have e3 : V * 18446744073709551616 = b0 * P * 18446744073709551616 * 18446744073709551616 + b1 * P * 18446744073709551616 + vl * 18446744073709551616 := by rw [hV]; grind
    have e4 : (18446744073709551615 - b1) * P = 18446744073709551615 * P - b1 * P := by grind
    omega
theorem S_top2 {f : Nat → Int} (n : Nat) : S 18446744073709551616 f (n + 2) = (f (n + 1) * 18446744073709551616 + f n) * 18446744073709551616 ^ n + S 18446744073709551616 f n := by
  rw [show n + 2 = n + 1 + 1 from rfl, S_succ, S_succ, Int.pow_succ]; grind
theorem S_top3 {f : Nat → Int} (n : Nat) : S 18446744073709551616 f (n + 3) = ((f (n + 2) * 18446744073709551616 + f (n + 1)) * 18446744073709551616 + f n) * 18446744073709551616 ^ n + S 18446744073709551616 f n := by
  rw [show n + 3 = n + 2 + 1 from rfl, S_succ, show n + 2 = n + 1 + 1 from rfl, S_succ, S_succ, Int.pow_succ, Int.pow_succ]; grind
theorem mixed : Tryz.prog.follows .mixedOrders = true := by kernel_rfl
/-- one limb of the quotient, and what is left -/
def MostPost (K : Nat) (C0 m : List Int) (o g : Nat) (w0 : World) (e : Ending) (w : World) : Prop :=
  ∃ (C : List Int) (t : Int), e = .returned (.int .u64 t) ∧ 0 ≤ t ∧ t < 18446744073709551616 ∧ C.length = C0.length ∧ Lim 18446744073709551616 C ∧ Pre w g K C ∧ w0.grownBy w (some g) ∧
    Hid (∀ i, (i < o ∨ o + (m.length + 1) ≤ i) → D C i = D C0 i) ∧
    Hid (S 18446744073709551616 (fun i => D C0 (o + i)) (m.length + 1) = t * val 18446744073709551616 m + S 18446744073709551616 (fun i => D C (o + i)) (m.length + 1) ∧
      S 18446744073709551616 (fun i => D C (o + i)) (m.length + 1) < val 18446744073709551616 m)

theorem only_of_below {a w : World} (h : Below a.heap.size a w) (row : Option Nat) : a.grownBy w row := ⟨h.os, h.tape, h.output, h.size, fun i hi _ => h.block i hi⟩

end Go.Proofs.YtcdbjlmegkcaiaaGreatDoor
namespace Go.Proofs.YtcdbjlmegkcaiaaGreatDoor
open Go.RowKit
set_option linter.unusedVariables false

/-- a quotient and a rest, in new memory -/
def Two (vl vm : Int) (w : World) (e : Ending) (w' : World) : Prop :=
  ∃ q r A1 c1 A2 c2, e = .returned (.tuple #[.slice A1 q.length c1, .slice A2 r.length c2]) ∧ Lim 18446744073709551616 q ∧ Lim 18446744073709551616 r ∧ Normal q ∧ Normal r ∧
    Hid (vl = val 18446744073709551616 q * vm + val 18446744073709551616 r ∧ val 18446744073709551616 r < vm) ∧ Own w' w.heap.size A1 c1 q ∧ Own w' w.heap.size A2 c2 r ∧ Below w.heap.size w w'

end Go.Proofs.YtcdbjlmegkcaiaaGreatDoor
namespace Go.Proofs.YtcdbjlmegkcaiaaGreatDoor
open Go.RowKit
set_option linter.unusedVariables false

theorem digit_zero {b : Int} (hb : 0 < b) {l : List Int} (hl : Lim b l) {e x : Nat} (h : val b l < b ^ e) (hx : e ≤ x) : D l x = 0 := by
  rcases Nat.lt_or_ge x l.length with g | g
  · have h0 := D_lim hb hl x
    rcases (show D l x = 0 ∨ 1 ≤ D l x by omega) with k | k
    · exact k
    · have h1 := val_take_drop b l (x + 1) (by omega)
      have h2 := val_bound hb (hl.drop (x + 1))
      have h3 := S_of_bound hb hl x
      have h4 := pow_pos' hb (x + 1)
      have h5 := pow_pos' hb x
      have h6 := pow_le' hb hx
      have h7 : 0 ≤ b ^ (x + 1) * val b (l.drop (x + 1)) := Int.mul_nonneg (by omega) h2.1
      have h8 : 0 ≤ (D l x - 1) * b ^ x := Int.mul_nonneg (by omega) (by omega)
      have h9 : (D l x - 1) * b ^ x = D l x * b ^ x - b ^ x := by grind
      rw [S_succ] at h1
      omega
  · exact D_out g

/-- the division's round, in plain numbers -/
theorem div_seg {R : List Int} {V : Int} {n i : Nat} (hR : Lim 18446744073709551616 R) (hi : i + n + 1 ≤ R.length) (hV : V < 18446744073709551616 ^ n) (hlt : val 18446744073709551616 R < V * 18446744073709551616 ^ (i + 1)) :
    val 18446744073709551616 R = S 18446744073709551616 (D R) i + 18446744073709551616 ^ i * S 18446744073709551616 (fun x => D R (i + x)) (n + 1) ∧ S 18446744073709551616 (fun x => D R (i + x)) (n + 1) < V * 18446744073709551616 := by
  have hp := pow_pos' (b := 18446744073709551616) (by omega) (i + 1)
  have h1 : val 18446744073709551616 R < 18446744073709551616 ^ (i + n + 1) := by
    have a := Int.mul_le_mul_of_nonneg_right (Int.le_of_lt hV) (Int.le_of_lt hp)
    rw [← Int.pow_add, show n + (i + 1) = i + n + 1 from by omega] at a
    omega
  have h2 : val 18446744073709551616 R = S 18446744073709551616 (D R) (i + (n + 1)) := by
    unfold val
    exact S_more (by omega) (fun x hx _ => digit_zero (by omega) hR h1 (by omega))
  rw [h2, S_split]
  refine ⟨rfl, ?_⟩
  rw [h2, S_split, Int.pow_succ] at hlt
  have h3 := S_of_bound (b := 18446744073709551616) (by omega) hR i
  have h4 := pow_pos' (b := 18446744073709551616) (by omega) i
  generalize S 18446744073709551616 (fun x => D R (i + x)) (n + 1) = T at *
  generalize S 18446744073709551616 (D R) i = U at *
  generalize (18446744073709551616 : Int) ^ i = P at *
  rcases (show T < V * 18446744073709551616 ∨ V * 18446744073709551616 ≤ T by omega) with h | h
  · exact h
  · have := Int.mul_le_mul_of_nonneg_left h (Int.le_of_lt h4)
    have e : P * (V * 18446744073709551616) = V * (P * 18446744073709551616) := by grind
    omega
theorem div_round {C R R' : List Int} {V V0 t : Int} {n i : Nat} (hC : i < C.length) (hR : Lim 18446744073709551616 R) (hR' : Lim 18446744073709551616 R') (hRl : R'.length = R.length) (hi : i + n + 1 ≤ R.length) (hV : V < 18446744073709551616 ^ n) (hlt : val 18446744073709551616 R < V * 18446744073709551616 ^ (i + 1))
    (he : V0 = val 18446744073709551616 (C.drop (i + 1)) * 18446744073709551616 ^ (i + 1) * V + val 18446744073709551616 R)
    (ho : ∀ x, (x < i ∨ i + (n + 1) ≤ x) → D R' x = D R x)
    (hs : S 18446744073709551616 (fun x => D R (i + x)) (n + 1) = t * V + S 18446744073709551616 (fun x => D R' (i + x)) (n + 1) ∧ S 18446744073709551616 (fun x => D R' (i + x)) (n + 1) < V) :
    V0 = val 18446744073709551616 ((C.set i t).drop i) * 18446744073709551616 ^ i * V + val 18446744073709551616 R' ∧ val 18446744073709551616 R' < V * 18446744073709551616 ^ i := by
  obtain ⟨h1, _⟩ := div_seg hR hi hV hlt
  have hp := pow_pos' (b := 18446744073709551616) (by omega) (i + 1)
  have h0 : val 18446744073709551616 R < 18446744073709551616 ^ (i + n + 1) := by
    have a := Int.mul_le_mul_of_nonneg_right (Int.le_of_lt hV) (Int.le_of_lt hp)
    rw [← Int.pow_add, show n + (i + 1) = i + n + 1 from by omega] at a
    omega
  have h2 : val 18446744073709551616 R' = S 18446744073709551616 (D R') (i + (n + 1)) := by
    unfold val
    exact S_more (by omega) (fun x hx _ => by rw [ho x (.inr (by omega))]; exact digit_zero (by omega) hR h0 (by omega))
  have h3 : S 18446744073709551616 (D R') i = S 18446744073709551616 (D R) i := S_congr fun x hx => ho x (.inl hx)
  rw [S_split, h3] at h2
  have h4 : val 18446744073709551616 ((C.set i t).drop i) = t + 18446744073709551616 * val 18446744073709551616 (C.drop (i + 1)) := by
    rw [val_drop _ _ _ (by rw [List.length_set]; exact hC), D_set _ _ hC, if_pos rfl, List.drop_set, if_pos (by omega)]
  have h5 := S_of_bound (b := 18446744073709551616) (by omega) hR i
  have h6 := pow_pos' (b := 18446744073709551616) (by omega) i
  rw [h4, h2]
  rw [h1, Int.pow_succ] at he
  obtain ⟨e1, e2⟩ := hs
  generalize S 18446744073709551616 (fun x => D R (i + x)) (n + 1) = T at *
  generalize S 18446744073709551616 (fun x => D R' (i + x)) (n + 1) = T' at *
  generalize S 18446744073709551616 (D R) i = U at *
  generalize (18446744073709551616 : Int) ^ i = P at *
  generalize val 18446744073709551616 (C.drop (i + 1)) = Q at *
  constructor
  · rw [he, e1]; grind
  · have := Int.mul_le_mul_of_nonneg_left (show T' + 1 ≤ V by omega) (Int.le_of_lt h6)
    have e : P * (T' + 1) = P * T' + P := by grind
    have e3 : P * V = V * P := Int.mul_comm _ _
    omega

/-- the division's end, in plain numbers -/
theorem div_end {vl vm q R P : Int} (hP : 0 < P) (h : vl * P = q * (vm * P) + R) (hR0 : 0 ≤ R) (hR : R < vm * P) : vl = q * vm + R / P ∧ R / P < vm := by
  have e : R = (vl - q * vm) * P := by
    have : (vl - q * vm) * P = vl * P - q * (vm * P) := by grind
    omega
  have h2 : R / P = vl - q * vm := by rw [e]; exact Int.mul_ediv_cancel _ (Int.ne_of_gt hP)
  refine ⟨by omega, ?_⟩
  exact (Int.ediv_lt_iff_lt_mul hP).2 hR

/-- a slice that begins a block, without the noughts at its end -/
theorem trim_pre {l : List Int} {g K n : Nat} {w0 w : World} (hn : l.length = n) (h : Pre w g K l) (hl : Lim 18446744073709551616 l) (hg : w0.heap.size ≤ g) (h1 : n ≤ K) (h2 : K ≤ maxLen) (hb : Below w0.heap.size w0 w) :
    Calls Tryz.prog 59 #[.slice (some ⟨g, 0, none⟩) n K] w fun e w' => (Made (val 18446744073709551616 l) w0) e w' ∧ w = w' := by
  subst hn
  have hown := h.own hg h1 h2
  refine (trim_any _ K l w w.heap.size hown.nums hl).mono ?_
  rintro e w' ⟨A', c', rfl, ht, rfl⟩
  exact ⟨⟨norm l, A', c', rfl, norm_lim hl, norm_normal l, norm_val _ l, ht.own hown, hb⟩, rfl⟩

/-- at the cut: what is left to be divided, one limb longer -/
def DivCut (l m d : List Int) (A3 : Option Addr) (c3 : Nat) (V0 : Int) (w0 : World) (s8 : Value) (w : World) : Prop :=
  ∃ (R : List Int) (g K : Nat), s8 = .slice (some ⟨g, 0, none⟩) (l.length + 1) K ∧ Hid (R.length = l.length + 1) ∧ Lim 18446744073709551616 R ∧ Hid (val 18446744073709551616 R = V0) ∧ Pre w g K R ∧ w0.heap.size + 1 ≤ g ∧
    Row w w0.heap.size (List.replicate (l.length - m.length + 1) 0) ∧ Nums w w.heap.size A3 c3 d ∧ (∀ ad, A3 = some ad → ad.block ≠ g ∧ w0.heap.size < ad.block) ∧ Below w0.heap.size w0 w ∧ l.length + 1 ≤ K ∧ K ≤ maxLen

end Go.Proofs.YtcdbjlmegkcaiaaGreatDoor
