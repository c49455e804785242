/-
  Layer 2: the reference of whole numbers.
-/
import Derived.Test.YtcdbjlmegkcaiaaGreatDoorZNR1
import Derived.Deep.RegionHeld3
import Derived.BigQuiet
namespace Go.Proofs.YtcdbjlmegkcaiaaGreatDoor
open Go.RowKit
set_option linter.unusedVariables false

/-! ### plain facts on bits -/
def bitB (l : List Int) (j : Nat) : Bool := decide (D l (j / 64) / 2 ^ (j % 64) % 2 = 1)

theorem ediv_of {a b q r : Int} (hb : 0 < b) (h : a = r + b * q) (r0 : 0 ≤ r) (r1 : r < b) : a / b = q := by
  rw [h, Int.add_mul_ediv_left _ _ (Int.ne_of_gt hb), Int.ediv_eq_zero_of_lt r0 r1, Int.zero_add]
theorem emod_of {a b q r : Int} (hb : 0 < b) (h : a = r + b * q) (r0 : 0 ≤ r) (r1 : r < b) : a % b = r := by
  rw [h, Int.add_mul_emod_self_left, Int.emod_eq_of_lt r0 r1]

/-- the number behind the lower limbs -/
theorem val_cut {l : List Int} (hl : Lim 18446744073709551616 l) (q : Nat) : val 18446744073709551616 l / 18446744073709551616 ^ q = val 18446744073709551616 (l.drop q) := by
  rcases Nat.lt_or_ge l.length q with h | h
  · have b := val_bound (b := 18446744073709551616) (by omega) hl
    have := pow_le' (b := 18446744073709551616) (by omega) (show l.length ≤ q by omega)
    rw [List.drop_of_length_le (by omega), val_nil]
    exact Int.ediv_eq_zero_of_lt b.1 (by omega)
  · have h1 := val_take_drop 18446744073709551616 l q h
    have h2 := S_of_bound (b := 18446744073709551616) (by omega) hl q
    exact ediv_of (pow_pos' (by omega) q) h1 h2.1 h2.2
theorem drop_head {l : List Int} (q : Nat) : ∃ T : Int, val 18446744073709551616 (l.drop q) = D l q + 18446744073709551616 * T := by
  rcases hd : l.drop q with _ | ⟨x, m⟩
  · have : D l q = 0 := by
      have h := D_drop l q 0
      rw [hd, D_nil] at h
      simpa using h.symm
    exact ⟨0, by rw [this, val_nil]; rfl⟩
  · have h := D_drop l q 0
    rw [hd, D_cons_zero] at h
    refine ⟨val 18446744073709551616 m, ?_⟩
    rw [val_cons, h]
    rfl
theorem bit_val {l : List Int} (hl : Lim 18446744073709551616 l) (j : Nat) : D l (j / 64) / 2 ^ (j % 64) % 2 = val 18446744073709551616 l / 2 ^ j % 2 := by
  obtain ⟨q, hq⟩ : ∃ q, j / 64 = q := ⟨_, rfl⟩
  obtain ⟨r, hr⟩ : ∃ r, j % 64 = r := ⟨_, rfl⟩
  have hj : j = 64 * q + r := by omega
  have hr64 : r < 64 := by omega
  rw [hq, hr, hj, pow_limbs, ← Int.ediv_ediv_of_nonneg (Int.le_of_lt (pow_pos' (by omega) q)), val_cut hl q]
  obtain ⟨T, hT⟩ := drop_head (l := l) q
  rw [hT]
  have hs := pow_split (s := r) (by omega)
  have he : (2 : Int) ^ (64 - r) = 2 ^ (63 - r) * 2 := by rw [← Int.pow_succ]; congr 1; omega
  have h2 : D l q + 18446744073709551616 * T = D l q + 2 ^ r * (2 * (2 ^ (63 - r) * T)) := by
    rw [← hs, he]
    grind
  rw [h2, Int.add_mul_ediv_left _ _ (Int.ne_of_gt (two_pos r)), Int.add_mul_emod_self_left]
theorem bitB_val {l : List Int} (hl : Lim 18446744073709551616 l) (j : Nat) : bitB l j = decide (val 18446744073709551616 l / 2 ^ j % 2 = 1) := by
  unfold bitB
  rw [bit_val hl]

/-- v's lower j bits are noughts, and so is the next one, or it is the lowest -/
theorem low_step {v : Int} {j : Nat} (hz : v % 2 ^ j = 0) (hb : v / 2 ^ j % 2 ≠ 1) : v % 2 ^ (j + 1) = 0 := by
  have hp := two_pos j
  have e := Int.mul_ediv_add_emod v (2 ^ j)
  rw [hz] at e
  have h2 : v / 2 ^ j % 2 = 0 := by omega
  obtain ⟨q, hq⟩ := Int.dvd_of_emod_eq_zero h2
  rw [← e, hq, Int.pow_succ]
  have : (2 : Int) ^ j * (2 * q) + 0 = 2 ^ j * 2 * q := by grind
  rw [this, Int.mul_emod_right]
theorem low_is {v : Int} {j : Nat} (h0 : 0 ≤ v) (hz : v % 2 ^ j = 0) (hb : v / 2 ^ j % 2 = 1) : v ≠ 0 ∧ IsZeros v j := by
  have hp := two_pos j
  have e := Int.mul_ediv_add_emod v (2 ^ j)
  rw [hz] at e
  have h1 : 0 ≤ v / 2 ^ j := Int.ediv_nonneg h0 (Int.le_of_lt hp)
  refine ⟨fun h => ?_, v / 2 ^ j / 2, by omega, ?_⟩
  · rw [h, Int.zero_ediv] at hb; cases hb
  · have : v / 2 ^ j = 2 * (v / 2 ^ j / 2) + 1 := by omega
    rw [← this]; omega
theorem IsZeros.unique {v : Int} {m n : Nat} (h : IsZeros v m) (k : IsZeros v n) : m = n := by
  have h1 := lost_of (j := m + 1) h
  have h2 := lost_of (j := m) h
  rw [lost_of k] at h1 h2
  simp at h1 h2
  omega

/-! ### the walks -/
/-- what the reference's Bits leaves -/
def RBitsPost (v : Int) (w : World) (e : Ending) (w' : World) : Prop := ∃ k : Nat, e = .returned (.int .i64 k) ∧ IsBits v k ∧ Below w.heap.size w w'

def RZerosPost (v : Int) (w : World) (e : Ending) (w' : World) : Prop := ∃ k : Nat, e = .returned (.int .i64 k) ∧ (v = 0 → k = 0) ∧ (v ≠ 0 → IsZeros v k) ∧ Below w.heap.size w w'

/-! ### NatBits (written by wip/tools/gen_bits.py) -/
end Go.Proofs.YtcdbjlmegkcaiaaGreatDoor
namespace Go.Proofs.YtcdbjlmegkcaiaaGreatDoor
open Go.RowKit
set_option linter.unusedVariables false

/-! ### plain facts on halves -/
def cutL : List Int → List Int
  | [] => []
  | x :: l => x % 4294967296 :: x / 4294967296 :: cutL l
theorem cutL_append (l m : List Int) : cutL (l ++ m) = cutL l ++ cutL m := by
  induction l with
  | nil => rfl
  | cons x l ih => simp [cutL, ih]
theorem cutL_length (l : List Int) : (cutL l).length = 2 * l.length := by
  induction l with
  | nil => rfl
  | cons x l ih => simp only [cutL, List.length_cons, ih]; omega
theorem cutL_lim {l : List Int} (h : Lim 18446744073709551616 l) : Lim 4294967296 (cutL l) := by
  induction l with
  | nil => exact Lim.nil _
  | cons x l ih =>
    obtain ⟨hx, h2⟩ := h.cons
    intro y hy
    simp only [cutL, List.mem_cons] at hy
    rcases hy with rfl | rfl | hy
    · omega
    · omega
    · exact ih h2 y hy
theorem cutL_val (l : List Int) : val 4294967296 (cutL l) = val 18446744073709551616 l := by
  induction l with
  | nil => rfl
  | cons x l ih =>
    simp only [cutL]
    rw [val_cons, val_cons, val_cons, ih]
    omega
theorem cutL_take {l : List Int} {k : Nat} (hk : k < l.length) : cutL (l.take (k + 1)) = cutL (l.take k) ++ [D l k % 4294967296, D l k / 4294967296] := by
  rw [List.take_add_one, cutL_append, List.getElem?_eq_getElem hk, D_in hk]
  rfl
theorem lim_half {l : List Int} (h : Lim 4294967296 l) : Lim 18446744073709551616 l := fun x hx => by have := h x hx; omega

/-! ### put together -/
theorem half_pow (k : Nat) : (4294967296 : Int) ^ (2 * k) = 18446744073709551616 ^ k := by
  rw [Int.pow_mul]
  rfl
theorem half_pow1 (k : Nat) : (4294967296 : Int) ^ (2 * k + 1) = 18446744073709551616 ^ k * 4294967296 := by
  rw [Int.pow_succ, half_pow]

/-- the list put together so far -/
def Joins (l : List Int) (k : Nat) (C : List Int) : Prop :=
  C.length = k ∧ Lim 18446744073709551616 C ∧ val 18446744073709551616 C = S 4294967296 (D l) (2 * k)
theorem Joins.step {l C : List Int} {k : Nat} (h : Joins l k C) (hl : Lim 4294967296 l) : Joins l (k + 1) (C ++ [D l (2 * k) + D l (2 * k + 1) * 4294967296]) := by
  obtain ⟨h1, h2, h3⟩ := h
  have a := D_lim (b := 4294967296) (by omega) hl (2 * k)
  have b := D_lim (b := 4294967296) (by omega) hl (2 * k + 1)
  refine ⟨by simp [h1], h2.snoc (by omega) (by omega), ?_⟩
  rw [val_append, val_cons, val_nil, h3, h1, show 2 * (k + 1) = 2 * k + 1 + 1 from by omega, S_succ, S_succ, half_pow1, half_pow]
  grind

/-! ### digits, sums -/
def AddInv (x y C : List Int) (d : Int) (k : Nat) : Prop :=
  C.length = k ∧ Lim 4294967296 C ∧ 0 ≤ d ∧ d ≤ 1 ∧ val 4294967296 C + d * 4294967296 ^ k = S 4294967296 (D x) k + S 4294967296 (D y) k
theorem AddInv.step {x y C : List Int} {d n : Int} {k : Nat} (h : AddInv x y C d k) (hx : Lim 4294967296 x) (hy : Lim 4294967296 y) (hn : D x k + D y k + d = n) : AddInv x y (C ++ [n % 4294967296]) (n / 4294967296) (k + 1) := by
  obtain ⟨rfl, h2, h3, h4, h5⟩ := h
  have a := D_lim (b := 4294967296) (by omega) hx C.length
  have b := D_lim (b := 4294967296) (by omega) hy C.length
  refine ⟨by simp, h2.snoc (by omega) (by omega), by omega, by omega, ?_⟩
  have e : n = n % 4294967296 + n / 4294967296 * 4294967296 := by omega
  rw [val_append, val_cons, val_nil, S_succ, S_succ, Int.pow_succ]
  generalize n % 4294967296 = r at *
  generalize n / 4294967296 = q at *
  grind
theorem AddInv.fin {x y C : List Int} {d : Int} {k : Nat} (h : AddInv x y C d k) (hx : x.length ≤ k) (hy : y.length ≤ k) : val 4294967296 (C ++ [d]) = val 4294967296 x + val 4294967296 y := by
  obtain ⟨rfl, h2, h3, h4, h5⟩ := h
  rw [S_val hx, S_val hy] at h5
  rw [val_append, val_cons, val_nil, ← h5]
  grind

/-! ### NatAdds (the walk is written by wip/tools/gen_adds.py) -/
/-- a new number of this value -/
def NewV (v : Int) (w : World) (e : Ending) (w' : World) : Prop :=
  ∃ l A c, e = .returned (.slice A l.length c) ∧ Normal l ∧ Hid (val 18446744073709551616 l = v) ∧ Lv w' A l.length c l ∧ Below w.heap.size w w'
theorem Made.newV {v : Int} {w w' : World} {e : Ending} (h : Made v w e w') : NewV v w e w' := by
  obtain ⟨s, A, c, h1, h2, h3, h4, h5, h6⟩ := h
  exact ⟨s, A, c, h1, h3, h4, ⟨rfl, h5.nums, h2⟩, h6⟩
theorem bd60 {a b : Int} (a0 : 0 ≤ a) (b0 : 0 ≤ b) (a1 : a < 18446744073709551616 ^ 60) (b1 : b < 18446744073709551616 ^ 60) :
    a + b < 18446744073709551616 ^ 4096 ∧ a * b < 18446744073709551616 ^ 4096 := by
  have e : (18446744073709551616 : Int) ^ 121 ≤ 18446744073709551616 ^ 4096 := pow_le' (by omega) (by omega)
  have e2 : (18446744073709551616 : Int) ^ 121 = 18446744073709551616 ^ 60 * 18446744073709551616 ^ 60 * 18446744073709551616 := by rw [← Int.pow_add, ← Int.pow_succ]
  have hp : (1 : Int) ≤ 18446744073709551616 ^ 60 := Int.pow_pos (by omega)
  generalize (18446744073709551616 : Int) ^ 4096 = K at *
  generalize (18446744073709551616 : Int) ^ 121 = Q at *
  generalize (18446744073709551616 : Int) ^ 60 = P at *
  have h1 : a * b ≤ P * P := Int.mul_le_mul (by omega) (by omega) (by omega) (by omega)
  have h4 : 1 * P ≤ P * P := Int.mul_le_mul_of_nonneg_right hp (by omega)
  generalize P * P = R at *
  generalize a * b = X at *
  exact ⟨by omega, by omega⟩

end Go.Proofs.YtcdbjlmegkcaiaaGreatDoor
namespace Go.Proofs.YtcdbjlmegkcaiaaGreatDoor
open Go.RowKit
set_option linter.unusedVariables false

/-! ### differences -/
def SubInv (x y C : List Int) (d : Int) (k : Nat) : Prop :=
  C.length = k ∧ Lim 4294967296 C ∧ 0 ≤ d ∧ d ≤ 1 ∧ val 4294967296 C + S 4294967296 (D y) k = S 4294967296 (D x) k + d * 4294967296 ^ k
theorem SubInv.step {x y C : List Int} {d n : Int} {k : Nat} (h : SubInv x y C d k) (hx : Lim 4294967296 x) (hy : Lim 4294967296 y) (hn : 4294967296 + D x k - D y k - d = n) : SubInv x y (C ++ [n % 4294967296]) (1 - n / 4294967296) (k + 1) := by
  obtain ⟨rfl, h2, h3, h4, h5⟩ := h
  have a := D_lim (b := 4294967296) (by omega) hx C.length
  have b := D_lim (b := 4294967296) (by omega) hy C.length
  refine ⟨by simp, h2.snoc (by omega) (by omega), by omega, by omega, ?_⟩
  have e : n = n % 4294967296 + n / 4294967296 * 4294967296 := by omega
  rw [val_append, val_cons, val_nil, S_succ, S_succ, Int.pow_succ]
  generalize n % 4294967296 = r at *
  generalize n / 4294967296 = q at *
  grind
theorem S_le_val {b : Int} {l : List Int} (hb : 0 < b) (h : Lim b l) (k : Nat) : S b (D l) k ≤ val b l := by
  rcases Nat.lt_or_ge l.length k with g | g
  · rw [S_val (by omega)]; omega
  · have h1 := val_take_drop b l k g
    have h2 := (val_bound hb (h.drop k)).1
    have := Int.mul_nonneg (Int.le_of_lt (pow_pos' hb k)) h2
    omega
theorem S_eq_val {b : Int} {l : List Int} (hb : 0 < b) (h : Lim b l) {k : Nat} (hlt : val b l < b ^ k) : S b (D l) k = val b l := by
  rcases Nat.lt_or_ge l.length k with g | g
  · rw [S_val (by omega)]
  · have h1 := val_take_drop b l k g
    have h2 := (val_bound hb (h.drop k)).1
    have h3 := (S_of_bound hb h k).1
    have hp := pow_pos' hb k
    generalize val b (l.drop k) = T at *
    have : T = 0 := by
      rcases Int.lt_trichotomy T 0 with g2 | g2 | g2
      · omega
      · exact g2
      · have := Int.mul_le_mul_of_nonneg_left (show 1 ≤ T by omega) (Int.le_of_lt hp)
        omega
    rw [this] at h1
    omega
theorem SubInv.fin {x y C : List Int} {d : Int} {k : Nat} (h : SubInv x y C d k) (hx : Lim 4294967296 x) (hy : Lim 4294967296 y) (hk : x.length = k) (hle : val 4294967296 y ≤ val 4294967296 x) : val 4294967296 C = val 4294967296 x - val 4294967296 y := by
  obtain ⟨rfl, h2, h3, h4, h5⟩ := h
  have a := val_bound (b := 4294967296) (by omega) hx
  have b := S_le_val (b := 4294967296) (by omega) hy C.length
  have c := val_bound (b := 4294967296) (by omega) h2
  rw [hk] at a
  rw [S_eq_val (by omega) hy (by omega), S_val (by omega)] at h5
  have : d = 0 := by
    rcases (show d = 0 ∨ d = 1 by omega) with g | g
    · exact g
    · rw [g] at h5; omega
  rw [this] at h5
  omega

/-! ### products -/
/-- within a row -/
def RowInv (C0 C y : List Int) (f d : Int) (o k : Nat) : Prop :=
  C.length = C0.length ∧ Lim 4294967296 C ∧ 0 ≤ d ∧ d < 4294967296 ∧ (∀ i, (i < o ∨ o + k ≤ i) → D C i = D C0 i) ∧
    S 4294967296 (fun i => D C (o + i)) k + d * 4294967296 ^ k = S 4294967296 (fun i => D C0 (o + i)) k + S 4294967296 (D y) k * f
theorem half_mul {a b : Int} (a0 : 0 ≤ a) (a1 : a < 4294967296) (b0 : 0 ≤ b) (b1 : b < 4294967296) : 0 ≤ a * b ∧ a * b ≤ 18446744065119617025 := by
  refine ⟨Int.mul_nonneg a0 b0, ?_⟩
  have : a * b ≤ 4294967295 * 4294967295 := Int.mul_le_mul (by omega) (by omega) (by omega) (by omega)
  omega
theorem RowInv.step {C0 C y : List Int} {f d n : Int} {o k j : Nat} (h : RowInv C0 C y f d o k) (hy : Lim 4294967296 y) (f0 : 0 ≤ f) (f1 : f < 4294967296) (hj : o + k = j) (hk : j < C0.length) (hn : D C j + f * D y k + d = n) :
    RowInv C0 (C.set j (n % 4294967296)) y f (n / 4294967296) o (k + 1) := by
  obtain ⟨h1, h2, h3, h4, h5, h6⟩ := h
  have a := D_lim (b := 4294967296) (by omega) h2 j
  have b := D_lim (b := 4294967296) (by omega) hy k
  have c := half_mul f0 f1 b.1 b.2
  refine ⟨by simp [h1], h2.set _ (by omega) (by omega), by omega, by omega, fun i hi => ?_, ?_⟩
  · rw [D_set _ i (by omega), if_neg (by omega)]; exact h5 i (by omega)
  · have e : n = n % 4294967296 + n / 4294967296 * 4294967296 := by omega
    have e2 := h5 j (by omega)
    rw [S_succ, S_succ, S_succ, S_congr (g := fun i => D C (o + i)) (fun i hi => by rw [D_set _ (o + i) (by omega), if_neg (by omega)]), D_set _ (o + k) (by omega), if_pos hj, Int.pow_succ, hj]
    rw [e2] at hn
    generalize n % 4294967296 = r at *
    generalize n / 4294967296 = q at *
    grind
/-- ahead of a row -/
def OutInv (x y C : List Int) (k : Nat) : Prop :=
  C.length = x.length + y.length + 1 ∧ Lim 4294967296 C ∧ (∀ i, k + y.length ≤ i → D C i = 0) ∧ S 4294967296 (D C) (k + y.length) = S 4294967296 (D x) k * val 4294967296 y
theorem OutInv.start (x y : List Int) : OutInv x y (List.replicate (x.length + y.length + 1) 0) 0 :=
  ⟨by simp, Lim.zeros (by omega) _, fun i _ => D_replicate _ i, by rw [S_nil (fun i _ => D_replicate _ i)]; simp [S]⟩
theorem OutInv.row {x y C : List Int} {k : Nat} (h : OutInv x y C k) : RowInv C C y (D x k) 0 k 0 :=
  ⟨rfl, h.2.1, by omega, by omega, fun _ _ => rfl, by simp [S]⟩
theorem OutInv.step {x y C C' : List Int} {d : Int} {k j : Nat} (h : OutInv x y C k) (hr : RowInv C C' y (D x k) d k y.length) (hk : k < x.length) (hj : k + y.length = j) : OutInv x y (C'.set j d) (k + 1) := by
  obtain ⟨h1, h2, h3, h4⟩ := h
  obtain ⟨r1, r2, r3, r4, r5, r6⟩ := hr
  subst hj
  refine ⟨by simp [r1, h1], r2.set _ r3 r4, fun i hi => ?_, ?_⟩
  · rw [D_set d i (by omega), if_neg (by omega), r5 i (by omega)]; exact h3 i (by omega)
  · rw [show k + 1 + y.length = k + y.length + 1 from by omega, S_succ, S_succ, D_set d _ (by omega), if_pos rfl]
    rw [S_congr (g := D C') (fun i hi => by rw [D_set d i (by omega), if_neg (by omega)]), S_split, S_congr (g := D C) (k := k) (fun i hi => r5 i (by omega))]
    rw [S_split] at h4
    rw [S_val (Nat.le_refl _)] at r6
    rw [Int.pow_add]
    grind
theorem OutInv.fin {x y C : List Int} (h : OutInv x y C x.length) : val 4294967296 C = val 4294967296 x * val 4294967296 y := by
  obtain ⟨h1, h2, h3, h4⟩ := h
  rw [S_val (Nat.le_refl _)] at h4
  rw [← h4]
  unfold val
  rw [h1]
  exact S_more (by omega) (fun i hi _ => h3 i hi)

end Go.Proofs.YtcdbjlmegkcaiaaGreatDoor
namespace Go.Proofs.YtcdbjlmegkcaiaaGreatDoor
open Go.RowKit
set_option linter.unusedVariables false

section
variable {A A2 : Option Addr} {n m c c2 : Nat} {l s : List Int} {w : World} (h : Lv w A n c l) (h2 : Lv w A2 m c2 s)
include h
include h2
end
theorem len_val {l : List Int} {k : Nat} {v : Int} (h : Lim 18446744073709551616 l) (hn : Normal l) (hv : val 18446744073709551616 l = v) (hk : v < 18446744073709551616 ^ k) : l.length ≤ k :=
  length_le_of_lt (b := 18446744073709551616) (by omega) h hn (by rw [hv]; exact hk)
theorem norm_self {l : List Int} (h : Lim 18446744073709551616 l) (hn : Normal l) : norm l = l := norm_of_normal (b := 18446744073709551616) (by omega) h hn
theorem lim_one : Lim 18446744073709551616 [1] := by intro x hx; simp at hx; omega
theorem div_facts {a q b r P : Int} (q0 : 0 ≤ q) (b0 : 0 < b) (r0 : 0 ≤ r) (h : a = q * b + r) (ha : a < P) : q < P ∧ r < P ∧ q * b < P := by
  have h1 : 0 ≤ q * (b - 1) := Int.mul_nonneg q0 (by omega)
  have h2 : q * (b - 1) = q * b - q := by grind
  exact ⟨by omega, by omega, by omega⟩
theorem root_facts {a s r P : Int} (h : IsRoot a s r) (ha : a < P) (h1 : 1 < P) : s < P ∧ r < P ∧ s * s < P ∧ s + 1 < 2 * P ∧ (s + 1) * (s + 1) < 4 * P ∧ a < (s + 1) * (s + 1) := by
  obtain ⟨e, s0, r0, hr⟩ := h
  have h2 : (s + 1) * (s + 1) = s * s + 2 * s + 1 := by grind
  have h3 : 0 ≤ s * (s - 1) ∨ s = 0 := by
    rcases (show s = 0 ∨ 1 ≤ s by omega) with h | h
    · exact .inr h
    · exact .inl (Int.mul_nonneg s0 (by omega))
  have h4 : s * (s - 1) = s * s - s := by grind
  rw [h2]
  rcases h3 with h3 | h3
  · refine ⟨by omega, by omega, by omega, by omega, by omega, by omega⟩
  · subst h3
    simp at *
    omega

end Go.Proofs.YtcdbjlmegkcaiaaGreatDoor
namespace Go.Proofs.YtcdbjlmegkcaiaaGreatDoor
open Go.RowKit
set_option linter.unusedVariables false

theorem val_set (b : Int) : ∀ (l : List Int) (i : Nat) (v : Int), i < l.length → val b (l.set i v) = val b l + (v - D l i) * b ^ i
  | [], i, v, h => by simp at h
  | x :: l, 0, v, h => by
    rw [List.set_cons_zero, val_cons, val_cons, D_cons_zero]
    simp
    omega
  | x :: l, i + 1, v, h => by
    rw [List.set_cons_succ, val_cons, val_cons, D_cons_succ, val_set b l i v (by simpa using h), Int.pow_succ]
    grind

theorem pow_word {r : Nat} (hr : r < 64) : (2 : Int) ^ r ≤ 9223372036854775808 := by
  have := pow_le' (b := 2) (by omega) (show r ≤ 63 by omega)
  have e : (2 : Int) ^ 63 = 9223372036854775808 := by decide
  omega

theorem L_set (l : List Int) (q : Nat) (p : Int) : L (l.set q p) = (L l).set q (.int .u64 p) := by simp [L, List.map_set]

/-! ### shifted down, bit by bit -/
theorem mod_step {v : Int} (h0 : 0 ≤ v) (t : Nat) : v % 2 ^ (t + 1) = v % 2 ^ t + 2 ^ t * (v / 2 ^ t % 2) := by
  have hp := two_pos t
  have h1 := Int.mul_ediv_add_emod v (2 ^ t)
  have h2 := Int.emod_nonneg v (Int.ne_of_gt hp)
  have h3 := Int.emod_lt_of_pos v hp
  have h4 := Int.mul_ediv_add_emod (v / 2 ^ t) 2
  generalize v % 2 ^ t = R at *
  generalize v / 2 ^ t = Q at *
  have hq : Q % 2 = 0 ∨ Q % 2 = 1 := by omega
  rw [Int.pow_succ]
  refine emod_of (q := Q / 2) (by omega) ?_ ?_ ?_
  · rw [← h1]
    generalize (2 : Int) ^ t = P at *
    generalize Q / 2 = Z at *
    generalize Q % 2 = Y at *
    rw [← h4]
    grind
  · rcases hq with h | h <;> rw [h] <;> omega
  · rcases hq with h | h <;> rw [h] <;> omega
theorem lost_step {v : Int} (h0 : 0 ≤ v) (t : Nat) : lostB v (t + 1) = (lostB v t || decide (v / 2 ^ t % 2 = 1)) := by
  have hp := two_pos t
  have h2 := Int.emod_nonneg v (Int.ne_of_gt hp)
  have hs := mod_step h0 t
  have hq : v / 2 ^ t % 2 = 0 ∨ v / 2 ^ t % 2 = 1 := by omega
  unfold lostB
  rw [hs]
  rcases hq with h | h
  · rw [h]; simp
  · rw [h]
    have : v % 2 ^ t + 2 ^ t * 1 ≠ 0 := by omega
    simp
    omega
/-- the digit in which the next bit is set has room for it -/
theorem bit_room {l : List Int} {q r : Nat} (hl : Lim 18446744073709551616 l) (hv : val 18446744073709551616 l < 2 ^ (64 * q + r)) : D l q < 2 ^ r := by
  have h1 := S_of_bound (b := 18446744073709551616) (by omega) hl q
  have h2 : S 18446744073709551616 (D l) (q + 1) ≤ val 18446744073709551616 l := S_le_val (by omega) hl (q + 1)
  rw [S_succ] at h2
  rw [pow_limbs] at hv
  have hp := pow_pos' (b := 18446744073709551616) (by omega) q
  generalize (18446744073709551616 : Int) ^ q = P at *
  generalize (2 : Int) ^ r = R at *
  generalize D l q = x at *
  rcases (show x < R ∨ R ≤ x by omega) with h | h
  · exact h
  · have := Int.mul_le_mul_of_nonneg_left h (Int.le_of_lt hp)
    have e : P * x = x * P := Int.mul_comm _ _
    omega
def DownInv (v : Int) (j n t : Nat) (C : List Int) : Prop := C.length = n ∧ Lim 18446744073709551616 C ∧ val 18446744073709551616 C = v % 2 ^ t / 2 ^ j
theorem pow_parts {j t : Nat} (h : j ≤ t) : (2 : Int) ^ t = 2 ^ j * 2 ^ (t - j) := by rw [← Int.pow_add]; congr 1; omega
theorem shr_bit {v : Int} {j t : Nat} (h0 : 0 ≤ v) (hjt : j ≤ t) (hb : v / 2 ^ t % 2 = 1) : v % 2 ^ (t + 1) / 2 ^ j = v % 2 ^ t / 2 ^ j + 2 ^ (t - j) := by
  rw [mod_step h0, hb, Int.mul_one, pow_parts hjt, Int.add_mul_ediv_left _ _ (Int.ne_of_gt (two_pos j))]
theorem shr_small {v : Int} {j t : Nat} (h0 : 0 ≤ v) (hjt : j ≤ t) : v % 2 ^ t / 2 ^ j < 2 ^ (t - j) := by
  refine Int.ediv_lt_of_lt_mul (two_pos j) ?_
  rw [Int.mul_comm, ← pow_parts hjt]
  exact Int.emod_lt_of_pos v (two_pos t)
theorem DownInv.step0 {v : Int} {j n t : Nat} {C : List Int} (h : DownInv v j n t C) (h0 : 0 ≤ v) (hb : v / 2 ^ t % 2 ≠ 1) : DownInv v j n (t + 1) C := by
  obtain ⟨h1, h2, h3⟩ := h
  have : v / 2 ^ t % 2 = 0 := by omega
  exact ⟨h1, h2, by rw [h3, mod_step h0, this]; simp⟩
theorem DownInv.step1 {v : Int} {j n t q r : Nat} {C : List Int} (h : DownInv v j n t C) (h0 : 0 ≤ v) (hjt : j ≤ t) (hb : v / 2 ^ t % 2 = 1) (hq : t - j = 64 * q + r) (hr : r < 64) (hqn : q < n) :
    0 ≤ D C q ∧ D C q + 2 ^ r < 18446744073709551616 ∧ DownInv v j n (t + 1) (C.set q (D C q + 2 ^ r)) := by
  obtain ⟨h1, h2, h3⟩ := h
  have hsm := shr_small (v := v) h0 hjt
  rw [hq] at hsm
  have hroom := bit_room h2 (by rw [h3]; exact hsm)
  have hw := pow_word hr
  have hp := two_pos r
  have hd := D_lim (b := 18446744073709551616) (by omega) h2 q
  refine ⟨hd.1, by omega, by simp [h1], h2.set _ (by omega) (by omega), ?_⟩
  rw [val_set _ _ _ _ (by omega), shr_bit h0 hjt hb, h3, hq, pow_limbs]
  grind
theorem DownInv.start {v : Int} {j n : Nat} (h0 : 0 ≤ v) : DownInv v j n j (List.replicate n 0) := by
  refine ⟨by simp, Lim.zeros (by omega) _, ?_⟩
  rw [val_replicate, Int.ediv_eq_zero_of_lt (Int.emod_nonneg v (Int.ne_of_gt (two_pos j))) (Int.emod_lt_of_pos v (two_pos j))]
theorem lost_all {v : Int} {b j : Nat} (hb : IsBits v b) (hj : b ≤ j) : lostB v b = lostB v j ∧ v / 2 ^ j = 0 := by
  have h1 := pow_le' (b := 2) (by omega) hj
  have h2 := hb.2.1
  unfold lostB
  rw [Int.emod_eq_of_lt hb.1 h2, Int.emod_eq_of_lt hb.1 (by omega)]
  exact ⟨rfl, Int.ediv_eq_zero_of_lt hb.1 (by omega)⟩

def RShrPost (v : Int) (j : Nat) (w : World) (e : Ending) (w' : World) : Prop :=
  ∃ l A c, e = .returned (.tuple #[.slice A l.length c, .bool (lostB v j)]) ∧ Normal l ∧ Hid (val 18446744073709551616 l = v / 2 ^ j) ∧ Lv w' A l.length c l ∧ Below w.heap.size w w'
theorem RShrPost.nil {v : Int} {b j : Nat} {w w' : World} (hb : IsBits v b) (hj : b ≤ j) (h : Below w.heap.size w w') (x : Bool) (hx : lostB v b = x) : RShrPost v j w (.returned (.tuple #[.slice none 0 0, .bool x])) w' := by
  have := lost_all hb hj
  exact ⟨[], none, 0, by rw [← hx, this.1]; rfl, Normal.nil, by show _ = _; rw [this.2, val_nil], lv_nil w', h⟩

/-! ### NatLeft, NatRight (the walks are written by wip/tools/gen_shift.py) -/
theorem left_bound {v : Int} (h0 : 0 ≤ v) (h1 : v < 18446744073709551616 ^ 60) {j : Nat} (hj : j ≤ 5000) : v * 2 ^ j < 18446744073709551616 ^ 4096 ∧ (2 : Int) ^ j < 18446744073709551616 ^ 4096 := by
  have h2 := pow_le' (b := 2) (by omega) hj
  have hp := two_pos j
  have e1 : (18446744073709551616 : Int) ^ 139 ≤ 18446744073709551616 ^ 4096 := pow_le' (by omega) (by omega)
  have e2 : (2 : Int) ^ 5000 ≤ 18446744073709551616 ^ 79 := by rw [pow64]; exact pow_le' (by omega) (by omega)
  have e3 : (18446744073709551616 : Int) ^ 139 = 18446744073709551616 ^ 60 * 18446744073709551616 ^ 79 := by rw [← Int.pow_add]
  have hq : (2 : Int) ≤ 18446744073709551616 ^ 60 := by decide
  generalize (18446744073709551616 : Int) ^ 4096 = K at *
  generalize (18446744073709551616 : Int) ^ 139 = Q at *
  generalize (18446744073709551616 : Int) ^ 60 = P at *
  generalize (18446744073709551616 : Int) ^ 79 = R at *
  generalize (2 : Int) ^ 5000 = T at *
  generalize (2 : Int) ^ j = X at *
  have h4 : v * X ≤ (P - 1) * R := Int.mul_le_mul (by omega) (by omega) (by omega) (by omega)
  have h5 : (P - 1) * R = P * R - R := by grind
  have h6 : 2 * R ≤ P * R := Int.mul_le_mul_of_nonneg_right hq (by omega)
  generalize P * R = Z at *
  generalize v * X = Y at *
  exact ⟨by omega, by omega⟩
section
variable {A : Option Addr} {n c : Nat} {l : List Int} {w : World} (h : Lv w A n c l)
include h
theorem Shl_neg_lv (hn : n ≤ 4096) (k : Int) (hk : k < 0) : Calls Tryz.prog 84 #[.slice A n c, .int .i64 k] w (Fails 2 w) := by
  have := Shl_neg A c l w h.2.1 h.2.2 (norm_le h.1 hn) k hk
  rw [h.1] at this
  exact this
theorem Shl_val (hn : n ≤ 60) (j : Nat) (hj : j ≤ 5000) : Calls Tryz.prog 84 #[.slice A n c, .int .i64 j] w (GoodV (val 18446744073709551616 l * 2 ^ j) w) := by
  have hb := (left_bound h.nonneg (h.less hn) hj).1
  by_cases h0 : val 18446744073709551616 l = 0
  · have := Shl_zero A c l w h.2.1 h.2.2 (norm_le h.1 (by omega)) (j : Int) (by omega) h0
    rw [h.1] at this
    rw [h0, Int.zero_mul] at hb ⊢
    exact this.mono fun e w' q => q.goodV hb
  · have := Shl_any A c l w h.2.1 h.2.2 (norm_le h.1 (by omega)) j h0 (by rw [show (262144 : Nat) = 64 * 4096 from rfl, ← pow64]; exact hb)
    rw [h.1] at this
    exact this.mono fun e w' q => q.goodV hb
theorem Shr_neg_lv (hn : n ≤ 4096) (k : Int) (hk : k < 0) : Calls Tryz.prog 58 #[.slice A n c, .int .i64 k] w fun e w' => e = .returned (.tuple #[.slice none 0 0, .bool false, .int .i64 2]) ∧ w = w' := by
  have := Shr_neg A c l w h.2.1 h.2.2 (norm_le h.1 hn) k hk
  rw [h.1] at this
  exact this
theorem Shr_lv (hn : n ≤ 4096) (hT : Tab w) (j : Nat) (hj : (j : Int) ≤ 9223372036854775807) (L : Bool) (hL : lostB (val 18446744073709551616 l) j = L) : Calls Tryz.prog 58 #[.slice A n c, .int .i64 j] w fun e w' =>
    ∃ s A c, e = .returned (.tuple #[.slice A s.length c, .bool L, .int .i64 0]) ∧ Normal s ∧ Hid (val 18446744073709551616 s = val 18446744073709551616 l / 2 ^ j) ∧ Lv w' A s.length c s ∧ Below w.heap.size w w' := by
  have := Shr_any A c l w h.2.1 h.2.2 (norm_le h.1 hn) hT j (by omega)
  rw [h.1] at this
  refine this.mono ?_
  rintro e w' ⟨s, A1, c1, rfl, h1, h2, h3, h4, h5⟩
  exact ⟨s, A1, c1, by rw [hL], h2, h3, ⟨rfl, h4.nums, h1⟩, h5⟩
end
end Go.Proofs.YtcdbjlmegkcaiaaGreatDoor
