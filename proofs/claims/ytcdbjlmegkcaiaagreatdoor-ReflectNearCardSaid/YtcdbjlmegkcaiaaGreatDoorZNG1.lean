/-
  Layer 2, joined (wip/tools/merge.py): NatA NatW NatP NatB NatC NatD NatE NatF NatG.
  Layer 2, plain mathematics: numbers to a base, as sums of digits; lists of digits; normal lists are one for each number.
  Layer 2, words for memory: a slice that reads as a list of numbers (nil let in); a block that is known whole; a slice of the call's own.
  Layer 2, words for memory, part two: append onto a slice of the call's own, whatever is appended; make.
  Layer 2, walks, part one: the library's words of 64 bits; limbs; the noughts at the end.
  Layer 2, walks, part two: numbers held against each other; the normal number.
  Layer 2, walks, part three: sums and differences.
  Layer 2, walks, part four: the program's sums, differences, products.
  Layer 2, walks, part five: products, digit by digit.
  Layer 2, walks, part six: products.
-/
import Derived.Below
import Derived.OneCell
import Derived.Laws.OwnMore
import Derived.Laws.Rows
import Derived.Deep.AppendLies
import Derived.Deep.Draws
import Derived.OwnWalk
import Derived.Test.YtcdbjlmegkcaiaaGreatDoorProg
import Derived.Maps.AppendAt
import Derived.RegionTactic
import Derived.KernelRfl
import Derived.Test.YtcdbjlmegkcaiaaGreatDoorShelf
import Derived.WalkKit
import Derived.WalkSpells
import Derived.WalkLawsBesides
import Derived.Deep.QuietTactic
import Derived.BigQuiet
import Derived.Lib.Hide
import Derived.Laws.Externs
import Derived.Shelf.Spec.BitsCarry
import Derived.Outline
import Derived.Deep.RegionHeld3
import Derived.Deep.RegionWith
namespace Go.Proofs.YtcdbjlmegkcaiaaGreatDoor
set_option linter.unusedVariables false

/-- the number that the first k digits make, the lowest first, to the base b -/
def S (b : Int) (f : Nat → Int) : Nat → Int
  | 0 => 0
  | k + 1 => S b f k + f k * b ^ k
/-- the digit i of a list; 0, where there is none -/
def D (l : List Int) (i : Nat) : Int := l.getD i 0
/-- the number of a list of digits -/
def val (b : Int) (l : List Int) : Int := S b (D l) l.length
/-- digits to the base b -/
def Lim (b : Int) (l : List Int) : Prop := ∀ x ∈ l, 0 ≤ x ∧ x < b

theorem S_zero (b : Int) (f : Nat → Int) : S b f 0 = 0 := rfl
theorem S_succ (b : Int) (f : Nat → Int) (k : Nat) : S b f (k + 1) = S b f k + f k * b ^ k := rfl
theorem S_congr {b : Int} {f g : Nat → Int} {k : Nat} (h : ∀ i, i < k → f i = g i) : S b f k = S b g k := by
  induction k with
  | zero => rfl
  | succ k ih => rw [S_succ, S_succ, ih (fun i hi => h i (by omega)), h k (by omega)]
theorem S_nil {b : Int} {f : Nat → Int} {k : Nat} (h : ∀ i, i < k → f i = 0) : S b f k = 0 := by
  induction k with
  | zero => rfl
  | succ k ih => rw [S_succ, ih (fun i hi => h i (by omega)), h k (by omega)]; simp
theorem S_split (b : Int) (f : Nat → Int) (m k : Nat) : S b f (m + k) = S b f m + b ^ m * S b (fun i => f (m + i)) k := by
  induction k with
  | zero => simp [S]
  | succ k ih => rw [← Nat.add_assoc, S_succ, S_succ, ih, Int.pow_add]; grind
theorem S_head (b : Int) (f : Nat → Int) (k : Nat) : S b f (k + 1) = f 0 + b * S b (fun i => f (i + 1)) k := by
  have := S_split b f 1 k
  rw [Nat.add_comm] at this
  rw [this]
  have e : (fun i => f (1 + i)) = fun i => f (i + 1) := by funext i; rw [Nat.add_comm]
  rw [e]; simp [S, Int.pow_succ]
theorem pow_pos' {b : Int} (hb : 0 < b) (k : Nat) : 0 < b ^ k := Int.pow_pos hb
theorem pow_le' {b : Int} (hb : 0 < b) {m n : Nat} (h : m ≤ n) : b ^ m ≤ b ^ n := by
  obtain ⟨k, rfl⟩ : ∃ k, n = m + k := ⟨n - m, by omega⟩
  rw [Int.pow_add]
  have h1 := pow_pos' hb m
  have h2 := pow_pos' hb k
  have := Int.mul_le_mul_of_nonneg_left (show 1 ≤ b ^ k by omega) (show 0 ≤ b ^ m by omega)
  omega
theorem S_bound {b : Int} {f : Nat → Int} {k : Nat} (hb : 0 < b) (h : ∀ i, i < k → 0 ≤ f i ∧ f i < b) : 0 ≤ S b f k ∧ S b f k < b ^ k := by
  induction k with
  | zero => simp [S]
  | succ k ih =>
    obtain ⟨h1, h2⟩ := ih (fun i hi => h i (by omega))
    obtain ⟨h3, h4⟩ := h k (by omega)
    have hp := pow_pos' hb k
    rw [S_succ, Int.pow_succ]
    have a1 : 0 ≤ f k * b ^ k := Int.mul_nonneg h3 (by omega)
    have a2 : 0 ≤ (b - 1 - f k) * b ^ k := Int.mul_nonneg (by omega) (by omega)
    exact ⟨by omega, by grind⟩
/-- more digits that are all 0 change nothing -/
theorem S_more {b : Int} {f : Nat → Int} {m k : Nat} (hmk : m ≤ k) (h : ∀ i, m ≤ i → i < k → f i = 0) : S b f k = S b f m := by
  obtain ⟨j, rfl⟩ : ∃ j, k = m + j := ⟨k - m, by omega⟩
  rw [S_split, S_nil (fun i hi => h (m + i) (by omega) (by omega))]
  simp

theorem D_nil (i : Nat) : D [] i = 0 := by simp [D]
theorem D_out {l : List Int} {i : Nat} (h : l.length ≤ i) : D l i = 0 := by simp [D, List.getElem?_eq_none h]
theorem D_in {l : List Int} {i : Nat} (h : i < l.length) : D l i = l[i] := by simp [D, h]
theorem D_cons_zero (x : Int) (l : List Int) : D (x :: l) 0 = x := by simp [D]
theorem D_cons_succ (x : Int) (l : List Int) (i : Nat) : D (x :: l) (i + 1) = D l i := by simp [D]
theorem D_lim {b : Int} {l : List Int} (hb : 0 < b) (h : Lim b l) (i : Nat) : 0 ≤ D l i ∧ D l i < b := by
  rcases Nat.lt_or_ge i l.length with hi | hi
  · rw [D_in hi]; exact h _ (List.getElem_mem _)
  · rw [D_out hi]; omega
theorem lim_of_D {b : Int} {l : List Int} (h : ∀ i, i < l.length → 0 ≤ D l i ∧ D l i < b) : Lim b l := by
  intro x hx
  obtain ⟨i, hi, rfl⟩ := List.getElem_of_mem hx
  have := h i hi
  rwa [D_in hi] at this
theorem D_set {l : List Int} {i : Nat} (v : Int) (j : Nat) (hi : i < l.length) : D (l.set i v) j = if j = i then v else D l j := by
  unfold D
  by_cases h : j = i
  · subst h; simp [hi]
  · rw [if_neg h, List.getD_eq_getElem?_getD, List.getD_eq_getElem?_getD, List.getElem?_set_ne (by omega)]
theorem D_take (l : List Int) (k j : Nat) : D (l.take k) j = if j < k then D l j else 0 := by
  unfold D
  rw [List.getD_eq_getElem?_getD, List.getD_eq_getElem?_getD, List.getElem?_take]
  split <;> simp
theorem D_drop (l : List Int) (k j : Nat) : D (l.drop k) j = D l (k + j) := by
  unfold D
  rw [List.getD_eq_getElem?_getD, List.getD_eq_getElem?_getD, List.getElem?_drop]
theorem D_append (l m : List Int) (j : Nat) : D (l ++ m) j = if j < l.length then D l j else D m (j - l.length) := by
  unfold D
  rw [List.getD_eq_getElem?_getD, List.getD_eq_getElem?_getD, List.getD_eq_getElem?_getD, List.getElem?_append]
  split <;> rfl
theorem D_replicate (n : Nat) (j : Nat) : D (List.replicate n 0) j = 0 := by
  unfold D
  rw [List.getD_eq_getElem?_getD, List.getElem?_replicate]
  split <;> rfl
theorem D_ext {l m : List Int} (hl : l.length = m.length) (h : ∀ i, i < l.length → D l i = D m i) : l = m := by
  apply List.ext_getElem hl
  intro i h1 h2
  have := h i h1
  rwa [D_in h1, D_in h2] at this

/-- the number of a list is that of its first k digits, if there are no more -/
theorem S_val {b : Int} {l : List Int} {k : Nat} (h : l.length ≤ k) : S b (D l) k = val b l :=
  S_more h (fun i hi _ => D_out hi)
theorem val_nil (b : Int) : val b [] = 0 := rfl
theorem val_cons (b x : Int) (l : List Int) : val b (x :: l) = x + b * val b l := by
  unfold val
  rw [List.length_cons, S_head, D_cons_zero]
  rw [S_congr (g := D l) (fun i _ => D_cons_succ x l i)]
theorem val_take (b : Int) (l : List Int) (k : Nat) : val b (l.take k) = S b (D l) (min k l.length) := by
  unfold val
  rw [List.length_take]
  refine S_congr fun i hi => ?_
  rw [D_take, if_pos (by omega)]
theorem val_replicate (b : Int) (n : Nat) : val b (List.replicate n 0) = 0 := S_nil fun i _ => D_replicate n i
theorem val_append (b : Int) (l m : List Int) : val b (l ++ m) = val b l + b ^ l.length * val b m := by
  unfold val
  rw [List.length_append, S_split]
  congr 1
  · refine S_congr fun i hi => ?_
    rw [D_append, if_pos hi]
  · congr 1
    refine S_congr fun i hi => ?_
    rw [D_append, if_neg (by omega)]
    congr 1
    omega
theorem val_bound {b : Int} {l : List Int} (hb : 0 < b) (h : Lim b l) : 0 ≤ val b l ∧ val b l < b ^ l.length :=
  S_bound hb fun i _ => D_lim hb h i
theorem val_take_drop (b : Int) (l : List Int) (k : Nat) (hk : k ≤ l.length) : val b l = S b (D l) k + b ^ k * val b (l.drop k) := by
  have := val_append b (l.take k) (l.drop k)
  rw [List.take_append_drop, val_take, List.length_take, Nat.min_eq_left hk] at this
  exact this
theorem S_of_bound {b : Int} {l : List Int} (hb : 0 < b) (h : Lim b l) (k : Nat) : 0 ≤ S b (D l) k ∧ S b (D l) k < b ^ k :=
  S_bound hb fun i _ => D_lim hb h i

theorem Lim.nil (b : Int) : Lim b [] := fun x hx => by simp at hx
theorem Lim.take {b : Int} {l : List Int} (h : Lim b l) (k : Nat) : Lim b (l.take k) := fun x hx => h x (List.mem_of_mem_take hx)
theorem Lim.drop {b : Int} {l : List Int} (h : Lim b l) (k : Nat) : Lim b (l.drop k) := fun x hx => h x (List.mem_of_mem_drop hx)
theorem Lim.append {b : Int} {l m : List Int} (h : Lim b l) (k : Lim b m) : Lim b (l ++ m) := fun x hx => by
  rcases List.mem_append.1 hx with hx | hx
  · exact h x hx
  · exact k x hx
theorem Lim.set {b : Int} {l : List Int} (h : Lim b l) (i : Nat) {v : Int} (h0 : 0 ≤ v) (h1 : v < b) : Lim b (l.set i v) := fun x hx => by
  rcases List.mem_or_eq_of_mem_set hx with hx | rfl
  · exact h x hx
  · exact ⟨h0, h1⟩
theorem Lim.zeros {b : Int} (hb : 0 < b) (n : Nat) : Lim b (List.replicate n 0) := fun x hx => by
  rw [List.eq_of_mem_replicate hx]; omega
theorem Lim.cons {b x : Int} {l : List Int} (h : Lim b (x :: l)) : (0 ≤ x ∧ x < b) ∧ Lim b l := ⟨h x (by simp), fun y hy => h y (by simp [hy])⟩
theorem Lim.snoc {b x : Int} {l : List Int} (h : Lim b l) (h0 : 0 ≤ x) (h1 : x < b) : Lim b (l ++ [x]) := h.append fun y hy => by simp at hy; omega

/-- no nought at the end -/
def Normal (l : List Int) : Prop := l = [] ∨ D l (l.length - 1) ≠ 0
theorem Normal.nil : Normal [] := Or.inl rfl
theorem Normal.tail {x : Int} {l : List Int} (h : Normal (x :: l)) : Normal l := by
  rcases l with _ | ⟨y, l⟩
  · exact .inl rfl
  · rcases h with h | h
    · cases h
    · exact .inr (by simpa [D] using h)

theorem val_eq_zero {b : Int} (hb : 0 < b) : ∀ {l : List Int}, Lim b l → Normal l → val b l = 0 → l = []
  | [], _, _, _ => rfl
  | x :: l, hl, hn, hv => by
    rw [val_cons] at hv
    obtain ⟨⟨h0, h1⟩, h2⟩ := hl.cons
    have hv2 := (val_bound hb h2).1
    have := Int.mul_nonneg (Int.le_of_lt hb) hv2
    have hx : x = 0 := by omega
    have hz : b * val b l = 0 := by omega
    have hl0 : l = [] := val_eq_zero hb h2 hn.tail (by rcases Int.mul_eq_zero.1 hz with h | h; omega; exact h)
    subst hl0; subst hx
    rcases hn with h | h
    · cases h
    · exact absurd (by simp [D]) h

theorem digits_eq {b x y u v : Int} (hx0 : 0 ≤ x) (hx1 : x < b) (hy0 : 0 ≤ y) (hy1 : y < b) (h : x + b * u = y + b * v) : x = y ∧ u = v := by
  have e : b * (u - v) = y - x := by grind
  rcases Int.lt_trichotomy u v with k | k | k
  · have := Int.mul_le_mul_of_nonneg_left (show u - v ≤ -1 by omega) (show 0 ≤ b by omega)
    omega
  · subst k; exact ⟨by omega, rfl⟩
  · have := Int.mul_le_mul_of_nonneg_left (show 1 ≤ u - v by omega) (show 0 ≤ b by omega)
    omega

/-- of a number there is one normal list -/
theorem normal_unique {b : Int} (hb : 0 < b) : ∀ {l m : List Int}, Lim b l → Lim b m → Normal l → Normal m → val b l = val b m → l = m
  | [], m, _, hm, _, nm, h => (val_eq_zero hb hm nm (by rw [← h]; rfl)).symm
  | x :: l, [], hl, _, nl, _, h => val_eq_zero hb hl nl h
  | x :: l, y :: m, hl, hm, nl, nm, h => by
    rw [val_cons, val_cons] at h
    obtain ⟨⟨h0, h1⟩, h2⟩ := hl.cons
    obtain ⟨⟨h3, h4⟩, h5⟩ := hm.cons
    obtain ⟨rfl, e⟩ := digits_eq h0 h1 h3 h4 h
    rw [normal_unique hb h2 h5 nl.tail nm.tail e]

/-- the normal list -/
def norm : List Int → List Int
  | [] => []
  | x :: l => if norm l = [] ∧ x = 0 then [] else x :: norm l
theorem norm_take : ∀ l : List Int, norm l = l.take (norm l).length
  | [] => rfl
  | x :: l => by
    unfold norm
    split
    · rfl
    · rw [List.length_cons, List.take_succ_cons, ← norm_take l]
theorem norm_length (l : List Int) : (norm l).length ≤ l.length := by
  rw [norm_take l, List.length_take]; omega
theorem norm_lim {b : Int} {l : List Int} (h : Lim b l) : Lim b (norm l) := by rw [norm_take l]; exact h.take _
theorem norm_normal : ∀ l : List Int, Normal (norm l)
  | [] => .inl rfl
  | x :: l => by
    unfold norm
    split
    · exact .inl rfl
    · rename_i h
      right
      have ih := norm_normal l
      rcases hn : norm l with _ | ⟨y, m⟩
      · have : x ≠ 0 := fun e => h ⟨hn, e⟩
        simpa [D] using this
      · rw [hn] at ih
        rcases ih with h | h
        · cases h
        · simpa [D] using h
theorem norm_val (b : Int) : ∀ l : List Int, val b (norm l) = val b l
  | [] => rfl
  | x :: l => by
    unfold norm
    split
    · rename_i h
      obtain ⟨h1, rfl⟩ := h
      have := norm_val b l
      rw [h1] at this
      rw [val_cons, ← this, val_nil]; simp
    · rw [val_cons, val_cons, norm_val b l]
theorem norm_of_normal {b : Int} (hb : 0 < b) {l : List Int} (hl : Lim b l) (h : Normal l) : norm l = l :=
  normal_unique hb (norm_lim hl) hl (norm_normal l) h (norm_val b l)
/-- what is left behind the noughts at the end have gone -/
theorem norm_is {b : Int} (hb : 0 < b) {l : List Int} (hl : Lim b l) {k : Nat} (hk : k ≤ l.length) (hz : ∀ i, k ≤ i → D l i = 0) (h : k = 0 ∨ D l (k - 1) ≠ 0) : norm l = l.take k := by
  refine normal_unique hb (norm_lim hl) (hl.take k) (norm_normal l) ?_ ?_
  · rcases Nat.eq_zero_or_pos k with h0 | h0
    · subst h0; exact .inl (by simp)
    · right
      rw [List.length_take, Nat.min_eq_left hk, D_take, if_pos (by omega)]
      rcases h with h | h
      · omega
      · exact h
  · rw [norm_val, val_take, Nat.min_eq_left hk]
    exact S_more hk (fun i hi _ => hz i hi)
/-- a normal list of k digits is at least b^(k-1) -/
theorem normal_ge {b : Int} (hb : 0 < b) {l : List Int} (hl : Lim b l) (hn : Normal l) (h : l ≠ []) : b ^ (l.length - 1) ≤ val b l := by
  rcases hn with e | e
  · exact absurd e h
  · have hp : 0 < l.length := List.length_pos_iff.2 h
    have hlast := D_lim hb hl (l.length - 1)
    have hs := (S_of_bound hb hl (l.length - 1)).1
    have e2 : l.length - 1 + 1 = l.length := by omega
    have : val b l = S b (D l) (l.length - 1) + D l (l.length - 1) * b ^ (l.length - 1) := by
      unfold val; rw [← S_succ, e2]
    rw [this]
    have hq := pow_pos' hb (l.length - 1)
    have h1 : 0 ≤ (D l (l.length - 1) - 1) * b ^ (l.length - 1) := Int.mul_nonneg (by omega) (by omega)
    grind
/-- longer normal lists are greater -/
theorem longer_greater {b : Int} (hb : 1 < b) {l m : List Int} (hl : Lim b l) (hm : Lim b m) (nm : Normal m) (h : l.length < m.length) : val b l < val b m := by
  have h1 := (val_bound (by omega) hl).2
  have h2 := normal_ge (by omega) hm nm (fun e => by subst e; simp at h)
  have h3 : b ^ l.length ≤ b ^ (m.length - 1) := pow_le' (by omega) (by omega)
  omega
/-- how many digits a normal list has -/
theorem length_le_of_lt {b : Int} (hb : 1 < b) {l : List Int} (hl : Lim b l) (nl : Normal l) {k : Nat} (h : val b l < b ^ k) : l.length ≤ k := by
  rcases Nat.lt_or_ge k l.length with hk | hk
  · have h2 := normal_ge (by omega) hl nl (fun e => by subst e; simp at hk)
    have h3 : b ^ k ≤ b ^ (l.length - 1) := pow_le' (by omega) (by omega)
    omega
  · exact hk
theorem lt_length_of_ge {b : Int} (hb : 1 < b) {l : List Int} (hl : Lim b l) {k : Nat} (h : b ^ k ≤ val b l) : k < l.length := by
  rcases Nat.lt_or_ge k l.length with hk | hk
  · exact hk
  · have h1 := (val_bound (by omega) hl).2
    have h3 : b ^ l.length ≤ b ^ k := pow_le' (by omega) hk
    omega
/-- two numbers of one length part at the highest digit that parts them -/
theorem S_lt_of_digit {b : Int} (hb : 0 < b) {l m : List Int} (hl : Lim b l) (hm : Lim b m) {n i : Nat} (hi : i < n) (hup : ∀ j, i < j → j < n → D l j = D m j) (h : D l i < D m i) :
    S b (D l) n < S b (D m) n := by
  obtain ⟨j, rfl⟩ : ∃ j, n = (i + 1) + j := ⟨n - (i + 1), by omega⟩
  rw [S_split, S_split b (D m), S_succ, S_succ, S_congr (g := fun k => D m (i + 1 + k)) (fun k hk => hup (i + 1 + k) (by omega) (by omega))]
  have h1 := S_of_bound hb hl i
  have h2 := S_of_bound hb hm i
  have h3 : 0 ≤ (D m i - D l i - 1) * b ^ i := Int.mul_nonneg (by omega) (Int.le_of_lt (pow_pos' hb i))
  grind
end Go.Proofs.YtcdbjlmegkcaiaaGreatDoor
namespace Go.Proofs.YtcdbjlmegkcaiaaGreatDoor
open Go.RowKit
set_option linter.unusedVariables false

def L (l : List Int) : List Value := l.map (Value.int .u64)
theorem L_length (l : List Int) : (L l).length = l.length := by simp [L]
theorem L_get {l : List Int} {k : Nat} (h : k < l.length) : (L l)[k]? = some (.int .u64 (D l k)) := by
  simp [L, D, h]
theorem L_one (l : List Int) : ∀ u ∈ L l, u.oneCell' = true := ints_oneCell .u64 l

theorem add_block (a : Addr) (n : Nat) : (a.add n).block = a.block := by unfold Addr.add; split <;> rfl
theorem add_add (a : Addr) (i j : Nat) : (a.add i).add j = a.add (i + j) := by
  unfold Addr.add
  by_cases hi : i = 0 <;> by_cases hj : j = 0 <;> simp [hi, hj, Nat.add_assoc]
theorem add_at (g o k : Nat) : (⟨g, o, none⟩ : Addr).add k = ⟨g, o + k, none⟩ := by
  unfold Addr.add
  by_cases hk : k = 0 <;> simp [hk]

/-- the slice '.slice A l.length c' reads as l, in a block below B -/
def Nums (w : World) (B : Nat) (A : Option Addr) (c : Nat) (l : List Int) : Prop :=
  l.length ≤ c ∧ c ≤ maxLen ∧ (0 < l.length → ∃ ad, A = some ad ∧ ad.block < B ∧ ∀ k, k < l.length → w.cell? (ad.add k) = some (.int .u64 (D l k)))

/-- the block g is just the numbers of l -/
def Row (w : World) (g : Nat) (l : List Int) : Prop := w.heap[g]? = some (.cells (L l).toArray 62 (0, 0))

/-- the slice '.slice A l.length c' is the call's own (from block 'base' on) and reads as l -/
def Own (w : World) (base : Nat) (A : Option Addr) (c : Nat) (l : List Int) : Prop := w.ownsRow base 62 1 (.slice A l.length c) l.length (L l)

section
variable {w w' : World} {B B' c g : Nat} {A : Option Addr} {l : List Int}

theorem Nums.nil (w : World) (B : Nat) : Nums w B none 0 [] := ⟨by simp, by unfold maxLen; omega, fun h => by simp at h⟩
theorem Nums.empty (w : World) (B : Nat) (A : Option Addr) (hc : c ≤ maxLen) : Nums w B A c [] := ⟨by simp, hc, fun h => by simp at h⟩
theorem Nums.le (h : Nums w B A c l) : l.length ≤ c := h.1
theorem Nums.max (h : Nums w B A c l) : c ≤ maxLen := h.2.1
theorem Nums.max' (h : Nums w B A c l) : c ≤ 9223372036854775807 := by have := h.2.1; unfold maxLen at this; omega
theorem Nums.at_ {k : Nat} (h : Nums w B A c l) (hk : k < l.length) : ∃ ad, A = some ad ∧ ad.block < B ∧ w.cell? (ad.add k) = some (.int .u64 (D l k)) := by
  obtain ⟨ad, e, hb, hc⟩ := h.2.2 (by omega)
  exact ⟨ad, e, hb, hc k hk⟩
theorem Nums.at_some {k : Nat} {ad : Addr} (h : Nums w B (some ad) c l) (hk : k < l.length) : w.cell? (ad.add k) = some (.int .u64 (D l k)) := by
  obtain ⟨ad', e, hb, hc⟩ := h.2.2 (by omega)
  injection e with e; subst e
  exact hc k hk
theorem Nums.some_ (h : Nums w B A c l) (hk : 0 < l.length) : ∃ ad, A = some ad ∧ ad.block < B := by
  obtain ⟨ad, e, hb, hc⟩ := h.2.2 (by omega)
  exact ⟨ad, e, hb⟩
theorem Nums.keep (h : Nums w B A c l) (hk : ∀ p : Addr, p.block < B → w'.cell? p = w.cell? p) : Nums w' B A c l :=
  ⟨h.1, h.2.1, fun hn => by
    obtain ⟨ad, e, hb, hc⟩ := h.2.2 hn
    exact ⟨ad, e, hb, fun k hk' => (hk _ (by rw [add_block]; exact hb)).trans (hc k hk')⟩⟩
theorem Nums.more (h : Nums w B A c l) (hB : B ≤ B') : Nums w B' A c l :=
  ⟨h.1, h.2.1, fun hn => by
    obtain ⟨ad, e, hb, hc⟩ := h.2.2 hn
    exact ⟨ad, e, by omega, hc⟩⟩
theorem Nums.below (h : Nums w B A c l) (hb : Below B w w') : Nums w' B A c l := h.keep fun _ hp => hb.cell hp
/-- what lay in the caller's memory, in the callee's world -/
theorem Nums.on (h : Nums w B A c l) (hb : Below B w w') (hB : B ≤ w.heap.size) : Nums w' w'.heap.size A c l := (h.below hb).more (by have := hb.size; omega)
theorem Nums.drew (h : Nums w B A c l) : Nums w.drew B A c l := h
theorem Nums.drewN (h : Nums w B A c l) (k : Nat) : Nums (w.drewN k) B A c l := h
theorem Nums.alloc (h : Nums w B A c l) (hB : B ≤ w.heap.size) (o : Obj) : Nums (w.alloc o) B A c l := h.keep fun p hp => World.cell?_alloc_lt w o p (by omega)
theorem Nums.setCell (h : Nums w B A c l) {p : Addr} (hB : B ≤ p.block) (u : Value) : Nums (w.setCell p u) B A c l :=
  h.keep fun q hq => World.cell?_setCell_other w p q u (fun e => by subst e; omega)
theorem Nums.grown (h : Nums w B A c l) {row : Option Nat} (hg : w.grownBy w' row) (hB : B ≤ w.heap.size) (hr : ∀ g, row = some g → B ≤ g) : Nums w' B A c l :=
  h.keep fun p hp => World.cell?_of_block (hg.block p.block (by omega) (fun e => by have := hr _ e.symm; omega))
theorem Nums.take (h : Nums w B A c l) (k : Nat) : Nums w B A c (l.take k) :=
  ⟨by rw [List.length_take]; have := h.1; omega, h.2.1, fun hn => by
    rw [List.length_take] at hn
    obtain ⟨ad, e, hb, hc⟩ := h.2.2 (by omega)
    refine ⟨ad, e, hb, fun j hj => ?_⟩
    rw [List.length_take] at hj
    rw [hc j (by omega), D_take, if_pos (by omega)]⟩
theorem Nums.length (h : Nums w B A c l) : l.length ≤ 9223372036854775807 := Nat.le_trans h.1 h.max'

theorem Row.lt (h : Row w g l) : g < w.heap.size := lt_of_block h
theorem Row.cell (h : Row w g l) {k : Nat} (hk : k < l.length) : w.cell? ⟨g, k, none⟩ = some (.int .u64 (D l k)) := by
  rw [cell_of_row w g k _ _ (0, 0) h]
  simpa using L_get hk
theorem Row.frozen (h : Row w g l) (k : Nat) : w.frozen? ⟨g, k, none⟩ = false := by
  unfold Row at h
  simp [World.frozen?, h]
theorem Row.new (w : World) (l : List Int) : Row (w.alloc (.cells (L l).toArray 62)) w.heap.size l := heap_alloc_new w _
theorem Row.one (w : World) (x : Int) : Row (w.alloc (.cells #[.int .u64 x] 62)) w.heap.size [x] := heap_alloc_new w _
theorem Row.drew (h : Row w g l) : Row w.drew g l := h
theorem Row.drewN (h : Row w g l) (n : Nat) : Row (w.drewN n) g l := h
theorem Row.alloc (h : Row w g l) (o : Obj) : Row (w.alloc o) g l := (Below.heap_alloc w o g h.lt).trans h
theorem Row.set_ (h : Row w g l) (k : Nat) (v : Int) : Row (w.setCell ⟨g, k, none⟩ (.int .u64 v)) g (l.set k v) := by
  unfold Row at h ⊢
  simp [World.setCell, Array.getElem?_modify, h, L, List.map_set]
theorem Row.far (h : Row w g l) {p : Addr} (hp : g ≠ p.block) (u : Value) : Row (w.setCell p u) g l := (Below.heap_setCell w p u g hp).trans h
theorem Row.below (h : Row w g l) (hb : Below B w w') (hg : g < B) : Row w' g l := (hb.block g hg).trans h
theorem Row.grown (h : Row w g l) {row : Option Nat} (hb : w.grownBy w' row) (hg : some g ≠ row) : Row w' g l := (hb.block g h.lt hg).trans h
theorem Row.nums (h : Row w g l) (o n : Nat) (hn : o + n ≤ l.length) (hc : n ≤ c) (hm : c ≤ maxLen) (hB : g < B) : Nums w B (some ⟨g, o, none⟩) c ((l.drop o).take n) := by
  have e : ((l.drop o).take n).length = n := by rw [List.length_take, List.length_drop]; omega
  refine ⟨by omega, hm, fun _ => ⟨_, rfl, hB, fun k hk => ?_⟩⟩
  rw [e] at hk
  rw [add_at, h.cell (by omega), D_take, if_pos hk, D_drop]
theorem Row.own (h : Row w g l) (n : Nat) (hn : n ≤ l.length) (hm : l.length ≤ maxLen) (hB : B ≤ g) : Own w B (some ⟨g, 0, none⟩) l.length (l.take n) := by
  have e : (l.take n).length = n := by rw [List.length_take]; omega
  unfold Own
  rw [e]
  refine ⟨by rw [L_length, e]; omega, .inr ⟨g, l.length, _, rfl, hB, h, hn, hm, by simp [L], ?_⟩⟩
  simp [L, List.map_take]
theorem Own.nil (w : World) (B : Nat) : Own w B none 0 [] := World.ownsRow_nil w B _ 1
theorem Own.nums (h : Own w B A c l) : Nums w w.heap.size A c l := by
  have hc : l.length ≤ c ∧ c ≤ maxLen := by
    rcases h.2 with ⟨h1, h2⟩ | ⟨g, cap, cur, hv, _, _, h3, h4, _⟩
    · injection h1 with _ _ h1; unfold maxLen; omega
    · injection hv with _ _ h1; omega
  refine ⟨hc.1, hc.2, fun hn => ?_⟩
  obtain ⟨g, cap, hv, _, hlt⟩ := World.ownsRow.form h hn
  have hA : A = some ⟨g, 0, none⟩ := by injection hv
  subst hA
  refine ⟨_, rfl, hlt, fun k hk => World.ownsRow.cells h (g := g) rfl k _ (L_get hk)⟩
theorem Own.below (h : Own w B A c l) (hb : Below w.heap.size w w') : Own w' B A c l := by
  rcases h with ⟨h1, h2⟩
  refine ⟨h1, h2.imp id fun ⟨g, cap, cur, hv, hg, hh, r⟩ => ⟨g, cap, cur, hv, hg, (hb.block g (lt_of_block hh)).trans hh, r⟩⟩
theorem Own.alloc_ (h : Own w B A c l) (o : Obj) : Own (w.alloc o) B A c l := World.ownsRow.alloc h o
theorem Own.less (h : Own w B A c l) (hB : B' ≤ B) : Own w B' A c l := by
  rcases h with ⟨h1, h2⟩
  exact ⟨h1, h2.imp id fun ⟨g, cap, cur, hv, hg, r⟩ => ⟨g, cap, cur, hv, by omega, r⟩⟩
theorem Own.form (h : Own w B A c l) (hn : 0 < l.length) : ∃ g, A = some ⟨g, 0, none⟩ ∧ B ≤ g ∧ g < w.heap.size := by
  obtain ⟨g, cap, hv, hg, hlt⟩ := World.ownsRow.form h hn
  injection hv with hA
  exact ⟨g, hA, hg, hlt⟩

/-- what 'trim' hands back: the same slice, shorter, or nil -/
def Trims (A : Option Addr) (c : Nat) (A' : Option Addr) (c' : Nat) (l : List Int) : Prop :=
  (A' = none ∧ c' = 0 ∧ l = []) ∨ (A' = A ∧ c' = c ∧ l ≠ [])
theorem Trims.nums {A' : Option Addr} {c' : Nat} (t : Trims A c A' c' (norm l)) (h : Nums w B A c l) : Nums w B A' c' (norm l) := by
  rcases t with ⟨rfl, rfl, e⟩ | ⟨rfl, rfl, _⟩
  · rw [e]; exact Nums.nil _ _
  · rw [norm_take l]; exact h.take _
theorem Trims.row {A' : Option Addr} {c' g : Nat} (t : Trims (some ⟨g, 0, none⟩) l.length A' c' (norm l)) (h : Row w g l) (hm : l.length ≤ maxLen) (hB : B ≤ g) : Own w B A' c' (norm l) := by
  rcases t with ⟨rfl, rfl, e⟩ | ⟨rfl, rfl, _⟩
  · rw [e]; exact Own.nil _ _
  · rw [norm_take l]; exact h.own _ (norm_length l) hm hB
end
end Go.Proofs.YtcdbjlmegkcaiaaGreatDoor
namespace Go.Proofs.YtcdbjlmegkcaiaaGreatDoor
open Go.RowKit
set_option linter.unusedVariables false

theorem info39 : (Tryz.prog.info? 62).map (fun i => (i.zero, i.size, i.bytes)) = some (some (.int .u64 0), 1, 8) := by kernel_rfl

section
variable (w : World)
theorem run_app_nil (base : Nat) (ty : TypeId) (A : Option Addr) (c : Nat) (l : List Int) (hown : Own w base A c l) (c' : Nat) :
    (Builtin.append_ #[38, 38] ty #[.slice A l.length c, .slice none 0 c']).run Tryz.prog w = .ok (.slice A l.length c) w := by
  obtain ⟨i, hi, hz0, hz1, hz2⟩ := info_parts info39
  rcases hown.2 with ⟨h1, h2⟩ | ⟨g, cap, cur, h1, _, _, hnc, _⟩
  · rw [h1]
    simp [Builtin.append_, run_underlying Tryz.underlying38, sizeOf, typeInfo, hi, Builtin.lenOf, Builtin.firstCells]
  · rw [h1]
    simp [Builtin.append_, run_underlying Tryz.underlying38, sizeOf, typeInfo, hi, Builtin.lenOf, Builtin.firstCells, hnc, storeCells]

theorem run_app (base : Nat) (ty : TypeId) (A : Option Addr) (c : Nat) (l : List Int) (hown : Own w base A c l) (B : Nat) (A' : Option Addr) (c' : Nat) (m : List Int) (hr : Nums w B A' c' m)
    (hlen : l.length + m.length ≤ 4000000) (hbase : base ≤ w.heap.size) :
    ∃ A2 c2 w', (Builtin.append_ #[38, 38] ty #[.slice A l.length c, .slice A' m.length c']).run Tryz.prog w = .ok (.slice A2 (l ++ m).length c2) w' ∧ Own w' base A2 c2 (l ++ m) ∧
      w.grownBy w' (Value.slice A l.length c).ownBlock ∧ ((Value.slice A2 (l ++ m).length c2).ownBlock = (Value.slice A l.length c).ownBlock ∨ (Value.slice A2 (l ++ m).length c2).ownBlock = some w.heap.size) := by
  obtain ⟨i, hi, hz0, hz1, hz2⟩ := info_parts info39
  rcases A' with _ | ad
  · have hm : m = [] := by
      rcases Nat.eq_zero_or_pos m.length with h0 | h0
      · exact List.eq_nil_of_length_eq_zero h0
      · obtain ⟨ad, h, _⟩ := hr.2.2 h0
        cases h
    subst hm
    refine ⟨A, c, w, ?_, by simpa using hown, World.grownBy.refl w _, .inl (by simp)⟩
    simpa using run_app_nil w base ty A c l hown c'
  · have hcells : ∀ j u, (L m)[j]? = some u → w.cell? (ad.add j) = some u := by
      intro j u hu
      rcases Nat.lt_or_ge j m.length with h | h
      · rw [L_get h] at hu
        rw [← hu]; exact hr.at_some h
      · rw [List.getElem?_eq_none (by rw [L_length]; exact h)] at hu; cases hu
    obtain ⟨v', w', hrun, h2, h3, _, h5⟩ := run_append_own_at (P := Tryz.prog) w base 38 ty 62 i (.int .u64 0) 1 8 Tryz.underlying38 hi hz0 hz1 hz2 rfl (by decide) _ _ _ hown ad m.length c' (L m) (by rw [L_length]; omega) hcells (L_one m) (by unfold maxLen; omega) (by omega) hbase
    have h2' := h2
    obtain ⟨g, cap, hv⟩ : ∃ g cap, v' = .slice g (l ++ m).length cap := by
      rcases h2'.2 with ⟨e, h0⟩ | ⟨g, cap, cur, e, _⟩
      · exact ⟨none, 0, by rw [e, List.length_append, h0]⟩
      · exact ⟨_, cap, by rw [e, List.length_append]⟩
    subst hv
    refine ⟨g, cap, w', hrun, ?_, h3, h5⟩
    unfold Own
    rw [List.length_append] at h2 ⊢
    have e : L (l ++ m) = L l ++ L m := by simp [L]
    rw [e]; exact h2

theorem wp_app {o : Oper} {a : Act} {K : Act → World → Prop} {Q : Exit → Act → World → Prop} (s x : Operand)
    (ho : o.op = .call { callee := .builtin .append, args := #[s, x], argTypes := #[38, 38] })
    (base : Nat) (A : Option Addr) (c : Nat) (l : List Int) (hs : a.eval s = .slice A l.length c) (hown : Own w base A c l) (B : Nat) (A' : Option Addr) (c' : Nat) (m : List Int) (hx : a.eval x = .slice A' m.length c') (hr : Nums w B A' c' m)
    (hlen : l.length + m.length ≤ 4000000) (hbase : base ≤ w.heap.size)
    (h : ∀ A2 c2 w', Own w' base A2 c2 (l ++ m) → w.grownBy w' (Value.slice A l.length c).ownBlock → ((Value.slice A2 (l ++ m).length c2).ownBlock = (Value.slice A l.length c).ownBlock ∨ (Value.slice A2 (l ++ m).length c2).ownBlock = some w.heap.size) → K (a.put o.dst (.slice A2 (l ++ m).length c2)) w') : o.wp Tryz.prog a w K Q := by
  obtain ⟨A2, c2, w', hrun, h2, h3, h4⟩ := run_app w base o.type A c l hown B A' c' m hr hlen hbase
  unfold Oper.wp execOp
  simp only [ho, resolve, invoke, builtin, Sem.run_bind, Sem.run_pure, Result.andThen_ok, List.map_toArray, List.map_cons, List.map_nil, hs, hx, hrun]
  exact h A2 c2 w' h2 h3 h4

theorem wpList_app {ops : Array Oper} {rest : List Oper} {o : Oper} {a : Act} {Q : Exit → Act → World → Prop} (hgd : o.guard = none) (s x : Operand)
    (ho : o.op = .call { callee := .builtin .append, args := #[s, x], argTypes := #[38, 38] })
    (base : Nat) (A : Option Addr) (c : Nat) (l : List Int) (hs : a.eval s = .slice A l.length c) (hown : Own w base A c l) (B : Nat) (A' : Option Addr) (c' : Nat) (m : List Int) (hx : a.eval x = .slice A' m.length c') (hr : Nums w B A' c' m)
    (hlen : l.length + m.length ≤ 4000000) (hbase : base ≤ w.heap.size)
    (h : ∀ A2 c2 w', Own w' base A2 c2 (l ++ m) → w.grownBy w' (Value.slice A l.length c).ownBlock → ((Value.slice A2 (l ++ m).length c2).ownBlock = (Value.slice A l.length c).ownBlock ∨ (Value.slice A2 (l ++ m).length c2).ownBlock = some w.heap.size) → wpList Tryz.prog ops Q rest (a.put o.dst (.slice A2 (l ++ m).length c2)) w') : wpList Tryz.prog ops Q (o :: rest) a w :=
  wpList_plain hgd fun _ hK => wp_app w s x ho base A c l hs hown B A' c' m hx hr hlen hbase fun A2 c2 w' h2 h3 h4 => hK _ _ (h A2 c2 w' h2 h3 h4)

theorem step_app {ops : Array Oper} {o : Oper} {a : Act} {K : Act → World → Prop} {Q : Exit → Act → World → Prop} {E : Prop} (hgd : o.guard = none) (s x : Operand)
    (ho : o.op = .call { callee := .builtin .append, args := #[s, x], argTypes := #[38, 38] })
    (base : Nat) (A : Option Addr) (c : Nat) (l : List Int) (hs : a.eval s = .slice A l.length c) (hown : Own w base A c l) (B : Nat) (A' : Option Addr) (c' : Nat) (m : List Int) (hx : a.eval x = .slice A' m.length c') (hr : Nums w B A' c' m)
    (hlen : l.length + m.length ≤ 4000000) (hbase : base ≤ w.heap.size)
    (h : ∀ A2 c2 w', Own w' base A2 c2 (l ++ m) → w.grownBy w' (Value.slice A l.length c).ownBlock → ((Value.slice A2 (l ++ m).length c2).ownBlock = (Value.slice A l.length c).ownBlock ∨ (Value.slice A2 (l ++ m).length c2).ownBlock = some w.heap.size) → K (a.put o.dst (.slice A2 (l ++ m).length c2)) w') :
    if Region.wanted o (yielded ops a.tmps) = true then Oper.wp Tryz.prog o a w K Q else E := by
  have hw : Region.wanted o (yielded ops a.tmps) = true := by simp [Region.wanted, hgd]
  rw [if_pos hw]
  exact wp_app w s x ho base A c l hs hown B A' c' m hx hr hlen hbase h
end

/-- what 'make' lays -/
theorem made_L (n : Nat) : madeCells #[Value.int .u64 0] n = (L (List.replicate n 0)).toArray := by
  apply Array.ext'
  rw [toList_madeCells_one]
  simp [L]
theorem run_make (n : Nat) (hn : n ≤ 4000000) (w : World) :
    (Instr.makeSlice 38 (.int .i64 (n : Int)) (.int .i64 (n : Int))).run Tryz.prog w = .ok (.slice (some ⟨w.heap.size, 0, none⟩) n n) (w.alloc (.cells (L (List.replicate n 0)).toArray 62)) := by
  obtain ⟨i, hi, hz0, hz1, hz2⟩ := info_parts info39
  have hr := Go.run_make (P := Tryz.prog) w 38 62 i (.int .u64 0) Tryz.underlying38 hi hz0 .i64 .i64 n n (by omega) (by omega) (by rw [hz2]; omega) (by omega)
  simp only [Int.toNat_natCast, hz1, Nat.mul_one] at hr
  rw [show (Value.int IntKind.u64 0).cells = #[Value.int .u64 0] from rfl, made_L] at hr
  exact hr

/-- a new block behind an append of the call's own -/
theorem below_app {w w0 w' : World} {B : Nat} {A : Option Addr} {c : Nat} {l : List Int} (hb : Below B w0 w) (hown : Own w B A c l) (hg : w.grownBy w' (Value.slice A l.length c).ownBlock) (hB : B ≤ w.heap.size) : Below B w0 w' :=
  hb.grown hg hB fun k hk => (World.ownsRow.lt hown k hk).1
end Go.Proofs.YtcdbjlmegkcaiaaGreatDoor
namespace Go.Proofs.YtcdbjlmegkcaiaaGreatDoor
open Go.RowKit
set_option linter.unusedVariables false

theorem ret_int {k : IntKind} {a b : Int} (h : a = b) : Ending.returned (.int k a) = .returned (.int k b) := by rw [h]
theorem ret_bool {a b : Bool} (h : a = b) : Ending.returned (.bool a) = .returned (.bool b) := by rw [h]

set_option maxHeartbeats 400000 in
theorem limb_in (A : Option Addr) (c : Nat) (l : List Int) (k : Nat) (w : World) (B : Nat) (h : Nums w B A c l) (hk : k < l.length) :
    Calls Tryz.prog 89 #[.slice A l.length c, .int .i64 k] w fun e w' => e = .returned (.int .u64 (D l k)) ∧ w = w' := by
  have hm := h.length
  obtain ⟨ad, rfl, hb, hc⟩ := h.at_ hk
  go_enter Tryz.func89, Tryz.ntmps89
  go_wp2
  go_ret
  exact ⟨rfl, rfl⟩

set_option maxHeartbeats 400000 in
theorem limb_out (A : Option Addr) (c : Nat) (l : List Int) (k : Nat) (w : World) (B : Nat) (h : Nums w B A c l) (hk : l.length ≤ k) :
    Calls Tryz.prog 89 #[.slice A l.length c, .int .i64 k] w fun e w' => e = .returned (.int .u64 (D l k)) ∧ w = w' := by
  have hm := h.length
  rw [D_out hk]
  go_enter Tryz.func89, Tryz.ntmps89
  go_wp2
  go_ret
  exact ⟨rfl, rfl⟩

theorem limb_any (A : Option Addr) (c : Nat) (l : List Int) (k : Nat) (w : World) (B : Nat) (h : Nums w B A c l) :
    Calls Tryz.prog 89 #[.slice A l.length c, .int .i64 k] w fun e w' => e = .returned (.int .u64 (D l k)) ∧ w = w' := by
  rcases Nat.lt_or_ge k l.length with hk | hk
  · exact limb_in A c l k w B h hk
  · exact limb_out A c l k w B h hk

theorem run_add (x y c : Int) (w : World) (hx : 0 ≤ x) (hx1 : x < 18446744073709551616) (hy : 0 ≤ y) (hy1 : y < 18446744073709551616) (hc : 0 ≤ c) (hc1 : c ≤ 1) :
    ∃ z d : Int, 0 ≤ z ∧ z < 18446744073709551616 ∧ 0 ≤ d ∧ d ≤ 1 ∧ x + y + c = z + d * 18446744073709551616 ∧
      (callFunc 98 #[.int .u64 x, .int .u64 y, .int .u64 c]).run Tryz.prog w = .ok (.value (.tuple #[.int .u64 z, .int .u64 d])) w := by
  obtain ⟨x, rfl⟩ := Int.eq_ofNat_of_zero_le hx
  obtain ⟨y, rfl⟩ := Int.eq_ofNat_of_zero_le hy
  obtain ⟨c, rfl⟩ := Int.eq_ofNat_of_zero_le hc
  refine ⟨((x + y + c) % 18446744073709551616 : Nat), ((x + y + c) / 18446744073709551616 : Nat), by omega, by omega, by omega, by omega, by omega, ?_⟩
  rw [run_callFunc_extern Tryz.func98 (by kernel_rfl) (by kernel_rfl) (by kernel_rfl) (e := add64Entry) (by kernel_rfl), run_add64 x y c (by omega) (by omega) (by omega) (by omega)]
  simp only [Result.andThen]
  congr 5 <;> omega

theorem run_sub64' (x y b : Nat) (hb : b ≤ 1) (w : World) :
    (sub64Entry #[.int .u64 x, .int .u64 y, .int .u64 b]).run Tryz.prog w =
      .ok (.tuple #[.int .u64 (((x + 18446744073709551616 - y - b) % 18446744073709551616 : Nat) : Int), .int .u64 ((if x < y + b then 1 else 0 : Nat) : Int)]) w :=
  run_sub64 x y b hb w

theorem run_sub (x y c : Int) (w : World) (hx : 0 ≤ x) (hx1 : x < 18446744073709551616) (hy : 0 ≤ y) (hy1 : y < 18446744073709551616) (hc : 0 ≤ c) (hc1 : c ≤ 1) :
    ∃ z d : Int, 0 ≤ z ∧ z < 18446744073709551616 ∧ 0 ≤ d ∧ d ≤ 1 ∧ x - y - c = z - d * 18446744073709551616 ∧
      (callFunc 104 #[.int .u64 x, .int .u64 y, .int .u64 c]).run Tryz.prog w = .ok (.value (.tuple #[.int .u64 z, .int .u64 d])) w := by
  obtain ⟨x, rfl⟩ := Int.eq_ofNat_of_zero_le hx
  obtain ⟨y, rfl⟩ := Int.eq_ofNat_of_zero_le hy
  obtain ⟨c, rfl⟩ := Int.eq_ofNat_of_zero_le hc
  have hr : (callFunc 104 #[.int .u64 x, .int .u64 y, .int .u64 c]).run Tryz.prog w = .ok (.value (.tuple #[.int .u64 (((x + 18446744073709551616 - y - c) % 18446744073709551616 : Nat) : Int), .int .u64 ((if x < y + c then 1 else 0 : Nat) : Int)])) w := by
    rw [run_callFunc_extern Tryz.func104 (by kernel_rfl) (by kernel_rfl) (by kernel_rfl) (e := sub64Entry) (by kernel_rfl), run_sub64' x y c (by omega)]
    rfl
  exact ⟨_, _, by omega, by omega, by split <;> omega, by split <;> omega, by split <;> omega, hr⟩

/-- a step of a sum: the digit, and the carry into its cell -/
def SumStep (x y c : Int) (b : Nat) (w : World) (e : Ending) (w' : World) : Prop :=
  ∃ z d : Int, e = .returned (.int .u64 z) ∧ 0 ≤ z ∧ z < 18446744073709551616 ∧ 0 ≤ d ∧ d ≤ 1 ∧ Hid (x + y + c = z + d * 18446744073709551616) ∧ w.setCell ⟨b, 0, none⟩ (.int .u64 d) = w'
def DiffStep (x y c : Int) (b : Nat) (w : World) (e : Ending) (w' : World) : Prop :=
  ∃ z d : Int, e = .returned (.int .u64 z) ∧ 0 ≤ z ∧ z < 18446744073709551616 ∧ 0 ≤ d ∧ d ≤ 1 ∧ Hid (x - y - c = z - d * 18446744073709551616) ∧ w.setCell ⟨b, 0, none⟩ (.int .u64 d) = w'

set_option maxHeartbeats 400000 in
theorem sumstep_any (x y c : Int) (b : Nat) (w : World) (h : Row w b [c]) (hx : 0 ≤ x) (hx1 : x < 18446744073709551616) (hy : 0 ≤ y) (hy1 : y < 18446744073709551616) (hc : 0 ≤ c) (hc1 : c ≤ 1) :
    Calls Tryz.prog 101 #[.int .u64 x, .int .u64 y, .pointer (some ⟨b, 0, none⟩)] w (SumStep x y c b w) := by
  have h0 := h.cell (k := 0) (by simp)
  have hf := h.frozen 0
  simp only [D_cons_zero] at h0
  obtain ⟨z, d, hz0, hz1, hd0, hd1, he, hr⟩ := run_add x y c w hx hx1 hy hy1 hc hc1
  have HE := Lib.hid he
  clear he
  go_enter Tryz.func101, Tryz.ntmps101
  go_wp2
  go_ret
  exact ⟨z, d, rfl, hz0, hz1, hd0, hd1, HE, rfl⟩

set_option maxHeartbeats 400000 in
theorem diffstep_any (x y c : Int) (b : Nat) (w : World) (h : Row w b [c]) (hx : 0 ≤ x) (hx1 : x < 18446744073709551616) (hy : 0 ≤ y) (hy1 : y < 18446744073709551616) (hc : 0 ≤ c) (hc1 : c ≤ 1) :
    Calls Tryz.prog 103 #[.int .u64 x, .int .u64 y, .pointer (some ⟨b, 0, none⟩)] w (DiffStep x y c b w) := by
  have h0 := h.cell (k := 0) (by simp)
  have hf := h.frozen 0
  simp only [D_cons_zero] at h0
  obtain ⟨z, d, hz0, hz1, hd0, hd1, he, hr⟩ := run_sub x y c w hx hx1 hy hy1 hc hc1
  have HE := Lib.hid he
  clear he
  go_enter Tryz.func103, Tryz.ntmps103
  go_wp2
  go_ret
  exact ⟨z, d, rfl, hz0, hz1, hd0, hd1, HE, rfl⟩

/-! ### the noughts at the end -/
def TrimPost (A : Option Addr) (c : Nat) (l : List Int) (w : World) (e : Ending) (w' : World) : Prop :=
  ∃ A' c', e = .returned (.slice A' (norm l).length c') ∧ Trims A c A' c' (norm l) ∧ w = w'

set_option maxHeartbeats 1000000 in
theorem trim_any (A : Option Addr) (c : Nat) (l : List Int) (w : World) (B : Nat) (h : Nums w B A c l) (hl : Lim 18446744073709551616 l) :
    Calls Tryz.prog 59 #[.slice A l.length c] w (TrimPost A c l w) := by
  have hm := h.length
  have hle := h.le
  have hmax := h.max'
  go_enter Tryz.func59, Tryz.ntmps59
  go_wp2_with fail
  go_loop [0] (fun s => ∃ k : Nat, k ≤ l.length ∧ (∀ i, k ≤ i → D l i = 0) ∧ s = .slice A k c) (fun s => match s with | .slice _ n _ => n | _ => 0)
  case atStart => exact ⟨l.length, Nat.le_refl _, fun i hi => D_out hi, rfl⟩
  case round =>
    obtain ⟨k, hk, hz, rfl⟩ := hrel
    have HZ := Lib.hid hz
    clear hz
    rcases Nat.eq_zero_or_pos k with h0 | h0
    · subst h0
      go_wp2_with fail
      go_ret
      have e := norm_is (by omega) hl (Nat.zero_le _) HZ.out (.inl rfl)
      exact ⟨none, 0, by rw [e]; rfl, .inl ⟨rfl, rfl, by rw [e]; rfl⟩, rfl⟩
    · obtain ⟨ad, rfl, hb, hc⟩ := h.at_ (k := k - 1) (by omega)
      have h1 : (1 : Int) ≤ k := by omega
      have e1 : ((k : Int) - 1).toNat = k - 1 := by omega
      by_cases hd : D l (k - 1) = 0
      · rw [hd] at hc
        have HD := Lib.hid hd
        clear hd
        go_wp2_with fail
        go_round
        case rel =>
          refine ⟨k - 1, by omega, fun i hi => ?_, rfl⟩
          rcases Nat.lt_or_ge i k with h2 | h2
          · obtain rfl : i = k - 1 := by omega
            exact HD.out
          · exact HZ.out i h2
        case measure => simp; omega
      · have hd' : (D l (k - 1) == 0) = false := by simpa using hd
        have hk0 : ((k : Int) == 0) = false := by simp; omega
        go_wp2_with fail
        go_ret
        have e := norm_is (by omega) hl hk HZ.out (.inr hd)
        have e2 : (norm l).length = k := by rw [e, List.length_take]; omega
        exact ⟨_, _, by rw [e2]; rfl, .inr ⟨rfl, rfl, fun h3 => by rw [h3] at e2; simp at e2; omega⟩, rfl⟩

/-! ### copies; what was handed in -/
/-- a new slice of the call's own that reads as l -/
def NewPost (l : List Int) (w : World) (e : Ending) (w' : World) : Prop :=
  ∃ A c, e = .returned (.slice A l.length c) ∧ Own w' w.heap.size A c l ∧ Below w.heap.size w w'

set_option maxHeartbeats 1000000 in
theorem of_any (n : Int) (w : World) (h0 : 0 ≤ n) (h1 : n < 18446744073709551616) :
    Calls Tryz.prog 32 #[.int .u64 n] w (NewPost (norm [n]) w) := by
  have hl : Lim 18446744073709551616 [n] := fun x hx => by simp at hx; omega
  have hrow := Row.one w n
  have hn : Nums (w.alloc (.cells #[.int .u64 n] 62)) (w.heap.size + 1) (some ⟨w.heap.size, 0, none⟩) 1 [n] := by
    have := hrow.nums (B := w.heap.size + 1) (c := 1) 0 1 (by simp) (by omega) (by unfold maxLen; omega) (by omega)
    simpa using this
  go_enter Tryz.func32, Tryz.ntmps32
  go_wp2_with (go_at_call 59; refine (trim_any (some ⟨w.heap.size, 0, none⟩) 1 [n] _ _ hn hl).mono ?_; rintro e w' ⟨A', c', rfl, ht, rfl⟩)
  go_ret
  exact ⟨A', c', rfl, ht.row hrow (by simp; unfold maxLen; omega) (Nat.le_refl _), (Below.refl _ _).alloc (Nat.le_refl _) _⟩

/-- what 'taken' hands back: the slice without its noughts -/
def TakenPost (A : Option Addr) (c : Nat) (l : List Int) (w : World) (e : Ending) (w' : World) : Prop :=
  ∃ A' c', e = .returned (.tuple #[.slice A' (norm l).length c', .int .i64 0]) ∧ Trims A c A' c' (norm l) ∧ w = w'

set_option maxHeartbeats 1000000 in
theorem taken_any (A : Option Addr) (c : Nat) (l : List Int) (w : World) (B : Nat) (h : Nums w B A c l) (hl : Lim 18446744073709551616 l) (hlen : (norm l).length ≤ 4096) :
    Calls Tryz.prog 76 #[.slice A l.length c] w (TakenPost A c l w) := by
  go_enter Tryz.func76, Tryz.ntmps76
  go_wp2_with (go_at_call 59; refine (trim_any A c l _ _ h hl).mono ?_; rintro e w' ⟨A', c', rfl, ht, rfl⟩)
  go_ret2
  exact ⟨A', c', rfl, ht, rfl⟩

set_option maxHeartbeats 1000000 in
theorem taken_long (A : Option Addr) (c : Nat) (l : List Int) (w : World) (B : Nat) (h : Nums w B A c l) (hl : Lim 18446744073709551616 l) (hlen : 4096 < (norm l).length) :
    Calls Tryz.prog 76 #[.slice A l.length c] w fun e w' => e = .returned (.tuple #[.slice none 0 0, .int .i64 2]) ∧ w = w' := by
  have hn := norm_length l
  have hm := h.length
  go_enter Tryz.func76, Tryz.ntmps76
  go_wp2_with (go_at_call 59; refine (trim_any A c l _ _ h hl).mono ?_; rintro e w' ⟨A', c', rfl, ht, rfl⟩)
  go_ret2
  exact ⟨rfl, rfl⟩

def BothPost (A : Option Addr) (c : Nat) (l : List Int) (A2 : Option Addr) (c2 : Nat) (m : List Int) (w : World) (e : Ending) (w' : World) : Prop :=
  ∃ A' c' A2' c2', e = .returned (.tuple #[.slice A' (norm l).length c', .slice A2' (norm m).length c2', .int .i64 0]) ∧ Trims A c A' c' (norm l) ∧ Trims A2 c2 A2' c2' (norm m) ∧ w = w'

set_option maxHeartbeats 1000000 in
theorem both_any (A : Option Addr) (c : Nat) (l : List Int) (A2 : Option Addr) (c2 : Nat) (m : List Int) (w : World) (B : Nat) (h : Nums w B A c l) (hl : Lim 18446744073709551616 l) (hlen : (norm l).length ≤ 4096)
    (h2 : Nums w B A2 c2 m) (hl2 : Lim 18446744073709551616 m) (hlen2 : (norm m).length ≤ 4096) :
    Calls Tryz.prog 79 #[.slice A l.length c, .slice A2 m.length c2] w (BothPost A c l A2 c2 m w) := by
  go_enter Tryz.func79, Tryz.ntmps79
  go_wp2_with (first
    | (go_at_call 76; ((with_reducible refine (taken_any A c l _ _ h hl hlen).mono ?_); rintro e w' ⟨A', c', rfl, ht, rfl⟩))
    | (go_at_call 76; ((with_reducible refine (taken_any A2 c2 m _ _ h2 hl2 hlen2).mono ?_); rintro e w' ⟨A2', c2', rfl, ht2, rfl⟩)))
  go_ret3
  exact ⟨A', c', A2', c2', rfl, ht, ht2, rfl⟩
theorem taken_nil (w : World) : Calls Tryz.prog 76 #[.slice none 0 0] w (TakenPost none 0 [] w) := taken_any none 0 [] w 0 (Nums.nil _ _) (Lim.nil _) (by simp [norm])

set_option maxHeartbeats 1000000 in
theorem both_long_nil (A : Option Addr) (c : Nat) (l : List Int) (w : World) (B : Nat) (h : Nums w B A c l) (hl : Lim 18446744073709551616 l) (hlen : 4096 < (norm l).length) :
    Calls Tryz.prog 79 #[.slice A l.length c, .slice none 0 0] w fun e w' => e = .returned (.tuple #[.slice none 0 0, .slice none 0 0, .int .i64 2]) ∧ w = w' := by
  go_enter Tryz.func79, Tryz.ntmps79
  go_wp2_with (first
    | (go_at_call 76; ((with_reducible refine (taken_long A c l _ _ h hl hlen).mono ?_); rintro e w' ⟨rfl, rfl⟩))
    | (go_at_call 76; ((with_reducible refine (taken_nil _).mono ?_); rintro e w' ⟨A2', c2', rfl, ht2, rfl⟩)))
  go_ret3
  exact ⟨rfl, rfl⟩
end Go.Proofs.YtcdbjlmegkcaiaaGreatDoor
namespace Go.Proofs.YtcdbjlmegkcaiaaGreatDoor
open Go.RowKit
set_option linter.unusedVariables false

set_option maxHeartbeats 1000000 in
theorem answered_any (A : Option Addr) (c : Nat) (l : List Int) (w : World) (hlen : l.length ≤ 4096) :
    Calls Tryz.prog 80 #[.slice A l.length c] w fun e w' => e = .returned (.tuple #[.slice A l.length c, .int .i64 0]) ∧ w = w' := by
  go_enter Tryz.func80, Tryz.ntmps80
  go_wp2
  go_ret2
  exact ⟨rfl, rfl⟩
set_option maxHeartbeats 1000000 in
theorem answered_long (A : Option Addr) (c : Nat) (l : List Int) (w : World) (hlen : 4096 < l.length) :
    Calls Tryz.prog 80 #[.slice A l.length c] w fun e w' => e = .returned (.tuple #[.slice none 0 0, .int .i64 3]) ∧ w = w' := by
  go_enter Tryz.func80, Tryz.ntmps80
  go_wp2
  go_ret2
  exact ⟨rfl, rfl⟩

/-- a new number, and no error -/
def New2Post (l : List Int) (w : World) (e : Ending) (w' : World) : Prop :=
  ∃ A c, e = .returned (.tuple #[.slice A l.length c, .int .i64 0]) ∧ Own w' w.heap.size A c l ∧ Below w.heap.size w w'

/-! ### which is greater -/
def sg (x y : Int) : Int := if x < y then -1 else if x > y then 1 else 0
theorem sg_lt {x y : Int} (h : x < y) : sg x y = -1 := by unfold sg; rw [if_pos h]
theorem sg_gt {x y : Int} (h : y < x) : sg x y = 1 := by unfold sg; rw [if_neg (by omega), if_pos h]
theorem sg_eq (x : Int) : sg x x = 0 := by unfold sg; simp

set_option maxHeartbeats 1000000 in
theorem cmpw_any (x y : Int) (w : World) :
    Calls Tryz.prog 102 #[.int .u64 x, .int .u64 y] w fun e w' => e = .returned (.int .i64 (sg x y)) ∧ w = w' := by
  rcases Int.lt_trichotomy x y with h | h | h
  · rw [sg_lt h]
    go_enter Tryz.func102, Tryz.ntmps102
    go_wp2
    go_ret
    exact ⟨rfl, rfl⟩
  · subst h
    rw [sg_eq]
    go_enter Tryz.func102, Tryz.ntmps102
    go_wp2
    go_ret
    exact ⟨rfl, rfl⟩
  · rw [sg_gt h]
    go_enter Tryz.func102, Tryz.ntmps102
    go_wp2
    go_ret
    exact ⟨rfl, rfl⟩

theorem quiet_add_same {P : Program} {f : FuncId} {args : Array Value} {w : World} {a n : Nat} {v : Value}
    (h : Calls P f args (w.drewN (a + n)) fun e w' => e = .returned v ∧ w' = w.drewN (a + n)) :
    Calls P f args (w.drewN (a + n)) fun e w'' => e = .returned v ∧ ∃ m, w'' = w.drewN (a + m) :=
  h.mono fun _ _ ⟨he, hm⟩ => ⟨he, n, hm⟩

def CmpPost (v : Int) (w : World) (e : Ending) (w' : World) : Prop := e = .returned (.int .i64 v) ∧ ∃ n, w' = w.drewN n
theorem cmpw_quiet (x y : Int) (w : World) : Calls Tryz.prog 102 #[.int .u64 x, .int .u64 y] w fun e w' => e = .returned (.int .i64 (sg x y)) ∧ w' = w :=
  (cmpw_any x y w).mono fun _ _ ⟨a, b⟩ => ⟨a, b.symm⟩

set_option maxHeartbeats 2000000 in
theorem compare_any (A : Option Addr) (c : Nat) (l : List Int) (A2 : Option Addr) (c2 : Nat) (m : List Int) (w : World) (h : Nums w w.heap.size A c l) (hl : Lim 18446744073709551616 l)
    (h2 : Nums w w.heap.size A2 c2 m) (hl2 : Lim 18446744073709551616 m) (nl : Normal l) (nm : Normal m) :
    Calls Tryz.prog 94 #[.slice A l.length c, .slice A2 m.length c2] w (CmpPost (sg (val 18446744073709551616 l) (val 18446744073709551616 m)) w) := by
  have hm := h.length
  have hm2 := h2.length
  by_cases hlen : l.length = m.length
  · have h0 : ((l.length : Int) != (m.length : Int)) = false := by simp; omega
    have HL := Lib.hid hlen
    have hlt : (l.length : Int) ≤ m.length := by omega
    have hlt2 : (m.length : Int) ≤ l.length := by omega
    clear hlen
    go_enter Tryz.func94, Tryz.ntmps94
    go_wp2_with fail
    go_loopw [19] (fun i wr => ∃ k n : Nat, k ≤ l.length ∧ (∀ j, l.length - k ≤ j → D l j = D m j) ∧ i = .int .i64 k ∧ wr = w.drewN n) (fun i _ => l.length - (intOf i).toNat)
    case atStart => exact ⟨0, 0, Nat.zero_le _, fun j hj => by rw [D_out (by omega), D_out (by have := HL.out; omega)], rfl, rfl⟩
    case round =>
      obtain ⟨k, n, hk, hz, rfl, rfl⟩ := hrel
      have HZ := Lib.hid hz
      clear hz
      by_cases hkl : k < l.length
      · obtain ⟨j, hj⟩ : ∃ j, l.length - 1 - k = j := ⟨_, rfl⟩
        have he : (l.length : Int) - 1 - k = j := by omega
        have hj1 : j < l.length := by omega
        have hj2 : j < m.length := by omega
        obtain ⟨ad, rfl, hb, hc⟩ := h.at_ hj1
        obtain ⟨ad2, rfl, hb2, hc2⟩ := h2.at_ hj2
        have i0 : (0 : Int) ≤ j := by omega
        have i1 : (j : Int) < l.length := by omega
        have i2 : (j : Int) < m.length := by omega
        have HJ := Lib.hid hj
        clear hj
        by_cases hd : D l j = D m j
        · have hd' : (D l j != D m j) = false := by simpa using hd
          have HD := Lib.hid hd
          clear hd
          go_wp2_with fail
          go_quiet (fail)
          go_wp2_with fail
          go_roundw
          case rel =>
            refine ⟨k + 1, _, by omega, fun i hi => ?_, by go_num, rfl⟩
            rcases Nat.lt_or_ge i (l.length - k) with h3 | h3
            · obtain rfl : i = j := by have := HJ.out; omega
              exact HD.out
            · exact HZ.out i h3
          case measure => simp [intOf]; omega
        · have hd' : (D l j != D m j) = true := by simpa using hd
          have hs : sg (D l j) (D m j) = sg (val 18446744073709551616 l) (val 18446744073709551616 m) := by
            have hj := HJ.out
            have hu : ∀ i, j < i → i < l.length → D l i = D m i := fun i h3 h4 => HZ.out i (by omega)
            rcases Int.lt_trichotomy (D l j) (D m j) with h3 | h3 | h3
            · have := S_lt_of_digit (b := 18446744073709551616) (by omega) hl hl2 hj1 hu h3
              rw [S_val (Nat.le_refl _), S_val (by omega)] at this
              rw [sg_lt h3, sg_lt this]
            · exact absurd h3 hd
            · have := S_lt_of_digit (b := 18446744073709551616) (by omega) hl2 hl hj1 (fun i h4 h5 => (hu i h4 h5).symm) h3
              rw [S_val (Nat.le_refl _), S_val (by omega)] at this
              rw [sg_gt h3, sg_gt this]
          have HS := Lib.hid hs
          clear hs hd
          go_wp2_with fail
          go_quiet (fail)
          go_wp2_with fail
          go_quiet ((go_at_call 102; first | exact quiet_add_same (cmpw_quiet _ _ _) | exact Calls.quiet_of_same (cmpw_quiet _ _ _)))
          go_wp2_with fail
          go_ret
          exact ⟨ret_int HS.out, _, by rw [World.drewN_drewN, World.drewN_drewN]⟩
      · obtain rfl : k = l.length := by omega
        have hs : (0 : Int) = sg (val 18446744073709551616 l) (val 18446744073709551616 m) := by
          have : l = m := D_ext HL.out fun i hi => HZ.out i (by omega)
          rw [this, sg_eq]
        have HS := Lib.hid hs
        clear hs
        go_wp2_with fail
        go_ret
        exact ⟨ret_int HS.out, _, rfl⟩
  · have hne : ((l.length : Int) == (m.length : Int)) = false := by simp; omega
    have hne' : ((l.length : Int) != (m.length : Int)) = true := by simp; omega
    have hs : Lib.compareInt l.length m.length = sg (val 18446744073709551616 l) (val 18446744073709551616 m) := by
      rcases Nat.lt_or_ge l.length m.length with k | k
      · rw [sg_lt (longer_greater (by omega) hl hl2 nm k)]
        unfold Lib.compareInt; rw [if_pos (by omega)]
      · have k' : m.length < l.length := by omega
        rw [sg_gt (longer_greater (by omega) hl2 hl nl k')]
        unfold Lib.compareInt; rw [if_neg (by omega), if_pos (by omega)]
    have HS := Lib.hid hs
    clear hs
    go_enter Tryz.func94, Tryz.ntmps94
    go_wp2_with (go_at_call 63; refine (Tryz.cmp_Compare_int _ _ _).mono ?_; rintro e w' ⟨rfl, rfl⟩)
    go_ret
    exact ⟨ret_int HS.out, 0, rfl⟩

end Go.Proofs.YtcdbjlmegkcaiaaGreatDoor
namespace Go.Proofs.YtcdbjlmegkcaiaaGreatDoor
open Go.RowKit
set_option linter.unusedVariables false

/-- a new number of this value -/
def Made (v : Int) (w : World) (e : Ending) (w' : World) : Prop :=
  ∃ s A c, e = .returned (.slice A s.length c) ∧ Lim 18446744073709551616 s ∧ Normal s ∧ val 18446744073709551616 s = v ∧ Own w' w.heap.size A c s ∧ Below w.heap.size w w'

theorem Made.of (v v' : Int) {w w' : World} {e : Ending} (h : Made v w e w') (hv : v = v') : Made v' w e w' := hv ▸ h

/-- a block that was filled, without the noughts at its end -/
theorem trim_row {C : List Int} {g n : Nat} {w0 w : World} (hC : C.length = n) (hr : Row w g C) (hCl : Lim 18446744073709551616 C) (hn : n ≤ 4000000) (hg : w0.heap.size ≤ g) (hb : Below w0.heap.size w0 w) :
    Calls Tryz.prog 59 #[.slice (some ⟨g, 0, none⟩) n n] w (Made (val 18446744073709551616 C) w0) := by
  subst hC
  have hnum := hr.nums (B := w.heap.size) (c := C.length) 0 C.length (by omega) (by omega) (by unfold maxLen; omega) hr.lt
  have e1 : (C.drop 0).take C.length = C := by simp
  rw [e1] at hnum
  refine (trim_any (some ⟨g, 0, none⟩) C.length C w w.heap.size hnum hCl).mono ?_
  rintro e w' ⟨A', c', rfl, ht, rfl⟩
  exact ⟨norm C, A', c', rfl, norm_lim hCl, norm_normal C, norm_val _ C, ht.row hr (by unfold maxLen; omega) hg, hb⟩

/-- the sum's round: a block that is filled, the carry's cell -/
def SumInv (l m : List Int) (n b g : Nat) (w0 : World) (k : Nat) (w : World) : Prop :=
  ∃ (C : List Int) (d : Int), C.length = n ∧ Lim 18446744073709551616 C ∧ 0 ≤ d ∧ d ≤ 1 ∧ Row w g C ∧ Row w b [d] ∧ Below w0.heap.size w0 w ∧
    S 18446744073709551616 (D C) k + d * 18446744073709551616 ^ k = S 18446744073709551616 (D l) k + S 18446744073709551616 (D m) k

theorem suminv_step {l m C : List Int} {n b k : Nat} {d z d' : Int} {w0 w : World} (hC : C.length = n) (hCl : Lim 18446744073709551616 C) (hr : Row w (b + 1) C) (hc : Row w b [d]) (hb : Below b w0 w)
    (he : S 18446744073709551616 (D C) k + d * 18446744073709551616 ^ k = S 18446744073709551616 (D l) k + S 18446744073709551616 (D m) k) (hk : k < n)
    (hz0 : 0 ≤ z) (hz1 : z < 18446744073709551616) (hd0 : 0 ≤ d') (hd1 : d' ≤ 1) (he' : D l k + D m k + d = z + d' * 18446744073709551616) (hw0 : b = w0.heap.size := by rfl) :
    SumInv l m n b (b + 1) w0 (k + 1) ((w.setCell ⟨b, 0, none⟩ (.int .u64 d')).setCell ⟨b + 1, k, none⟩ (.int .u64 z)) := by
  subst hw0
  refine ⟨C.set k z, d', by simp [hC], hCl.set k hz0 hz1, hd0, hd1, (hr.far (by simp) _).set_ k z, (hc.set_ 0 d').far (by simp) _, (hb.setCell (p := ⟨w0.heap.size, 0, none⟩) (Nat.le_refl _) _).setCell (p := ⟨w0.heap.size + 1, k, none⟩) (by simp) _, ?_⟩
  rw [S_succ, S_succ, S_succ, S_congr (g := D C) (fun i hi => by rw [D_set z i (by omega), if_neg (by omega)]), D_set z k (by omega), if_pos rfl, Int.pow_succ]
  grind

set_option maxHeartbeats 2000000 in
theorem sum_any (A : Option Addr) (c : Nat) (l : List Int) (A2 : Option Addr) (c2 : Nat) (m : List Int) (w : World) (h : Nums w w.heap.size A c l) (hl : Lim 18446744073709551616 l)
    (h2 : Nums w w.heap.size A2 c2 m) (hl2 : Lim 18446744073709551616 m) (hb1 : l.length ≤ 1000000) (hb2 : m.length ≤ 1000000) :
    Calls Tryz.prog 93 #[.slice A l.length c, .slice A2 m.length c2] w (Made (val 18446744073709551616 l + val 18446744073709551616 m) w) := by
  obtain ⟨n, hn⟩ : ∃ n : Nat, n = max l.length m.length + 1 := ⟨_, rfl⟩
  have hn' : max (l.length : Int) (m.length : Int) + 1 = (n : Int) := by omega
  have hnl : l.length < n := by omega
  have hnm : m.length < n := by omega
  have hn2 : n ≤ 1000001 := by omega
  have hmk := fun W => run_make n (by omega) W
  have HN := Lib.hid hn
  clear hn
  go_enter Tryz.func93, Tryz.ntmps93
  go_wp2_with fail
  go_loopw [19] (fun i wr => ∃ k : Nat, k ≤ n ∧ i = .int .i64 k ∧ SumInv l m n w.heap.size (w.heap.size + 1) w k wr) (fun i _ => n - (intOf i).toNat)
  case atStart =>
    refine ⟨0, by omega, rfl, List.replicate n 0, 0, by simp, Lim.zeros (by omega) n, by omega, by omega, ?_, ?_, ?_, by simp [S]⟩
    · have := Row.new (w.alloc (.cells #[Value.int .u64 0] 62)) (List.replicate n 0)
      simpa using this
    · exact (Row.one w 0).alloc _
    · exact ((Below.refl _ w).alloc (Nat.le_refl _) _).alloc (by simp) _
  case round =>
    obtain ⟨k, hk, rfl, C, d, hC, hCl, hd0, hd1, hr, hc, hb, he⟩ := hrel
    have hz := hb.size
    have hgl := hr.lt
    have HC := Lib.hid hC
    have HE := Lib.hid he
    clear hC he
    by_cases hkn : k < n
    · have hx := D_lim (b := 18446744073709551616) (by omega) hl k
      have hy := D_lim (b := 18446744073709551616) (by omega) hl2 k
      have c0 := hr.cell (k := k) (by rw [HC.out]; exact hkn)
      have f0 := hr.frozen k
      go_wp2_with (first
        | (go_at_call 89; ((with_reducible refine (limb_any A c l k _ _ (h.below hb)).mono ?_); rintro e w' ⟨rfl, rfl⟩))
        | (go_at_call 89; ((with_reducible refine (limb_any A2 c2 m k _ _ (h2.below hb)).mono ?_); rintro e w' ⟨rfl, rfl⟩))
        | (go_at_call 101; ((with_reducible refine (sumstep_any (D l k) (D m k) d _ _ hc hx.1 hx.2 hy.1 hy.2 hd0 hd1).mono ?_); rintro e w' ⟨z, d', rfl, hz0, hz1, hd0', hd1', he', rfl⟩)))
      go_roundw
      case rel => exact ⟨k + 1, by omega, by go_num, suminv_step HC.out hCl hr hc hb HE.out hkn hz0 hz1 hd0' hd1' he'.out⟩
      case measure => simp [intOf]; omega
    · obtain rfl : k = n := by omega
      go_wp2_with (go_at_call 59; ((with_reducible refine (trim_row HC.out hr hCl (by omega) (Nat.le_succ _) hb).mono ?_); rintro e w' ⟨s, A', c', rfl, hs1, hs2, hs3, hs4, hs5⟩; have HS3 := Lib.hid hs3; clear hs3))
      go_ret
      have hv := HE.out
      have hlast : val 18446744073709551616 C = val 18446744073709551616 l + val 18446744073709551616 m := by
        have b1 := val_bound (b := 18446744073709551616) (by omega) hl
        have b2 := val_bound (b := 18446744073709551616) (by omega) hl2
        have p1 := pow_le' (b := 18446744073709551616) (by omega) (show l.length ≤ k - 1 by omega)
        have p2 := pow_le' (b := 18446744073709551616) (by omega) (show m.length ≤ k - 1 by omega)
        have p3 : (18446744073709551616 : Int) ^ k = 18446744073709551616 ^ (k - 1) * 18446744073709551616 := by rw [← Int.pow_succ]; congr 1; omega
        rw [S_val (by rw [HC.out]; omega), S_val (by omega), S_val (by omega), p3] at hv
        have hb0 := (val_bound (b := 18446744073709551616) (by omega) hCl).1
        generalize (18446744073709551616 : Int) ^ (k - 1) = P at *
        rcases (show d = 0 ∨ d = 1 by omega) with rfl | rfl <;> omega
      exact ⟨s, A', c', rfl, hs1, hs2, by rw [HS3.out, hlast], hs4, hs5⟩

/-- the difference's round -/
def DiffInv (l m : List Int) (n b g : Nat) (w0 : World) (k : Nat) (w : World) : Prop :=
  ∃ (C : List Int) (d : Int), C.length = n ∧ Lim 18446744073709551616 C ∧ 0 ≤ d ∧ d ≤ 1 ∧ Row w g C ∧ Row w b [d] ∧ Below w0.heap.size w0 w ∧
    S 18446744073709551616 (D C) k - d * 18446744073709551616 ^ k = S 18446744073709551616 (D l) k - S 18446744073709551616 (D m) k

theorem diffinv_step {l m C : List Int} {n b k : Nat} {d z d' : Int} {w0 w : World} (hC : C.length = n) (hCl : Lim 18446744073709551616 C) (hr : Row w (b + 1) C) (hc : Row w b [d]) (hb : Below b w0 w)
    (he : S 18446744073709551616 (D C) k - d * 18446744073709551616 ^ k = S 18446744073709551616 (D l) k - S 18446744073709551616 (D m) k) (hk : k < n)
    (hz0 : 0 ≤ z) (hz1 : z < 18446744073709551616) (hd0 : 0 ≤ d') (hd1 : d' ≤ 1) (he' : D l k - D m k - d = z - d' * 18446744073709551616) (hw0 : b = w0.heap.size := by rfl) :
    DiffInv l m n b (b + 1) w0 (k + 1) ((w.setCell ⟨b, 0, none⟩ (.int .u64 d')).setCell ⟨b + 1, k, none⟩ (.int .u64 z)) := by
  subst hw0
  refine ⟨C.set k z, d', by simp [hC], hCl.set k hz0 hz1, hd0, hd1, (hr.far (by simp) _).set_ k z, (hc.set_ 0 d').far (by simp) _, (hb.setCell (p := ⟨w0.heap.size, 0, none⟩) (Nat.le_refl _) _).setCell (p := ⟨w0.heap.size + 1, k, none⟩) (by simp) _, ?_⟩
  rw [S_succ, S_succ, S_succ, S_congr (g := D C) (fun i hi => by rw [D_set z i (by omega), if_neg (by omega)]), D_set z k (by omega), if_pos rfl, Int.pow_succ]
  grind

theorem DiffInv.drew {l m : List Int} {n b g k : Nat} {w0 w : World} (h : DiffInv l m n b g w0 k w) : DiffInv l m n b g w0 k w.drew := by
  obtain ⟨C, d, h1, h2, h3, h4, h5, h6, h7, h8⟩ := h
  exact ⟨C, d, h1, h2, h3, h4, h5.drew, h6.drew, h7.drew, h8⟩

set_option maxHeartbeats 2000000 in
theorem difference_any (A : Option Addr) (c : Nat) (l : List Int) (A2 : Option Addr) (c2 : Nat) (m : List Int) (w : World) (h : Nums w w.heap.size A c l) (hl : Lim 18446744073709551616 l)
    (h2 : Nums w w.heap.size A2 c2 m) (hl2 : Lim 18446744073709551616 m) (hb1 : l.length ≤ 1000000) (hle : val 18446744073709551616 m ≤ val 18446744073709551616 l) (nm : Normal m) :
    Calls Tryz.prog 95 #[.slice A l.length c, .slice A2 m.length c2] w (Made (val 18446744073709551616 l - val 18446744073709551616 m) w) := by
  have hml : m.length ≤ l.length := length_le_of_lt (b := 18446744073709551616) (by omega) hl2 nm (by have := (val_bound (b := 18446744073709551616) (by omega) hl).2; omega)
  have hmk := fun W => run_make l.length (by omega) W
  go_enter Tryz.func95, Tryz.ntmps95
  go_wp2_with fail
  go_loopw [15] (fun i wr => ∃ k : Nat, k ≤ l.length ∧ i = .int .i64 k ∧ DiffInv l m l.length w.heap.size (w.heap.size + 1) w k wr) (fun i _ => l.length - (intOf i).toNat)
  case atStart =>
    refine ⟨0, by omega, rfl, List.replicate l.length 0, 0, by simp, Lim.zeros (by omega) _, by omega, by omega, ?_, ?_, ?_, by simp [S]⟩
    · have := Row.new (w.alloc (.cells #[Value.int .u64 0] 62)) (List.replicate l.length 0)
      simpa using this
    · exact (Row.one w 0).alloc _
    · exact ((Below.refl _ w).alloc (Nat.le_refl _) _).alloc (by simp) _
  case round =>
    obtain ⟨k, hk, rfl, C, d, hC, hCl, hd0, hd1, hr, hc, hb, he⟩ := hrel
    have hz := hb.size
    have hgl := hr.lt
    have HC := Lib.hid hC
    have HE := Lib.hid he
    clear hC he
    by_cases hkn : k < l.length
    · have hx := D_lim (b := 18446744073709551616) (by omega) hl k
      have hy := D_lim (b := 18446744073709551616) (by omega) hl2 k
      have c0 := hr.cell (k := k) (by rw [HC.out]; exact hkn)
      have f0 := hr.frozen k
      obtain ⟨ad, rfl, hadb, c1⟩ := (h.below hb).at_ hkn
      have i0 : (0 : Int) ≤ (k : Int) := by omega
      have i1 : (k : Int) < l.length := by omega
      have ck := fun u => ((h.below hb).setCell (p := ⟨w.heap.size, 0, none⟩) (Nat.le_refl _) u).at_some hkn
      have ck2 := fun u v => (((h.below hb).setCell (p := ⟨w.heap.size, 0, none⟩) (Nat.le_refl _) u).setCell (p := ⟨w.heap.size + 1, k, none⟩) (Nat.le_succ _) v).at_some hkn
      go_wp2_with fail
      go_region_held3 (fun w' => w'.cell? (ad.add k) = some (.int .u64 (D l k))) (go_keep)
        (first
        | (go_at_call 89; ((with_reducible refine (limb_any A2 c2 m k _ _ (h2.below hb).drew).mono ?_); rintro e w' ⟨rfl, rfl⟩))
        | (go_at_call 103; ((with_reducible refine (diffstep_any (D l k) (D m k) d _ _ hc.drew hx.1 hx.2 hy.1 hy.2 hd0 hd1).mono ?_); rintro e w' ⟨z, d', rfl, hz0, hz1, hd0', hd1', he', rfl⟩)))
      go_wp2_with fail
      go_roundw
      case rel => exact ⟨k + 1, by omega, by go_num, (diffinv_step HC.out hCl hr hc hb HE.out hkn hz0 hz1 hd0' hd1' he'.out).drew⟩
      case measure => simp [intOf]; omega
    · obtain rfl : k = l.length := by omega
      go_wp2_with (go_at_call 59; ((with_reducible refine (trim_row HC.out hr hCl (by omega) (Nat.le_succ _) hb).mono ?_); rintro e w' ⟨s, A', c', rfl, hs1, hs2, hs3, hs4, hs5⟩; have HS3 := Lib.hid hs3; clear hs3))
      go_ret
      have hv := HE.out
      have hlast : val 18446744073709551616 C = val 18446744073709551616 l - val 18446744073709551616 m := by
        rw [S_val (by rw [HC.out]; omega), S_val (by omega), S_val (by omega)] at hv
        have hb0 := val_bound (b := 18446744073709551616) (by omega) hCl
        rw [HC.out] at hb0
        generalize (18446744073709551616 : Int) ^ l.length = P at *
        rcases (show d = 0 ∨ d = 1 by omega) with rfl | rfl <;> omega
      exact ⟨s, A', c', rfl, hs1, hs2, by rw [HS3.out, hlast], hs4, hs5⟩
end Go.Proofs.YtcdbjlmegkcaiaaGreatDoor
namespace Go.Proofs.YtcdbjlmegkcaiaaGreatDoor
open Go.RowKit
set_option linter.unusedVariables false

/-- a new number of this value, and no error -/
def Made2 (v : Int) (w : World) (e : Ending) (w' : World) : Prop :=
  ∃ s A c, e = .returned (.tuple #[.slice A s.length c, .int .i64 0]) ∧ Lim 18446744073709551616 s ∧ Normal s ∧ val 18446744073709551616 s = v ∧ Own w' w.heap.size A c s ∧ Below w.heap.size w w'
/-- no number, and an error -/
def Fails (n : Int) (w : World) (e : Ending) (w' : World) : Prop := e = .returned (.tuple #[.slice none 0 0, .int .i64 n]) ∧ Below w.heap.size w w'
theorem below_drewN {B : Nat} {a w : World} (h : Below B a w) (n : Nat) : Below B a (w.drewN n) := ⟨h.os, h.tape, h.output, h.size, h.block⟩

set_option maxHeartbeats 1000000 in
theorem Add_any (A : Option Addr) (c : Nat) (l : List Int) (A2 : Option Addr) (c2 : Nat) (m : List Int) (w : World) (h : Nums w w.heap.size A c l) (hl : Lim 18446744073709551616 l)
    (h2 : Nums w w.heap.size A2 c2 m) (hl2 : Lim 18446744073709551616 m) (hlen : (norm l).length ≤ 4096) (hlen2 : (norm m).length ≤ 4096)
    (hv : val 18446744073709551616 l + val 18446744073709551616 m < 18446744073709551616 ^ 4096) :
    Calls Tryz.prog 85 #[.slice A l.length c, .slice A2 m.length c2] w (Made2 (val 18446744073709551616 l + val 18446744073709551616 m) w) := by
  have e1 := norm_val 18446744073709551616 l
  have e2 := norm_val 18446744073709551616 m
  rw [← e1, ← e2] at hv
  rw [← e1, ← e2]
  clear e1 e2
  have HV := Lib.hid hv
  clear hv
  go_enter Tryz.func85, Tryz.ntmps85
  go_wp2_with (first
    | (go_at_call 79; ((with_reducible refine (both_any A c l A2 c2 m _ _ h hl hlen h2 hl2 hlen2).mono ?_); rintro e w' ⟨A', c', A2', c2', rfl, ht, ht2, rfl⟩))
    | (go_at_call 93; ((with_reducible refine (sum_any A' c' (norm l) A2' c2' (norm m) _ (ht.nums h) (norm_lim hl) (ht2.nums h2) (norm_lim hl2) (by omega) (by omega)).mono ?_); rintro e w' ⟨s, A3, c3, rfl, hs1, hs2, hs3, hs4, hs5⟩; have hsl := length_le_of_lt (b := 18446744073709551616) (k := 4096) (by omega) hs1 hs2 (by rw [hs3]; exact HV.out); have HS3 := Lib.hid hs3; clear hs3))
    | (go_at_call 80; ((with_reducible refine (answered_any A3 c3 s _ hsl).mono ?_); rintro e w' ⟨rfl, rfl⟩)))
  go_ret2
  exact ⟨s, A3, c3, rfl, hs1, hs2, HS3.out, hs4, hs5⟩

set_option maxHeartbeats 1000000 in
theorem Add_long (A : Option Addr) (c : Nat) (l : List Int) (A2 : Option Addr) (c2 : Nat) (m : List Int) (w : World) (h : Nums w w.heap.size A c l) (hl : Lim 18446744073709551616 l)
    (h2 : Nums w w.heap.size A2 c2 m) (hl2 : Lim 18446744073709551616 m) (hlen : (norm l).length ≤ 4096) (hlen2 : (norm m).length ≤ 4096)
    (hv : 18446744073709551616 ^ 4096 ≤ val 18446744073709551616 l + val 18446744073709551616 m) :
    Calls Tryz.prog 85 #[.slice A l.length c, .slice A2 m.length c2] w (Fails 3 w) := by
  have e1 := norm_val 18446744073709551616 l
  have e2 := norm_val 18446744073709551616 m
  rw [← e1, ← e2] at hv
  clear e1 e2
  have HV := Lib.hid hv
  clear hv
  go_enter Tryz.func85, Tryz.ntmps85
  go_wp2_with (first
    | (go_at_call 79; ((with_reducible refine (both_any A c l A2 c2 m _ _ h hl hlen h2 hl2 hlen2).mono ?_); rintro e w' ⟨A', c', A2', c2', rfl, ht, ht2, rfl⟩))
    | (go_at_call 93; ((with_reducible refine (sum_any A' c' (norm l) A2' c2' (norm m) _ (ht.nums h) (norm_lim hl) (ht2.nums h2) (norm_lim hl2) (by omega) (by omega)).mono ?_); rintro e w' ⟨s, A3, c3, rfl, hs1, hs2, hs3, hs4, hs5⟩; have hsl := lt_length_of_ge (b := 18446744073709551616) (k := 4096) (by omega) hs1 (by rw [hs3]; exact HV.out); have HS3 := Lib.hid hs3; clear hs3))
    | (go_at_call 80; ((with_reducible refine (answered_long A3 c3 s _ hsl).mono ?_); rintro e w' ⟨rfl, rfl⟩)))
  go_ret2
  exact ⟨rfl, hs5⟩

set_option maxHeartbeats 1000000 in
theorem Sub_any (A : Option Addr) (c : Nat) (l : List Int) (A2 : Option Addr) (c2 : Nat) (m : List Int) (w : World) (h : Nums w w.heap.size A c l) (hl : Lim 18446744073709551616 l)
    (h2 : Nums w w.heap.size A2 c2 m) (hl2 : Lim 18446744073709551616 m) (hlen : (norm l).length ≤ 4096) (hlen2 : (norm m).length ≤ 4096)
    (hv : val 18446744073709551616 m ≤ val 18446744073709551616 l) :
    Calls Tryz.prog 87 #[.slice A l.length c, .slice A2 m.length c2] w (Made2 (val 18446744073709551616 l - val 18446744073709551616 m) w) := by
  have e1 := norm_val 18446744073709551616 l
  have e2 := norm_val 18446744073709551616 m
  rw [← e1, ← e2] at hv
  rw [← e1, ← e2]
  clear e1 e2
  have hs : 0 ≤ sg (val 18446744073709551616 (norm l)) (val 18446744073709551616 (norm m)) := by unfold sg; split <;> (try split) <;> omega
  go_enter Tryz.func87, Tryz.ntmps87
  go_wp2_with (first
    | (go_at_call 79; ((with_reducible refine (both_any A c l A2 c2 m _ _ h hl hlen h2 hl2 hlen2).mono ?_); rintro e w' ⟨A', c', A2', c2', rfl, ht, ht2, rfl⟩))
    | (go_at_call 94; ((with_reducible refine (compare_any A' c' (norm l) A2' c2' (norm m) _ (ht.nums h) (norm_lim hl) (ht2.nums h2) (norm_lim hl2) (norm_normal l) (norm_normal m)).mono ?_); rintro e w' ⟨rfl, n, rfl⟩))
    | (go_at_call 95; ((with_reducible refine (difference_any A' c' (norm l) A2' c2' (norm m) _ ((ht.nums h).drewN n) (norm_lim hl) ((ht2.nums h2).drewN n) (norm_lim hl2) (by omega) hv (norm_normal m)).mono ?_); rintro e w' ⟨s, A3, c3, rfl, hs1, hs2, hs3, hs4, hs5⟩; have HS3 := Lib.hid hs3; clear hs3)))
  go_ret2
  exact ⟨s, A3, c3, rfl, hs1, hs2, HS3.out, hs4, (below_drewN (Below.refl _ w) n).trans hs5⟩

set_option maxHeartbeats 1000000 in
theorem Sub_less (A : Option Addr) (c : Nat) (l : List Int) (A2 : Option Addr) (c2 : Nat) (m : List Int) (w : World) (h : Nums w w.heap.size A c l) (hl : Lim 18446744073709551616 l)
    (h2 : Nums w w.heap.size A2 c2 m) (hl2 : Lim 18446744073709551616 m) (hlen : (norm l).length ≤ 4096) (hlen2 : (norm m).length ≤ 4096)
    (hv : val 18446744073709551616 l < val 18446744073709551616 m) :
    Calls Tryz.prog 87 #[.slice A l.length c, .slice A2 m.length c2] w (Fails 2 w) := by
  have e1 := norm_val 18446744073709551616 l
  have e2 := norm_val 18446744073709551616 m
  rw [← e1, ← e2] at hv
  clear e1 e2
  have hs : sg (val 18446744073709551616 (norm l)) (val 18446744073709551616 (norm m)) < 0 := by rw [sg_lt hv]; omega
  go_enter Tryz.func87, Tryz.ntmps87
  go_wp2_with (first
    | (go_at_call 79; ((with_reducible refine (both_any A c l A2 c2 m _ _ h hl hlen h2 hl2 hlen2).mono ?_); rintro e w' ⟨A', c', A2', c2', rfl, ht, ht2, rfl⟩))
    | (go_at_call 94; ((with_reducible refine (compare_any A' c' (norm l) A2' c2' (norm m) _ (ht.nums h) (norm_lim hl) (ht2.nums h2) (norm_lim hl2) (norm_normal l) (norm_normal m)).mono ?_); rintro e w' ⟨rfl, n, rfl⟩)))
  go_ret2
  exact ⟨rfl, below_drewN (Below.refl _ w) n⟩
end Go.Proofs.YtcdbjlmegkcaiaaGreatDoor
namespace Go.Proofs.YtcdbjlmegkcaiaaGreatDoor
open Go.RowKit
set_option linter.unusedVariables false

theorem mul_ex (x y : Int) (hx : 0 ≤ x) (hx1 : x < 18446744073709551616) (hy : 0 ≤ y) (hy1 : y < 18446744073709551616) :
    ∃ hi lo : Int, 0 ≤ hi ∧ hi ≤ 18446744073709551614 ∧ 0 ≤ lo ∧ lo < 18446744073709551616 ∧ x * y = hi * 18446744073709551616 + lo ∧
      ∀ w, Calls Tryz.prog 97 #[.int .u64 x, .int .u64 y] w fun e w' => e = .returned (.tuple #[.int .u64 hi, .int .u64 lo]) ∧ w = w' := by
  obtain ⟨x, rfl⟩ := Int.eq_ofNat_of_zero_le hx
  obtain ⟨y, rfl⟩ := Int.eq_ofNat_of_zero_le hy
  have hb : (x : Int) * y ≤ 18446744073709551615 * 18446744073709551615 := Int.mul_le_mul (by omega) (by omega) (by omega) (by omega)
  have hb0 : (0 : Int) ≤ (x : Int) * y := Int.mul_nonneg (by omega) (by omega)
  have e : ((x * y : Nat) : Int) = (x : Int) * y := by push_cast; rfl
  refine ⟨((x * y / 18446744073709551616 : Nat) : Int), ((x * y % 18446744073709551616 : Nat) : Int), by omega, by omega, by omega, by omega, by omega, fun w => ?_⟩
  exact (Tryz.bits_Mul64 x y (by omega) (by omega) w).mono fun _ _ ⟨a, b⟩ => ⟨a, b.symm⟩

/-- a step of a product that is added: the digit, and the carry into its cell -/
def TimesStep (x y f c : Int) (b : Nat) (w : World) (e : Ending) (w' : World) : Prop :=
  ∃ z d : Int, e = .returned (.int .u64 z) ∧ 0 ≤ z ∧ z < 18446744073709551616 ∧ 0 ≤ d ∧ d < 18446744073709551616 ∧ Hid (x + y * f + c = z + d * 18446744073709551616) ∧ w.setCell ⟨b, 0, none⟩ (.int .u64 d) = w'

set_option maxHeartbeats 1000000 in
theorem timesstep_any (x y f c : Int) (a b : Nat) (w : World) (ha : Row w a [f]) (h : Row w b [c]) (hx : 0 ≤ x) (hx1 : x < 18446744073709551616) (hy : 0 ≤ y) (hy1 : y < 18446744073709551616)
    (hf : 0 ≤ f) (hf1 : f < 18446744073709551616) (hc : 0 ≤ c) (hc1 : c < 18446744073709551616) :
    Calls Tryz.prog 96 #[.int .u64 x, .int .u64 y, .pointer (some ⟨a, 0, none⟩), .pointer (some ⟨b, 0, none⟩)] w (TimesStep x y f c b w) := by
  have h0 := h.cell (k := 0) (by simp)
  have a0 := ha.cell (k := 0) (by simp)
  have hfz := h.frozen 0
  simp only [D_cons_zero] at h0 a0
  obtain ⟨hi, lo, m0, m1, m2, m3, me, HM⟩ := mul_ex y f hy hy1 hf hf1
  obtain ⟨z1, o1, z10, z11, o10, o11, e1, r1⟩ := run_add lo x 0 w m2 m3 hx hx1 (by omega) (by omega)
  obtain ⟨z2, o2, z20, z21, o20, o21, e2, r2⟩ := run_add z1 c 0 w z10 z11 hc hc1 (by omega) (by omega)
  have hb : y * f ≤ 18446744073709551615 * 18446744073709551615 := Int.mul_le_mul (by omega) (by omega) (by omega) (by omega)
  have hbd : hi + o1 + o2 ≤ 18446744073709551615 := by omega
  have HE : Hid (x + y * f + c = z2 + (hi + o1 + o2) * 18446744073709551616) := by show _ = _; omega
  clear me e1 e2 hb
  go_enter Tryz.func96, Tryz.ntmps96
  go_wp2_with (go_at_call 97; ((with_reducible refine (HM _).mono ?_); rintro e w' ⟨rfl, rfl⟩))
  go_ret
  exact ⟨z2, hi + o1 + o2, rfl, z20, z21, by omega, by omega, HE, rfl⟩
/-- the round of a product that is added: the whole block's list, the carry -/
def TimesInv (C0 m : List Int) (f : Int) (o : Nat) (g a b : Nat) (w0 : World) (k : Nat) (w : World) : Prop :=
  ∃ (C : List Int) (d : Int), C.length = C0.length ∧ Lim 18446744073709551616 C ∧ 0 ≤ d ∧ d < 18446744073709551616 ∧ Row w g C ∧ Row w a [f] ∧ Row w b [d] ∧ w0.grownBy w (some g) ∧
    (∀ i, (i < o ∨ o + k ≤ i) → D C i = D C0 i) ∧
    S 18446744073709551616 (fun i => D C (o + i)) k + d * 18446744073709551616 ^ k = S 18446744073709551616 (fun i => D C0 (o + i)) k + S 18446744073709551616 (D m) k * f

theorem only_alloc {a w : World} {row : Option Nat} (h : a.grownBy w row) (o : Obj) : a.grownBy (w.alloc o) row :=
  ⟨h.os, h.tape, h.output, Nat.le_trans h.size (by simp), fun i hi hne => (Below.heap_alloc w o i (Nat.lt_of_lt_of_le hi h.size)).trans (h.block i hi hne)⟩
theorem only_setCell {a w : World} {g : Nat} (h : a.grownBy w (some g)) {p : Addr} (hp : p.block = g ∨ a.heap.size ≤ p.block) (u : Value) : a.grownBy (w.setCell p u) (some g) :=
  ⟨h.os, h.tape, h.output, by simpa [World.setCell] using h.size, fun i hi hne => (Below.heap_setCell w p u i (by
    rintro rfl
    rcases hp with hp | hp
    · exact hne (by rw [hp])
    · omega)).trans (h.block i hi hne)⟩
theorem only_drew {a w : World} {row : Option Nat} (h : a.grownBy w row) : a.grownBy w.drew row := ⟨h.os, h.tape, h.output, h.size, h.block⟩

/-- what is behind a product that was added -/
def TimesPost (C0 m : List Int) (f : Int) (o : Nat) (g : Nat) (w0 : World) (e : Ending) (w : World) : Prop :=
  ∃ (C : List Int) (d : Int), e = .returned (.int .u64 d) ∧ C.length = C0.length ∧ Lim 18446744073709551616 C ∧ 0 ≤ d ∧ d < 18446744073709551616 ∧ Row w g C ∧ w0.grownBy w (some g) ∧
    Hid (∀ i, (i < o ∨ o + m.length ≤ i) → D C i = D C0 i) ∧
    Hid (S 18446744073709551616 (fun i => D C (o + i)) m.length + d * 18446744073709551616 ^ m.length = S 18446744073709551616 (fun i => D C0 (o + i)) m.length + val 18446744073709551616 m * f)

theorem timesinv_step {C0 m C : List Int} {f d z d' : Int} {o g k : Nat} {w0 w : World} (hC : C.length = C0.length) (hCl : Lim 18446744073709551616 C) (hr : Row w g C) (ha : Row w w0.heap.size [f]) (hc : Row w (w0.heap.size + 1) [d]) (hg : w0.grownBy w (some g))
    (ho : ∀ i, (i < o ∨ o + k ≤ i) → D C i = D C0 i)
    (he : S 18446744073709551616 (fun i => D C (o + i)) k + d * 18446744073709551616 ^ k = S 18446744073709551616 (fun i => D C0 (o + i)) k + S 18446744073709551616 (D m) k * f) (hk : o + k < C0.length) (hg0 : g < w0.heap.size)
    (hz0 : 0 ≤ z) (hz1 : z < 18446744073709551616) (hd0 : 0 ≤ d') (hd1 : d' < 18446744073709551616) (he' : D C (o + k) + D m k * f + d = z + d' * 18446744073709551616) :
    TimesInv C0 m f o g w0.heap.size (w0.heap.size + 1) w0 (k + 1) ((w.setCell ⟨w0.heap.size + 1, 0, none⟩ (.int .u64 d')).setCell ⟨g, o + k, none⟩ (.int .u64 z)) := by
  refine ⟨C.set (o + k) z, d', by simp [hC], hCl.set _ hz0 hz1, hd0, hd1, (hr.far (by simp; omega) _).set_ _ z, (ha.far (by simp) _).far (by simp; omega) _, (hc.set_ 0 d').far (by simp; omega) _, only_setCell (p := ⟨g, o + k, none⟩) (only_setCell (p := ⟨w0.heap.size + 1, 0, none⟩) hg (.inr (by simp)) _) (.inl rfl) _, fun i hi => ?_, ?_⟩
  · rw [D_set z i (by omega), if_neg (by omega)]; exact ho i (by omega)
  · rw [S_succ, S_succ, S_succ, S_congr (g := fun i => D C (o + i)) (fun i hi => by rw [D_set z (o + i) (by omega), if_neg (by omega)]), D_set z (o + k) (by omega), if_pos rfl, Int.pow_succ]
    have := ho (o + k) (by omega)
    rw [this] at he'
    grind
theorem TimesInv.drew {C0 m : List Int} {f : Int} {o g a b k : Nat} {w0 w : World} (h : TimesInv C0 m f o g a b w0 k w) : TimesInv C0 m f o g a b w0 k w.drew := by
  obtain ⟨C, d, h1, h2, h3, h4, h5, h6, h7, h8, h9⟩ := h
  exact ⟨C, d, h1, h2, h3, h4, h5.drew, h6.drew, h7.drew, only_drew h8, h9⟩

set_option maxHeartbeats 4000000 in
theorem addtimes_any (C0 : List Int) (g o cc : Nat) (A2 : Option Addr) (c2 : Nat) (m : List Int) (f : Int) (w : World) (hr0 : Row w g C0) (hC0 : Lim 18446744073709551616 C0) (ho : o + m.length ≤ C0.length) (hcc : m.length ≤ cc) (hco : C0.length ≤ 4000000)
    (h2 : Nums w g A2 c2 m) (hl2 : Lim 18446744073709551616 m) (hf : 0 ≤ f) (hf1 : f < 18446744073709551616) :
    Calls Tryz.prog 90 #[.slice (some ⟨g, o, none⟩) m.length cc, .slice A2 m.length c2, .int .u64 f] w (TimesPost C0 m f o g w) := by
  have hg0 := hr0.lt
  have hml : m.length ≤ 4000000 := by omega
  go_enter Tryz.func90, Tryz.ntmps90
  go_wp2_with fail
  go_loopw [13] (fun i wr => ∃ k : Nat, k ≤ m.length ∧ i = .int .i64 k ∧ TimesInv C0 m f o g w.heap.size (w.heap.size + 1) w k wr) (fun i _ => m.length - (intOf i).toNat)
  case atStart =>
    refine ⟨0, by omega, rfl, C0, 0, rfl, hC0, by omega, by omega, (hr0.alloc _).alloc _, (Row.one w f).alloc _, ?_, only_alloc (only_alloc (World.grownBy.refl w _) _) _, fun _ _ => rfl, by simp [S]⟩
    have := Row.one (w.alloc (.cells #[Value.int .u64 f] 62)) 0
    simpa using this
  case round =>
    obtain ⟨k, hk, rfl, C, d, hC, hCl, hd0, hd1, hr, ha, hc, hg, hout, he⟩ := hrel
    have HC := Lib.hid hC
    have HE := Lib.hid he
    have HO := Lib.hid hout
    clear hC he hout
    by_cases hkn : k < m.length
    · have hx := D_lim (b := 18446744073709551616) (by omega) hCl (o + k)
      have hy := D_lim (b := 18446744073709551616) (by omega) hl2 k
      have c0 := hr.cell (k := o + k) (by rw [HC.out]; omega)
      have f0 := hr.frozen (o + k)
      have hnums : Nums wr g A2 c2 m := h2.grown hg (by omega) (fun j e => by injection e; omega)
      obtain ⟨ad, rfl, hadb, c1⟩ := hnums.at_ hkn
      have i0 : (0 : Int) ≤ (k : Int) := by omega
      have i1 : (k : Int) < m.length := by omega
      go_wp2_with fail
      go_region_with (go_at_call 96; ((with_reducible refine (timesstep_any (D C (o + k)) (D m k) f d _ _ _ ha.drew hc.drew hx.1 hx.2 hy.1 hy.2 hf hf1 hd0 hd1).mono ?_); rintro e w' ⟨z, d', rfl, hz0, hz1, hd0', hd1', he', rfl⟩))
      all_goals
        go_wp2_with fail
        go_roundw
        case rel => exact ⟨k + 1, by omega, by go_num, (timesinv_step HC.out hCl hr ha hc hg HO.out HE.out (by omega) hg0 hz0 hz1 hd0' hd1' he'.out).drew⟩
        case measure => simp [intOf]; omega
    · obtain rfl : k = m.length := by omega
      have h0 := hc.cell (k := 0) (by simp)
      simp only [D_cons_zero] at h0
      go_wp2_with fail
      go_ret
      exact ⟨C, d, rfl, HC.out, hCl, hd0, hd1, hr, hg, HO, HE⟩
end Go.Proofs.YtcdbjlmegkcaiaaGreatDoor
namespace Go.Proofs.YtcdbjlmegkcaiaaGreatDoor
open Go.RowKit
set_option linter.unusedVariables false

/-- 'c[lo : lo + m]' -/
theorem run_cut (g o n cap lo m : Nat) (hi : Int) (hhi : hi = (lo : Int) + m) (hc : lo + m ≤ cap) (hlt : lo < cap) (W : World) :
    (Instr.slice 38 (.slice (some ⟨g, o, none⟩) n cap) (some (.int .i64 (lo : Int))) (some (.int .i64 hi)) none).run Tryz.prog W = .ok (.slice (some ⟨g, o + lo, none⟩) m (cap - lo)) W := by
  obtain ⟨i, hi', hz0, hz1, hz2⟩ := info_parts info39
  have he : Tryz.prog.elem 38 = 62 := by kernel_rfl
  have hs : (sizeOf 62).run Tryz.prog W = .ok 1 W := by simp [sizeOf, typeInfo, hi', hz1]
  rw [Go.run_slice_lh W 38 _ _ _ (by rw [he]; exact Tryz.underlying38) .i64 .i64 _ _ (by omega) (by omega) (by omega)]
  rw [he, hs]
  have e1 : hi.toNat - lo = m := by omega
  simp only [Result.andThen, sliced, Int.toNat_natCast, Nat.mul_one, e1]
  rw [if_neg (by omega)]
  simp only [Option.map_some, add_at]

theorem only_undrew {a w : World} {row : Option Nat} (h : a.drew.grownBy w row) : a.grownBy w row := ⟨h.os, h.tape, h.output, h.size, h.block⟩

/-- the product's round -/
def ProdInv (l m : List Int) (g : Nat) (w0 : World) (k : Nat) (w : World) : Prop :=
  ∃ C : List Int, C.length = l.length + m.length ∧ Lim 18446744073709551616 C ∧ Row w g C ∧ Below w0.heap.size w0 w ∧ (∀ i, k + m.length ≤ i → D C i = 0) ∧
    S 18446744073709551616 (D C) (k + m.length) = S 18446744073709551616 (D l) k * val 18446744073709551616 m

theorem below_of_only {a w w' : World} {g B : Nat} (h : Below B a w) (hg : w.grownBy w' (some g)) (hB : B ≤ w.heap.size) (hgB : B ≤ g) : Below B a w' :=
  h.grown hg hB fun k hk => by injection hk; omega

theorem prodinv_step {l m C C' : List Int} {d : Int} {g k : Nat} {w0 w w' : World} (hC : C.length = l.length + m.length) (hb : Below w0.heap.size w0 w) (hz : ∀ i, k + m.length ≤ i → D C i = 0)
    (he : S 18446744073709551616 (D C) (k + m.length) = S 18446744073709551616 (D l) k * val 18446744073709551616 m) (hk : k < l.length)
    (hC' : C'.length = C.length) (hCl : Lim 18446744073709551616 C') (hd0 : 0 ≤ d) (hd1 : d < 18446744073709551616) (hr : Row w' g C') (hg : w.grownBy w' (some g)) (hgw : w0.heap.size ≤ g)
    (ho : ∀ i, (i < k ∨ k + m.length ≤ i) → D C' i = D C i)
    (he' : S 18446744073709551616 (fun i => D C' (k + i)) m.length + d * 18446744073709551616 ^ m.length = S 18446744073709551616 (fun i => D C (k + i)) m.length + val 18446744073709551616 m * D l k) :
    ProdInv l m g w0 (k + 1) ((w'.setCell ⟨g, k + m.length, none⟩ (.int .u64 d))) := by
  refine ⟨C'.set (k + m.length) d, by simp [hC', hC], hCl.set _ hd0 hd1, hr.set_ _ d, (below_of_only hb hg hb.size hgw).setCell (p := ⟨g, k + m.length, none⟩) hgw _, fun i hi => ?_, ?_⟩
  · rw [D_set d i (by omega), if_neg (by omega), ho i (by omega)]; exact hz i (by omega)
  · rw [show k + 1 + m.length = k + m.length + 1 from by omega, S_succ, S_succ, D_set d _ (by omega), if_pos rfl]
    rw [S_congr (g := D C') (fun i hi => by rw [D_set d i (by omega), if_neg (by omega)]), S_split, S_congr (g := D C) (k := k) (fun i hi => ho i (by omega))]
    rw [S_split] at he
    rw [Int.pow_add]
    grind

set_option maxHeartbeats 4000000 in
theorem product_any (A : Option Addr) (c : Nat) (l : List Int) (A2 : Option Addr) (c2 : Nat) (m : List Int) (w : World) (h : Nums w w.heap.size A c l) (hl : Lim 18446744073709551616 l)
    (h2 : Nums w w.heap.size A2 c2 m) (hl2 : Lim 18446744073709551616 m) (hb1 : l.length ≤ 1000000) (hb2 : m.length ≤ 1000000) :
    Calls Tryz.prog 81 #[.slice A l.length c, .slice A2 m.length c2] w (Made (val 18446744073709551616 l * val 18446744073709551616 m) w) := by
  have hmk := fun W => run_make (l.length + m.length) (by omega) W
  simp only [Int.natCast_add] at hmk
  go_enter Tryz.func81, Tryz.ntmps81
  go_wp2_with fail
  go_loopw [15] (fun i wr => ∃ k : Nat, k ≤ l.length ∧ i = .int .i64 k ∧ ProdInv l m w.heap.size w k wr) (fun i _ => l.length - (intOf i).toNat)
  case atStart =>
    refine ⟨0, by omega, rfl, List.replicate (l.length + m.length) 0, by simp, Lim.zeros (by omega) _, Row.new _ _, (Below.refl _ w).alloc (Nat.le_refl _) _, fun i _ => D_replicate _ i, ?_⟩
    rw [S_nil (fun i _ => D_replicate _ i)]; simp [S]
  case round =>
    obtain ⟨k, hk, rfl, C, hC, hCl, hr, hb, hz, he⟩ := hrel
    have HC := Lib.hid hC
    have HE := Lib.hid he
    have HZ := Lib.hid hz
    have hsz := hb.size
    have hgl := hr.lt
    clear hC he hz
    by_cases hkn : k < l.length
    · have hx := D_lim (b := 18446744073709551616) (by omega) hl k
      have hn2 : Nums wr w.heap.size A2 c2 m := h2.below hb
      obtain ⟨ad, rfl, hadb, c1⟩ := (h.below hb).at_ hkn
      have i0 : (0 : Int) ≤ (k : Int) := by omega
      have i1 : (k : Int) < l.length := by omega
      have hsl := fun W => run_cut w.heap.size 0 (l.length + m.length) (l.length + m.length) k m.length ((k : Int) + m.length) rfl (by omega) (by omega) W
      simp only [Nat.zero_add] at hsl
      have i2 : (k : Int) + m.length < l.length + m.length := by omega
      have i3 : (0 : Int) ≤ (k : Int) + m.length := by omega
      have hw : IntKind.i64.wrap ((k : Int) + m.length) = (k : Int) + m.length := IntWalk.i64_in _ (by omega)
      have htn : ((k : Int) + m.length).toNat = k + m.length := by omega
      go_wp2_with fail
      go_region_with ((go_at_call 90; ((with_reducible refine (addtimes_any C w.heap.size k (l.length + m.length - k) A2 c2 m (D l k) _ hr.drew hCl (by have := HC.out; omega) (by omega) (by have := HC.out; omega) hn2.drew hl2 hx.1 hx.2).mono ?_); rintro e w1 ⟨C', d, rfl, hC', hCl', hd0, hd1, hr', hg', ho', he'⟩; have HC' := Lib.hid hC'; clear hC'; have c9 := hr'.cell (k := k + m.length) (by rw [HC'.out, HC.out]; omega); have f9 := hr'.frozen (k + m.length))))
      all_goals
        go_wp2_with fail
        go_roundw
        case rel => exact ⟨k + 1, by omega, by go_num, (prodinv_step HC.out hb HZ.out HE.out hkn HC'.out hCl' hd0 hd1 hr' (only_undrew hg') (Nat.le_refl _) ho'.out he'.out)⟩
        case measure => simp [intOf]; omega
    · obtain rfl : k = l.length := by omega
      go_wp2_with (go_at_call 59; ((with_reducible refine (trim_row HC.out hr hCl (by omega) (Nat.le_refl _) hb).mono ?_); rintro e w' ⟨s, A', c', rfl, hs1, hs2, hs3, hs4, hs5⟩; have HS3 := Lib.hid hs3; clear hs3))
      go_ret
      have hlast : val 18446744073709551616 C = val 18446744073709551616 l * val 18446744073709551616 m := by
        have := HE.out
        rw [S_val (by have := HC.out; omega), S_val (Nat.le_refl _)] at this
        exact this
      exact ⟨s, A', c', rfl, hs1, hs2, by rw [HS3.out, hlast], hs4, hs5⟩
end Go.Proofs.YtcdbjlmegkcaiaaGreatDoor
