/-
  Layer 2, plain mathematics: numbers to a base, as sums of digits; lists of digits; normal lists are one for each number.
-/
namespace Go.Proofs.YtigphbjgodfhpaaDoor
set_option linter.unusedVariables false

/-- the number that the first k digits make, the lowest first, to the base b -/
def S (b : Int) (f : Nat → Int) : Nat → Int
  | 0 => 0
  | k + 1 => S b f k + f k * b ^ k
/-- the digit i of a list; 0, where there is none -/
def D (l : List Int) (i : Nat) : Int := l.getD i 0
/-- the number of a list of digits -/
def val (b : Int) (l : List Int) : Int := S b (D l) l.length
/-- digits to the base b -/
def Lim (b : Int) (l : List Int) : Prop := ∀ x ∈ l, 0 ≤ x ∧ x < b

theorem S_zero (b : Int) (f : Nat → Int) : S b f 0 = 0 := rfl
theorem S_succ (b : Int) (f : Nat → Int) (k : Nat) : S b f (k + 1) = S b f k + f k * b ^ k := rfl
theorem S_congr {b : Int} {f g : Nat → Int} {k : Nat} (h : ∀ i, i < k → f i = g i) : S b f k = S b g k := by
  induction k with
  | zero => rfl
  | succ k ih => rw [S_succ, S_succ, ih (fun i hi => h i (by omega)), h k (by omega)]
theorem S_nil {b : Int} {f : Nat → Int} {k : Nat} (h : ∀ i, i < k → f i = 0) : S b f k = 0 := by
  induction k with
  | zero => rfl
  | succ k ih => rw [S_succ, ih (fun i hi => h i (by omega)), h k (by omega)]; simp
theorem S_split (b : Int) (f : Nat → Int) (m k : Nat) : S b f (m + k) = S b f m + b ^ m * S b (fun i => f (m + i)) k := by
  induction k with
  | zero => simp [S]
  | succ k ih => rw [← Nat.add_assoc, S_succ, S_succ, ih, Int.pow_add]; grind
theorem S_head (b : Int) (f : Nat → Int) (k : Nat) : S b f (k + 1) = f 0 + b * S b (fun i => f (i + 1)) k := by
  have := S_split b f 1 k
  rw [Nat.add_comm] at this
  rw [this]
  have e : (fun i => f (1 + i)) = fun i => f (i + 1) := by funext i; rw [Nat.add_comm]
  rw [e]; simp [S, Int.pow_succ]
theorem pow_pos' {b : Int} (hb : 0 < b) (k : Nat) : 0 < b ^ k := Int.pow_pos hb
theorem pow_le' {b : Int} (hb : 0 < b) {m n : Nat} (h : m ≤ n) : b ^ m ≤ b ^ n := by
  obtain ⟨k, rfl⟩ : ∃ k, n = m + k := ⟨n - m, by omega⟩
  rw [Int.pow_add]
  have h1 := pow_pos' hb m
  have h2 := pow_pos' hb k
  have := Int.mul_le_mul_of_nonneg_left (show 1 ≤ b ^ k by omega) (show 0 ≤ b ^ m by omega)
  omega
theorem S_bound {b : Int} {f : Nat → Int} {k : Nat} (hb : 0 < b) (h : ∀ i, i < k → 0 ≤ f i ∧ f i < b) : 0 ≤ S b f k ∧ S b f k < b ^ k := by
  induction k with
  | zero => simp [S]
  | succ k ih =>
    obtain ⟨h1, h2⟩ := ih (fun i hi => h i (by omega))
    obtain ⟨h3, h4⟩ := h k (by omega)
    have hp := pow_pos' hb k
    rw [S_succ, Int.pow_succ]
    have a1 : 0 ≤ f k * b ^ k := Int.mul_nonneg h3 (by omega)
    have a2 : 0 ≤ (b - 1 - f k) * b ^ k := Int.mul_nonneg (by omega) (by omega)
    exact ⟨by omega, by grind⟩
/-- more digits that are all 0 change nothing -/
theorem S_more {b : Int} {f : Nat → Int} {m k : Nat} (hmk : m ≤ k) (h : ∀ i, m ≤ i → i < k → f i = 0) : S b f k = S b f m := by
  obtain ⟨j, rfl⟩ : ∃ j, k = m + j := ⟨k - m, by omega⟩
  rw [S_split, S_nil (fun i hi => h (m + i) (by omega) (by omega))]
  simp

theorem D_nil (i : Nat) : D [] i = 0 := by simp [D]
theorem D_out {l : List Int} {i : Nat} (h : l.length ≤ i) : D l i = 0 := by simp [D, List.getElem?_eq_none h]
theorem D_in {l : List Int} {i : Nat} (h : i < l.length) : D l i = l[i] := by simp [D, h]
theorem D_cons_zero (x : Int) (l : List Int) : D (x :: l) 0 = x := by simp [D]
theorem D_cons_succ (x : Int) (l : List Int) (i : Nat) : D (x :: l) (i + 1) = D l i := by simp [D]
theorem D_lim {b : Int} {l : List Int} (hb : 0 < b) (h : Lim b l) (i : Nat) : 0 ≤ D l i ∧ D l i < b := by
  rcases Nat.lt_or_ge i l.length with hi | hi
  · rw [D_in hi]; exact h _ (List.getElem_mem _)
  · rw [D_out hi]; omega
theorem lim_of_D {b : Int} {l : List Int} (h : ∀ i, i < l.length → 0 ≤ D l i ∧ D l i < b) : Lim b l := by
  intro x hx
  obtain ⟨i, hi, rfl⟩ := List.getElem_of_mem hx
  have := h i hi
  rwa [D_in hi] at this
theorem D_set {l : List Int} {i : Nat} (v : Int) (j : Nat) (hi : i < l.length) : D (l.set i v) j = if j = i then v else D l j := by
  unfold D
  by_cases h : j = i
  · subst h; simp [hi]
  · rw [if_neg h, List.getD_eq_getElem?_getD, List.getD_eq_getElem?_getD, List.getElem?_set_ne (by omega)]
theorem D_take (l : List Int) (k j : Nat) : D (l.take k) j = if j < k then D l j else 0 := by
  unfold D
  rw [List.getD_eq_getElem?_getD, List.getD_eq_getElem?_getD, List.getElem?_take]
  split <;> simp
theorem D_drop (l : List Int) (k j : Nat) : D (l.drop k) j = D l (k + j) := by
  unfold D
  rw [List.getD_eq_getElem?_getD, List.getD_eq_getElem?_getD, List.getElem?_drop]
theorem D_append (l m : List Int) (j : Nat) : D (l ++ m) j = if j < l.length then D l j else D m (j - l.length) := by
  unfold D
  rw [List.getD_eq_getElem?_getD, List.getD_eq_getElem?_getD, List.getD_eq_getElem?_getD, List.getElem?_append]
  split <;> rfl
theorem D_replicate (n : Nat) (j : Nat) : D (List.replicate n 0) j = 0 := by
  unfold D
  rw [List.getD_eq_getElem?_getD, List.getElem?_replicate]
  split <;> rfl
theorem D_ext {l m : List Int} (hl : l.length = m.length) (h : ∀ i, i < l.length → D l i = D m i) : l = m := by
  apply List.ext_getElem hl
  intro i h1 h2
  have := h i h1
  rwa [D_in h1, D_in h2] at this

/-- the number of a list is that of its first k digits, if there are no more -/
theorem S_val {b : Int} {l : List Int} {k : Nat} (h : l.length ≤ k) : S b (D l) k = val b l :=
  S_more h (fun i hi _ => D_out hi)
theorem val_nil (b : Int) : val b [] = 0 := rfl
theorem val_cons (b x : Int) (l : List Int) : val b (x :: l) = x + b * val b l := by
  unfold val
  rw [List.length_cons, S_head, D_cons_zero]
  rw [S_congr (g := D l) (fun i _ => D_cons_succ x l i)]
theorem val_take (b : Int) (l : List Int) (k : Nat) : val b (l.take k) = S b (D l) (min k l.length) := by
  unfold val
  rw [List.length_take]
  refine S_congr fun i hi => ?_
  rw [D_take, if_pos (by omega)]
theorem val_replicate (b : Int) (n : Nat) : val b (List.replicate n 0) = 0 := S_nil fun i _ => D_replicate n i
theorem val_append (b : Int) (l m : List Int) : val b (l ++ m) = val b l + b ^ l.length * val b m := by
  unfold val
  rw [List.length_append, S_split]
  congr 1
  · refine S_congr fun i hi => ?_
    rw [D_append, if_pos hi]
  · congr 1
    refine S_congr fun i hi => ?_
    rw [D_append, if_neg (by omega)]
    congr 1
    omega
theorem val_bound {b : Int} {l : List Int} (hb : 0 < b) (h : Lim b l) : 0 ≤ val b l ∧ val b l < b ^ l.length :=
  S_bound hb fun i _ => D_lim hb h i
theorem val_take_drop (b : Int) (l : List Int) (k : Nat) (hk : k ≤ l.length) : val b l = S b (D l) k + b ^ k * val b (l.drop k) := by
  have := val_append b (l.take k) (l.drop k)
  rw [List.take_append_drop, val_take, List.length_take, Nat.min_eq_left hk] at this
  exact this
theorem S_of_bound {b : Int} {l : List Int} (hb : 0 < b) (h : Lim b l) (k : Nat) : 0 ≤ S b (D l) k ∧ S b (D l) k < b ^ k :=
  S_bound hb fun i _ => D_lim hb h i

theorem Lim.nil (b : Int) : Lim b [] := fun x hx => by simp at hx
theorem Lim.take {b : Int} {l : List Int} (h : Lim b l) (k : Nat) : Lim b (l.take k) := fun x hx => h x (List.mem_of_mem_take hx)
theorem Lim.drop {b : Int} {l : List Int} (h : Lim b l) (k : Nat) : Lim b (l.drop k) := fun x hx => h x (List.mem_of_mem_drop hx)
theorem Lim.append {b : Int} {l m : List Int} (h : Lim b l) (k : Lim b m) : Lim b (l ++ m) := fun x hx => by
  rcases List.mem_append.1 hx with hx | hx
  · exact h x hx
  · exact k x hx
theorem Lim.set {b : Int} {l : List Int} (h : Lim b l) (i : Nat) {v : Int} (h0 : 0 ≤ v) (h1 : v < b) : Lim b (l.set i v) := fun x hx => by
  rcases List.mem_or_eq_of_mem_set hx with hx | rfl
  · exact h x hx
  · exact ⟨h0, h1⟩
theorem Lim.zeros {b : Int} (hb : 0 < b) (n : Nat) : Lim b (List.replicate n 0) := fun x hx => by
  rw [List.eq_of_mem_replicate hx]; omega
theorem Lim.cons {b x : Int} {l : List Int} (h : Lim b (x :: l)) : (0 ≤ x ∧ x < b) ∧ Lim b l := ⟨h x (by simp), fun y hy => h y (by simp [hy])⟩
theorem Lim.snoc {b x : Int} {l : List Int} (h : Lim b l) (h0 : 0 ≤ x) (h1 : x < b) : Lim b (l ++ [x]) := h.append fun y hy => by simp at hy; omega

/-- no nought at the end -/
def Normal (l : List Int) : Prop := l = [] ∨ D l (l.length - 1) ≠ 0
theorem Normal.nil : Normal [] := Or.inl rfl
theorem Normal.tail {x : Int} {l : List Int} (h : Normal (x :: l)) : Normal l := by
  rcases l with _ | ⟨y, l⟩
  · exact .inl rfl
  · rcases h with h | h
    · cases h
    · exact .inr (by simpa [D] using h)

theorem val_eq_zero {b : Int} (hb : 0 < b) : ∀ {l : List Int}, Lim b l → Normal l → val b l = 0 → l = []
  | [], _, _, _ => rfl
  | x :: l, hl, hn, hv => by
    rw [val_cons] at hv
    obtain ⟨⟨h0, h1⟩, h2⟩ := hl.cons
    have hv2 := (val_bound hb h2).1
    have := Int.mul_nonneg (Int.le_of_lt hb) hv2
    have hx : x = 0 := by omega
    have hz : b * val b l = 0 := by omega
    have hl0 : l = [] := val_eq_zero hb h2 hn.tail (by rcases Int.mul_eq_zero.1 hz with h | h; omega; exact h)
    subst hl0; subst hx
    rcases hn with h | h
    · cases h
    · exact absurd (by simp [D]) h

theorem digits_eq {b x y u v : Int} (hx0 : 0 ≤ x) (hx1 : x < b) (hy0 : 0 ≤ y) (hy1 : y < b) (h : x + b * u = y + b * v) : x = y ∧ u = v := by
  have e : b * (u - v) = y - x := by grind
  rcases Int.lt_trichotomy u v with k | k | k
  · have := Int.mul_le_mul_of_nonneg_left (show u - v ≤ -1 by omega) (show 0 ≤ b by omega)
    omega
  · subst k; exact ⟨by omega, rfl⟩
  · have := Int.mul_le_mul_of_nonneg_left (show 1 ≤ u - v by omega) (show 0 ≤ b by omega)
    omega

/-- of a number there is one normal list -/
theorem normal_unique {b : Int} (hb : 0 < b) : ∀ {l m : List Int}, Lim b l → Lim b m → Normal l → Normal m → val b l = val b m → l = m
  | [], m, _, hm, _, nm, h => (val_eq_zero hb hm nm (by rw [← h]; rfl)).symm
  | x :: l, [], hl, _, nl, _, h => val_eq_zero hb hl nl h
  | x :: l, y :: m, hl, hm, nl, nm, h => by
    rw [val_cons, val_cons] at h
    obtain ⟨⟨h0, h1⟩, h2⟩ := hl.cons
    obtain ⟨⟨h3, h4⟩, h5⟩ := hm.cons
    obtain ⟨rfl, e⟩ := digits_eq h0 h1 h3 h4 h
    rw [normal_unique hb h2 h5 nl.tail nm.tail e]

/-- the normal list -/
def norm : List Int → List Int
  | [] => []
  | x :: l => if norm l = [] ∧ x = 0 then [] else x :: norm l
theorem norm_take : ∀ l : List Int, norm l = l.take (norm l).length
  | [] => rfl
  | x :: l => by
    unfold norm
    split
    · rfl
    · rw [List.length_cons, List.take_succ_cons, ← norm_take l]
theorem norm_length (l : List Int) : (norm l).length ≤ l.length := by
  rw [norm_take l, List.length_take]; omega
theorem norm_lim {b : Int} {l : List Int} (h : Lim b l) : Lim b (norm l) := by rw [norm_take l]; exact h.take _
theorem norm_normal : ∀ l : List Int, Normal (norm l)
  | [] => .inl rfl
  | x :: l => by
    unfold norm
    split
    · exact .inl rfl
    · rename_i h
      right
      have ih := norm_normal l
      rcases hn : norm l with _ | ⟨y, m⟩
      · have : x ≠ 0 := fun e => h ⟨hn, e⟩
        simpa [D] using this
      · rw [hn] at ih
        rcases ih with h | h
        · cases h
        · simpa [D] using h
theorem norm_val (b : Int) : ∀ l : List Int, val b (norm l) = val b l
  | [] => rfl
  | x :: l => by
    unfold norm
    split
    · rename_i h
      obtain ⟨h1, rfl⟩ := h
      have := norm_val b l
      rw [h1] at this
      rw [val_cons, ← this, val_nil]; simp
    · rw [val_cons, val_cons, norm_val b l]
theorem norm_of_normal {b : Int} (hb : 0 < b) {l : List Int} (hl : Lim b l) (h : Normal l) : norm l = l :=
  normal_unique hb (norm_lim hl) hl (norm_normal l) h (norm_val b l)
/-- what is left behind the noughts at the end have gone -/
theorem norm_is {b : Int} (hb : 0 < b) {l : List Int} (hl : Lim b l) {k : Nat} (hk : k ≤ l.length) (hz : ∀ i, k ≤ i → D l i = 0) (h : k = 0 ∨ D l (k - 1) ≠ 0) : norm l = l.take k := by
  refine normal_unique hb (norm_lim hl) (hl.take k) (norm_normal l) ?_ ?_
  · rcases Nat.eq_zero_or_pos k with h0 | h0
    · subst h0; exact .inl (by simp)
    · right
      rw [List.length_take, Nat.min_eq_left hk, D_take, if_pos (by omega)]
      rcases h with h | h
      · omega
      · exact h
  · rw [norm_val, val_take, Nat.min_eq_left hk]
    exact S_more hk (fun i hi _ => hz i hi)
/-- a normal list of k digits is at least b^(k-1) -/
theorem normal_ge {b : Int} (hb : 0 < b) {l : List Int} (hl : Lim b l) (hn : Normal l) (h : l ≠ []) : b ^ (l.length - 1) ≤ val b l := by
  rcases hn with e | e
  · exact absurd e h
  · have hp : 0 < l.length := List.length_pos_iff.2 h
    have hlast := D_lim hb hl (l.length - 1)
    have hs := (S_of_bound hb hl (l.length - 1)).1
    have e2 : l.length - 1 + 1 = l.length := by omega
    have : val b l = S b (D l) (l.length - 1) + D l (l.length - 1) * b ^ (l.length - 1) := by
      unfold val; rw [← S_succ, e2]
    rw [this]
    have hq := pow_pos' hb (l.length - 1)
    have h1 : 0 ≤ (D l (l.length - 1) - 1) * b ^ (l.length - 1) := Int.mul_nonneg (by omega) (by omega)
    grind
/-- longer normal lists are greater -/
theorem longer_greater {b : Int} (hb : 1 < b) {l m : List Int} (hl : Lim b l) (hm : Lim b m) (nm : Normal m) (h : l.length < m.length) : val b l < val b m := by
  have h1 := (val_bound (by omega) hl).2
  have h2 := normal_ge (by omega) hm nm (fun e => by subst e; simp at h)
  have h3 : b ^ l.length ≤ b ^ (m.length - 1) := pow_le' (by omega) (by omega)
  omega
/-- how many digits a normal list has -/
theorem length_le_of_lt {b : Int} (hb : 1 < b) {l : List Int} (hl : Lim b l) (nl : Normal l) {k : Nat} (h : val b l < b ^ k) : l.length ≤ k := by
  rcases Nat.lt_or_ge k l.length with hk | hk
  · have h2 := normal_ge (by omega) hl nl (fun e => by subst e; simp at hk)
    have h3 : b ^ k ≤ b ^ (l.length - 1) := pow_le' (by omega) (by omega)
    omega
  · exact hk
theorem lt_length_of_ge {b : Int} (hb : 1 < b) {l : List Int} (hl : Lim b l) {k : Nat} (h : b ^ k ≤ val b l) : k < l.length := by
  rcases Nat.lt_or_ge k l.length with hk | hk
  · exact hk
  · have h1 := (val_bound (by omega) hl).2
    have h3 : b ^ l.length ≤ b ^ k := pow_le' (by omega) hk
    omega
/-- two numbers of one length part at the highest digit that parts them -/
theorem S_lt_of_digit {b : Int} (hb : 0 < b) {l m : List Int} (hl : Lim b l) (hm : Lim b m) {n i : Nat} (hi : i < n) (hup : ∀ j, i < j → j < n → D l j = D m j) (h : D l i < D m i) :
    S b (D l) n < S b (D m) n := by
  obtain ⟨j, rfl⟩ : ∃ j, n = (i + 1) + j := ⟨n - (i + 1), by omega⟩
  rw [S_split, S_split b (D m), S_succ, S_succ, S_congr (g := fun k => D m (i + 1 + k)) (fun k hk => hup (i + 1 + k) (by omega) (by omega))]
  have h1 := S_of_bound hb hl i
  have h2 := S_of_bound hb hm i
  have h3 : 0 ≤ (D m i - D l i - 1) * b ^ i := Int.mul_nonneg (by omega) (Int.le_of_lt (pow_pos' hb i))
  grind
end Go.Proofs.YtigphbjgodfhpaaDoor
