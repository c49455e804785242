/-
  Layer 8, plain words: floats up to NaNs, sums, lists by their places, what stands in a view behind writes.
-/
import Derived.Test.YtfelmkkkaphkpaaKVz
namespace Go.Proofs.Ytfelmkkkaphkpaa
open Go.RowKit Go.Bw Go.Sort Go.Shelf
set_option linter.unusedVariables false
set_option linter.unusedSimpArgs false

/-- a word's float, NaNs being one -/
def fa (x : Int) : Option Nat := af x.toNat
theorem fa_nat (x : Nat) : fa (x : Int) = af x := by unfold fa; rw [Int.toNat_natCast]
theorem af_zero : af 0 = some 0 := by decide
theorem fa_zero : fa 0 = some 0 := af_zero
theorem one_fa {x y : Int} (x0 : 0 ≤ x) (x1 : x ≤ 18446744073709551615) (y0 : 0 ≤ y) (y1 : y ≤ 18446744073709551615) (h : fa x = fa y) : one x = one y := by
  have hx := isN_cls x0 x1
  have hy := isN_cls y0 y1
  rcases same_af h with ⟨h1, h2⟩ | ⟨h1, h2⟩
  · rw [h1] at hx
    rw [h2] at hy
    unfold one
    rw [if_pos (of_decide_eq_true hx.symm), if_pos (of_decide_eq_true hy.symm)]
  · rw [show x = y by omega]

/-- the list o has n floats, and f are they -/
structure Is (o : List Int) (n : Nat) (f : Nat → Option Nat) : Prop where
  len : o.length = n
  wd : Wd o
  at_ : ∀ k, k < n → fa (D o k) = f k
theorem Is.same {o o2 : List Int} {n : Nat} {f : Nat → Option Nat} (h : Is o n f) (h2 : Is o2 n f) : sameL o o2 = true := by
  refine sameL_yes (h.len.trans h2.len.symm) fun k hk => ?_
  have a := h.wd.at_ k
  have b := h2.wd.at_ k
  rw [h.len] at hk
  exact decide_eq_true (one_fa a.1 a.2 b.1 b.2 ((h.at_ k hk).trans (h2.at_ k hk).symm))
theorem Is.refl {l : List Int} (h : Wd l) : Is l l.length (fun k => fa (D l k)) := ⟨rfl, h, fun _ _ => rfl⟩
theorem Is.congr {o : List Int} {n : Nat} {f g : Nat → Option Nat} (h : Is o n f) (e : ∀ k, k < n → f k = g k) : Is o n g := ⟨h.len, h.wd, fun k hk => (h.at_ k hk).trans (e k hk)⟩
theorem Is.nil (f : Nat → Option Nat) : Is [] 0 f := ⟨rfl, (fun x hx => by cases hx), fun k hk => by omega⟩
theorem Is.snoc {o : List Int} {n : Nat} {f : Nat → Option Nat} (h : Is o n f) {x : Int} (x0 : 0 ≤ x) (x1 : x ≤ 18446744073709551615) (hx : fa x = f n) : Is (o ++ [x]) (n + 1) f := by
  refine ⟨by simp [h.len], ?_, fun k hk => ?_⟩
  · intro y hy
    rcases List.mem_append.1 hy with h1 | h1
    · exact h.wd y h1
    · rw [List.mem_singleton.1 h1]; exact ⟨x0, x1⟩
  · rw [D_append, h.len]
    by_cases hk2 : k < n
    · rw [if_pos hk2]; exact h.at_ k hk2
    · rw [if_neg hk2, show k = n by omega, Nat.sub_self, ← hx]; rfl
/-- the place k of a list is set -/
theorem Is.set {o : List Int} {n : Nat} {f g : Nat → Option Nat} (h : Is o n f) {x : Int} (x0 : 0 ≤ x) (x1 : x ≤ 18446744073709551615) {k : Nat} (hk : k < n) (hx : fa x = g k) (hg : ∀ j, j < n → j ≠ k → g j = f j) : Is (o.set k x) n g := by
  refine ⟨by rw [List.length_set]; exact h.len, wd_set h.wd x0 x1 k, fun j hj => ?_⟩
  rw [D_set (l := o) x j (by rw [h.len]; exact hk)]
  by_cases e : j = k
  · rw [if_pos e, e]; exact hx
  · rw [if_neg e, h.at_ j hj, hg j hj e]

/-- a sum from the place 0 on -/
def sumA (f : Nat → Option Nat) : Nat → Option Nat
  | 0 => some 0
  | k + 1 => aop .add (sumA f k) (f k)
theorem sumA_congr {f g : Nat → Option Nat} {n : Nat} (h : ∀ k, k < n → f k = g k) : sumA f n = sumA g n := by
  induction n with
  | zero => rfl
  | succ n ih => show aop .add _ _ = aop .add _ _; rw [ih (fun k hk => h k (by omega)), h n (by omega)]
/-- the sum of the products of two lists -/
def dotA (x y : List Int) (n : Nat) : Option Nat := sumA (fun k => aop .mul (fa (D x k)) (fa (D y k))) n
/-- the sum of sizes -/
def asumA (x : List Int) (n : Nat) : Option Nat := sumA (fun k => absA (fa (D x k))) n
/-- b o and a s, added -/
def bothA (b o a s : Option Nat) : Option Nat := aop .add (aop .mul b o) (aop .mul a s)
/-- the greatest size, one float on -/
def amxS (p : Int × Option Nat) (k : Nat) (x : Option Nat) : Int × Option Nat := if (eqA (absA x) (absA x) && (decide (p.1 < 0) || gtA (absA x) p.2)) = true then (k, absA x) else p
def amxA (x : List Int) : Nat → Int × Option Nat
  | 0 => (-1, some 0)
  | k + 1 => amxS (amxA x k) k (fa (D x k))

/-- no two places of a view lie in one of its store -/
def Inj (v : Vu) (c : Nat) : Prop := ∀ i j a b : Int, v.has i j = true → v.has a b = true → v.ix c i j = v.ix c a b → i = a ∧ j = b
theorem has_iff (v : Vu) (i j : Int) : v.has i j = true ↔ 0 ≤ i ∧ i < v.R ∧ 0 ≤ j ∧ j < v.C := by unfold Vu.has; exact decide_eq_true_iff
theorem Inj.T {v : Vu} {c : Nat} (h : Inj v c) : Inj v.T c := by
  intro i j a b h1 h2 e
  rw [T_has] at h1 h2
  rw [T_ix, T_ix] at e
  have := h j i b a h1 h2 e
  exact ⟨this.2, this.1⟩
theorem inj_all (s : Nat) {R C : Int} (C0 : 0 ≤ C) : Inj (Vu.all s R C) C.toNat := by
  intro i j a b h1 h2 e
  rw [all_ix, all_ix] at e
  obtain ⟨i0, i1, j0, j1⟩ := (has_iff _ _ _).1 h1
  obtain ⟨a0, a1, b0, b1⟩ := (has_iff _ _ _).1 h2
  replace j1 : j < C := j1
  replace b1 : b < C := b1
  have eC : ((C.toNat : Nat) : Int) = C := by omega
  rw [eC] at e
  have hia : i = a := by
    rcases Int.lt_trichotomy i a with h | h | h
    · have : (i + 1) * C ≤ a * C := Int.mul_le_mul_of_nonneg_right (by omega) C0
      rw [Int.add_mul] at this
      omega
    · exact h
    · have : (a + 1) * C ≤ i * C := Int.mul_le_mul_of_nonneg_right (by omega) C0
      rw [Int.add_mul] at this
      omega
  subst hia
  exact ⟨rfl, by omega⟩

section
variable {v : Vu} {s c n : Nat} {K : Int} {l lx : List Int}
theorem at_set (hv : Vk v s c n K) (hj : Inj v c) (hl : l.length = n) {i j : Int} (h : v.has i j = true) (x : Int) {a b : Int} (h2 : v.has a b = true) : v.at_ c (v.setL c l i j x) a b = if a = i ∧ b = j then x else v.at_ c l a b := by
  obtain ⟨k, e1, k1, _⟩ := hv.ins i j h
  obtain ⟨k2, e2, k3, _⟩ := hv.ins a b h2
  unfold Vu.at_ Vu.setL
  rw [if_pos h2, if_pos h2, if_pos h, e1, e2, Int.toNat_natCast, Int.toNat_natCast, D_set (l := l) x k2 (by omega)]
  by_cases e : k2 = k
  · have := hj a b i j h2 h (by rw [e1, e2, e])
    rw [if_pos e, if_pos this]
  · rw [if_neg e]
    by_cases e3 : a = i ∧ b = j
    · exfalso
      rw [e3.1, e3.2, e1] at e2
      omega
    · rw [if_neg e3]
/-- what stands in a store: at the places P of a view the floats f, else what was there -/
structure Wr (v : Vu) (c : Nat) (l lx : List Int) (P : Nat → Nat → Bool) (f : Nat → Nat → Option Nat) : Prop where
  len : lx.length = l.length
  new : ∀ i j : Nat, v.has i j = true → P i j = true → fa (v.at_ c lx i j) = f i j
  old : ∀ i j : Nat, v.has i j = true → P i j = false → v.at_ c lx i j = v.at_ c l i j
  out : ∀ p : Nat, (∀ i j : Nat, v.has i j = true → v.ix c i j ≠ p) → D lx p = D l p
theorem Wr.start (v : Vu) (c : Nat) (l : List Int) {P : Nat → Nat → Bool} (f : Nat → Nat → Option Nat) (hP : ∀ i j : Nat, v.has i j = true → P i j = false) : Wr v c l l P f := ⟨rfl, fun i j h1 h2 => (by rw [hP i j h1] at h2; cases h2), fun _ _ _ _ => rfl, fun _ _ => rfl⟩
theorem Wr.congr {P Q : Nat → Nat → Bool} {f : Nat → Nat → Option Nat} (h : Wr v c l lx P f) (e : ∀ i j : Nat, v.has i j = true → P i j = Q i j) : Wr v c l lx Q f :=
  ⟨h.len, fun i j h1 h2 => h.new i j h1 (by rw [e i j h1]; exact h2), fun i j h1 h2 => h.old i j h1 (by rw [e i j h1]; exact h2), h.out⟩
theorem Wr.set {P : Nat → Nat → Bool} {f : Nat → Nat → Option Nat} (h : Wr v c l lx P f) (hv : Vk v s c n K) (hj : Inj v c) (hl : l.length = n) {i j : Nat} (hh : v.has i j = true) {x : Int} (hx : fa x = f i j) {Q : Nat → Nat → Bool} (hQ : ∀ a b : Nat, v.has a b = true → Q a b = (P a b || decide (a = i ∧ b = j))) : Wr v c l (v.setL c lx i j x) Q f := by
  have hl2 : lx.length = n := h.len.trans hl
  refine ⟨by rw [set_len]; exact h.len, fun a b h1 h2 => ?_, fun a b h1 h2 => ?_, fun p hp => ?_⟩
  · rw [at_set hv hj hl2 hh x h1]
    rw [hQ a b h1] at h2
    by_cases e : a = i ∧ b = j
    · rw [if_pos (by omega), e.1, e.2]; exact hx
    · rw [if_neg (by omega)]
      rcases Bool.or_eq_true_iff.1 h2 with h3 | h3
      · exact h.new a b h1 h3
      · exact absurd (of_decide_eq_true h3) e
  · rw [at_set hv hj hl2 hh x h1]
    rw [hQ a b h1] at h2
    obtain ⟨h3, h4⟩ := Bool.or_eq_false_iff.1 h2
    have h5 := of_decide_eq_false h4
    rw [if_neg (by omega)]
    exact h.old a b h1 h3
  · obtain ⟨k, e1, k1, _⟩ := hv.ins i j hh
    unfold Vu.setL
    rw [if_pos hh, e1, Int.toNat_natCast, D_set (l := lx) x p (by omega), if_neg (fun e => hp i j hh (by rw [e1, e]))]
    exact h.out p hp
/-- at the places P the floats f, else those of a matrix -/
def tg (P : Nat → Nat → Bool) (f : Nat → Nat → Option Nat) (F : List Int) (q : Nat) (k : Nat) : Option Nat := if P (k / q) (k % q) = true then f (k / q) (k % q) else fa (D F k)
theorem Wr.fl {P : Nat → Nat → Bool} {f : Nat → Nat → Option Nat} (h : Wr v c l lx P f) (hb : Bd v K) (hw : Wd (v.fl c lx)) : Is (v.fl c lx) (v.R * v.C).toNat (tg P f (v.fl c l) v.C.toNat) := by
  refine ⟨fl_length _ _ _, hw, fun k hk => ?_⟩
  rw [fl_D _ _ _ hk]
  have hh := ei_bd hb hk
  unfold tg
  cases hp : P (k / v.C.toNat) (k % v.C.toNat)
  · rw [if_neg (by simp), fl_D _ _ _ hk]
    exact congrArg fa (h.old _ _ hh hp)
  · rw [if_pos rfl]
    exact h.new _ _ hh hp

theorem ix_lt {i j m q : Nat} (hi : i < m) (hj : j < q) : i * q + j < m * q := by
  have : (i + 1) * q ≤ m * q := Nat.mul_le_mul_right q hi
  rw [Nat.add_mul] at this
  omega
theorem ix_eq {i j a b q : Nat} (hj : j < q) (hb : b < q) (h : i * q + j = a * q + b) : i = a ∧ j = b := by
  have hia : i = a := by
    rcases Nat.lt_trichotomy i a with h1 | h1 | h1
    · have : (i + 1) * q ≤ a * q := Nat.mul_le_mul_right q h1
      rw [Nat.add_mul] at this
      omega
    · exact h1
    · have : (a + 1) * q ≤ i * q := Nat.mul_le_mul_right q h1
      rw [Nat.add_mul] at this
      omega
  subst hia
  exact ⟨rfl, by omega⟩
/-- an entry of a matrix of q columns -/
def ma (l : List Int) (q i j : Nat) : Option Nat := fa (D l (i * q + j))
/-- a matrix of which the places P are f -/
structure Mr (L l : List Int) (m q : Nat) (P : Nat → Nat → Bool) (f : Nat → Nat → Option Nat) : Prop where
  len : L.length = m * q
  wd : Wd L
  new : ∀ a b, a < m → b < q → P a b = true → ma L q a b = f a b
  old : ∀ a b, a < m → b < q → P a b = false → ma L q a b = ma l q a b
section
variable {L : List Int} {m q : Nat} {P Q : Nat → Nat → Bool} {f : Nat → Nat → Option Nat}
theorem Mr.start (hl : l.length = m * q) (hw : Wd l) (hP : ∀ a b, a < m → b < q → P a b = false) : Mr l l m q P f := ⟨hl, hw, fun a b h1 h2 h3 => (by rw [hP a b h1 h2] at h3; cases h3), fun _ _ _ _ _ => rfl⟩
theorem Mr.congr (h : Mr L l m q P f) (e : ∀ a b, a < m → b < q → P a b = Q a b) : Mr L l m q Q f := ⟨h.len, h.wd, fun a b h1 h2 h3 => h.new a b h1 h2 (by rw [e a b h1 h2]; exact h3), fun a b h1 h2 h3 => h.old a b h1 h2 (by rw [e a b h1 h2]; exact h3)⟩
theorem Mr.set (h : Mr L l m q P f) {i j : Nat} (hi : i < m) (hj : j < q) {x : Int} (x0 : 0 ≤ x) (x1 : x ≤ 18446744073709551615) (hx : fa x = f i j) (hQ : ∀ a b, a < m → b < q → Q a b = (P a b || decide (a = i ∧ b = j))) : Mr (L.set (i * q + j) x) l m q Q f := by
  have hk : i * q + j < L.length := by rw [h.len]; exact ix_lt hi hj
  have hD : ∀ a b, a < m → b < q → ma (L.set (i * q + j) x) q a b = if a = i ∧ b = j then fa x else ma L q a b := fun a b h1 h2 => by
    unfold ma
    rw [D_set (l := L) x _ hk]
    by_cases e : a = i ∧ b = j
    · rw [e.1, e.2, if_pos rfl, if_pos ⟨rfl, rfl⟩]
    · rw [if_neg e, if_neg (fun e2 => e (ix_eq h2 hj e2))]
  refine ⟨by rw [List.length_set]; exact h.len, wd_set h.wd x0 x1 _, fun a b h1 h2 h3 => ?_, fun a b h1 h2 h3 => ?_⟩
  · rw [hD a b h1 h2]
    rw [hQ a b h1 h2] at h3
    by_cases e : a = i ∧ b = j
    · rw [if_pos e, e.1, e.2]; exact hx
    · rw [if_neg e]
      rcases Bool.or_eq_true_iff.1 h3 with h4 | h4
      · exact h.new a b h1 h2 h4
      · exact absurd (of_decide_eq_true h4) e
  · rw [hD a b h1 h2]
    rw [hQ a b h1 h2] at h3
    obtain ⟨h4, h5⟩ := Bool.or_eq_false_iff.1 h3
    rw [if_neg (of_decide_eq_false h5)]
    exact h.old a b h1 h2 h4
theorem Mr.is (h : Mr L l m q P f) : Is L (m * q) (tg P f l q) := by
  refine ⟨h.len, h.wd, fun k hk => ?_⟩
  have q0 : 0 < q := by rcases Nat.eq_zero_or_pos q with e | e; rw [e, Nat.mul_zero] at hk; omega; exact e
  have h1 : k / q < m := Nat.div_lt_of_lt_mul (by rw [Nat.mul_comm]; exact hk)
  have h2 := Nat.mod_lt k q0
  have e : k / q * q + k % q = k := by have := Nat.div_add_mod k q; rw [Nat.mul_comm] at this; exact this
  have eL : fa (D L k) = ma L q (k / q) (k % q) := by unfold ma; rw [e]
  have el : fa (D l k) = ma l q (k / q) (k % q) := by unfold ma; rw [e]
  unfold tg
  rw [eL, el]
  cases hp : P (k / q) (k % q)
  · rw [if_neg (by simp)]; exact h.old _ _ h1 h2 hp
  · rw [if_pos rfl]; exact h.new _ _ h1 h2 hp
end
end
end Go.Proofs.Ytfelmkkkaphkpaa
