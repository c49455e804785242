/-
  Layer 9, plain words: floats up to NaNs, lists by their places, sums, matrices of which some places are new, reflections.
-/
import Derived.Test.YtbaeabmmokgomaaMJRfN
import Derived.Test.YtbaeabmmokgomaaMJRAfS
import Derived.Test.YtbaeabmmokgomaaMJRAfC
import Derived.Test.YtbaeabmmokgomaaMJRAfL
namespace Go.Proofs.Ytbaeabmmokgomaa
open Go.RowKit Go.Bw
set_option linter.unusedVariables false
set_option linter.unusedSimpArgs false

theorem wd_set {l : List Int} (h : Wd l) {x : Int} (x0 : 0 ≤ x) (x1 : x ≤ 18446744073709551615) (k : Nat) : Wd (l.set k x) := by
  intro y hy
  rcases List.mem_or_eq_of_mem_set hy with h1 | h1
  · exact h y h1
  · rw [h1]; exact ⟨x0, x1⟩
/-- a word's float, NaNs being one -/
def fa (x : Int) : Option Nat := af x.toNat
theorem fa_nat (x : Nat) : fa (x : Int) = af x := by unfold fa; rw [Int.toNat_natCast]
theorem fa_zero : fa 0 = some 0 := af_zero
/-- the list o has n floats, and f are they -/
structure Is (o : List Int) (n : Nat) (f : Nat → Option Nat) : Prop where
  len : o.length = n
  wd : Wd o
  at_ : ∀ k, k < n → fa (D o k) = f k
theorem Is.refl {l : List Int} (h : Wd l) : Is l l.length (fun k => fa (D l k)) := ⟨rfl, h, fun _ _ => rfl⟩
theorem Is.congr {o : List Int} {n : Nat} {f g : Nat → Option Nat} (h : Is o n f) (e : ∀ k, k < n → f k = g k) : Is o n g := ⟨h.len, h.wd, fun k hk => (h.at_ k hk).trans (e k hk)⟩
theorem Is.nil (f : Nat → Option Nat) : Is [] 0 f := ⟨rfl, (fun x hx => by cases hx), fun k hk => by omega⟩
theorem Is.snoc {o : List Int} {n : Nat} {f : Nat → Option Nat} (h : Is o n f) {x : Int} (x0 : 0 ≤ x) (x1 : x ≤ 18446744073709551615) (hx : fa x = f n) : Is (o ++ [x]) (n + 1) f := by
  refine ⟨by simp [h.len], ?_, fun k hk => ?_⟩
  · intro y hy
    rcases List.mem_append.1 hy with h1 | h1
    · exact h.wd y h1
    · rw [List.mem_singleton.1 h1]; exact ⟨x0, x1⟩
  · rw [D_append, h.len]
    by_cases hk2 : k < n
    · rw [if_pos hk2]; exact h.at_ k hk2
    · rw [if_neg hk2, show k = n by omega, Nat.sub_self, ← hx]; rfl
/-- the place k of a list is set -/
theorem Is.set {o : List Int} {n : Nat} {f g : Nat → Option Nat} (h : Is o n f) {x : Int} (x0 : 0 ≤ x) (x1 : x ≤ 18446744073709551615) {k : Nat} (hk : k < n) (hx : fa x = g k) (hg : ∀ j, j < n → j ≠ k → g j = f j) : Is (o.set k x) n g := by
  refine ⟨by rw [List.length_set]; exact h.len, wd_set h.wd x0 x1 k, fun j hj => ?_⟩
  rw [D_set (l := o) x j (by rw [h.len]; exact hk)]
  by_cases e : j = k
  · rw [if_pos e, e]; exact hx
  · rw [if_neg e, h.at_ j hj, hg j hj e]

/-- a sum from the place 0 on -/
def sumA (f : Nat → Option Nat) : Nat → Option Nat
  | 0 => some 0
  | k + 1 => aop .add (sumA f k) (f k)
theorem sumA_congr {f g : Nat → Option Nat} {n : Nat} (h : ∀ k, k < n → f k = g k) : sumA f n = sumA g n := by
  induction n with
  | zero => rfl
  | succ n ih => show aop .add _ _ = aop .add _ _; rw [ih (fun k hk => h k (by omega)), h n (by omega)]
/-- the sum of the products of two lists -/
def dotA (x y : List Int) (n : Nat) : Option Nat := sumA (fun k => aop .mul (fa (D x k)) (fa (D y k))) n
/-- at the places P the floats f, else those of a matrix -/
def tg (P : Nat → Nat → Bool) (f : Nat → Nat → Option Nat) (F : List Int) (q : Nat) (k : Nat) : Option Nat := if P (k / q) (k % q) = true then f (k / q) (k % q) else fa (D F k)
theorem ix_lt {i j m q : Nat} (hi : i < m) (hj : j < q) : i * q + j < m * q := by
  have : (i + 1) * q ≤ m * q := Nat.mul_le_mul_right q hi
  rw [Nat.add_mul] at this
  omega
theorem ix_eq {i j a b q : Nat} (hj : j < q) (hb : b < q) (h : i * q + j = a * q + b) : i = a ∧ j = b := by
  have hia : i = a := by
    rcases Nat.lt_trichotomy i a with h1 | h1 | h1
    · have : (i + 1) * q ≤ a * q := Nat.mul_le_mul_right q h1
      rw [Nat.add_mul] at this
      omega
    · exact h1
    · have : (a + 1) * q ≤ i * q := Nat.mul_le_mul_right q h1
      rw [Nat.add_mul] at this
      omega
  subst hia
  exact ⟨rfl, by omega⟩
/-- an entry of a matrix of q columns -/
def ma (l : List Int) (q i j : Nat) : Option Nat := fa (D l (i * q + j))
/-- a matrix of which the places P are f -/
structure Mr (L l : List Int) (m q : Nat) (P : Nat → Nat → Bool) (f : Nat → Nat → Option Nat) : Prop where
  len : L.length = m * q
  wd : Wd L
  new : ∀ a b, a < m → b < q → P a b = true → ma L q a b = f a b
  old : ∀ a b, a < m → b < q → P a b = false → ma L q a b = ma l q a b
section
variable {L l : List Int} {m q : Nat} {P Q : Nat → Nat → Bool} {f : Nat → Nat → Option Nat}
theorem Mr.start (hl : l.length = m * q) (hw : Wd l) (hP : ∀ a b, a < m → b < q → P a b = false) : Mr l l m q P f := ⟨hl, hw, fun a b h1 h2 h3 => (by rw [hP a b h1 h2] at h3; cases h3), fun _ _ _ _ _ => rfl⟩
theorem Mr.congr (h : Mr L l m q P f) (e : ∀ a b, a < m → b < q → P a b = Q a b) : Mr L l m q Q f := ⟨h.len, h.wd, fun a b h1 h2 h3 => h.new a b h1 h2 (by rw [e a b h1 h2]; exact h3), fun a b h1 h2 h3 => h.old a b h1 h2 (by rw [e a b h1 h2]; exact h3)⟩
theorem Mr.set (h : Mr L l m q P f) {i j : Nat} (hi : i < m) (hj : j < q) {x : Int} (x0 : 0 ≤ x) (x1 : x ≤ 18446744073709551615) (hx : fa x = f i j) (hQ : ∀ a b, a < m → b < q → Q a b = (P a b || decide (a = i ∧ b = j))) : Mr (L.set (i * q + j) x) l m q Q f := by
  have hk : i * q + j < L.length := by rw [h.len]; exact ix_lt hi hj
  have hD : ∀ a b, a < m → b < q → ma (L.set (i * q + j) x) q a b = if a = i ∧ b = j then fa x else ma L q a b := fun a b h1 h2 => by
    unfold ma
    rw [D_set (l := L) x _ hk]
    by_cases e : a = i ∧ b = j
    · rw [e.1, e.2, if_pos rfl, if_pos ⟨rfl, rfl⟩]
    · rw [if_neg e, if_neg (fun e2 => e (ix_eq h2 hj e2))]
  refine ⟨by rw [List.length_set]; exact h.len, wd_set h.wd x0 x1 _, fun a b h1 h2 h3 => ?_, fun a b h1 h2 h3 => ?_⟩
  · rw [hD a b h1 h2]
    rw [hQ a b h1 h2] at h3
    by_cases e : a = i ∧ b = j
    · rw [if_pos e, e.1, e.2]; exact hx
    · rw [if_neg e]
      rcases Bool.or_eq_true_iff.1 h3 with h4 | h4
      · exact h.new a b h1 h2 h4
      · exact absurd (of_decide_eq_true h4) e
  · rw [hD a b h1 h2]
    rw [hQ a b h1 h2] at h3
    obtain ⟨h4, h5⟩ := Bool.or_eq_false_iff.1 h3
    rw [if_neg (of_decide_eq_false h5)]
    exact h.old a b h1 h2 h4
theorem Mr.is (h : Mr L l m q P f) : Is L (m * q) (tg P f l q) := by
  refine ⟨h.len, h.wd, fun k hk => ?_⟩
  have q0 : 0 < q := by rcases Nat.eq_zero_or_pos q with e | e; rw [e, Nat.mul_zero] at hk; omega; exact e
  have h1 : k / q < m := Nat.div_lt_of_lt_mul (by rw [Nat.mul_comm]; exact hk)
  have h2 := Nat.mod_lt k q0
  have e : k / q * q + k % q = k := by have := Nat.div_add_mod k q; rw [Nat.mul_comm] at this; exact this
  have eL : fa (D L k) = ma L q (k / q) (k % q) := by unfold ma; rw [e]
  have el : fa (D l k) = ma l q (k / q) (k % q) := by unfold ma; rw [e]
  unfold tg
  rw [eL, el]
  cases hp : P (k / q) (k % q)
  · rw [if_neg (by simp)]; exact h.old _ _ h1 h2 hp
  · rw [if_pos rfl]; exact h.new _ _ h1 h2 hp
end

/-- a reflection of some floats -/
def mkZ (l : List Int) : Bool := eqA (nrmA (l.drop 1)) (some 0)
def mkB (l : List Int) : Option Nat := if mkZ l = true then fa (D l 0) else negA (sgnA (hypA (fa (D l 0)) (nrmA (l.drop 1))) (D l 0).toNat)
def mkT (l : List Int) : Option Nat := if mkZ l = true then some 0 else aop .quo (aop .sub (mkB l) (fa (D l 0))) (mkB l)
def mkQ (l : List Int) : Option Nat := aop .quo (some 4607182418800017408) (aop .sub (fa (D l 0)) (mkB l))
def mkV (l : List Int) (k : Nat) : Option Nat := if k = 0 then some 4607182418800017408 else if mkZ l = true then some 0 else aop .mul (fa (D l k)) (mkQ l)
end Go.Proofs.Ytbaeabmmokgomaa
