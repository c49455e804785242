/-
  Layer 9: what a reflection is, in floats.
-/
import Derived.Test.YtcdbjlmegkcaiaaGreatDoorYAf
import Derived.Test.YtcdbjlmegkcaiaaGreatDoorZNB1
import Derived.Test.YtcdbjlmegkcaiaaGreatDoorZKVwA
import Derived.Test.YtcdbjlmegkcaiaaGreatDoorYGu
import Derived.Below
namespace Go.Proofs.YtcdbjlmegkcaiaaGreatDoor
open Go Go.RowKit Go.Bw
set_option linter.unusedVariables false
set_option linter.unusedSimpArgs false

/-- x's size, y's sign -/
def sgnW (x y : Nat) : Nat := x % 9223372036854775808 + y / 9223372036854775808 * 9223372036854775808
def sgnA (a : Option Nat) (y : Nat) : Option Nat := a.map (sgnW · y)
theorem sgn_bd {x y : Nat} (hy : y ≤ 18446744073709551615) : sgnW x y ≤ 18446744073709551615 := by unfold sgnW; omega
theorem sgn_isA {x y : Nat} (hy : y ≤ 18446744073709551615) : af (sgnW x y) = sgnA (af x) y := by
  have e : isN (sgnW x y) = isN x := by
    unfold isN sgnW
    exact decide_eq_decide.2 (by constructor <;> intro h <;> omega)
  cases h : isN x
  · rw [h] at e
    rw [af_some e, af_some h]; rfl
  · rw [h] at e
    rw [af_none e, af_none h]; rfl
theorem or_sgn {x y : Nat} (hy : y ≤ 18446744073709551615) : bits .or .u64 ((x % 9223372036854775808 : Nat) : Int) ((y / 9223372036854775808 * 9223372036854775808 : Nat) : Int) = (sgnW x y : Nat) := by
  unfold sgnW
  have : y / 9223372036854775808 = 0 ∨ y / 9223372036854775808 = 1 := by omega
  rcases this with e | e <;> rw [e]
  · rw [Nat.zero_mul, Nat.add_zero]
    rw [u64_or _ _ (by omega) (by omega) (by omega) (by omega)]
    simp
    omega
  · have := or_sign ((x % 9223372036854775808 : Nat) : Int) (by omega) (by omega)
    rw [Nat.one_mul]
    rw [show ((9223372036854775808 : Nat) : Int) = 9223372036854775808 from rfl, this]
    omega
end Go.Proofs.YtcdbjlmegkcaiaaGreatDoor
namespace Go.Proofs.YtcdbjlmegkcaiaaGreatDoor
open Go.RowKit Go.Bw
set_option linter.unusedVariables false
set_option linter.unusedSimpArgs false
section
variable {w w' : World} {A : Option Addr} {n c : Nat} {l : List Int}
theorem FL.dr (h : FL w A n c l) (hd : Dr w w') : FL w' A n c l := by
  obtain ⟨k, rfl⟩ := hd
  exact h
theorem fl_built {W : World} {l : List Int} (hl : Wd l) (hm : l.length ≤ 1000) : FL (W.alloc (.cells (LF l).toArray 25)) (some ⟨W.heap.size, 0, none⟩) l.length l.length l := by
  have h := (RowF.new W l).nums (B := W.heap.size + 1) (c := l.length) 0 l.length (by omega) (Nat.le_refl _) (by unfold maxLen; omega) (by omega)
  refine ⟨rfl, ?_, hl⟩
  simpa using h
theorem take_next {k : Nat} (hk : k < l.length) : l.take (k + 1) = l.take k ++ [GD l k] := by
  rw [List.take_add_one, GD_in hk, List.getElem?_eq_getElem hk]; rfl
end
/-- scale and sum, one float on -/
def nrmS (p : Option Nat × Option Nat) (x : Option Nat) : Option Nat × Option Nat :=
  if eqA x (some 0) then p
  else if ltA p.1 (absA x) then (absA x, aop .add (some 4607182418800017408) (aop .mul (aop .mul p.2 (aop .quo p.1 (absA x))) (aop .quo p.1 (absA x))))
  else (p.1, aop .add p.2 (aop .mul (aop .quo (absA x) p.1) (aop .quo (absA x) p.1)))
def nrmL (l : List Int) : Option Nat × Option Nat := l.foldl (fun p x => nrmS p (af x.toNat)) (some 0, some 4607182418800017408)
def nrmA (l : List Int) : Option Nat := aop .mul (nrmL l).1 (asq (nrmL l).2)
theorem nrmL_next {l : List Int} {k : Nat} (hk : k < l.length) : nrmL (l.take (k + 1)) = nrmS (nrmL (l.take k)) (af (GD l k).toNat) := by
  unfold nrmL
  rw [take_next hk, List.foldl_append]
  rfl
end Go.Proofs.YtcdbjlmegkcaiaaGreatDoor
namespace Go.Proofs.YtcdbjlmegkcaiaaGreatDoor
open Go Go.RowKit
set_option linter.unusedVariables false
set_option linter.unusedSimpArgs false

end Go.Proofs.YtcdbjlmegkcaiaaGreatDoor
namespace Go.Proofs.YtcdbjlmegkcaiaaGreatDoor
open Go Go.RowKit
set_option linter.unusedVariables false
set_option linter.unusedSimpArgs false

theorem pro_comm (a b : Ieee.Datum) : a.product b = b.product a := by
  cases a with
  | nan s f => cases b <;> rfl
  | infinity s =>
    cases b with
    | nan t g => rfl
    | infinity t => show some (Ieee.Datum.infinity (s ^^ t)) = some (Ieee.Datum.infinity (t ^^ s)); rw [Bool.xor_comm]
    | number t n j => rfl
  | number s m i =>
    cases b with
    | nan t g => rfl
    | infinity t => rfl
    | number t n j =>
      show some (Ieee.Datum.number (s ^^ t) (m * n) (i + j)) = some (Ieee.Datum.number (t ^^ s) (n * m) (j + i))
      rw [Bool.xor_comm, Nat.mul_comm, Int.add_comm]
theorem mul_comm_A (a b : Option Nat) : aop .mul a b = aop .mul b a := by
  cases a with
  | none => cases b <;> rfl
  | some x =>
    cases b with
    | none => rfl
    | some y =>
      show ((Ieee.double.read x).product (Ieee.double.read y)).map Ieee.double.write = ((Ieee.double.read y).product (Ieee.double.read x)).map Ieee.double.write
      rw [pro_comm]
/-- a word with its sign turned -/
def ngW (x : Nat) : Nat := if 9223372036854775808 ≤ x then x - 9223372036854775808 else x + 9223372036854775808
theorem negA_some (x : Nat) : negA (some x) = some (ngW x) := rfl
theorem ngW_bd {x : Nat} (hx : x ≤ 18446744073709551615) : ngW x ≤ 18446744073709551615 := by unfold ngW; split <;> omega
theorem read_ng {x : Nat} (hx : x ≤ 18446744073709551615) : Ieee.double.read (ngW x) = (Ieee.double.read x).opposite := by
  obtain ⟨e1, e2, e3⟩ := rungs
  have h1 : ngW x % 9223372036854775808 = x % 9223372036854775808 := by unfold ngW; split <;> omega
  have h2 : (ngW x / 9223372036854775808 % 2 == 1) = !(x / 9223372036854775808 % 2 == 1) := by
    unfold ngW
    by_cases h : 9223372036854775808 ≤ x
    · rw [if_pos h]
      have a : (x - 9223372036854775808) / 9223372036854775808 % 2 = 0 := by omega
      have b : x / 9223372036854775808 % 2 = 1 := by omega
      rw [a, b]; rfl
    · rw [if_neg h]
      have a : (x + 9223372036854775808) / 9223372036854775808 % 2 = 1 := by omega
      have b : x / 9223372036854775808 % 2 = 0 := by omega
      rw [a, b]; rfl
  unfold Ieee.Format.read
  simp only [e1, e2, e3, h1, h2]
  split
  · rfl
  · split
    · rfl
    · split <;> rfl
theorem word_ng (s : Bool) {r : Nat} (hr : r < 9223372036854775808) : Ieee.double.word (!s) r = ngW (Ieee.double.word s r) := by
  cases s
  · show 9223372036854775808 + r = ngW r
    unfold ngW
    rw [if_neg (by omega)]; omega
  · show r = ngW (9223372036854775808 + r)
    unfold ngW
    rw [if_pos (by omega)]; omega
theorem write_ng {d : Ieee.Datum} (hd : Datum_ok (some d)) : Ieee.double.write d.opposite = ngW (Ieee.double.write d) := by
  obtain ⟨e1, e2, e3⟩ := rungs
  cases d with
  | nan s f => exact hd.elim
  | infinity s => exact word_ng s (by rw [e3]; omega)
  | number s m e =>
    show Ieee.double.nearest (!s) m e = ngW (Ieee.double.nearest s m e)
    unfold Ieee.Format.nearest
    split
    · exact word_ng s (by omega)
    · exact word_ng s (by rw [e3]; omega)
theorem opp_pro (a b : Ieee.Datum) : a.opposite.product b = (a.product b).map Ieee.Datum.opposite := by
  cases a with
  | nan s f => cases b <;> rfl
  | infinity s =>
    cases b with
    | nan t g => rfl
    | infinity t => simp [Ieee.Datum.product, Ieee.Datum.opposite]
    | number t n j =>
      simp only [Ieee.Datum.product, Ieee.Datum.opposite]
      split <;> simp [Ieee.Datum.opposite]
  | number s m i =>
    cases b with
    | nan t g => rfl
    | infinity t =>
      simp only [Ieee.Datum.product, Ieee.Datum.opposite]
      split <;> simp [Ieee.Datum.opposite]
    | number t n j => simp [Ieee.Datum.product, Ieee.Datum.opposite]
/-- a product of a float with its sign turned -/
theorem neg_mul_A {x : Nat} (hx : x ≤ 18446744073709551615) (s : Option Nat) : aop .mul (negA (af x)) s = negA (aop .mul (af x) s) := by
  cases hn : isN x
  · rw [af_some hn]
    cases s with
    | none => rfl
    | some y =>
      rw [negA_some]
      show ((Ieee.double.read (ngW x)).product (Ieee.double.read y)).map Ieee.double.write = negA (((Ieee.double.read x).product (Ieee.double.read y)).map Ieee.double.write)
      rw [read_ng hx, opp_pro]
      have ok := pro_ok (Ieee.double.read x) (Ieee.double.read y)
      revert ok
      generalize (Ieee.double.read x).product (Ieee.double.read y) = o
      intro ok
      cases o with
      | none => rfl
      | some d =>
        show some (Ieee.double.write d.opposite) = some (ngW (Ieee.double.write d))
        rw [write_ng ok]
  · rw [af_none hn]; rfl
end Go.Proofs.YtcdbjlmegkcaiaaGreatDoor
namespace Go.Proofs.YtcdbjlmegkcaiaaGreatDoor
open Go Go.RowKit Go.Bw
set_option linter.unusedVariables false
set_option linter.unusedSimpArgs false

abbrev ConHypot : Prop := ∀ {x y : Nat}, x ≤ 18446744073709551615 → y ≤ 18446744073709551615 → ∀ w : World, Calls Tryz.prog 18 #[.float .f64 x, .float .f64 y] w (FA (hypA (af x) (af y)) w)
abbrev ConSign : Prop := ∀ {x y : Nat}, x ≤ 18446744073709551615 → y ≤ 18446744073709551615 → ∀ w : World, Calls Tryz.prog 17 #[.float .f64 x, .float .f64 y] w (FP (sgnA (af x) y) w)
theorem Dr.below {w w' : World} (h : Dr w w') (B : Nat) : Below B w w' := by
  obtain ⟨n, rfl⟩ := h
  exact ⟨rfl, rfl, rfl, Nat.le_refl _, fun _ _ => rfl⟩
theorem Dr.size {w w' : World} (h : Dr w w') : w'.heap.size = w.heap.size := by
  obtain ⟨n, rfl⟩ := h
  rfl
theorem below_of {w v w' : World} (h : Dr w v) (hb : Below v.heap.size v w') : Below w.heap.size w w' := (h.below _).trans (h.size ▸ hb)
theorem notN_le {x : Nat} (h : isN x = false) : x % 9223372036854775808 ≤ 9218868437227405312 := by
  unfold isN at h
  have := of_decide_eq_false h
  omega
theorem ne_is (x : Nat) (hx : x ≤ 18446744073709551615) : (FloatKind.f64.format.order x x != some .eq) = isN x := by
  cases h : isN x
  · rw [← aord_is hx hx, af_some h]
    have : eqA (some x) (some x) = true := by
      unfold eqA
      by_cases hi : x % 9223372036854775808 = 9218868437227405312
      · have : x = 9218868437227405312 ∨ x = 18442240474082181120 := by omega
        rcases this with rfl | rfl <;> decide
      · have hf : fin (x : Int) = true := by
          have := notN_le h
          unfold fin mag; simp; omega
        have := (order_lt x x hx hx hf hf).2.2
        have e : aord (some x) (some x) = FloatKind.f64.format.order x x := rfl
        rw [e, this]
        exact decide_eq_true rfl
    unfold eqA at this
    revert this
    generalize aord (some x) (some x) = o
    intro this
    rw [eq_of_beq this]
    rfl
  · exact order_self_is hx h

end Go.Proofs.YtcdbjlmegkcaiaaGreatDoor
namespace Go.Proofs.YtcdbjlmegkcaiaaGreatDoor
open Go Go.RowKit Go.Bw
set_option linter.unusedVariables false
set_option linter.unusedSimpArgs false

abbrev ConNorm : Prop := ∀ {A : Option Addr} {len c : Nat} {l : List Int} {w : World}, FL w A len c l → Calls Tryz.prog 16 #[.slice A len c] w (FA (nrmA l) w)
def turnA (c s x y : Option Nat) : Option Nat × Option Nat := (aop .add (aop .mul c x) (aop .mul s y), aop .sub (aop .mul c y) (aop .mul s x))
end Go.Proofs.YtcdbjlmegkcaiaaGreatDoor
namespace Go.Proofs.YtcdbjlmegkcaiaaGreatDoor
open Go.RowKit Go.Bw
set_option linter.unusedVariables false
set_option linter.unusedSimpArgs false

theorem wd_set {l : List Int} (h : Wd l) {x : Int} (x0 : 0 ≤ x) (x1 : x ≤ 18446744073709551615) (k : Nat) : Wd (l.set k x) := by
  intro y hy
  rcases List.mem_or_eq_of_mem_set hy with h1 | h1
  · exact h y h1
  · rw [h1]; exact ⟨x0, x1⟩
/-- a word's float, NaNs being one -/
def fa (x : Int) : Option Nat := af x.toNat
theorem fa_nat (x : Nat) : fa (x : Int) = af x := by unfold fa; rw [Int.toNat_natCast]
theorem fa_zero : fa 0 = some 0 := af_zero
/-- the list o has n floats, and f are they -/
structure Is (o : List Int) (n : Nat) (f : Nat → Option Nat) : Prop where
  len : o.length = n
  wd : Wd o
  at_ : ∀ k, k < n → fa (GD o k) = f k
theorem Is.refl {l : List Int} (h : Wd l) : Is l l.length (fun k => fa (GD l k)) := ⟨rfl, h, fun _ _ => rfl⟩
theorem Is.congr {o : List Int} {n : Nat} {f g : Nat → Option Nat} (h : Is o n f) (e : ∀ k, k < n → f k = g k) : Is o n g := ⟨h.len, h.wd, fun k hk => (h.at_ k hk).trans (e k hk)⟩
theorem Is.nil (f : Nat → Option Nat) : Is [] 0 f := ⟨rfl, (fun x hx => by cases hx), fun k hk => by omega⟩
theorem Is.snoc {o : List Int} {n : Nat} {f : Nat → Option Nat} (h : Is o n f) {x : Int} (x0 : 0 ≤ x) (x1 : x ≤ 18446744073709551615) (hx : fa x = f n) : Is (o ++ [x]) (n + 1) f := by
  refine ⟨by simp [h.len], ?_, fun k hk => ?_⟩
  · intro y hy
    rcases List.mem_append.1 hy with h1 | h1
    · exact h.wd y h1
    · rw [List.mem_singleton.1 h1]; exact ⟨x0, x1⟩
  · rw [GD_append, h.len]
    by_cases hk2 : k < n
    · rw [if_pos hk2]; exact h.at_ k hk2
    · rw [if_neg hk2, show k = n by omega, Nat.sub_self, ← hx]; rfl
/-- the place k of a list is set -/
theorem Is.set {o : List Int} {n : Nat} {f g : Nat → Option Nat} (h : Is o n f) {x : Int} (x0 : 0 ≤ x) (x1 : x ≤ 18446744073709551615) {k : Nat} (hk : k < n) (hx : fa x = g k) (hg : ∀ j, j < n → j ≠ k → g j = f j) : Is (o.set k x) n g := by
  refine ⟨by rw [List.length_set]; exact h.len, wd_set h.wd x0 x1 k, fun j hj => ?_⟩
  rw [GD_set (l := o) x j (by rw [h.len]; exact hk)]
  by_cases e : j = k
  · rw [if_pos e, e]; exact hx
  · rw [if_neg e, h.at_ j hj, hg j hj e]

/-- a sum from the place 0 on -/
def sumA (f : Nat → Option Nat) : Nat → Option Nat
  | 0 => some 0
  | k + 1 => aop .add (sumA f k) (f k)
theorem sumA_congr {f g : Nat → Option Nat} {n : Nat} (h : ∀ k, k < n → f k = g k) : sumA f n = sumA g n := by
  induction n with
  | zero => rfl
  | succ n ih => show aop .add _ _ = aop .add _ _; rw [ih (fun k hk => h k (by omega)), h n (by omega)]
/-- the sum of the products of two lists -/
def dotA (x y : List Int) (n : Nat) : Option Nat := sumA (fun k => aop .mul (fa (GD x k)) (fa (GD y k))) n
/-- at the places P the floats f, else those of a matrix -/
def tg (P : Nat → Nat → Bool) (f : Nat → Nat → Option Nat) (F : List Int) (q : Nat) (k : Nat) : Option Nat := if P (k / q) (k % q) = true then f (k / q) (k % q) else fa (GD F k)
theorem ix_lt {i j m q : Nat} (hi : i < m) (hj : j < q) : i * q + j < m * q := by
  have : (i + 1) * q ≤ m * q := Nat.mul_le_mul_right q hi
  rw [Nat.add_mul] at this
  omega
theorem ix_eq {i j a b q : Nat} (hj : j < q) (hb : b < q) (h : i * q + j = a * q + b) : i = a ∧ j = b := by
  have hia : i = a := by
    rcases Nat.lt_trichotomy i a with h1 | h1 | h1
    · have : (i + 1) * q ≤ a * q := Nat.mul_le_mul_right q h1
      rw [Nat.add_mul] at this
      omega
    · exact h1
    · have : (a + 1) * q ≤ i * q := Nat.mul_le_mul_right q h1
      rw [Nat.add_mul] at this
      omega
  subst hia
  exact ⟨rfl, by omega⟩
/-- an entry of a matrix of q columns -/
def ma (l : List Int) (q i j : Nat) : Option Nat := fa (GD l (i * q + j))
/-- a matrix of which the places P are f -/
structure Mr (L l : List Int) (m q : Nat) (P : Nat → Nat → Bool) (f : Nat → Nat → Option Nat) : Prop where
  len : L.length = m * q
  wd : Wd L
  new : ∀ a b, a < m → b < q → P a b = true → ma L q a b = f a b
  old : ∀ a b, a < m → b < q → P a b = false → ma L q a b = ma l q a b
section
variable {L l : List Int} {m q : Nat} {P Q : Nat → Nat → Bool} {f : Nat → Nat → Option Nat}
theorem Mr.start (hl : l.length = m * q) (hw : Wd l) (hP : ∀ a b, a < m → b < q → P a b = false) : Mr l l m q P f := ⟨hl, hw, fun a b h1 h2 h3 => (by rw [hP a b h1 h2] at h3; cases h3), fun _ _ _ _ _ => rfl⟩
theorem Mr.congr (h : Mr L l m q P f) (e : ∀ a b, a < m → b < q → P a b = Q a b) : Mr L l m q Q f := ⟨h.len, h.wd, fun a b h1 h2 h3 => h.new a b h1 h2 (by rw [e a b h1 h2]; exact h3), fun a b h1 h2 h3 => h.old a b h1 h2 (by rw [e a b h1 h2]; exact h3)⟩
theorem Mr.set (h : Mr L l m q P f) {i j : Nat} (hi : i < m) (hj : j < q) {x : Int} (x0 : 0 ≤ x) (x1 : x ≤ 18446744073709551615) (hx : fa x = f i j) (hQ : ∀ a b, a < m → b < q → Q a b = (P a b || decide (a = i ∧ b = j))) : Mr (L.set (i * q + j) x) l m q Q f := by
  have hk : i * q + j < L.length := by rw [h.len]; exact ix_lt hi hj
  have hD : ∀ a b, a < m → b < q → ma (L.set (i * q + j) x) q a b = if a = i ∧ b = j then fa x else ma L q a b := fun a b h1 h2 => by
    unfold ma
    rw [GD_set (l := L) x _ hk]
    by_cases e : a = i ∧ b = j
    · rw [e.1, e.2, if_pos rfl, if_pos ⟨rfl, rfl⟩]
    · rw [if_neg e, if_neg (fun e2 => e (ix_eq h2 hj e2))]
  refine ⟨by rw [List.length_set]; exact h.len, wd_set h.wd x0 x1 _, fun a b h1 h2 h3 => ?_, fun a b h1 h2 h3 => ?_⟩
  · rw [hD a b h1 h2]
    rw [hQ a b h1 h2] at h3
    by_cases e : a = i ∧ b = j
    · rw [if_pos e, e.1, e.2]; exact hx
    · rw [if_neg e]
      rcases Bool.or_eq_true_iff.1 h3 with h4 | h4
      · exact h.new a b h1 h2 h4
      · exact absurd (of_decide_eq_true h4) e
  · rw [hD a b h1 h2]
    rw [hQ a b h1 h2] at h3
    obtain ⟨h4, h5⟩ := Bool.or_eq_false_iff.1 h3
    rw [if_neg (of_decide_eq_false h5)]
    exact h.old a b h1 h2 h4
theorem Mr.is (h : Mr L l m q P f) : Is L (m * q) (tg P f l q) := by
  refine ⟨h.len, h.wd, fun k hk => ?_⟩
  have q0 : 0 < q := by rcases Nat.eq_zero_or_pos q with e | e; rw [e, Nat.mul_zero] at hk; omega; exact e
  have h1 : k / q < m := Nat.div_lt_of_lt_mul (by rw [Nat.mul_comm]; exact hk)
  have h2 := Nat.mod_lt k q0
  have e : k / q * q + k % q = k := by have := Nat.div_add_mod k q; rw [Nat.mul_comm] at this; exact this
  have eL : fa (GD L k) = ma L q (k / q) (k % q) := by unfold ma; rw [e]
  have el : fa (GD l k) = ma l q (k / q) (k % q) := by unfold ma; rw [e]
  unfold tg
  rw [eL, el]
  cases hp : P (k / q) (k % q)
  · rw [if_neg (by simp)]; exact h.old _ _ h1 h2 hp
  · rw [if_pos rfl]; exact h.new _ _ h1 h2 hp
end

/-- a reflection of some floats -/
def mkZ (l : List Int) : Bool := eqA (nrmA (l.drop 1)) (some 0)
def mkB (l : List Int) : Option Nat := if mkZ l = true then fa (GD l 0) else negA (sgnA (hypA (fa (GD l 0)) (nrmA (l.drop 1))) (GD l 0).toNat)
def mkT (l : List Int) : Option Nat := if mkZ l = true then some 0 else aop .quo (aop .sub (mkB l) (fa (GD l 0))) (mkB l)
def mkQ (l : List Int) : Option Nat := aop .quo (some 4607182418800017408) (aop .sub (fa (GD l 0)) (mkB l))
def mkV (l : List Int) (k : Nat) : Option Nat := if k = 0 then some 4607182418800017408 else if mkZ l = true then some 0 else aop .mul (fa (GD l k)) (mkQ l)
end Go.Proofs.YtcdbjlmegkcaiaaGreatDoor
