/-
  Layer 10, plain words: one step's entries, one by one.
-/
import Derived.Test.YtaemkjcmjgefeaaTdI
namespace Go.Proofs.Ytaemkjcmjgefeaa
open Go Go.RowKit Go.Bw
set_option linter.unusedVariables false
set_option linter.unusedSimpArgs false
/-- the entries ahead of (i, j), of those below and behind k -/
def upP (k i j a b : Nat) : Bool := decide (k < a ∧ k < b ∧ (a < i ∨ (a = i ∧ b < j)))
/-- some entries are as the step has them, the others as they were -/
structure Up (n k i j : Nat) (L0 L : List Int) : Prop where
  len : L.length = n * n
  wd : Wd L
  at_ : ∀ a b, a < n → b < n → ma L n a b = if upP k i j a b = true then tdN L0 n k a b else ma L0 n a b
theorem Up.start {n k : Nat} {L0 : List Int} (hl : L0.length = n * n) (hw : Wd L0) : Up n k (k + 1) (k + 1) L0 L0 :=
  ⟨hl, hw, fun a b _ _ => by unfold upP; rw [if_neg (by simp; omega)]⟩
theorem Up.set {n k i j z : Nat} {L0 L : List Int} (h : Up n k i j L0 L) (hi : i < n) (hj : j < n) (hki : k < i) (hkj : k < j) (hz : i * n + j = z) {x : Int} (x0 : 0 ≤ x) (x1 : x ≤ 18446744073709551615) (hx : fa x = tdN L0 n k i j) : Up n k i (j + 1) L0 (L.set z x) := by
  have hzl : z < L.length := by rw [h.len, ← hz]; exact ix_lt hi hj
  refine ⟨by rw [List.length_set]; exact h.len, wd_set h.wd x0 x1 _, fun a b ha hb => ?_⟩
  have e : ma (L.set z x) n a b = if a = i ∧ b = j then fa x else ma L n a b := by
    unfold ma
    rw [D_set (l := L) x _ hzl]
    by_cases c : a = i ∧ b = j
    · rw [if_pos c, if_pos (by rw [c.1, c.2, hz])]
    · rw [if_neg c, if_neg (fun q => c (ix_eq hb hj (by rw [q, hz])))]
  rw [e]
  by_cases c : a = i ∧ b = j
  · obtain ⟨rfl, rfl⟩ := c
    rw [if_pos ⟨rfl, rfl⟩, if_pos (by unfold upP; simp; omega)]
    exact hx
  · rw [if_neg c, h.at_ a b ha hb]
    have q : upP k i (j + 1) a b = upP k i j a b := by
      unfold upP
      refine decide_eq_decide.2 ⟨fun ⟨h1, h2, h3⟩ => ⟨h1, h2, ?_⟩, fun ⟨h1, h2, h3⟩ => ⟨h1, h2, ?_⟩⟩
      · rcases h3 with h3 | ⟨h3, h4⟩
        · exact .inl h3
        · exact .inr ⟨h3, by
            rcases Nat.lt_or_ge b j with h5 | h5
            · exact h5
            · exact absurd ⟨h3, by omega⟩ c⟩
      · rcases h3 with h3 | ⟨h3, h4⟩
        · exact .inl h3
        · exact .inr ⟨h3, by omega⟩
    rw [q]
/-- what an entry that is not reached yet is -/
theorem Up.old {n k i j : Nat} {L0 L : List Int} (h : Up n k i j L0 L) (hi : i < n) (hj : j < n) : ma L n i j = ma L0 n i j := by
  rw [h.at_ i j hi hj, if_neg (by unfold upP; simp)]
theorem Up.row {n k i : Nat} {L0 L : List Int} (h : Up n k i n L0 L) : Up n k (i + 1) (k + 1) L0 L :=
  ⟨h.len, h.wd, fun a b ha hb => by
    rw [h.at_ a b ha hb]
    have q : upP k i n a b = upP k (i + 1) (k + 1) a b := by
      unfold upP
      exact decide_eq_decide.2 ⟨fun ⟨h1, h2, h3⟩ => ⟨h1, h2, by omega⟩, fun ⟨h1, h2, h3⟩ => ⟨h1, h2, by omega⟩⟩
    rw [q]⟩
theorem Up.done {n k : Nat} {L0 L : List Int} (h : Up n k n (k + 1) L0 L) (hz : tdZ L0 n k = false) : Is L (n * n) (tdF L0 n k) := by
  refine ⟨h.len, h.wd, fun z hzn => ?_⟩
  have n0 : 0 < n := by
    rcases Nat.eq_zero_or_pos n with e | e
    · subst e; omega
    · exact e
  have h1 : z / n < n := Nat.div_lt_of_lt_mul hzn
  have h2 := Nat.mod_lt z n0
  have e : z / n * n + z % n = z := by have := Nat.div_add_mod z n; rw [Nat.mul_comm] at this; exact this
  have q := h.at_ (z / n) (z % n) h1 h2
  have q1 : ma L n (z / n) (z % n) = fa (D L z) := by unfold ma; rw [e]
  have q2 : ma L0 n (z / n) (z % n) = fa (D L0 z) := by unfold ma; rw [e]
  rw [q1, q2] at q
  rw [q]
  unfold tdF tg upP
  rw [hz]
  by_cases c : k < z / n ∧ k < z % n
  · rw [if_pos (by simp; omega), if_pos (by simp [c.1, c.2])]
  · rw [if_neg (by simp; omega), if_neg (by simp; omega)]
end Go.Proofs.Ytaemkjcmjgefeaa
namespace Go.Proofs.Ytaemkjcmjgefeaa
open Go Go.RowKit Go.Bw
set_option linter.unusedVariables false
/-- a list of n floats, of which those behind k are f, as far as i -/
structure Pv (n k i : Nat) (P : List Int) (f : Nat → Option Nat) : Prop where
  len : P.length = n
  wd : Wd P
  at_ : ∀ j, j < i → fa (D P (k + 1 + j)) = f j
theorem Pv.start (n k : Nat) (f : Nat → Option Nat) : Pv n k 0 (List.replicate n 0) f :=
  ⟨by simp, fun x hx => by rw [List.eq_of_mem_replicate hx]; omega, fun j hj => absurd hj (Nat.not_lt_zero j)⟩
theorem Pv.set {n k i z : Nat} {P : List Int} {f : Nat → Option Nat} (h : Pv n k i P f) (hz : k + 1 + i = z) (hn : z < n) {x : Int} (x0 : 0 ≤ x) (x1 : x ≤ 18446744073709551615) (hx : fa x = f i) : Pv n k (i + 1) (P.set z x) f := by
  refine ⟨by rw [List.length_set]; exact h.len, wd_set h.wd x0 x1 _, fun j hj => ?_⟩
  rw [D_set (l := P) x _ (by rw [h.len]; exact hn)]
  by_cases c : j = i
  · subst c
    rw [if_pos hz]; exact hx
  · rw [if_neg (by omega)]
    exact h.at_ j (by omega)
end Go.Proofs.Ytaemkjcmjgefeaa
