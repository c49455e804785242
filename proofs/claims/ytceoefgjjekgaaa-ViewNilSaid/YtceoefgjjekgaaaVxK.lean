/-
  Layer 7: two views of one store share a place just if their lists of places have a number in common (plain).
-/
import Derived.Test.YtceoefgjjekgaaaVxJ
namespace Go.Proofs.Ytceoefgjjekgaaa
open Go.RowKit Go.Bw Go.Sort Go.Shelf
set_option linter.unusedVariables false
set_option linter.unusedSimpArgs false

theorem pl_inj {c : Int} {a0 a1 b0 b1 : Int} (h0 : 0 ≤ a1) (h1 : a1 < c) (h2 : 0 ≤ b1) (h3 : b1 < c) (e : a0 * c + a1 = b0 * c + b1) : a0 = b0 ∧ a1 = b1 := by
  have hd : (a0 - b0) * c = b1 - a1 := by rw [Int.sub_mul]; omega
  have hz : a0 - b0 = 0 := by
    rcases Int.lt_trichotomy (a0 - b0) 0 with g | g | g
    · have := Int.mul_le_mul_of_nonneg_right (show a0 - b0 ≤ -1 by omega) (show 0 ≤ c by omega)
      omega
    · exact g
    · have := Int.mul_le_mul_of_nonneg_right (show 1 ≤ a0 - b0 by omega) (show 0 ≤ c by omega)
      omega
  rw [hz, Int.zero_mul] at hd
  omega
section
variable {v u : Vu} {s c n : Nat} {K K2 : Int}
theorem pl_ix (hv : Vk v s c n K) (hu : Vk u s c n K2) {k m : Nat} (hk : k < (v.R * v.C).toNat) (hm : m < (u.R * u.C).toNat) :
    v.pl k = u.pl m ↔ v.ix c (v.ei k) (v.ej k) = u.ix c (u.ei m) (u.ej m) := by
  have y1 := ei_bd hv.bd hk
  have y2 := ei_bd hu.bd hm
  obtain ⟨_, _, _, b1⟩ := hv.ins _ _ y1
  obtain ⟨_, _, _, b2⟩ := hu.ins _ _ y2
  obtain ⟨⟨x0, x1⟩, x2, x3⟩ := has_bd hv.bd y1
  obtain ⟨⟨w0, w1⟩, w2, w3⟩ := has_bd hu.bd y2
  have c1 := (hv.bd.p x0 x1 x2 x3).2.1
  have c2 := (hu.bd.p w0 w1 w2 w3).2.1
  unfold Vu.pl Vu.ix
  constructor
  · intro e
    injection e with e1 e2
    rw [e1, e2]
  · intro e
    obtain ⟨e1, e2⟩ := pl_inj c1 b1 c2 b2 e
    rw [e1, e2]
theorem shB_shR (hv : Vk v s c n K) (hu : Vk u s c n K2) : shB v u = shR (v.ats c) (u.ats c) := by
  have key : (∃ m, m < (u.R * u.C).toNat ∧ ∃ k, k < (v.R * v.C).toNat ∧ v.pl k = u.pl m) ↔ (∃ i, i < (v.ats c).length ∧ ∃ k, k < (u.ats c).length ∧ D (v.ats c) i = D (u.ats c) k) := by
    rw [ats_length, ats_length]
    constructor
    · rintro ⟨m, hm, k, hk, e⟩
      exact ⟨k, hk, m, hm, by rw [ats_D v c hk, ats_D u c hm]; exact (pl_ix hv hu hk hm).1 e⟩
    · rintro ⟨k, hk, m, hm, e⟩
      rw [ats_D v c hk, ats_D u c hm] at e
      exact ⟨m, hm, k, hk, (pl_ix hv hu hk hm).2 e⟩
  unfold shB shR
  rw [decide_eq_decide.2 key]
  rcases hv.p with hz | hp
  · have : ¬ ∃ i, i < (v.ats c).length ∧ ∃ k, k < (u.ats c).length ∧ D (v.ats c) i = D (u.ats c) k := by
      rintro ⟨i, hi, _⟩
      rw [ats_length, hz] at hi
      simp at hi
    rw [decide_eq_false this, Bool.and_false]
  · rcases hu.p with hz | hq
    · have : ¬ ∃ i, i < (v.ats c).length ∧ ∃ k, k < (u.ats c).length ∧ D (v.ats c) i = D (u.ats c) k := by
        rintro ⟨i, hi, k, hk, _⟩
        rw [ats_length u, hz] at hk
        simp at hk
      rw [decide_eq_false this, Bool.and_false]
    · rw [hp, hq]
      simp
end
end Go.Proofs.Ytceoefgjjekgaaa
