/-
  Layer 8: words for the laws. (Written by wip/tools/gen_kla.py.)
-/
import Derived.Test.YtfelmkkkaphkpaaKnK
namespace Go.Proofs.Ytfelmkkkaphkpaa
open Go.RowKit Go.Bw Go.Sort Go.Shelf
set_option linter.unusedVariables false
set_option linter.unusedSimpArgs false

section
variable {w w' : World} {B : Nat} {V : Vu} {s g cap c : Nat} {l : List Int} {R C : Int} {F : List Int}
theorem Ov.isvec (h : Ov w B V s g cap c l R C F) : V.vec = vecM R C := by
  unfold Vu.vec vecM
  rw [h.R, h.C, h.p]
  simp
theorem Ov.lenv (h : Ov w B V s g cap c l R C F) (hv : vecM R C = true) : V.len = F.length := by
  rw [len_vec (by rw [h.isvec]; exact hv), h.R, h.C, h.FR]
theorem vix_dm (h : Ov w B V s g cap c l R C F) (hv : vecM R C = true) {q k : Nat} (hq : C = q) (hk : k < F.length) : vix V (k / q) (k % q) = k := by
  have hl := h.FR
  unfold vix
  rw [h.C]
  by_cases h1 : C = 1
  · rw [if_pos h1, show q = 1 by omega, Nat.div_one]
  · rw [if_neg h1]
    unfold vecM at hv
    have hR : R = 1 := by
      rcases Bool.or_eq_true_iff.1 hv with h2 | h2
      · rcases Bool.or_eq_true_iff.1 h2 with h3 | h3
        · exact eq_of_beq h3
        · exact absurd (eq_of_beq h3) h1
      · have h3 := (Bool.and_eq_true_iff.1 h2)
        rw [eq_of_beq h3.1, Int.zero_mul] at hl
        omega
    rw [hR, Int.one_mul, hq] at hl
    exact Nat.mod_eq_of_lt (by omega)
/-- what a kernel leaves in a view of its own -/
def OvK (w : World) (B : Nat) (V : Vu) (s g cap c : Nat) (R C : Int) (n : Nat) (f : Nat → Option Nat) (e : Ending) (w' : World) : Prop := ∃ lx G, e = .returned (.int .i64 0) ∧ Ov w' B V s g cap c lx R C G ∧ Is G n f ∧ w.grownBy w' (some g)
theorem ovk {P : Nat → Nat → Bool} {f : Nat → Nat → Option Nat} {h : Nat → Option Nat} {n q : Nat} {e : Ending} (hV : Ov w B V s g cap c l R C F) (hW : WrA w B s g cap c V l P f e w') (hq : C = q) (hn : F.length = n) (hh : ∀ k, k < n → tg P f F q k = h k) : OvK w B V s g cap c R C n h e w' := by
  obtain ⟨lx, rfl, hs, hg, hW⟩ := hW
  have hFR := hV.FR
  exact ⟨lx, _, rfl, hV.wrote hs hW, (hV.is hs hW hq (n := n) (by omega)).congr hh, hg⟩
/-- a view that is not written: what is refused leaves it -/
theorem sameL_self (l : List Int) : sameL l l = true := sameL_refl l
end
end Go.Proofs.Ytfelmkkkaphkpaa
