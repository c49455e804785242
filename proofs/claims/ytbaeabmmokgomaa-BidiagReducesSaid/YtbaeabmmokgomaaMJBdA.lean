/-
  Layer 11, plain words: the bidiagonal form of a matrix, step by step, of floats up to NaNs.
-/
import Derived.Test.YtbaeabmmokgomaaMJTdA
import Derived.Test.YtbaeabmmokgomaaMJRfJ
namespace Go.Proofs.Ytbaeabmmokgomaa
open Go.RowKit Go.Bw
set_option linter.unusedVariables false
set_option linter.unusedSimpArgs false

/-- the column k, from the row k on, of m rows of q -/
def bdX (L : List Int) (m q k : Nat) : List Int := (List.range (m - k)).map fun i => D L ((k + i) * q + k)
/-- the row k, from the column k + 1 on -/
def bdY (L : List Int) (q k : Nat) : List Int := (List.range (q - 1 - k)).map fun j => D L (k * q + (k + 1 + j))
theorem bdX_len (L : List Int) (m q k : Nat) : (bdX L m q k).length = m - k := by unfold bdX; simp
theorem bdY_len (L : List Int) (q k : Nat) : (bdY L q k).length = q - 1 - k := by unfold bdY; simp
theorem bdX_at (L : List Int) (m q k : Nat) {i : Nat} (hi : i < m - k) : D (bdX L m q k) i = D L ((k + i) * q + k) := by
  rw [D_in (by rw [bdX_len]; exact hi)]
  unfold bdX
  rw [List.getElem_map, List.getElem_range]
theorem bdY_at (L : List Int) (q k : Nat) {j : Nat} (hj : j < q - 1 - k) : D (bdY L q k) j = D L (k * q + (k + 1 + j)) := by
  rw [D_in (by rw [bdY_len]; exact hj)]
  unfold bdY
  rw [List.getElem_map, List.getElem_range]
theorem bdX_same {L L2 : List Int} (h : SameF L L2) (m q k : Nat) : SameF (bdX L m q k) (bdX L2 m q k) :=
  SameF.of (by rw [bdX_len, bdX_len]) (fun i hi => by rw [bdX_len] at hi; rw [bdX_at L m q k hi, bdX_at L2 m q k hi, h.at_])
theorem bdY_same {L L2 : List Int} (h : SameF L L2) (q k : Nat) : SameF (bdY L q k) (bdY L2 q k) :=
  SameF.of (by rw [bdY_len, bdY_len]) (fun i hi => by rw [bdY_len] at hi; rw [bdY_at L q k hi, bdY_at L2 q k hi, h.at_])
/-- rows reflected, columns reflected, by a reflection's floats as they are -/
def lT (L v : List Int) (q p m f : Nat) (t : Option Nat) : Nat → Option Nat := tg (lP (eqA t (some 0)) p m f (q - f)) (lF L v q p m t) L q
def rT (L v : List Int) (M q p m f : Nat) (t : Option Nat) : Nat → Option Nat := tg (rP (eqA t (some 0)) p m f (M - f)) (rF L v q p m t) L q
theorem lnF_same {v v2 : List Int} (hv : SameF v v2) (x : Nat → Option Nat) (t : Option Nat) (n i : Nat) : lnF v x t n i = lnF v2 x t n i := by
  unfold lnF lnW
  rw [hv.at_ i, sumA_congr (fun k _ => by rw [hv.at_ k])]
theorem ma_sameF {L L2 : List Int} (h : SameF L L2) (q : Nat) : ma L q = ma L2 q := funext fun a => funext fun b => h.at_ _
theorem lT_same {L L2 v v2 : List Int} (h : SameF L L2) (hv : SameF v v2) (q p m f : Nat) (t : Option Nat) (i : Nat) : lT L v q p m f t i = lT L2 v2 q p m f t i := by
  unfold lT tg lF
  rw [ma_sameF h, h.at_ i]
  congr 1
  exact lnF_same hv ..
theorem rT_same {L L2 v v2 : List Int} (h : SameF L L2) (hv : SameF v v2) (M q p m f : Nat) (t : Option Nat) (i : Nat) : rT L v M q p m f t i = rT L2 v2 M q p m f t i := by
  unfold rT tg rF
  rw [ma_sameF h, h.at_ i]
  congr 1
  exact lnF_same hv ..
/-- what the reduction of a matrix of m rows, n columns comes to, k columns far: the lists ahead of each column (Ls) and behind its rows' reflection (Ms), the diagonal, what is above it, the reflections -/
structure BdK (m n k : Nat) (Ls Ms : Nat → List Int) (d e : List Int) (hs gs : List Re) : Prop where
  now : (Ls k).length = m * n ∧ Wd (Ls k)
  dl : d.length = k
  dd : ∀ j, j < k → fa (D d j) = mkB (bdX (Ls j) m n j)
  hl : hs.length = k
  hh : ∀ (j : Nat) (r : Re), hs[j]? = some r → Is r.l (m - j) (mkV (bdX (Ls j) m n j)) ∧ af r.t = mkT (bdX (Ls j) m n j) ∧ Is (Ms j) (m * n) (lT (Ls j) r.l n j (m - j) (j + 1) (af r.t))
  el : e.length = min k (n - 1)
  ee : ∀ j, j < k → j + 1 < n → fa (D e j) = if j + 2 < n then mkB (bdY (Ms j) n j) else ma (Ms j) n j (j + 1)
  gl : gs.length = min k (n - 2)
  gg : ∀ (j : Nat) (r : Re), gs[j]? = some r → Is r.l (n - 1 - j) (mkV (bdY (Ms j) n j)) ∧ af r.t = mkT (bdY (Ms j) n j) ∧ Is (Ls (j + 1)) (m * n) (rT (Ms j) r.l m n (j + 1) (n - 1 - j) (j + 1) (af r.t))
  still : ∀ j, j < k → ¬ j + 2 < n → Ls (j + 1) = Ms j
  dw : Wd d
  ew : Wd e
/-- two that begin alike end alike -/
theorem BdK.same {m n k : Nat} {Ls Ms Ks Ns : Nat → List Int} {d e d2 e2 : List Int} {hs gs hs2 gs2 : List Re} (h : BdK m n k Ls Ms d e hs gs) (q : BdK m n k Ks Ns d2 e2 hs2 gs2) (h0 : SameF (Ls 0) (Ks 0)) (hk : k ≤ n) :
    SameF d d2 ∧ SameF e e2 ∧ hs.length = hs2.length ∧ gs.length = gs2.length ∧ (∀ (i : Nat) (r r2 : Re), hs[i]? = some r → hs2[i]? = some r2 → SameF r.l r2.l ∧ af r.t = af r2.t) ∧ ∀ (i : Nat) (r r2 : Re), gs[i]? = some r → gs2[i]? = some r2 → SameF r.l r2.l ∧ af r.t = af r2.t := by
  have S : ∀ i, i ≤ k → SameF (Ls i) (Ks i) ∧ (i < k → SameF (Ms i) (Ns i)) := fun i => by
    have stepM : ∀ i, i < k → SameF (Ls i) (Ks i) → SameF (Ms i) (Ns i) := fun i hi s => by
      have g1 : i < hs.length := by rw [h.hl]; exact hi
      have g2 : i < hs2.length := by rw [q.hl]; exact hi
      obtain ⟨a1, a2, a3⟩ := h.hh i hs[i] (List.getElem?_eq_getElem g1)
      obtain ⟨b1, b2, b3⟩ := q.hh i hs2[i] (List.getElem?_eq_getElem g2)
      have sx := bdX_same s m n i
      have sv : SameF hs[i].l hs2[i].l := Is.same a1 (b1.congr (fun j _ => (mkV_same sx j).symm))
      have st : af hs[i].t = af hs2[i].t := by rw [a2, b2, mkT_same sx]
      rw [st] at a3
      exact Is.same a3 (b3.congr (fun j _ => (lT_same s sv ..).symm))
    induction i with
    | zero => exact fun _ => ⟨h0, fun hi => stepM 0 hi h0⟩
    | succ i ih =>
      intro hi
      obtain ⟨s1, s2⟩ := ih (by omega)
      have sM := s2 (by omega)
      have sL : SameF (Ls (i + 1)) (Ks (i + 1)) := by
        by_cases c : i + 2 < n
        · have hg1 : i < gs.length := by rw [h.gl]; omega
          have hg2 : i < gs2.length := by rw [q.gl]; omega
          obtain ⟨a1, a2, a3⟩ := h.gg i gs[i] (List.getElem?_eq_getElem hg1)
          obtain ⟨b1, b2, b3⟩ := q.gg i gs2[i] (List.getElem?_eq_getElem hg2)
          have sy := bdY_same sM n i
          have sv : SameF gs[i].l gs2[i].l := Is.same a1 (b1.congr (fun j _ => (mkV_same sy j).symm))
          have st : af gs[i].t = af gs2[i].t := by rw [a2, b2, mkT_same sy]
          rw [st] at a3
          exact Is.same a3 (b3.congr (fun j _ => (rT_same sM sv ..).symm))
        · rw [h.still i (by omega) c, q.still i (by omega) c]; exact sM
      exact ⟨sL, fun hi2 => stepM (i + 1) hi2 sL⟩
  refine ⟨SameF.of (h.dl.trans q.dl.symm) (fun i hi => ?_), SameF.of (h.el.trans q.el.symm) (fun i hi => ?_), h.hl.trans q.hl.symm, h.gl.trans q.gl.symm, fun i r r2 h1 h2 => ?_, fun i r r2 h1 h2 => ?_⟩
  · rw [h.dl] at hi
    rw [h.dd i hi, q.dd i hi, mkB_same (bdX_same (S i (by omega)).1 m n i)]
  · rw [h.el] at hi
    have hi1 : i < k := by omega
    have hi2 : i + 1 < n := by omega
    have sM := (S i (by omega)).2 hi1
    rw [h.ee i hi1 hi2, q.ee i hi1 hi2]
    by_cases c : i + 2 < n
    · rw [if_pos c, if_pos c, mkB_same (bdY_same sM n i)]
    · rw [if_neg c, if_neg c]; exact sM.at_ _
  · have hi : i < k := by rw [← h.hl]; exact (List.getElem?_eq_some_iff.1 h1).1
    obtain ⟨a1, a2, _⟩ := h.hh i r h1
    obtain ⟨b1, b2, _⟩ := q.hh i r2 h2
    have sx := bdX_same (S i (by omega)).1 m n i
    exact ⟨Is.same a1 (b1.congr (fun j _ => (mkV_same sx j).symm)), by rw [a2, b2, mkT_same sx]⟩
  · have hi : i < min k (n - 2) := by rw [← h.gl]; exact (List.getElem?_eq_some_iff.1 h1).1
    obtain ⟨a1, a2, _⟩ := h.gg i r h1
    obtain ⟨b1, b2, _⟩ := q.gg i r2 h2
    have sy := bdY_same ((S i (by omega)).2 (by omega)) n i
    exact ⟨Is.same a1 (b1.congr (fun j _ => (mkV_same sy j).symm)), by rw [a2, b2, mkT_same sy]⟩
end Go.Proofs.Ytbaeabmmokgomaa
