/-
  Layer 10, plain words: the tridiagonal form of a matrix, step by step, of floats up to NaNs.
-/
import Derived.Test.YtbaeabmmokgomaaMJRfF
namespace Go.Proofs.Ytbaeabmmokgomaa
open Go.RowKit Go.Bw
set_option linter.unusedVariables false
set_option linter.unusedSimpArgs false

/-- two lists have the same floats -/
def SameF (x y : List Int) : Prop := x.map fa = y.map fa
theorem SameF.len {x y : List Int} (h : SameF x y) : x.length = y.length := by have := congrArg List.length h; simpa using this
theorem SameF.at_ {x y : List Int} (h : SameF x y) (i : Nat) : fa (D x i) = fa (D y i) := by
  have hl := h.len
  by_cases hi : i < x.length
  · rw [D_in hi, D_in (by omega)]
    have : (x.map fa)[i]? = (y.map fa)[i]? := by rw [h]
    rw [List.getElem?_map, List.getElem?_map, List.getElem?_eq_getElem hi, List.getElem?_eq_getElem (by omega)] at this
    simpa using this
  · rw [D_out (by omega), D_out (by omega)]
theorem SameF.of {x y : List Int} (hl : x.length = y.length) (h : ∀ i, i < x.length → fa (D x i) = fa (D y i)) : SameF x y := by
  unfold SameF
  refine List.ext_getElem (by simp [hl]) (fun i h1 h2 => ?_)
  rw [List.getElem_map, List.getElem_map]
  have hi : i < x.length := by simpa using h1
  have := h i hi
  rw [D_in hi, D_in (by omega)] at this
  exact this
theorem SameF.symm {x y : List Int} (h : SameF x y) : SameF y x := Eq.symm h
theorem SameF.trans {x y z : List Int} (h : SameF x y) (k : SameF y z) : SameF x z := Eq.trans h k
theorem SameF.drop {x y : List Int} (h : SameF x y) (k : Nat) : SameF (x.drop k) (y.drop k) := by unfold SameF at *; rw [List.map_drop, List.map_drop, h]
theorem Is.same {x y : List Int} {n : Nat} {f : Nat → Option Nat} (h : Is x n f) (k : Is y n f) : SameF x y :=
  SameF.of (h.len.trans k.len.symm) (fun i hi => by rw [h.at_ i (by rw [← h.len]; exact hi), k.at_ i (by rw [← h.len]; exact hi)])
theorem nrmL_map (x : List Int) : nrmL x = (x.map fa).foldl nrmS (some 0, some 4607182418800017408) := by
  unfold nrmL
  rw [List.foldl_map]
  rfl
theorem nrmA_same {x y : List Int} (h : SameF x y) : nrmA x = nrmA y := by unfold nrmA; rw [nrmL_map, nrmL_map, h]
theorem mkZ_same {x y : List Int} (h : SameF x y) : mkZ x = mkZ y := by unfold mkZ; rw [nrmA_same (h.drop 1)]
theorem fa_word {x y : Int} {o : Nat} (hx : fa x = some o) (hy : fa y = some o) : x.toNat = y.toNat := by
  unfold fa af at hx hy
  split at hx
  · cases hx
  · split at hy
    · cases hy
    · rw [Option.some.inj hx, Option.some.inj hy]
theorem aop_nl (op : BinOp) (o : Option Nat) : aop op none o = none := by cases o <;> rfl
theorem hypA_none (b : Option Nat) : hypA none b = none := by
  unfold hypA
  have e : ∀ o, gtA o none = false := fun o => by cases o <;> rfl
  have z : absA none = none := rfl
  rw [z, e, if_neg (by simp)]
  unfold hyp2A
  have e2 : eqA none (some 0) = false := rfl
  rw [e2, if_neg (by simp)]
  exact aop_nl _ _
theorem mkB_same {x y : List Int} (h : SameF x y) : mkB x = mkB y := by
  unfold mkB
  rw [mkZ_same h, nrmA_same (h.drop 1), h.at_ 0]
  by_cases hz : mkZ y = true
  · rw [if_pos hz, if_pos hz]
  · rw [if_neg hz, if_neg hz]
    cases e : fa (D y 0) with
    | none =>
      have q : ∀ y, sgnA none y = none := fun _ => rfl
      rw [hypA_none, q, q]
    | some o => rw [fa_word ((h.at_ 0).trans e) e]
theorem mkT_same {x y : List Int} (h : SameF x y) : mkT x = mkT y := by unfold mkT; rw [mkZ_same h, mkB_same h, h.at_ 0]
theorem mkV_same {x y : List Int} (h : SameF x y) (i : Nat) : mkV x i = mkV y i := by unfold mkV mkQ; rw [mkZ_same h, mkB_same h, h.at_ 0, h.at_ i]

/-- the column k below the diagonal -/
def tdX (L : List Int) (n k : Nat) : List Int := (List.range (n - 1 - k)).map fun i => D L ((k + 1 + i) * n + k)
theorem tdX_len (L : List Int) (n k : Nat) : (tdX L n k).length = n - 1 - k := by unfold tdX; simp
theorem tdX_at (L : List Int) (n k : Nat) {i : Nat} (hi : i < n - 1 - k) : D (tdX L n k) i = D L ((k + 1 + i) * n + k) := by
  rw [D_in (by rw [tdX_len]; exact hi)]
  unfold tdX
  rw [List.getElem_map, List.getElem_range]
def tdT (L : List Int) (n k : Nat) : Option Nat := mkT (tdX L n k)
def tdB (L : List Int) (n k : Nat) : Option Nat := mkB (tdX L n k)
def tdV (L : List Int) (n k i : Nat) : Option Nat := mkV (tdX L n k) i
def tdP (L : List Int) (n k i : Nat) : Option Nat := aop .mul (tdT L n k) (sumA (fun j => aop .mul (ma L n (k + 1 + i) (k + 1 + j)) (tdV L n k j)) (n - 1 - k))
def tdS (L : List Int) (n k : Nat) : Option Nat := sumA (fun i => aop .mul (tdP L n k i) (tdV L n k i)) (n - 1 - k)
def tdC (L : List Int) (n k : Nat) : Option Nat := negA (aop .mul (aop .mul (some 4602678819172646912) (tdT L n k)) (tdS L n k))
def tdW (L : List Int) (n k i : Nat) : Option Nat := aop .add (tdP L n k i) (aop .mul (tdC L n k) (tdV L n k i))
def tdN (L : List Int) (n k a b : Nat) : Option Nat := aop .sub (ma L n a b) (aop .add (aop .mul (tdV L n k (a - k - 1)) (tdW L n k (b - k - 1))) (aop .mul (tdW L n k (a - k - 1)) (tdV L n k (b - k - 1))))
def tdZ (L : List Int) (n k : Nat) : Bool := eqA (tdT L n k) (some 0)
/-- one step -/
def tdF (L : List Int) (n k : Nat) : Nat → Option Nat := tg (fun a b => !tdZ L n k && decide (k < a ∧ k < b)) (tdN L n k) L n
section
variable {L L2 : List Int} {n k : Nat}
theorem ma_same (h : SameF L L2) (a b : Nat) : ma L n a b = ma L2 n a b := h.at_ _
theorem tdX_same (h : SameF L L2) : SameF (tdX L n k) (tdX L2 n k) :=
  SameF.of (by rw [tdX_len, tdX_len]) (fun i hi => by rw [tdX_len] at hi; rw [tdX_at L n k hi, tdX_at L2 n k hi, h.at_])
theorem tdT_same (h : SameF L L2) : tdT L n k = tdT L2 n k := mkT_same (tdX_same h)
theorem tdB_same (h : SameF L L2) : tdB L n k = tdB L2 n k := mkB_same (tdX_same h)
theorem tdV_same (h : SameF L L2) (i : Nat) : tdV L n k i = tdV L2 n k i := mkV_same (tdX_same h) i
theorem tdP_same (h : SameF L L2) (i : Nat) : tdP L n k i = tdP L2 n k i := by
  unfold tdP
  rw [tdT_same h, sumA_congr (fun j _ => by rw [ma_same h, tdV_same h j])]
theorem tdS_same (h : SameF L L2) : tdS L n k = tdS L2 n k := by unfold tdS; exact sumA_congr (fun i _ => by rw [tdP_same h i, tdV_same h i])
theorem tdC_same (h : SameF L L2) : tdC L n k = tdC L2 n k := by unfold tdC; rw [tdT_same h, tdS_same h]
theorem tdW_same (h : SameF L L2) (i : Nat) : tdW L n k i = tdW L2 n k i := by unfold tdW; rw [tdP_same h i, tdC_same h, tdV_same h i]
theorem tdF_same (h : SameF L L2) (i : Nat) : tdF L n k i = tdF L2 n k i := by
  unfold tdF tg tdN tdZ
  rw [tdT_same h, h.at_ i, ma_same h, tdV_same h, tdV_same h, tdW_same h, tdW_same h]
end
/-- what the reduction of a matrix of n rows comes to: the lists that it goes through, the diagonal, what is beside it, the reflections -/
structure Td (n : Nat) (Ls : Nat → List Int) (d e : List Int) (hs : List Re) : Prop where
  step : ∀ k, k + 2 < n → Is (Ls (k + 1)) (n * n) (tdF (Ls k) n k)
  dl : d.length = n
  dd : ∀ i, i < n → fa (D d i) = ma (Ls (min i (n - 2))) n i i
  el : e.length = n - 1
  ee : ∀ k, k + 1 < n → fa (D e k) = if k + 2 < n then tdB (Ls k) n k else ma (Ls (n - 2)) n (n - 1) (n - 2)
  hl : hs.length = n - 2
  hh : ∀ (k : Nat) (r : Re), hs[k]? = some r → Is r.l (n - 1 - k) (tdV (Ls k) n k) ∧ af r.t = tdT (Ls k) n k
theorem Td.same {n : Nat} {Ls Ks : Nat → List Int} {d e d2 e2 : List Int} {hs hs2 : List Re} (h : Td n Ls d e hs) (k : Td n Ks d2 e2 hs2) (h0 : SameF (Ls 0) (Ks 0)) :
    SameF d d2 ∧ SameF e e2 ∧ hs.length = hs2.length ∧ ∀ (i : Nat) (r r2 : Re), hs[i]? = some r → hs2[i]? = some r2 → SameF r.l r2.l ∧ af r.t = af r2.t := by
  have S : ∀ i, i ≤ n - 2 → SameF (Ls i) (Ks i) := fun i => by
    induction i with
    | zero => exact fun _ => h0
    | succ i ih =>
      intro hi
      have h1 := h.step i (by omega)
      have h2 := k.step i (by omega)
      exact Is.same h1 (h2.congr (fun j _ => (tdF_same (ih (by omega)) j).symm))
  refine ⟨SameF.of (h.dl.trans k.dl.symm) (fun i hi => ?_), SameF.of (h.el.trans k.el.symm) (fun i hi => ?_), h.hl.trans k.hl.symm, fun i r r2 h1 h2 => ?_⟩
  · rw [h.dl] at hi
    rw [h.dd i hi, k.dd i hi, ma_same (S _ (Nat.min_le_right ..))]
  · rw [h.el] at hi
    rw [h.ee i (by omega), k.ee i (by omega)]
    by_cases c : i + 2 < n
    · rw [if_pos c, if_pos c, tdB_same (S i (by omega))]
    · rw [if_neg c, if_neg c, ma_same (S _ (Nat.le_refl _))]
  · have hi : i < n - 2 := by rw [← h.hl]; exact (List.getElem?_eq_some_iff.1 h1).1
    obtain ⟨a1, a2⟩ := h.hh i r h1
    obtain ⟨b1, b2⟩ := k.hh i r2 h2
    refine ⟨Is.same a1 (b1.congr (fun j _ => (tdV_same (S i (by omega)) j).symm)), ?_⟩
    rw [a2, b2, tdT_same (S i (by omega))]
end Go.Proofs.Ytbaeabmmokgomaa
