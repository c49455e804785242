/-
  Layer 11, plain words: one more column of the reduction.
-/
import Derived.Test.YtbaeabmmokgomaaMJBdA
namespace Go.Proofs.Ytbaeabmmokgomaa
open Go.RowKit Go.Bw
set_option linter.unusedVariables false
set_option linter.unusedSimpArgs false
theorem BdK.start {m n : Nat} {a : List Int} (hl : a.length = m * n) (hw : Wd a) : BdK m n 0 (fun _ => a) (fun _ => a) [] [] [] [] :=
  ⟨⟨hl, hw⟩, rfl, fun j hj => absurd hj (Nat.not_lt_zero j), rfl, (fun j r h => by simp at h), by simp, (fun j hj => absurd hj (Nat.not_lt_zero j)), by simp, (fun j r h => by simp at h), (fun j hj => absurd hj (Nat.not_lt_zero j)), (fun x h => by cases h), (fun x h => by cases h)⟩
theorem BdK.next {m n k : Nat} {Ls Ms : Nat → List Int} {d e e2 M L : List Int} {hs gs gs2 : List Re} {x : Int} {r : Re} (h : BdK m n k Ls Ms d e hs gs) (hk : k < n)
    (hx : fa x = mkB (bdX (Ls k) m n k)) (xb : 0 ≤ x ∧ x ≤ 18446744073709551615) (h1 : Is r.l (m - k) (mkV (bdX (Ls k) m n k))) (h2 : af r.t = mkT (bdX (Ls k) m n k)) (hM : Is M (m * n) (lT (Ls k) r.l n k (m - k) (k + 1) (af r.t)))
    (hL : L.length = m * n ∧ Wd L) (he : e2.length = min (k + 1) (n - 1)) (he1 : ∀ j, j < k → j + 1 < n → fa (D e2 j) = fa (D e j)) (he2 : k + 1 < n → fa (D e2 k) = if k + 2 < n then mkB (bdY M n k) else ma M n k (k + 1)) (hew : Wd e2)
    (hg : gs2.length = min (k + 1) (n - 2)) (hg1 : ∀ (j : Nat) (q : Re), j < k → gs2[j]? = some q → gs[j]? = some q)
    (hg2 : ∀ q : Re, gs2[k]? = some q → Is q.l (n - 1 - k) (mkV (bdY M n k)) ∧ af q.t = mkT (bdY M n k) ∧ Is L (m * n) (rT M q.l m n (k + 1) (n - 1 - k) (k + 1) (af q.t))) (hst : ¬ k + 2 < n → L = M) :
    BdK m n (k + 1) (fun i => if i = k + 1 then L else Ls i) (fun i => if i = k then M else Ms i) (d ++ [x]) e2 (hs ++ [r]) gs2 := by
  have at1 : ∀ j, j < k + 1 → (if j = k + 1 then L else Ls j) = Ls j := fun j hj => if_neg (by omega)
  have at2 : (if k + 1 = k + 1 then L else Ls (k + 1)) = L := if_pos rfl
  have at3 : ∀ j, j < k → (if j = k then M else Ms j) = Ms j := fun j hj => if_neg (by omega)
  have at4 : (if k = k then M else Ms k) = M := if_pos rfl
  refine ⟨by show (if k + 1 = k + 1 then L else Ls (k + 1)).length = _ ∧ Wd (if k + 1 = k + 1 then L else Ls (k + 1)); rw [at2]; exact hL, by simp [h.dl], fun j hj => ?_, by simp [h.hl], fun j q hq => ?_, he, fun j hj hj2 => ?_, hg, fun j q hq => ?_, fun j hj hj2 => ?_, fun y hy => ?_, hew⟩
  · show fa (D (d ++ [x]) j) = mkB (bdX (if j = k + 1 then L else Ls j) m n j)
    rw [at1 j hj, D_append, h.dl]
    by_cases c : j < k
    · rw [if_pos c]; exact h.dd j c
    · obtain rfl : j = k := by omega
      rw [if_neg c, Nat.sub_self]; exact hx
  · have hl := h.hl
    show Is q.l (m - j) (mkV (bdX (if j = k + 1 then L else Ls j) m n j)) ∧ af q.t = mkT (bdX (if j = k + 1 then L else Ls j) m n j) ∧ Is (if j = k then M else Ms j) (m * n) (lT (if j = k + 1 then L else Ls j) q.l n j (m - j) (j + 1) (af q.t))
    rcases Nat.lt_trichotomy j k with c | c | c
    · rw [List.getElem?_append_left (by omega)] at hq
      rw [at1 j (by omega), at3 j c]
      exact h.hh j q hq
    · subst c
      rw [List.getElem?_append_right (by omega), hl, Nat.sub_self] at hq
      obtain rfl : r = q := by simpa using hq
      rw [at1 j (by omega), at4]
      exact ⟨h1, h2, hM⟩
    · rw [List.getElem?_eq_none (by simp; omega)] at hq
      cases hq
  · show fa (D e2 j) = if j + 2 < n then mkB (bdY (if j = k then M else Ms j) n j) else ma (if j = k then M else Ms j) n j (j + 1)
    by_cases c : j < k
    · rw [at3 j c, he1 j c hj2]; exact h.ee j c hj2
    · obtain rfl : j = k := by omega
      rw [at4]; exact he2 hj2
  · have hjl : j < gs2.length := (List.getElem?_eq_some_iff.1 hq).1
    show Is q.l (n - 1 - j) (mkV (bdY (if j = k then M else Ms j) n j)) ∧ af q.t = mkT (bdY (if j = k then M else Ms j) n j) ∧ Is (if j + 1 = k + 1 then L else Ls (j + 1)) (m * n) (rT (if j = k then M else Ms j) q.l m n (j + 1) (n - 1 - j) (j + 1) (af q.t))
    by_cases c : j < k
    · rw [at3 j c, if_neg (show ¬ j + 1 = k + 1 by omega)]; exact h.gg j q (hg1 j q c hq)
    · obtain rfl : j = k := by omega
      rw [at4, if_pos rfl]; exact hg2 q hq
  · show (if j + 1 = k + 1 then L else Ls (j + 1)) = if j = k then M else Ms j
    by_cases c : j < k
    · rw [at3 j c, if_neg (show ¬ j + 1 = k + 1 by omega)]; exact h.still j c hj2
    · obtain rfl : j = k := by omega
      rw [at4, if_pos rfl]; exact hst hj2
  · rcases List.mem_append.1 hy with q | q
    · exact h.dw y q
    · rw [List.mem_singleton.1 q]; exact xb
end Go.Proofs.Ytbaeabmmokgomaa
