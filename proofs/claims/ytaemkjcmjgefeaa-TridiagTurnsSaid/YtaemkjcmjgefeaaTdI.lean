/-
  Layer 10, plain words: k rounds of the reduction.
-/
import Derived.Test.YtaemkjcmjgefeaaTdH
namespace Go.Proofs.Ytaemkjcmjgefeaa
open Go Go.RowKit Go.Bw
set_option linter.unusedVariables false
set_option linter.unusedSimpArgs false
structure TdK (n k : Nat) (Ls : Nat → List Int) (d e : List Int) (hs : List Re) : Prop where
  step : ∀ j, j < k → Is (Ls (j + 1)) (n * n) (tdF (Ls j) n j)
  now : (Ls k).length = n * n ∧ Wd (Ls k)
  dl : d.length = k
  dd : ∀ i, i < k → fa (D d i) = ma (Ls i) n i i
  el : e.length = k
  ee : ∀ j, j < k → fa (D e j) = tdB (Ls j) n j
  hl : hs.length = k
  hh : ∀ (j : Nat) (r : Re), hs[j]? = some r → Is r.l (n - 1 - j) (tdV (Ls j) n j) ∧ af r.t = tdT (Ls j) n j
  dw : Wd d
  ew : Wd e
theorem TdK.start {n : Nat} {a : List Int} (hl : a.length = n * n) (hw : Wd a) : TdK n 0 (fun _ => a) [] [] [] :=
  ⟨fun j hj => absurd hj (Nat.not_lt_zero j), ⟨hl, hw⟩, rfl, fun i hi => absurd hi (Nat.not_lt_zero i), rfl, fun j hj => absurd hj (Nat.not_lt_zero j), rfl, (fun j r h => by simp at h), (fun x h => by cases h), (fun x h => by cases h)⟩
theorem wd_snoc {d : List Int} (h : Wd d) {x : Int} (xb : 0 ≤ x ∧ x ≤ 18446744073709551615) : Wd (d ++ [x]) := fun y hy => by
  rcases List.mem_append.1 hy with q | q
  · exact h y q
  · rw [List.mem_singleton.1 q]; exact xb
theorem TdK.next {n k : Nat} {Ls : Nat → List Int} {d e L : List Int} {hs : List Re} {x y : Int} {r : Re} (h : TdK n k Ls d e hs) (hL : Is L (n * n) (tdF (Ls k) n k)) (hx : fa x = ma (Ls k) n k k) (hy : fa y = tdB (Ls k) n k)
    (h1 : Is r.l (n - 1 - k) (tdV (Ls k) n k)) (h2 : af r.t = tdT (Ls k) n k) (xb : 0 ≤ x ∧ x ≤ 18446744073709551615) (yb : 0 ≤ y ∧ y ≤ 18446744073709551615) : TdK n (k + 1) (fun i => if i = k + 1 then L else Ls i) (d ++ [x]) (e ++ [y]) (hs ++ [r]) := by
  have at1 : ∀ j, j < k + 1 → (if j = k + 1 then L else Ls j) = Ls j := fun j hj => if_neg (by omega)
  have at2 : (if k + 1 = k + 1 then L else Ls (k + 1)) = L := if_pos rfl
  refine ⟨fun j hj => ?_, ?_, by simp [h.dl], fun i hi => ?_, by simp [h.el], fun j hj => ?_, by simp [h.hl], fun j q hq => ?_, wd_snoc h.dw xb, wd_snoc h.ew yb⟩
  · rw [at1 j hj]
    by_cases c : j = k
    · subst c
      rw [at2]; exact hL
    · rw [at1 (j + 1) (by omega)]; exact h.step j (by omega)
  · rw [at2]; exact ⟨hL.len, hL.wd⟩
  · rw [at1 i hi, D_append, h.dl]
    by_cases c : i < k
    · rw [if_pos c]; exact h.dd i c
    · obtain rfl : i = k := by omega
      rw [if_neg c, Nat.sub_self]; exact hx
  · rw [at1 j hj, D_append, h.el]
    by_cases c : j < k
    · rw [if_pos c]; exact h.ee j c
    · obtain rfl : j = k := by omega
      rw [if_neg c, Nat.sub_self]; exact hy
  · have hl := h.hl
    rcases Nat.lt_trichotomy j k with c | c | c
    · rw [List.getElem?_append_left (by omega)] at hq
      rw [at1 j (by omega)]
      exact h.hh j q hq
    · subst c
      rw [List.getElem?_append_right (by omega), hl, Nat.sub_self] at hq
      obtain rfl : r = q := by simpa using hq
      rw [at1 j (by omega)]
      exact ⟨h1, h2⟩
    · rw [List.getElem?_eq_none (by simp; omega)] at hq
      cases hq
theorem Td.fin {n k : Nat} {Ls : Nat → List Int} {d0 d e e2 : List Int} {hs : List Re} (K : TdK n k Ls d0 e hs) (hk : k = n - 2) (hd : d.length = n) (hdd : ∀ j, j < n → fa (D d j) = ma (Ls (min j (n - 2))) n j j) (he : e2.length = n - 1)
    (hee : ∀ j, j < k → fa (D e2 j) = fa (D e j)) (hl : 1 < n → fa (D e2 (n - 2)) = ma (Ls (n - 2)) n (n - 1) (n - 2)) : Td n Ls d e2 hs := by
  refine ⟨fun j hj => K.step j (by omega), hd, hdd, he, fun j hj => ?_, by rw [K.hl]; exact hk, K.hh⟩
  by_cases c : j + 2 < n
  · rw [if_pos c, hee j (by omega), K.ee j (by omega)]
  · obtain rfl : j = n - 2 := by omega
    rw [if_neg c]
    exact hl (by omega)
/-- nothing is reflected where Tau is 0 -/
theorem tdF_zero {L : List Int} {n k : Nat} (hl : L.length = n * n) (hw : Wd L) (hz : tdZ L n k = true) : Is L (n * n) (tdF L n k) :=
  ⟨hl, hw, fun i _ => by unfold tdF tg; rw [hz]; simp⟩
/-- the answer of the reference's Reduce -/
def TdP (w : World) (n : Nat) (a : List Int) (r : Ending) (w' : World) : Prop :=
  ∃ Ls Ad cd d Ae ce e Ah ch hs, r = .returned (.tuple #[tV Ad d.length cd Ae e.length ce, .slice Ah hs.length ch]) ∧ FL w' Ad d.length cd d ∧ FL w' Ae e.length ce e ∧ Rl w' Ah hs.length ch hs ∧ Td n Ls d e hs ∧ Ls 0 = a ∧ Below w.heap.size w w'
/-- the entry (i, k) of a list -/
theorem tdX_next {L : List Int} {n k i : Nat} (hi : i < n - 1 - k) : (tdX L n k).take (i + 1) = (tdX L n k).take i ++ [D L ((k + 1 + i) * n + k)] := by
  rw [take_next (by rw [tdX_len]; exact hi), tdX_at L n k hi]
theorem tdX_wd {L : List Int} {n k : Nat} (h : Wd L) : Wd (tdX L n k) := by
  intro x hx
  unfold tdX at hx
  obtain ⟨i, _, rfl⟩ := List.mem_map.1 hx
  exact h.at_ _
end Go.Proofs.Ytaemkjcmjgefeaa
