/-
  Layer 10: what the program's reduction has in memory.
-/
import Derived.Test.YtaemkjcmjgefeaaTdP
import Derived.Test.YtaemkjcmjgefeaaTdW
import Derived.Test.YtaemkjcmjgefeaaTdL
namespace Go.Proofs.Ytaemkjcmjgefeaa
open Go Go.RowKit Go.Bw
set_option linter.unusedVariables false
set_option linter.unusedSimpArgs false
/-- what lies beside the diagonal, and the reflections: lists of the call's own, all in blocks from B on -/
structure RQ (B : Nat) (W : World) (Ae Ah : Option Addr) (ce ch : Nat) (e : List Int) (hs : List Re) : Prop where
  oe : OwnF W B Ae ce e
  oh : OwnR W B Ah ch hs
  el : ∀ r ∈ hs, FL W r.A r.l.length r.c r.l ∧ r.t ≤ 18446744073709551615
  bl : ∀ r ∈ hs, ∀ x, r.A = some x → B ≤ x.block ∧ x.block < W.heap.size
  eh : NA Ae Ah
  re : ∀ r ∈ hs, NA r.A Ae
  rh : ∀ r ∈ hs, NA r.A Ah
section
variable {B : Nat} {W W' : World} {Ae Ah : Option Addr} {ce ch : Nat} {e : List Int} {hs : List Re}
theorem RQ.start (B : Nat) (W : World) : RQ B W none none 0 0 [] [] :=
  ⟨OwnF.nil _ _, OwnR.nil _ _, (fun r h => by cases h), (fun r h => by cases h), NA.noneL _, (fun r h => by cases h), (fun r h => by cases h)⟩
theorem RQ.on (h : RQ B W Ae Ah ce ch e hs) (hb : Below W.heap.size W W') : RQ B W' Ae Ah ce ch e hs :=
  ⟨h.oe.on_ hb, h.oh.below hb, fun r hr => ⟨(h.el r hr).1.on hb, (h.el r hr).2⟩, fun r hr x hx => ⟨(h.bl r hr x hx).1, Nat.lt_of_lt_of_le (h.bl r hr x hx).2 hb.size⟩, h.eh, h.re, h.rh⟩
theorem RQ.drew (h : RQ B W Ae Ah ce ch e hs) : RQ B W.drew Ae Ah ce ch e hs := h.on ((Below.refl _ _).drew)
theorem RQ.far (h : RQ B W Ae Ah ce ch e hs) {b : Nat} (hg : W.grownBy W' (some b)) (hb : b < B) : RQ B W' Ae Ah ce ch e hs :=
  ⟨h.oe.grown_ hg (fun a q => by have := (h.oe.gt q).1; simp; omega), h.oh.grown_ hg (fun a q => by have := (h.oh.gt q).1; simp; omega), fun r hr => ⟨(h.el r hr).1.farB hg (fun a q => by have := (h.bl r hr a q).1; omega), (h.el r hr).2⟩,
   fun r hr x hx => ⟨(h.bl r hr x hx).1, Nat.lt_of_lt_of_le (h.bl r hr x hx).2 hg.size⟩, h.eh, h.re, h.rh⟩
theorem ownF_ne {A : Option Addr} {c b : Nat} {l : List Int} (h : OwnF W B A c l) (hb : b < B) : some b ≠ (Value.slice A l.length c).ownBlock := own_nb (fun x hx => by have := (h.gt hx).1; omega)
theorem ownR_ne {A : Option Addr} {c b : Nat} {l : List Re} (h : OwnR W B A c l) (hb : b < B) : some b ≠ (Value.slice A l.length c).ownBlock := own_nb (fun x hx => by have := (h.gt hx).1; omega)
theorem na_own {A A2 : Option Addr} {n c : Nat} (h : NA A A2) : ∀ x, A = some x → some x.block ≠ (Value.slice A2 n c).ownBlock := fun x hx => own_nb (fun y hy => (h x hx y hy).symm)
theorem RQ.pushE (h : RQ B W Ae Ah ce ch e hs) {A2 : Option Addr} {c2 : Nat} {x : Int} (hr : OwnF W' B A2 c2 (e ++ [x])) (hg : W.grownBy W' (Value.slice Ae e.length ce).ownBlock)
    (ho : (Value.slice A2 (e ++ [x]).length c2).ownBlock = (Value.slice Ae e.length ce).ownBlock ∨ (Value.slice A2 (e ++ [x]).length c2).ownBlock = some W.heap.size) : RQ B W' A2 Ah c2 ch (e ++ [x]) hs :=
  ⟨hr, h.oh.grown_ hg (na_own h.eh.symm), fun r q => ⟨fl_far9 (h.el r q).1 hg (na_own (h.re r q)), (h.el r q).2⟩, fun r q x hx => ⟨(h.bl r q x hx).1, Nat.lt_of_lt_of_le (h.bl r q x hx).2 hg.size⟩,
   (na_grow h.eh.symm (fun x hx => (h.oh.gt hx).2) ho).symm, fun r q => na_grow (h.re r q) (fun x hx => (h.bl r q x hx).2) ho, h.rh⟩
theorem RQ.pushH (h : RQ B W Ae Ah ce ch e hs) {A2 : Option Addr} {c2 : Nat} {r : Re} (hr : OwnR W' B A2 c2 (hs ++ [r])) (hg : W.grownBy W' (Value.slice Ah hs.length ch).ownBlock)
    (ho : (Value.slice A2 (hs.length + 1) c2).ownBlock = (Value.slice Ah hs.length ch).ownBlock ∨ (Value.slice A2 (hs.length + 1) c2).ownBlock = some W.heap.size)
    (hf : FL W r.A r.l.length r.c r.l) (ht : r.t ≤ 18446744073709551615) (hl : ∀ x, r.A = some x → B ≤ x.block ∧ x.block < W.heap.size) (hre : NA r.A Ae) (hrh : NA r.A Ah) : RQ B W' Ae A2 ce c2 e (hs ++ [r]) := by
  refine ⟨h.oe.grown_ hg (na_own h.eh), hr, fun q hq => ?_, fun q hq => ?_, na_grow h.eh (fun x hx => (h.oe.gt hx).2) ho, fun q hq => ?_, fun q hq => ?_⟩
  · rcases List.mem_append.1 hq with q1 | q1
    · exact ⟨fl_far9 (h.el q q1).1 hg (na_own (h.rh q q1)), (h.el q q1).2⟩
    · rw [List.mem_singleton.1 q1]; exact ⟨fl_far9 hf hg (na_own hrh), ht⟩
  · rcases List.mem_append.1 hq with q1 | q1
    · exact fun x hx => ⟨(h.bl q q1 x hx).1, Nat.lt_of_lt_of_le (h.bl q q1 x hx).2 hg.size⟩
    · rw [List.mem_singleton.1 q1]; exact fun x hx => ⟨(hl x hx).1, Nat.lt_of_lt_of_le (hl x hx).2 hg.size⟩
  · rcases List.mem_append.1 hq with q1 | q1
    · exact h.re q q1
    · rw [List.mem_singleton.1 q1]; exact hre
  · rcases List.mem_append.1 hq with q1 | q1
    · exact na_grow (h.rh q q1) (fun x hx => (h.bl q q1 x hx).2) ho
    · rw [List.mem_singleton.1 q1]; exact na_grow hrh (fun x hx => (hl x hx).2) ho
end
/-- a list that is the column k below the diagonal -/
theorem tdX_is {L X : List Int} {n k : Nat} (h : Is X (n - 1 - k) (fun i => fa (D L ((k + 1 + i) * n + k)))) : SameF X (tdX L n k) :=
  SameF.of (by rw [h.len, tdX_len]) (fun i hi => by rw [h.len] at hi; rw [h.at_ i hi, tdX_at L n k hi])
theorem tdF_old {L : List Int} {n i j : Nat} (hi : i < n) (hj : i ≤ j) : tdF L n j (i * n + i) = fa (D L (i * n + i)) := by
  obtain ⟨d1, d2⟩ := ix_div (i := i) hi
  unfold tdF tg
  rw [d1, d2, if_neg (by simp; omega)]
/-- what lies on the diagonal is not changed any more -/
theorem TdK.keep {n k : Nat} {Ls : Nat → List Int} {d e : List Int} {hs : List Re} (K : TdK n k Ls d e hs) {i j : Nat} (hi : i < n) (hij : i ≤ j) (hj : j ≤ k) : ma (Ls k) n i i = ma (Ls j) n i i := by
  have S : ∀ m, j + m ≤ k → ma (Ls (j + m)) n i i = ma (Ls j) n i i := fun m => by
    induction m with
    | zero => exact fun _ => rfl
    | succ m ih =>
      intro hm
      rw [← ih (by omega)]
      have h := (K.step (j + m) (by omega)).at_ (i * n + i) (ix_lt hi hi)
      unfold ma
      rw [show j + (m + 1) = j + m + 1 by omega, h, tdF_old hi (by omega)]
  have := S (k - j) (by omega)
  rwa [show j + (k - j) = k by omega] at this
end Go.Proofs.Ytaemkjcmjgefeaa
