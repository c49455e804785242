/-
  Layer 8: words of layer 7's laws that this layer takes: lists of floats below a place, matrices, Take, Copy, each as one contract.
-/
import Derived.Test.YtfelmkkkaphkpaaKVwY
namespace Go.Proofs.Ytfelmkkkaphkpaa
open Go.RowKit Go.Bw Go.Sort Go.Shelf
set_option linter.unusedVariables false
set_option linter.unusedSimpArgs false

theorem St.pS {W : World} {B s g cap c : Nat} {l : List Int} (h : St W B s g cap c l) : PS W (some ⟨s, 0, none⟩) := fun a e => by
  cases e
  exact ⟨s, _, rfl, h.box⟩
theorem St.drew {W : World} {B s g cap c : Nat} {l : List Int} (h : St W B s g cap c l) : St W.drew B s g cap c l := ⟨h.box.drew, h.own, h.ne, h.wd, h.lo, h.len, h.col⟩
theorem OwnF.farC {w : World} {B : Nat} {A : Option Addr} {c : Nat} {l : List Int} (h : OwnF w B A c l) {p : Addr} (hp : p.block < B) (u : Value) : OwnF (w.setCell p u) B A c l := by
  rcases h with ⟨h1, h2⟩
  refine ⟨h1, h2.imp id fun ⟨g, cap, cur, hv, hg, hh, r⟩ => ⟨g, cap, cur, hv, hg, (Below.heap_setCell w p u g (by omega)).trans hh, r⟩⟩
theorem OwnF.farB {w : World} {B cap b : Nat} {A : Option Addr} {l : List Int} (h : OwnF w B A cap l) (hA : ∀ a, A = some a → a.block ≠ b) (k : Nat) (u : Value) : OwnF (w.setCell ⟨b, k, none⟩ u) B A cap l := by
  rcases h with ⟨h1, h2⟩
  refine ⟨h1, h2.imp id fun ⟨g, cap, cur, hv, hg, hh, r⟩ => ⟨g, cap, cur, hv, hg, (Below.heap_setCell w ⟨b, k, none⟩ u g ?_).trans hh, r⟩⟩
  injection hv with e
  exact hA _ e
theorem OwnF.grown_ {w w' : World} {B cap : Nat} {A : Option Addr} {l : List Int} {row : Option Nat} (h : OwnF w B A cap l) (hg : w.grownBy w' row) (hA : ∀ a, A = some a → some a.block ≠ row) : OwnF w' B A cap l := by
  rcases h with ⟨h1, h2⟩
  refine ⟨h1, h2.imp id fun ⟨g, cap, cur, hv, hgB, hh, r⟩ => ⟨g, cap, cur, hv, hgB, (hg.block g (lt_of_block hh) ?_).trans hh, r⟩⟩
  injection hv with e
  exact hA _ e
theorem set9_grown (W : World) (b : Nat) (x0 x1 x2 x3 x4 x5 x6 x7 x8 : Value) : W.grownBy (((((((((W.setCell ⟨b, 0, none⟩ x0).setCell ⟨b, 1, none⟩ x1).setCell ⟨b, 2, none⟩ x2).setCell ⟨b, 3, none⟩ x3).setCell ⟨b, 4, none⟩ x4).setCell ⟨b, 5, none⟩ x5).setCell ⟨b, 6, none⟩ x6).setCell ⟨b, 7, none⟩ x7).setCell ⟨b, 8, none⟩ x8) (some b) :=
  setb_grown (setb_grown (setb_grown (setb_grown (setb_grown (setb_grown (setb_grown (setb_grown (setb_grown (World.grownBy.refl W _) 0 x0) 1 x1) 2 x2) 3 x3) 4 x4) 5 x5) 6 x6) 7 x7) 8 x8
/-- a list of floats that lay below B -/
def FLo (w : World) (B : Nat) (A : Option Addr) (n c : Nat) (l : List Int) : Prop := l.length = n ∧ NumF w B A c l ∧ Wd l ∧ B ≤ w.heap.size
section
variable {w w' : World} {B s g cap c n cd b : Nat} {A : Option Addr} {l l2 : List Int} {v : Vu} {K : Int} {row : Option Nat}
theorem FL.lo (h : FL w A n c l) : FLo w w.heap.size A n c l := ⟨h.1, h.2.1, h.2.2, Nat.le_refl _⟩
theorem FLo.fl (h : FLo w B A n c l) : FL w A n c l := ⟨h.1, h.2.1.more h.2.2.2, h.2.2.1⟩
theorem FLo.on (h : FLo w B A n c l) (hb : Below w.heap.size w w') : FLo w' B A n c l := ⟨h.1, h.2.1.keep (fun p hp => hb.cell (Nat.lt_of_lt_of_le hp h.2.2.2)), h.2.2.1, Nat.le_trans h.2.2.2 hb.size⟩
theorem FLo.grown (h : FLo w B A n c l) (hg : w.grownBy w' (some b)) (hb : B ≤ b) : FLo w' B A n c l := ⟨h.1, h.2.1.grown hg h.2.2.2 (fun k e => by cases e; exact hb), h.2.2.1, Nat.le_trans h.2.2.2 hg.size⟩
theorem FLo.grownR (h : FLo w B A n c l) (hg : w.grownBy w' row) (hb : ∀ k, row = some k → B ≤ k) : FLo w' B A n c l := ⟨h.1, h.2.1.grown hg h.2.2.2 hb, h.2.2.1, Nat.le_trans h.2.2.2 hg.size⟩
theorem FLo.drew (h : FLo w B A n c l) : FLo w.drew B A n c l := h

end
theorem FL.farB {w w' : World} {A : Option Addr} {n c g : Nat} {l : List Int} (h : FL w A n c l) (hg : w.grownBy w' (some g)) (hA : ∀ a, A = some a → a.block ≠ g) : FL w' A n c l :=
  ⟨h.1, ⟨h.2.1.1, h.2.1.2.1, fun hn => by
    obtain ⟨ad, e, hb, hc⟩ := h.2.1.2.2 hn
    have hbl : w'.heap[ad.block]? = w.heap[ad.block]? := hg.block _ hb (fun e2 => hA ad e (by injection e2))
    refine ⟨ad, e, Nat.lt_of_lt_of_le hb hg.size, fun k hk => ?_⟩
    rw [← hc k hk]
    unfold World.cell?
    rw [add_block, hbl]⟩, h.2.2⟩
theorem sameL_refl (l : List Int) : sameL l l = true := decide_eq_true rfl
theorem sameM_refl (R C : Int) (l : List Int) : sameM R C l R C l = true := by unfold sameM; rw [sameL_refl]; simp
/-- a matrix of new memory -/
def MatF (w : World) (R C : Int) (F : List Int) (e : Ending) (w' : World) : Prop := ∃ A3 c3, e = .returned (mV R C A3 F.length c3) ∧ FL w' A3 F.length c3 F ∧ Below w.heap.size w w'
theorem Matrix_fl {w : World} {v : Vu} {B s g cap c n : Nat} {l : List Int} {K : Int} (hv : Vk v s c n K) (hs : v.p ≠ none → St w B s g cap c l ∧ l.length = n) : Calls Try.prog 51 #[v.V] w (MatF w v.R v.C (v.fl c l)) := by
  refine (Matrix_any hv hs).mono ?_
  rintro e w1 ⟨A3, c3, rfl, ho, _, hb⟩
  exact ⟨A3, c3, rfl, ⟨rfl, ho.nums, wd_fl (fun hp => (hs hp).1.wd) hv.none_⟩, hb⟩
theorem SameM_true {w : World} {A A2 : Option Addr} {n n2 c c2 : Nat} {l : List Int} {R C : Int} (h : FL w A n c l) (h2 : FL w A2 n2 c2 l) : Calls Try.prog 71 #[mV R C A n c, mV R C A2 n2 c2] w (Ans w (.bool true)) := by
  have := SameMatrix_any R C R C h h2
  rwa [sameM_refl] at this
theorem SameF_true {w : World} {A A2 : Option Addr} {n n2 c c2 : Nat} {l : List Int} (h : FL w A n c l) (h2 : FL w A2 n2 c2 l) : Calls Try.prog 102 #[.slice A n c, .slice A2 n2 c2] w (Ans w (.bool true)) := by
  have := SameFloats_any h h2
  rwa [sameL_refl] at this

def takE (v u : Vu) : Int := if (v.p == none || u.p == none) = true then 1 else if v.R = u.R ∧ v.C = u.C then 0 else 8
def takL (v u : Vu) (c : Nat) (l : List Int) : List Int := if (v.p == none || u.p == none) = true then l else if v.R = u.R ∧ v.C = u.C then setTo v c (D (u.fl c l)) l (v.R * v.C).toNat else l
theorem takL_len (v u : Vu) (c : Nat) (l : List Int) : (takL v u c l).length = l.length := by
  unfold takL
  split
  · rfl
  · split
    · exact setTo_len _ _ _ _ _
    · rfl
theorem p_none {v : Vu} (h : (v.p == none) = true) : v.p = none := by simpa using h
theorem p_some {v : Vu} (h : (v.p == none) = false) : v.p ≠ none := fun e => by rw [e] at h; cases h

section
variable {w : World} {v u : Vu} {K K2 : Int} {B s g cap c n : Nat} {l : List Int}
theorem Take_all (hv : Vk v s c n K) (hu : Vk u s c n K2) (hs : St w B s g cap c l) (hl : l.length = n) : Calls Try.prog 77 #[v.V, u.V] w (Wrote w B s g cap c (takE v u) (takL v u c l)) := by
  unfold takE takL
  cases h1 : (v.p == none || u.p == none)
  · have h2 := Bool.or_eq_false_iff.1 h1
    by_cases h3 : v.R = u.R ∧ v.C = u.C
    · rw [if_neg (by simp), if_pos h3, if_neg (by simp), if_pos h3]
      exact Take_yes hv hs hl (p_some h2.1) hu hs hl (p_some h2.2) h3.1 h3.2
    · rw [if_neg (by simp), if_neg h3, if_neg (by simp), if_neg h3]
      refine (Take_shape (p_some h2.1) (p_some h2.2) (by by_cases e : v.R = u.R; exact .inr (fun e2 => h3 ⟨e, e2⟩); exact .inl e) w).mono ?_
      rintro e w1 ⟨rfl, hb⟩
      exact ⟨rfl, hs.on hb, grown_below hb _⟩
  · rw [if_pos rfl, if_pos rfl]
    refine (Take_none (by rcases Bool.or_eq_true_iff.1 h1 with h | h; exact .inl (p_none h); exact .inr (p_none h)) w).mono ?_
    rintro e w1 ⟨rfl, hb⟩
    exact ⟨rfl, hs.on hb, grown_below hb _⟩
/-- a copy, and its store, of its own from B on (none: a view of none) -/
structure Cp (w : World) (B : Nat) (U : Vu) (s g cap c : Nat) (F : List Int) (R C : Int) : Prop where
  vk : Vk U s c F.length 1
  st : U.p ≠ none → St w B s g cap c F
  fl : U.fl c F = F
  R : U.R = R
  C : U.C = C
theorem Cp.on {w w' : World} {B : Nat} {U : Vu} {s g cap c : Nat} {F : List Int} {R C : Int} (h : Cp w B U s g cap c F R C) (hb : Below w.heap.size w w') : Cp w' B U s g cap c F R C := ⟨h.vk, fun e => (h.st e).on hb, h.fl, h.R, h.C⟩
theorem Cp.drew {w : World} {B : Nat} {U : Vu} {s g cap c : Nat} {F : List Int} {R C : Int} (h : Cp w B U s g cap c F R C) : Cp w.drew B U s g cap c F R C := ⟨h.vk, fun e => (h.st e).drew, h.fl, h.R, h.C⟩
theorem Cp.low {w w' : World} {B b : Nat} {U : Vu} {s g cap c : Nat} {F : List Int} {R C : Int} (h : Cp w B U s g cap c F R C) (hg : w.grownBy w' (some b)) (hb : b < B) : Cp w' B U s g cap c F R C :=
  ⟨h.vk, fun e => (h.st e).grown hg (by have := (h.st e).lo; omega) (by have := (h.st e).gt.1; omega), h.fl, h.R, h.C⟩
theorem Cp.lowR {w w' : World} {B : Nat} {row : Option Nat} {U : Vu} {s g cap c : Nat} {F : List Int} {R C : Int} (h : Cp w B U s g cap c F R C) (hg : w.grownBy w' row) (hb : ∀ k, row = some k → k < B) : Cp w' B U s g cap c F R C := by
  cases row with
  | none => exact h.on ⟨hg.os, hg.tape, hg.output, hg.size, fun k hk => hg.block k hk (by simp)⟩
  | some b => exact h.low hg (hb b rfl)
theorem Cp.pS {w : World} {B : Nat} {U : Vu} {s g cap c : Nat} {F : List Int} {R C : Int} (h : Cp w B U s g cap c F R C) : PS w U.p := fun a e => by
  have hp : U.p ≠ none := by rw [e]; simp
  rcases h.vk.p with h1 | h1
  · rw [h1] at e; cases e
  · rw [h1] at e
    cases e
    exact ⟨s, _, rfl, (h.st hp).box⟩
/-- what Copy answers, of any view -/
def CopyA (w : World) (R C : Int) (F : List Int) (e : Ending) (w' : World) : Prop := ∃ U s g cap c, e = .returned (Vu.V U) ∧ Cp w' w.heap.size U s g cap c F R C ∧ Below w.heap.size w w'
theorem zero_fl (c : Nat) (l : List Int) : Vu.zero.fl c l = [] := by unfold Vu.fl; simp
theorem Copy_all (hv : Vk v s c n K) (hs : St w B s g cap c l) (hl : l.length = n) : Calls Try.prog 76 #[v.V] w (CopyA w v.R v.C (v.fl c l)) := by
  by_cases hp : v.p = none
  · have hz := hv.none_ hp
    refine (Copy_none hp hz w).mono ?_
    rintro e w1 ⟨rfl, hb⟩
    subst hz
    rw [zero_fl]
    exact ⟨Vu.zero, 0, 0, 0, 0, rfl, ⟨zero_vk 0 0 0 (by omega), fun h => absurd rfl h, zero_fl _ _, rfl, rfl⟩, hb⟩
  · refine (Copy_yes hv hs hl hp).mono ?_
    rintro e w1 ⟨s5, g5, cap5, rfl, hst, hb⟩
    have hR := hv.bd.R
    have hC := hv.bd.C
    have h0 := (prod_bd hR.1 hR.2 hC.1 hC.2).1
    have hll : ((v.fl c l).length : Int) = v.R * v.C := by rw [fl_length]; omega
    exact ⟨Vu.all s5 v.R v.C, s5, g5, cap5, v.C.toNat, rfl, ⟨all_vk s5 hR.1 hR.2 hC.1 hC.2 hll, fun _ => hst, all_fl s5 hR.1 hR.2 hC.1 hC.2 hll, rfl, rfl⟩, hb⟩
theorem Cp.mat {w : World} {B : Nat} {U : Vu} {s g cap c : Nat} {F : List Int} {R C : Int} (h : Cp w B U s g cap c F R C) : Calls Try.prog 51 #[U.V] w (MatF w R C F) := by
  have := Matrix_fl (w := w) h.vk (fun e => ⟨h.st e, rfl⟩)
  rwa [h.fl, h.R, h.C] at this
/-- a copy shares nothing with a view of another store -/
theorem Cp.apart {w : World} {B B2 : Nat} {U : Vu} {s g cap c : Nat} {F : List Int} {R C : Int} (h : Cp w B U s g cap c F R C) {s2 g2 cap2 c2 n2 : Nat} {l2 : List Int} {R2 C2 : Int} (h2 : St w B2 s2 g2 cap2 c2 l2) (hv2 : Vk (Vu.all s2 R2 C2) s2 c2 n2 1) (hlt : s2 < B) :
    Calls Try.prog 75 #[U.V, (Vu.all s2 R2 C2).V] w (Ans w (.bool false)) := by
  have := Shares_any (w := w) h.vk (fun e => ⟨h.st e, rfl⟩) hv2.bd h.pS h2.pS
  have e : shB U (Vu.all s2 R2 C2) = false := by
    unfold shB
    rcases h.vk.p with h1 | h1
    · rw [h1]; rfl
    · have hs := (h.st (by rw [h1]; simp)).lo
      rw [h1]
      have : (some (⟨s, 0, none⟩ : Addr) == (Vu.all s2 R2 C2).p) = false := by simp <;> omega
      rw [this]; rfl
  rwa [e] at this

/-- a matrix of new memory, from where on -/
def MatG (w : World) (R C : Int) (F : List Int) (e : Ending) (w' : World) : Prop := ∃ A3 c3, e = .returned (mV R C A3 F.length c3) ∧ FL w' A3 F.length c3 F ∧ (∀ a, A3 = some a → w.heap.size ≤ a.block) ∧ Below w.heap.size w w'
theorem FL.farR {w w' : World} {A : Option Addr} {n c : Nat} {row : Option Nat} {l : List Int} (h : FL w A n c l) (hg : w.grownBy w' row) (hA : ∀ a, A = some a → some a.block ≠ row) : FL w' A n c l :=
  ⟨h.1, ⟨h.2.1.1, h.2.1.2.1, fun hn => by
    obtain ⟨ad, e, hb, hc⟩ := h.2.1.2.2 hn
    have hbl : w'.heap[ad.block]? = w.heap[ad.block]? := hg.block _ hb (hA ad e)
    refine ⟨ad, e, Nat.lt_of_lt_of_le hb hg.size, fun k hk => ?_⟩
    rw [← hc k hk]
    unfold World.cell?
    rw [add_block, hbl]⟩, h.2.2⟩
theorem FL.drew {w : World} {A : Option Addr} {n c : Nat} {l : List Int} (h : FL w A n c l) : FL w.drew A n c l := h
end
end Go.Proofs.Ytfelmkkkaphkpaa
