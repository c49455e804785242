/-
  Layer 7: words for the law ViewTakes: Take, Fill, Copy each as one contract, of any views.
-/
import Derived.Test.YtceoefgjjekgaaaVxT
namespace Go.Proofs.Ytceoefgjjekgaaa
open Go.RowKit Go.Bw Go.Sort Go.Shelf
set_option linter.unusedVariables false
set_option linter.unusedSimpArgs false

def takE (v u : Vu) : Int := if (v.p == none || u.p == none) = true then 1 else if v.R = u.R ∧ v.C = u.C then 0 else 8
def takL (v u : Vu) (c : Nat) (l : List Int) : List Int := if (v.p == none || u.p == none) = true then l else if v.R = u.R ∧ v.C = u.C then setTo v c (D (u.fl c l)) l (v.R * v.C).toNat else l
theorem takL_len (v u : Vu) (c : Nat) (l : List Int) : (takL v u c l).length = l.length := by
  unfold takL
  split
  · rfl
  · split
    · exact setTo_len _ _ _ _ _
    · rfl
theorem p_none {v : Vu} (h : (v.p == none) = true) : v.p = none := by simpa using h
theorem p_some {v : Vu} (h : (v.p == none) = false) : v.p ≠ none := fun e => by rw [e] at h; cases h

section
variable {w : World} {v u : Vu} {K K2 : Int} {B s g cap c n : Nat} {l : List Int} {A : Option Addr} {cd : Nat} {r r2 : Ru}
theorem Take_all (hv : Vk v s c n K) (hu : Vk u s c n K2) (hs : St w B s g cap c l) (hl : l.length = n) : Calls Try.prog 44 #[v.V, u.V] w (Wrote w B s g cap c (takE v u) (takL v u c l)) := by
  unfold takE takL
  cases h1 : (v.p == none || u.p == none)
  · have h2 := Bool.or_eq_false_iff.1 h1
    by_cases h3 : v.R = u.R ∧ v.C = u.C
    · rw [if_neg (by simp), if_pos h3, if_neg (by simp), if_pos h3]
      exact Take_yes hv hs hl (p_some h2.1) hu hs hl (p_some h2.2) h3.1 h3.2
    · rw [if_neg (by simp), if_neg h3, if_neg (by simp), if_neg h3]
      refine (Take_shape (p_some h2.1) (p_some h2.2) (by by_cases e : v.R = u.R; exact .inr (fun e2 => h3 ⟨e, e2⟩); exact .inl e) w).mono ?_
      rintro e w1 ⟨rfl, hb⟩
      exact ⟨rfl, hs.on hb, grown_below hb _⟩
  · rw [if_pos rfl, if_pos rfl]
    refine (Take_none (by rcases Bool.or_eq_true_iff.1 h1 with h | h; exact .inl (p_none h); exact .inr (p_none h)) w).mono ?_
    rintro e w1 ⟨rfl, hb⟩
    exact ⟨rfl, hs.on hb, grown_below hb _⟩
theorem rTake_all (h : Rk w A n cd r v c) (h2 : Rk w A n cd r2 u c) (hs : Sr w B A n cd l) (hv : Vk v s c n K) (hu : Vk u s c n K2) : Calls Try.prog 45 #[r.V, r2.V] w (WroteR w B A n cd (takE v u) (takL v u c l)) := by
  unfold takE takL
  have e1 := h.b
  have e2 := h2.b
  cases h1 : (v.p == none || u.p == none)
  · have h9 := Bool.or_eq_false_iff.1 h1
    rw [h9.1] at e1
    rw [h9.2] at e2
    by_cases h3 : v.R = u.R ∧ v.C = u.C
    · rw [if_neg (by simp), if_pos h3, if_neg (by simp), if_pos h3]
      exact rTake_yes h h2 hs hv hu e1 e2 h3.1 h3.2
    · rw [if_neg (by simp), if_neg h3, if_neg (by simp), if_neg h3]
      refine (rTake_shape e1 e2 (by rw [h.R, h2.R, h.C, h2.C]; by_cases e : v.R = u.R; exact .inr (fun e2 => h3 ⟨e, e2⟩); exact .inl e) w).mono ?_
      rintro e w1 ⟨rfl, hb⟩
      exact ⟨rfl, hs.on hb, grown_below hb _⟩
  · rw [if_pos rfl, if_pos rfl]
    refine (rTake_none (by rcases Bool.or_eq_true_iff.1 h1 with h | h; exact .inl (by rw [e1, h]; rfl); exact .inr (by rw [e2, h]; rfl)) w).mono ?_
    rintro e w1 ⟨rfl, hb⟩
    exact ⟨rfl, hs.on hb, grown_below hb _⟩

/-- a copy, and its store, of its own from B on (none: a view of none) -/
structure Cp (w : World) (B : Nat) (U : Vu) (s g cap c : Nat) (F : List Int) (R C : Int) : Prop where
  vk : Vk U s c F.length 1
  st : U.p ≠ none → St w B s g cap c F
  fl : U.fl c F = F
  R : U.R = R
  C : U.C = C
theorem Cp.on {w w' : World} {B : Nat} {U : Vu} {s g cap c : Nat} {F : List Int} {R C : Int} (h : Cp w B U s g cap c F R C) (hb : Below w.heap.size w w') : Cp w' B U s g cap c F R C := ⟨h.vk, fun e => (h.st e).on hb, h.fl, h.R, h.C⟩
theorem Cp.drew {w : World} {B : Nat} {U : Vu} {s g cap c : Nat} {F : List Int} {R C : Int} (h : Cp w B U s g cap c F R C) : Cp w.drew B U s g cap c F R C := ⟨h.vk, fun e => (h.st e).drew, h.fl, h.R, h.C⟩
theorem Cp.low {w w' : World} {B b : Nat} {U : Vu} {s g cap c : Nat} {F : List Int} {R C : Int} (h : Cp w B U s g cap c F R C) (hg : w.grownBy w' (some b)) (hb : b < B) : Cp w' B U s g cap c F R C :=
  ⟨h.vk, fun e => (h.st e).grown hg (by have := (h.st e).lo; omega) (by have := (h.st e).gt.1; omega), h.fl, h.R, h.C⟩
theorem Cp.lowR {w w' : World} {B : Nat} {row : Option Nat} {U : Vu} {s g cap c : Nat} {F : List Int} {R C : Int} (h : Cp w B U s g cap c F R C) (hg : w.grownBy w' row) (hb : ∀ k, row = some k → k < B) : Cp w' B U s g cap c F R C := by
  cases row with
  | none => exact h.on ⟨hg.os, hg.tape, hg.output, hg.size, fun k hk => hg.block k hk (by simp)⟩
  | some b => exact h.low hg (hb b rfl)
theorem Cp.pS {w : World} {B : Nat} {U : Vu} {s g cap c : Nat} {F : List Int} {R C : Int} (h : Cp w B U s g cap c F R C) : PS w U.p := fun a e => by
  have hp : U.p ≠ none := by rw [e]; simp
  rcases h.vk.p with h1 | h1
  · rw [h1] at e; cases e
  · rw [h1] at e
    cases e
    exact ⟨s, _, rfl, (h.st hp).box⟩
/-- what Copy answers, of any view -/
def CopyA (w : World) (R C : Int) (F : List Int) (e : Ending) (w' : World) : Prop := ∃ U s g cap c, e = .returned (Vu.V U) ∧ Cp w' w.heap.size U s g cap c F R C ∧ Below w.heap.size w w'
theorem zero_fl (c : Nat) (l : List Int) : Vu.zero.fl c l = [] := by unfold Vu.fl; simp
theorem Copy_all (hv : Vk v s c n K) (hs : St w B s g cap c l) (hl : l.length = n) : Calls Try.prog 41 #[v.V] w (CopyA w v.R v.C (v.fl c l)) := by
  by_cases hp : v.p = none
  · have hz := hv.none_ hp
    refine (Copy_none hp hz w).mono ?_
    rintro e w1 ⟨rfl, hb⟩
    subst hz
    rw [zero_fl]
    exact ⟨Vu.zero, 0, 0, 0, 0, rfl, ⟨zero_vk 0 0 0 (by omega), fun h => absurd rfl h, zero_fl _ _, rfl, rfl⟩, hb⟩
  · refine (Copy_yes hv hs hl hp).mono ?_
    rintro e w1 ⟨s5, g5, cap5, rfl, hst, hb⟩
    have hR := hv.bd.R
    have hC := hv.bd.C
    have h0 := (prod_bd hR.1 hR.2 hC.1 hC.2).1
    have hll : ((v.fl c l).length : Int) = v.R * v.C := by rw [fl_length]; omega
    exact ⟨Vu.all s5 v.R v.C, s5, g5, cap5, v.C.toNat, rfl, ⟨all_vk s5 hR.1 hR.2 hC.1 hC.2 hll, fun _ => hst, all_fl s5 hR.1 hR.2 hC.1 hC.2 hll, rfl, rfl⟩, hb⟩
theorem Cp.mat {w : World} {B : Nat} {U : Vu} {s g cap c : Nat} {F : List Int} {R C : Int} (h : Cp w B U s g cap c F R C) : Calls Try.prog 19 #[U.V] w (MatF w R C F) := by
  have := Matrix_fl (w := w) h.vk (fun e => ⟨h.st e, rfl⟩)
  rwa [h.fl, h.R, h.C] at this
/-- a copy shares nothing with a view of another store -/
theorem Cp.apart {w : World} {B B2 : Nat} {U : Vu} {s g cap c : Nat} {F : List Int} {R C : Int} (h : Cp w B U s g cap c F R C) {s2 g2 cap2 c2 n2 : Nat} {l2 : List Int} {R2 C2 : Int} (h2 : St w B2 s2 g2 cap2 c2 l2) (hv2 : Vk (Vu.all s2 R2 C2) s2 c2 n2 1) (hlt : s2 < B) :
    Calls Try.prog 42 #[U.V, (Vu.all s2 R2 C2).V] w (Ans w (.bool false)) := by
  have := Shares_any (w := w) h.vk (fun e => ⟨h.st e, rfl⟩) hv2.bd h.pS h2.pS
  have e : shB U (Vu.all s2 R2 C2) = false := by
    unfold shB
    rcases h.vk.p with h1 | h1
    · rw [h1]; rfl
    · have hs := (h.st (by rw [h1]; simp)).lo
      rw [h1]
      have : (some (⟨s, 0, none⟩ : Addr) == (Vu.all s2 R2 C2).p) = false := by simp <;> omega
      rw [this]; rfl
  rwa [e] at this

def filE (v : Vu) : Int := if v.p == none then 1 else 0
theorem Fill_all (hv : Vk v s c n K) (hs : St w B s g cap c l) (hl : l.length = n) {x : Int} (x0 : 0 ≤ x) (x1 : x ≤ 18446744073709551615) : Calls Try.prog 17 #[v.V, .float .f64 x.toNat] w (Wrote w B s g cap c (filE v) (v.fillL c l x)) := by
  unfold filE
  cases hp : (v.p == none)
  · exact Fill_yes hv hs hl (p_some hp) x0 x1
  · refine (Fill_none (p_none hp) x.toNat w).mono ?_
    rintro e w1 ⟨rfl, hb⟩
    have hz := hv.none_ (p_none hp)
    subst hz
    have e : Vu.zero.fillL c l x = l := by unfold Vu.fillL setTo; simp
    rw [e]
    exact ⟨rfl, hs.on hb, grown_below hb _⟩
theorem Shares_both (hT : Two w B s g cap c n l l A cd) (hv : Vk v s c n K) (hu : Vk u s c n K2) : Calls Try.prog 42 #[v.V, u.V] w (Ans w (.bool (shR (v.ats c) (u.ats c)))) := by
  have ps : ∀ {z : Vu} {K : Int}, Vk z s c n K → PS w z.p := fun {z K} hz a e => by
    rcases hz.p with h1 | h1
    · rw [h1] at e; cases e
    · rw [h1] at e
      cases e
      exact ⟨s, _, rfl, hT.st.box⟩
  have := Shares_any (w := w) hv (fun _ => ⟨hT.st, hT.len⟩) hu.bd (ps hv) (ps hu)
  rwa [shB_shR hv hu] at this
/-- a matrix of new memory, from where on -/
def MatG (w : World) (R C : Int) (F : List Int) (e : Ending) (w' : World) : Prop := ∃ A3 c3, e = .returned (mV R C A3 F.length c3) ∧ FL w' A3 F.length c3 F ∧ (∀ a, A3 = some a → w.heap.size ≤ a.block) ∧ Below w.heap.size w w'
theorem rMat_fg (h : Rk w A n cd r v c) (hs : Sr w B A n cd l) (hv : Vk v s c n K) : Calls Try.prog 36 #[r.V] w (MatG w v.R v.C (v.fl c l)) := by
  refine (rMatrix_any h hs hv).mono ?_
  rintro e w1 ⟨A3, c3, rfl, ho, hb⟩
  exact ⟨A3, c3, rfl, ⟨rfl, ho.nums, wd_fl (fun hp => hs.wd) hv.none_⟩, fun a e => (ho.gt e).1, hb⟩
theorem FL.farR {w w' : World} {A : Option Addr} {n c : Nat} {row : Option Nat} {l : List Int} (h : FL w A n c l) (hg : w.grownBy w' row) (hA : ∀ a, A = some a → some a.block ≠ row) : FL w' A n c l :=
  ⟨h.1, ⟨h.2.1.1, h.2.1.2.1, fun hn => by
    obtain ⟨ad, e, hb, hc⟩ := h.2.1.2.2 hn
    have hbl : w'.heap[ad.block]? = w.heap[ad.block]? := hg.block _ hb (hA ad e)
    refine ⟨ad, e, Nat.lt_of_lt_of_le hb hg.size, fun k hk => ?_⟩
    rw [← hc k hk]
    unfold World.cell?
    rw [add_block, hbl]⟩, h.2.2⟩
theorem FL.drew {w : World} {A : Option Addr} {n c : Nat} {l : List Int} (h : FL w A n c l) : FL w.drew A n c l := h
end
end Go.Proofs.Ytceoefgjjekgaaa
