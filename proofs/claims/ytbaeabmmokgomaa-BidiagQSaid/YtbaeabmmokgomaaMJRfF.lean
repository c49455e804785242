/-
  Layer 9, words: what is written in a list that is a call's own; lists of reflections; what may be a matrix; why a call is refused.
-/
import Derived.Test.YtbaeabmmokgomaaMJRfB
namespace Go.Proofs.Ytbaeabmmokgomaa
open Go.RowKit Go.Bw
set_option linter.unusedVariables false
set_option linter.unusedSimpArgs false

theorem Blk.grown {w w' : World} {g : Nat} {vs : List Value} {row : Option Nat} (h : Blk w g vs) (hb : w.grownBy w' row) (hg : some g ≠ row) : Blk w' g vs := by
  obtain ⟨T, h⟩ := h
  exact ⟨T, (hb.block g (lt_of_block h) hg).trans h⟩
theorem Blk.drew {w : World} {g : Nat} {vs : List Value} (h : Blk w g vs) : Blk w.drew g vs := h
theorem FL.drew {w : World} {A : Option Addr} {n c : Nat} {l : List Int} (h : FL w A n c l) : FL w.drew A n c l := h
theorem OwnF.drew {w : World} {B c : Nat} {A : Option Addr} {l : List Int} (h : OwnF w B A c l) : OwnF w.drew B A c l := h
theorem FL.farB {w w' : World} {A : Option Addr} {n c g : Nat} {l : List Int} (h : FL w A n c l) (hg : w.grownBy w' (some g)) (hA : ∀ a, A = some a → a.block ≠ g) : FL w' A n c l :=
  ⟨h.1, ⟨h.2.1.1, h.2.1.2.1, fun hn => by
    obtain ⟨ad, e, hb, hc⟩ := h.2.1.2.2 hn
    have hbl : w'.heap[ad.block]? = w.heap[ad.block]? := hg.block _ hb (fun e2 => hA ad e (by injection e2))
    refine ⟨ad, e, Nat.lt_of_lt_of_le hb hg.size, fun k hk => ?_⟩
    rw [← hc k hk]
    unfold World.cell?
    rw [add_block, hbl]⟩, h.2.2⟩
section
variable {w w' W : World} {B g cap : Nat} {A : Option Addr} {l : List Int}
theorem OwnF.on_ (h : OwnF w B A cap l) (hb : Below w.heap.size w w') : OwnF w' B A cap l := h.below hb
theorem OwnF.gt (h : OwnF w B A cap l) {ad : Addr} (e : A = some ad) : B ≤ ad.block ∧ ad.block < w.heap.size := World.ownsRow.lt h ad.block (by rw [e]; rfl)
theorem OwnF.at_ (h : OwnF w B A cap l) {k : Nat} (hk : k < l.length) : ∃ g, A = some ⟨g, 0, none⟩ ∧ w.cell? ⟨g, k, none⟩ = some (.float .f64 (D l k).toNat) ∧ w.frozen? ⟨g, k, none⟩ = false := by
  obtain ⟨g, rfl, _, _⟩ := h.form (by omega)
  refine ⟨g, rfl, ?_, World.ownsRow.frozenAt h k⟩
  have := World.ownsRow.cellAt h k (by simpa using hk)
  rw [this, LF_get hk]
theorem OwnF.at' (h : OwnF w B (some ⟨g, 0, none⟩) cap l) {k : Nat} (hk : k < l.length) : w.cell? ⟨g, k, none⟩ = some (.float .f64 (D l k).toNat) ∧ w.frozen? ⟨g, k, none⟩ = false := by
  obtain ⟨g', e, h1, h2⟩ := h.at_ hk
  cases e
  exact ⟨h1, h2⟩
theorem OwnF.set_ (h : OwnF w B (some ⟨g, 0, none⟩) cap l) (k : Nat) (x : Int) : OwnF (w.setCell ⟨g, k, none⟩ (fV x)) B (some ⟨g, 0, none⟩) cap (l.set k x) := by
  have := World.ownsRow.stored h k (fV x)
  unfold OwnF
  rw [List.length_set]
  simpa [LF, List.map_set] using this.1
theorem OwnF.fl (h : OwnF w B A cap l) (hw : Wd l) : FL w A l.length cap l := ⟨rfl, h.nums, hw⟩
theorem OwnF.grown_ {row : Option Nat} (h : OwnF w B A cap l) (hg : w.grownBy w' row) (hA : ∀ a, A = some a → some a.block ≠ row) : OwnF w' B A cap l := by
  rcases h with ⟨h1, h2⟩
  refine ⟨h1, h2.imp id fun ⟨g, cap, cur, hv, hgB, hh, r⟩ => ⟨g, cap, cur, hv, hgB, (hg.block g (lt_of_block hh) ?_).trans hh, r⟩⟩
  injection hv with e
  exact hA _ e
theorem OwnF.ge (h : OwnF w B (some ⟨g, 0, none⟩) cap l) : l.length ≤ cap ∧ cap ≤ 9223372036854775807 := by
  have := h.nums
  exact ⟨this.le, this.max'⟩
theorem RowF.owned (h : RowF w g l) (hm : l.length ≤ 4000000) (hB : B ≤ g) : OwnF w B (some ⟨g, 0, none⟩) l.length l := by
  have := h.own (B := B) l.length (Nat.le_refl _) (by unfold maxLen; omega) hB
  rwa [List.take_length] at this
theorem grown_on (h : w.grownBy w' (some g)) (hb : Below w'.heap.size w' W) : w.grownBy W (some g) :=
  ⟨hb.os.trans h.os, hb.tape.trans h.tape, hb.output.trans h.output, Nat.le_trans h.size hb.size, fun k hk hne => (hb.block k (Nat.lt_of_lt_of_le hk h.size)).trans (h.block k hk hne)⟩
theorem grown_trans {row : Option Nat} (h : w.grownBy w' row) (k : w'.grownBy W row) : w.grownBy W row :=
  ⟨k.os.trans h.os, k.tape.trans h.tape, k.output.trans h.output, Nat.le_trans h.size k.size, fun b hb hne => (k.block b (Nat.lt_of_lt_of_le hb h.size) hne).trans (h.block b hb hne)⟩
theorem grown_below (h : Below w.heap.size w w') (row : Option Nat) : w.grownBy w' row := ⟨h.os, h.tape, h.output, h.size, fun k hk _ => h.block k hk⟩
theorem grown_setCell (h : w.grownBy w' (some g)) (k : Nat) (u : Value) : w.grownBy (w'.setCell ⟨g, k, none⟩ u) (some g) :=
  ⟨h.os, h.tape, h.output, Nat.le_trans h.size (by simp [World.setCell]), fun b hb hne => (Below.heap_setCell w' ⟨g, k, none⟩ u b (fun e => hne (by rw [e]))).trans (h.block b hb hne)⟩
theorem below_grown {B : Nat} (h : Below B w w') (k : w'.grownBy W (some g)) (hg : B ≤ g) (hB : B ≤ w'.heap.size) : Below B w W := h.grown k hB (fun b e => by injection e with e; omega)
end

/-- of a list the places pos 0, .., pos (k - 1) are F; the rest is as it was -/
structure Tn (L L' : List Int) (pos : Nat → Nat) (k : Nat) (F : Nat → Option Nat) : Prop where
  len : L'.length = L.length
  wd : Wd L'
  new : ∀ i, i < k → fa (D L' (pos i)) = F i
  old : ∀ p, (∀ i, i < k → p ≠ pos i) → D L' p = D L p
theorem Tn.start {L : List Int} (hw : Wd L) (pos : Nat → Nat) (F : Nat → Option Nat) : Tn L L pos 0 F := ⟨rfl, hw, fun i hi => by omega, fun p _ => rfl⟩
theorem Tn.next {L L' : List Int} {pos : Nat → Nat} {k : Nat} {F : Nat → Option Nat} (h : Tn L L' pos k F) {x : Int} (x0 : 0 ≤ x) (x1 : x ≤ 18446744073709551615) (hk : pos k < L.length) (hi : ∀ i, i < k → pos i ≠ pos k) (hx : fa x = F k) : Tn L (L'.set (pos k) x) pos (k + 1) F := by
  have hk' : pos k < L'.length := by rw [h.len]; exact hk
  refine ⟨by rw [List.length_set]; exact h.len, wd_set h.wd x0 x1 _, fun i hik => ?_, fun p hp => ?_⟩
  · rw [D_set (l := L') x (pos i) hk']
    by_cases e : i = k
    · subst e; rw [if_pos rfl]; exact hx
    · rw [if_neg (hi i (by omega))]; exact h.new i (by omega)
  · rw [D_set (l := L') x p hk', if_neg (hp k (by omega))]
    exact h.old p (fun i hik => hp i (by omega))
/-- a matrix, a line of it new -/
theorem Mr.line {L L' l : List Int} {M q m : Nat} {P P' : Nat → Nat → Bool} {f : Nat → Nat → Option Nat} {pos : Nat → Nat} {F : Nat → Option Nat} (h : Mr L l M q P f) (t : Tn L L' pos m F) (ca cb : Nat → Nat)
    (hin : ∀ i, i < m → ca i < M ∧ cb i < q) (hpos : ∀ i, i < m → pos i = ca i * q + cb i) (hF : ∀ i, i < m → F i = f (ca i) (cb i))
    (hP : ∀ a b, a < M → b < q → (P' a b = true ↔ P a b = true ∨ ∃ i, i < m ∧ a = ca i ∧ b = cb i)) : Mr L' l M q P' f := by
  have hat : ∀ a b, a < M → b < q → (∀ i, i < m → ¬ (a = ca i ∧ b = cb i)) → ma L' q a b = ma L q a b := fun a b ha hb hn => by
    unfold ma
    rw [t.old _ (fun i hi e => hn i hi (ix_eq hb (hin i hi).2 (by rw [e, hpos i hi])))]
  have hnw : ∀ i, i < m → ma L' q (ca i) (cb i) = f (ca i) (cb i) := fun i hi => by
    unfold ma
    rw [← hpos i hi, t.new i hi, hF i hi]
  refine ⟨t.len.trans h.len, t.wd, fun a b ha hb hp => ?_, fun a b ha hb hp => ?_⟩
  · by_cases e : ∃ i, i < m ∧ a = ca i ∧ b = cb i
    · obtain ⟨i, hi, e1, e2⟩ := e
      rw [e1, e2]; exact hnw i hi
    · rw [hat a b ha hb (fun i hi e2 => e ⟨i, hi, e2⟩)]
      rcases (hP a b ha hb).1 hp with h1 | h1
      · exact h.new a b ha hb h1
      · exact absurd h1 e
  · have hn : ¬ (P a b = true ∨ ∃ i, i < m ∧ a = ca i ∧ b = cb i) := fun h9 => by rw [(hP a b ha hb).2 h9] at hp; cases hp
    rw [hat a b ha hb (fun i hi e2 => hn (.inr ⟨i, hi, e2⟩))]
    exact h.old a b ha hb (by cases hq : P a b; rfl; exact absurd (.inl hq) hn)

/-- a reflection of a list, as memory has it -/
structure Re where
  A : Option Addr
  c : Nat
  l : List Int
  t : Nat
/-- a list of reflections -/
def Rl (w : World) (A : Option Addr) (n c : Nat) (hs : List Re) : Prop :=
  hs.length = n ∧ n ≤ 9223372036854775807 ∧ (∀ e ∈ hs, FL w e.A e.l.length e.c e.l ∧ e.t ≤ 18446744073709551615) ∧
  (n ≠ 0 → ∃ ad : Addr, A = some ad ∧ ad.block < w.heap.size ∧ ∀ (i : Nat) (e : Re), hs[i]? = some e → w.cell? (ad.add (i * 2)) = some (.slice e.A e.l.length e.c) ∧ w.cell? (ad.add (i * 2 + 1)) = some (.float .f64 e.t))
theorem Rl.on {w w' : World} {A : Option Addr} {n c : Nat} {hs : List Re} (h : Rl w A n c hs) (hb : Below w.heap.size w w') : Rl w' A n c hs := by
  obtain ⟨h1, h2, h3, h4⟩ := h
  refine ⟨h1, h2, fun e he => ⟨(h3 e he).1.on hb, (h3 e he).2⟩, fun hn => ?_⟩
  obtain ⟨ad, e1, hl, hc⟩ := h4 hn
  refine ⟨ad, e1, Nat.lt_of_lt_of_le hl hb.size, fun i e hi => ?_⟩
  obtain ⟨c0, c1⟩ := hc i e hi
  exact ⟨(hb.cell (by rw [add_block]; exact hl)).trans c0, (hb.cell (by rw [add_block]; exact hl)).trans c1⟩
theorem Rl.at_ {w : World} {A : Option Addr} {n c k : Nat} {hs : List Re} (h : Rl w A n c hs) (hk : k < n) :
    ∃ (e : Re) (ad ea : Addr), hs[k]? = some e ∧ A = some ad ∧ ad.add (k * 2) = ea ∧ ea.block < w.heap.size ∧ w.cell? ea = some (.slice e.A e.l.length e.c) ∧ w.cell? ⟨ea.block, ea.off + 1, none⟩ = some (.float .f64 e.t) ∧ FL w e.A e.l.length e.c e.l ∧ e.t ≤ 18446744073709551615 := by
  obtain ⟨h1, h2, h3, h4⟩ := h
  obtain ⟨ad, e1, hl, hc⟩ := h4 (by omega)
  have hi : k < hs.length := by omega
  obtain ⟨c0, c1⟩ := hc k hs[k] (List.getElem?_eq_getElem hi)
  obtain ⟨q1, q2⟩ := h3 hs[k] (List.getElem_mem hi)
  rw [← add_add] at c1
  exact ⟨hs[k], ad, _, List.getElem?_eq_getElem hi, e1, rfl, by rw [add_block]; exact hl, c0, c1, q1, q2⟩
/-- a list of one -/
theorem Rl.one {w : World} {g c t n : Nat} {A : Option Addr} {l : List Int} (h : FL w A n c l) (ht : t ≤ 18446744073709551615) (hb : Rbx w g A n c t) : Rl w (some ⟨g, 0, none⟩) 1 1 [⟨A, c, l, t⟩] := by
  have hn := h.1
  refine ⟨rfl, by omega, fun e he => ?_, fun _ => ⟨_, rfl, hb.lt, fun i e hi => ?_⟩⟩
  · rw [List.mem_singleton.1 he]
    exact ⟨by rw [hn]; exact h, ht⟩
  · rcases i with _ | i
    · simp only [List.getElem?_cons_zero, Option.some.injEq] at hi
      subst hi
      have h0 := Blk.cell hb 0 rfl
      have h1 := Blk.cell hb 1 rfl
      simp only [Nat.zero_mul, Nat.zero_add]
      rw [add_at, add_at]
      simp only [hn]
      exact ⟨h0, h1⟩
    · simp at hi
/-- may these be a matrix's rows, columns, and as many floats? -/
def mayB (R C : Int) (n : Nat) : Bool := decide (0 ≤ R ∧ R ≤ 512 ∧ 0 ≤ C ∧ C ≤ 512 ∧ (n : Int) = R * C)
/-- are all of one length? -/
def longB (n : Int) (hs : List Re) : Bool := hs.all (fun e => decide ((e.l.length : Int) = n))
/-- are there some, of one length that is not 0? -/
def togB : List Re → Bool
  | [] => false
  | e :: hs => decide (0 < e.l.length) && longB e.l.length (e :: hs)
/-- why a call is refused -/
def refC (g : Bool) (bs : List Bool) : Int := if g = true then (if bs.all id = true then 0 else 8) else 2
end Go.Proofs.Ytbaeabmmokgomaa
