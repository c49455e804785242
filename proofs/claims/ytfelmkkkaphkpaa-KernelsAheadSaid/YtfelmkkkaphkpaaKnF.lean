/-
  Layer 8, walks: places of vectors and matrices that are written one by one.
-/
import Derived.Test.YtfelmkkkaphkpaaKnD
namespace Go.Proofs.Ytfelmkkkaphkpaa
open Go.RowKit Go.Bw Go.Sort Go.Shelf
set_option linter.unusedVariables false
set_option linter.unusedSimpArgs false

theorem grown_trans {w w1 w2 : World} {row : Option Nat} (h : w.grownBy w1 row) (k : w1.grownBy w2 row) : w.grownBy w2 row :=
  ⟨k.os.trans h.os, k.tape.trans h.tape, k.output.trans h.output, Nat.le_trans h.size k.size, fun b hb hne => (k.block b (Nat.lt_of_lt_of_le hb h.size) hne).trans (h.block b hb hne)⟩
theorem OwnF.fl {w : World} {B c : Nat} {A : Option Addr} {l : List Int} (h : OwnF w B A c l) (hw : Wd l) : FL w A l.length c l := ⟨rfl, h.nums, hw⟩
theorem OwnF.far {w w' : World} {B c g : Nat} {A : Option Addr} {l : List Int} (h : OwnF w B A c l) (hg : w.grownBy w' (some g)) (hB : g < B) : OwnF w' B A c l :=
  h.grown_ hg (fun a e e2 => by have := (h.gt e).1; injection e2 with e3; omega)
theorem refE_some {fit : Bool} {vs : List Vu} (h : refE fit vs = 0) : fit = true ∧ ∀ v ∈ vs, v.p ≠ none := by
  unfold refE at h
  split at h
  · cases h
  · rename_i h1
    refine ⟨by cases fit; rw [if_neg (by simp)] at h; cases h; rfl, fun v hv hp => h1 (List.any_eq_true.2 ⟨v, hv, by rw [hp]; rfl⟩)⟩

/-- the number of a vector's place -/
def vix (v : Vu) (i j : Nat) : Nat := if v.C = 1 then i else j
section
variable {v : Vu} {K : Int} {s c n : Nat} {l lx : List Int} {F : Nat → Option Nat}
theorem vec_ij (hb : Bd v K) (hv : v.vec = true) {k : Nat} (hk : k < (v.R * v.C).toNat) : v.ei k = v.ai k ∧ v.ej k = v.aj k := by
  unfold Vu.vec at hv
  have hR := hb.R
  have hC := hb.C
  unfold Vu.ei Vu.ej Vu.ai Vu.aj
  by_cases h1 : v.C = 1
  · rw [if_pos h1, if_pos h1, h1]
    show ((k / 1 : Nat) : Int) = k ∧ ((k % 1 : Nat) : Int) = 0
    rw [Nat.div_one, Nat.mod_one]
    exact ⟨rfl, rfl⟩
  · rw [if_neg h1, if_neg h1]
    have h2 : v.R = 1 := by
      rcases Bool.or_eq_true_iff.1 hv with h | h
      · rcases Bool.or_eq_true_iff.1 h with h | h
        · exact eq_of_beq h
        · exact absurd (eq_of_beq h) h1
      · have h3 := (Bool.and_eq_true_iff.1 (Bool.and_eq_true_iff.1 h).1)
        rw [eq_of_beq h3.1, Int.zero_mul] at hk
        simp at hk
    rw [h2, Int.one_mul] at hk
    rw [Nat.div_eq_of_lt hk, Nat.mod_eq_of_lt hk]
    exact ⟨rfl, rfl⟩
theorem vix_lt (hb : Bd v K) (hv : v.vec = true) {i j : Nat} (h : v.has i j = true) : vix v i j < (v.R * v.C).toNat ∧ v.ai (vix v i j) = i ∧ v.aj (vix v i j) = j := by
  obtain ⟨i0, i1, j0, j1⟩ := (has_iff _ _ _).1 h
  unfold Vu.vec at hv
  unfold vix Vu.ai Vu.aj
  by_cases h1 : v.C = 1
  · rw [if_pos h1, if_pos h1, if_pos h1]
    rw [h1, Int.mul_one]
    omega
  · rw [if_neg h1, if_neg h1, if_neg h1]
    have h2 : v.R = 1 := by
      rcases Bool.or_eq_true_iff.1 hv with h | h
      · rcases Bool.or_eq_true_iff.1 h with h | h
        · exact eq_of_beq h
        · exact absurd (eq_of_beq h) h1
      · have h3 := (Bool.and_eq_true_iff.1 (Bool.and_eq_true_iff.1 h).1)
        have := eq_of_beq h3.1
        omega
    rw [h2, Int.one_mul]
    omega
theorem ai_nat (k : Nat) : ∃ a b : Nat, v.ai k = a ∧ v.aj k = b ∧ (vix v a b = k) := by
  unfold Vu.ai Vu.aj vix
  by_cases h : v.C = 1
  · exact ⟨k, 0, by rw [if_pos h], by rw [if_pos h]; rfl, by rw [if_pos h]⟩
  · exact ⟨0, k, by rw [if_neg h]; rfl, by rw [if_neg h], by rw [if_neg h]⟩
/-- what stands in the store behind the first k places of a vector -/
abbrev Wv (v : Vu) (c : Nat) (l lx : List Int) (k : Nat) (F : Nat → Option Nat) : Prop := Wr v c l lx (fun i j => decide (vix v i j < k)) (fun i j => F (vix v i j))
theorem Wv.start (v : Vu) (c : Nat) (l : List Int) (F : Nat → Option Nat) : Wv v c l l 0 F := Wr.start v c l _ (fun i j _ => by simp)
theorem Wv.done {k : Nat} (h : Wv v c l lx k F) (hb : Bd v K) (hv : v.vec = true) (hk : (v.R * v.C).toNat ≤ k) : Wr v c l lx (fun _ _ => true) (fun i j => F (vix v i j)) :=
  h.congr (fun i j hh => by have := (vix_lt hb hv hh).1; simp; omega)
theorem Wv.put {k : Nat} (h : Wv v c l lx k F) (hv : Vk v s c n K) (hj : Inj v c) (hl : l.length = n) (hvec : v.vec = true) (hk : k < (v.R * v.C).toNat) {x : Int} (hx : fa x = F k) : Wv v c l (v.setL c lx (v.ai k) (v.aj k) x) (k + 1) F := by
  obtain ⟨a, b, e1, e2, e3⟩ := ai_nat (v := v) k
  have hh := ei_bd hv.bd hk
  rw [(vec_ij hv.bd hvec hk).1, (vec_ij hv.bd hvec hk).2, e1, e2] at hh
  rw [e1, e2]
  refine Wr.set h hv hj hl hh (by rw [e3]; exact hx) (fun i j h2 => ?_)
  rw [← Bool.decide_or, decide_eq_decide]
  have := vix_lt hv.bd hvec h2
  constructor
  · intro h3
    rcases Nat.lt_or_ge (vix v i j) k with h4 | h4
    · exact .inl h4
    · have e : vix v i j = k := by omega
      rw [e, e1, e2] at this
      omega
  · rintro (h3 | ⟨rfl, rfl⟩)
    · omega
    · omega
end
/-- a call that writes the places P of a view, to f -/
def WrA (w : World) (B s g cap c : Nat) (v : Vu) (l : List Int) (P : Nat → Nat → Bool) (f : Nat → Nat → Option Nat) (e : Ending) (w' : World) : Prop := ∃ lx, e = .returned (.int .i64 0) ∧ St w' B s g cap c lx ∧ w.grownBy w' (some g) ∧ Wr v c l lx P f
section
variable {w : World} {v : Vu} {K : Int} {B s g cap c n k : Nat} {l lx : List Int} {F : Nat → Option Nat}
theorem put_wr (hW : Wv v c l lx k F) (hv : Vk v s c n K) (hj : Inj v c) (hl : l.length = n) (hp : v.p ≠ none) (hvec : v.vec = true) (hs : St w B s g cap c lx) (hk : k < (v.R * v.C).toNat) {r : Nat} (hr : af r = F k) (br : r ≤ 18446744073709551615) :
    Calls Try.prog 70 #[v.V, .int .i64 k, .float .f64 r] w (fun e w' => ∃ u lx', e = .returned u ∧ St w' B s g cap c lx' ∧ w.grownBy w' (some g) ∧ Wv v c l lx' (k + 1) F) := by
  have hll : lx.length = n := hW.len.trans hl
  have := Put_any (w := w) hs (K := K) (by rw [hll]; exact hv) k (x := (r : Int)) (by omega) (by omega)
  rw [Int.toNat_natCast] at this
  refine this.mono ?_
  rintro e w1 ⟨rfl, h1, h2⟩
  have e : v.putL c lx k (r : Int) = v.setL c lx (v.ai k) (v.aj k) (r : Int) := by
    unfold Vu.putL
    rw [hvec, if_neg (by simp)]
  rw [e] at h1
  exact ⟨_, _, rfl, h1, h2, hW.put hv hj hl hvec hk (by rw [fa_nat]; exact hr)⟩
theorem set_wr {P Q : Nat → Nat → Bool} {f : Nat → Nat → Option Nat} (hW : Wr v c l lx P f) (hv : Vk v s c n K) (hj : Inj v c) (hl : l.length = n) (hs : St w B s g cap c lx) {i j : Nat} (hh : v.has i j = true) {r : Nat} (hr : af r = f i j) (br : r ≤ 18446744073709551615)
    (hQ : ∀ a b : Nat, v.has a b = true → Q a b = (P a b || decide (a = i ∧ b = j))) :
    Calls Try.prog 85 #[v.V, .int .i64 i, .int .i64 j, .float .f64 r] w (fun e w' => ∃ u lx', e = .returned u ∧ St w' B s g cap c lx' ∧ w.grownBy w' (some g) ∧ Wr v c l lx' Q f) := by
  have hll : lx.length = n := hW.len.trans hl
  have := Set_any (w := w) hs (K := K) (by rw [hll]; exact hv) i j (x := (r : Int)) (by omega) (by omega)
  rw [Int.toNat_natCast] at this
  refine this.mono ?_
  rintro e w1 ⟨rfl, h1, h2⟩
  exact ⟨_, _, rfl, h1, h2, hW.set hv hj hl hh (by rw [fa_nat]; exact hr) hQ⟩
end
end Go.Proofs.Ytfelmkkkaphkpaa
