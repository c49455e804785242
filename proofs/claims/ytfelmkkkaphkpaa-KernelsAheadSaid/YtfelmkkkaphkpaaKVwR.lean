/-
  Layer 7, walks: all places are filled. (Written by wip/tools/gen_vwr.py.)
-/
import Derived.Test.YtfelmkkkaphkpaaKVwQ
namespace Go.Proofs.Ytfelmkkkaphkpaa
open Go.RowKit Go.Bw Go.Sort Go.Shelf
set_option linter.unusedVariables false
set_option linter.unusedSimpArgs false
attribute [local go_sem] Oper.semAt_some run_store_float

/-- the floats of a store, behind k places of a view set, row by row -/
def setTo (v : Vu) (c : Nat) (xs : Nat → Int) (l : List Int) (k : Nat) : List Int := (List.range k).foldl (fun l j => l.set (v.ix c (v.ei j) (v.ej j)).toNat (xs j)) l
theorem setTo_zero (v : Vu) (c : Nat) (xs : Nat → Int) (l : List Int) : setTo v c xs l 0 = l := rfl
theorem setTo_succ (v : Vu) (c : Nat) (xs : Nat → Int) (l : List Int) (k : Nat) : setTo v c xs l (k + 1) = (setTo v c xs l k).set (v.ix c (v.ei k) (v.ej k)).toNat (xs k) := by
  unfold setTo
  rw [List.range_succ, List.foldl_append]
  rfl
theorem setTo_len (v : Vu) (c : Nat) (xs : Nat → Int) (l : List Int) (k : Nat) : (setTo v c xs l k).length = l.length := by
  induction k with
  | zero => rfl
  | succ k ih => rw [setTo_succ, List.length_set, ih]
theorem grown_ownV {BB g : Nat} {w W W' : World} {row : Option Nat} (h : w.grownBy W (some g)) (hg : W.grownBy W' row) (hr : NoCells BB W row) (hB : w.heap.size ≤ BB) : w.grownBy W' (some g) :=
  ⟨hg.os.trans h.os, hg.tape.trans h.tape, hg.output.trans h.output, Nat.le_trans h.size hg.size, fun k hk hne => (hg.block k (Nat.lt_of_lt_of_le hk h.size) (fun e => by have := (hr k e.symm).1; omega)).trans (h.block k hk hne)⟩
theorem grown_on {g : Nat} {w W W' : World} (h : w.grownBy W (some g)) (hb : Below W.heap.size W W') : w.grownBy W' (some g) :=
  ⟨hb.os.trans h.os, hb.tape.trans h.tape, hb.output.trans h.output, Nat.le_trans h.size hb.size, fun k hk hne => (hb.block k (Nat.lt_of_lt_of_le hk h.size)).trans (h.block k hk hne)⟩
/-- a place of a view, by its number -/
theorem ei_bd {v : Vu} {K : Int} (hb : Bd v K) {k : Nat} (hk : k < (v.R * v.C).toNat) : v.has (v.ei k) (v.ej k) = true := by
  obtain ⟨m, hm⟩ := Int.eq_ofNat_of_zero_le hb.R.1
  obtain ⟨q, hq⟩ := Int.eq_ofNat_of_zero_le hb.C.1
  have e : (v.R * v.C).toNat = m * q := by rw [hm, hq]; rfl
  rw [e] at hk
  have hq0 : 0 < q := by rcases Nat.eq_zero_or_pos q with h | h; rw [h, Nat.mul_zero] at hk; omega; exact h
  unfold Vu.has Vu.ei Vu.ej
  have eq2 : v.C.toNat = q := by omega
  rw [eq2, hm, hq, decide_eq_true_iff]
  have h1 : k / q < m := Nat.div_lt_of_lt_mul (by rw [Nat.mul_comm]; exact hk)
  have h2 := Nat.mod_lt k hq0
  exact ⟨Int.natCast_nonneg _, Int.ofNat_lt.2 h1, Int.natCast_nonneg _, Int.ofNat_lt.2 h2⟩

section
variable {w : World} {v : Vu} {K : Int} {B s g cap c n : Nat} {l : List Int} {x : Int}
def Vu.fillL (v : Vu) (c : Nat) (l : List Int) (x : Int) : List Int := setTo v c (fun _ => x) l (v.R * v.C).toNat
/-- between two rounds -/
def FillI (w : World) (v : Vu) (B s g cap c n : Nat) (l : List Int) (x : Int) (Bn : Nat) (k : Nat) (lx : List Int) (W : World) : Prop :=
  lx = setTo v c (fun _ => x) l k ∧ Vbx W Bn v ∧ (St W B s g cap c lx ∧ lx.length = n) ∧ Vbx W w.heap.size v ∧ Blk W (w.heap.size + 1) [.float .f64 x.toNat] ∧ w.grownBy W (some g)
theorem FillI.ownV {BB Bn k : Nat} {lx : List Int} (hB : w.heap.size ≤ BB) : OwnV BB (FillI w v B s g cap c n l x Bn k lx) := by
  rintro W W' row ⟨e, h1, h2, h3, h4, h5⟩ hg hr
  exact ⟨e, h1.ownV hg hr, ⟨h2.1.ownV hg hr, h2.2⟩, h3.ownV hg hr, h4.ownV hg hr, grown_ownV h5 hg hr hB⟩
theorem FillI.on {Bn k : Nat} {lx : List Int} {W W' : World} (h : FillI w v B s g cap c n l x Bn k lx W) (hb : Below W.heap.size W W') : FillI w v B s g cap c n l x Bn k lx W' := by
  obtain ⟨e, h1, h2, h3, h4, h5⟩ := h
  exact ⟨e, h1.on hb, ⟨h2.1.on hb, h2.2⟩, h3.on hb, h4.on hb, grown_on h5 hb⟩
/-- within one -/
def FillX (w : World) (v : Vu) (B s g cap c n : Nat) (l : List Int) (x : Int) (Bn : Nat) (k : Nat) (lx : List Int) (a' : Act) (W : World) : Prop :=
  FillI w v B s g cap c n l x Bn k lx W ∧ ∃ (bx : Nat) (X0 X1 X4 X6 X7 X8 X9 X10 X11 X12 X13 X14 X15 X16 X17 X18 X19 : Value), Blk W bx [.int .i64 (v.ei k), .int .i64 (v.ej k)] ∧ w.heap.size < bx ∧ a' = { tmps := #[X0, X1, .pointer (some ⟨w.heap.size, 0, none⟩), .pointer (some ⟨w.heap.size + 1, 0, none⟩), X4, .pointer (some ⟨bx, 0, none⟩), X6, X7, X8, X9, X10, X11, X12, X13, X14, X15, X16, X17, X18, X19], defers := [] }
theorem FillX.ownV {BB Bn k : Nat} {lx : List Int} {a' : Act} (hB : w.heap.size ≤ BB) : OwnV BB (FillX w v B s g cap c n l x Bn k lx a') := by
  rintro W W' row ⟨hI, bx, X0, X1, X4, X6, X7, X8, X9, X10, X11, X12, X13, X14, X15, X16, X17, X18, X19, hb, hn, e⟩ hg hr
  exact ⟨FillI.ownV hB W W' row hI hg hr, bx, X0, X1, X4, X6, X7, X8, X9, X10, X11, X12, X13, X14, X15, X16, X17, X18, X19, hb.ownV hg hr, hn, e⟩

end
end Go.Proofs.Ytfelmkkkaphkpaa
