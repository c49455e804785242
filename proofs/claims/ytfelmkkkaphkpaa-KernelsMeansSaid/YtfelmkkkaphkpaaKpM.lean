/-
  Layer 8: Means: whole numbers as floats, lists that come in, regions whose operations don't wait, the law's words.
-/
import Derived.Test.YtfelmkkkaphkpaaKlA
import Derived.Test.YtfelmkkkaphkpaaKVxOpen
import Derived.Test.YtfelmkkkaphkpaaGuF
import Derived.OrdersHeld
import Derived.Deep.RegionHeld
import Derived.Below
namespace Go.Proofs.Ytfelmkkkaphkpaa
set_option linter.unusedVariables false
set_option linter.unusedSimpArgs false

/-- all rows of n flags -/
def allB : Nat → List (List Bool)
  | 0 => [[]]
  | n + 1 => (allB n).flatMap fun bs => [false :: bs, true :: bs]
theorem mem_allB : ∀ bs : List Bool, bs ∈ allB bs.length
  | [] => List.mem_singleton.2 rfl
  | b :: bs => by
    show b :: bs ∈ (allB bs.length).flatMap fun bs => [false :: bs, true :: bs]
    refine List.mem_flatMap.2 ⟨bs, mem_allB bs, ?_⟩
    cases b <;> simp
section
variable {P : Program} {ops : Array Oper} {Q : Exit → Act → World → Prop} {md : Region.Mode} {S : World → Prop}
/-- what has come up (L) fits the flags: what is ready is among the operations is, and has not come up; where one comes up, its flag is set; ok: the flags that can be -/
def flagsOk (md : Region.Mode) (ops : Array Oper) (is : List Nat) (L : List Bool → Array Bool) (ok : List Bool → Bool) (bs : List Bool) : Bool :=
  !ok bs || bs.all id || (!(Region.ready md ops (L bs)).isEmpty && (Region.ready md ops (L bs)).all fun i => (List.range is.length).any fun k => is[k]? == some i && bs[k]? == some false && (L bs).setIfInBounds i true == L (bs.set k true) && ok (bs.set k true))
theorem count_set : ∀ (bs : List Bool) (k : Nat), bs[k]? = some false → (bs.set k true).count false + 1 = bs.count false
  | [], k, h => by simp at h
  | b :: bs, 0, h => by
    have : b = false := by simpa using h
    subst this
    simp
  | b :: bs, k + 1, h => by
    have ih := count_set bs k (by simpa using h)
    rw [List.set_cons_succ, List.count_cons, List.count_cons]
    omega
theorem count_all : ∀ bs : List Bool, bs.count false = 0 → bs = List.replicate bs.length true
  | [], _ => rfl
  | b :: bs, h => by
    rw [List.count_cons] at h
    cases b
    · simp at h
    · have := count_all bs (by simpa using h)
      rw [List.length_cons, List.replicate_succ, ← this]
/-- a step of the operation k -/
def FreeStep (P : Program) (ops : Array Oper) (Q : Exit → Act → World → Prop) (S : World → Prop) (ok : List Bool → Bool) (is : List Nat) (I : List Bool → Act → World → Prop) (k : Nat) : Prop :=
  ∀ (bs : List Bool) (a : Act) (w : World), bs.length = is.length → bs[k]? = some false → ok (bs.set k true) = true → I bs a w → S w → ∃ i o, is[k]? = some i ∧ ops[i]? = some o ∧
    ∀ K' : Act → World → Prop, Shut (∀ a w, S w → I (bs.set k true) a w → K' a w) → if Region.wanted o (yielded ops a.tmps) = true then Oper.wp P o a w K' Q else K' (a.put o.dst undef) w
theorem wpAnyH_free {is : List Nat} {L : List Bool → Array Bool} (ok : List Bool → Bool) (I : List Bool → Act → World → Prop) {F : Nat}
    (hck : (allB is.length).all (flagsOk md ops is L ok) = true)
    (hstep : ∀ k, k < is.length → FreeStep P ops Q S ok is I k)
    (hend : ∀ a w, I (List.replicate is.length true) a w → S w → wpAnyH P md ops Q S F (L (List.replicate is.length true)) a w) :
    ∀ (n : Nat) (bs : List Bool) (a : Act) (w : World), bs.length = is.length → bs.count false = n → ok bs = true → I bs a w → S w → wpAnyH P md ops Q S (F + n) (L bs) a w
  | 0, bs, a, w, hl, hc, _, hI, hS => by
    have e := count_all bs hc
    rw [hl] at e
    subst e
    exact hend a w hI hS
  | n + 1, bs, a, w, hl, hc, hok, hI, hS => by
    have h1 := List.all_eq_true.1 hck bs (by rw [← hl]; exact mem_allB bs)
    unfold flagsOk at h1
    have hna : bs.all id = false := by
      cases h : bs.all id
      · rfl
      · exfalso
        have h2 := List.all_eq_true.1 h
        have : bs.count false = 0 := List.count_eq_zero.2 (fun hm => by have := h2 _ hm; simp at this)
        omega
    rw [hok, hna, Bool.not_true, Bool.false_or, Bool.false_or] at h1
    obtain ⟨h2, h3⟩ := Bool.and_eq_true_iff.1 h1
    refine wpAnyH_all (rs := Region.ready md ops (L bs)) rfl (by intro e; rw [e] at h2; simp at h2) (fun i hi => ?_)
    obtain ⟨k, hk, h4⟩ := List.any_eq_true.1 (List.all_eq_true.1 h3 i hi)
    obtain ⟨h45, hok2⟩ := Bool.and_eq_true_iff.1 h4
    obtain ⟨h5, h6⟩ := Bool.and_eq_true_iff.1 h45
    obtain ⟨h7, h8⟩ := Bool.and_eq_true_iff.1 h5
    have hki := eq_of_beq h7
    have hkb := eq_of_beq h8
    have hLs := eq_of_beq h6
    obtain ⟨i2, o, e2, ho, hgo⟩ := hstep k (List.mem_range.1 hk) bs a w hl hkb hok2 hI hS
    rw [hki] at e2
    cases e2
    refine wpOp_step ho (fun K' hK => hgo K' (fun a' w' hS' hI' => hK a' w' ⟨hS', ?_⟩))
    have := wpAnyH_free ok I hck hstep hend n (bs.set k true) a' w' (by rw [List.length_set]; exact hl) (by have := count_set bs k hkb; omega) hok2 hI' hS'
    rw [hLs]
    exact this
/-- over a frame that stays, but for what comes up -/
theorem wpAnyH_freeT {is : List Nat} {L : List Bool → Array Bool} (ok : List Bool → Bool) (I : Array Value → List Bool → Act → World → Prop) {F : Nat} {T : Array Value} {w : World}
    (hck : (allB is.length).all (flagsOk md ops is L ok) = true)
    (hstep : ∀ k, k < is.length → FreeStep P ops Q S ok is (I T) k)
    (hend : ∀ a w, I T (List.replicate is.length true) a w → S w → wpAnyH P md ops Q S F (L (List.replicate is.length true)) a w)
    (n : Nat) (bs : List Bool) (hl : bs.length = is.length) (hc : bs.count false = n) (hok : ok bs = true) (hI : I T bs { tmps := T, defers := [] } w) (hS : S w) : wpAnyH P md ops Q S (F + n) (L bs) { tmps := T, defers := [] } w :=
  wpAnyH_free ok (I T) hck hstep hend n bs _ w hl hc hok hI hS
end
end Go.Proofs.Ytfelmkkkaphkpaa
namespace Go.Proofs.Ytfelmkkkaphkpaa
set_option linter.unusedVariables false
set_option linter.unusedSimpArgs false

/-- f, but x at k -/
def upN (f : Nat → Nat) (k x i : Nat) : Nat := if i = k then x else f i
/-- what has come up (flags bs) lies in blocks from z on, the k-th in those from lo k to hi k, no two in one -/
structure Pol (z : Nat) (W : World) (bs : List Bool) (lo hi : Nat → Nat) : Prop where
  rng : ∀ k : Nat, bs[k]? = some true → z ≤ lo k ∧ lo k ≤ hi k ∧ hi k ≤ W.heap.size
  ap : ∀ j k : Nat, j ≠ k → bs[j]? = some true → bs[k]? = some true → hi j ≤ lo k ∨ hi k ≤ lo j
section
variable {z : Nat} {W W' : World} {bs : List Bool} {lo hi : Nat → Nat}
theorem Pol.start (hf : ∀ k : Nat, bs[k]? ≠ some true) : Pol z W bs lo hi := ⟨fun k h => absurd h (hf k), fun j k _ h => absurd h (hf j)⟩
theorem Pol.step (h : Pol z W bs lo hi) (k : Nat) (hs : W.heap.size ≤ W'.heap.size) (hz : z ≤ W.heap.size) : Pol z W' (bs.set k true) (upN lo k W.heap.size) (upN hi k W'.heap.size) := by
  have hb : ∀ j : Nat, j ≠ k → (bs.set k true)[j]? = some true → bs[j]? = some true := fun j e hj => by rwa [List.getElem?_set_ne (fun e2 => e e2.symm)] at hj
  refine ⟨fun j hj => ?_, fun i j hij hi2 hj2 => ?_⟩
  · unfold upN
    by_cases e : j = k
    · rw [if_pos e, if_pos e]; omega
    · rw [if_neg e, if_neg e]
      have := h.rng j (hb j e hj)
      omega
  · unfold upN
    by_cases e1 : i = k
    · rw [if_pos e1, if_pos e1, if_neg (fun e => hij (e1.trans e.symm)), if_neg (fun e => hij (e1.trans e.symm))]
      have := h.rng j (hb j (fun e => hij (e1.trans e.symm)) hj2)
      omega
    · rw [if_neg e1, if_neg e1]
      by_cases e2 : j = k
      · rw [if_pos e2, if_pos e2]
        have := h.rng i (hb i e1 hi2)
        omega
      · rw [if_neg e2, if_neg e2]
        exact h.ap i j hij (hb i e1 hi2) (hb j e2 hj2)
end
theorem bools4 : ∀ bs : List Bool, bs.length = 4 → ∃ b0 b1 b2 b3, bs = [b0, b1, b2, b3]
  | [b0, b1, b2, b3], _ => ⟨b0, b1, b2, b3, rfl⟩
theorem bools5 : ∀ bs : List Bool, bs.length = 5 → ∃ b0 b1 b2 b3 b4, bs = [b0, b1, b2, b3, b4]
  | [b0, b1, b2, b3, b4], _ => ⟨b0, b1, b2, b3, b4, rfl⟩
theorem bools6 : ∀ bs : List Bool, bs.length = 6 → ∃ b0 b1 b2 b3 b4 b5, bs = [b0, b1, b2, b3, b4, b5]
  | [b0, b1, b2, b3, b4, b5], _ => ⟨b0, b1, b2, b3, b4, b5, rfl⟩
theorem bools8 : ∀ bs : List Bool, bs.length = 8 → ∃ b0 b1 b2 b3 b4 b5 b6 b7, bs = [b0, b1, b2, b3, b4, b5, b6, b7]
  | [b0, b1, b2, b3, b4, b5, b6, b7], _ => ⟨b0, b1, b2, b3, b4, b5, b6, b7, rfl⟩
end Go.Proofs.Ytfelmkkkaphkpaa
namespace Go.Proofs.Ytfelmkkkaphkpaa
open Go.RowKit Go.Bw Go.Sort Go.Shelf
set_option linter.unusedVariables false
set_option linter.unusedSimpArgs false

/-- a view of a store of its own, in blocks from lo to hi -/
def OvI (W : World) (lo hi : Nat) (R C : Int) (F : List Int) (v : Value) : Prop := ∃ V s g cap c l, v = Vu.V V ∧ Ov W lo V s g cap c l R C F ∧ s < hi ∧ g < hi
theorem OvI.on {W W' : World} {lo hi : Nat} {R C : Int} {F : List Int} {v : Value} (h : OvI W lo hi R C F v) (hb : Below W.heap.size W W') : OvI W' lo hi R C F v := by
  obtain ⟨V, s, g, cap, c, l, e, hV, h1, h2⟩ := h
  exact ⟨V, s, g, cap, c, l, e, hV.on hb, h1, h2⟩
/-- a box for a view -/
def CV (W : World) (lo hi : Nat) (v : Value) : Prop := v = .pointer (some ⟨lo, 0, none⟩) ∧ Vbx W lo Vu.zero ∧ lo < hi
theorem CV.on {W W' : World} {lo hi : Nat} {v : Value} (h : CV W lo hi v) (hb : Below W.heap.size W W') : CV W' lo hi v := ⟨h.1, h.2.1.on hb, h.2.2⟩
end Go.Proofs.Ytfelmkkkaphkpaa
namespace Go.Proofs.Ytfelmkkkaphkpaa
open Go.RowKit Go.Bw
set_option linter.unusedVariables false
set_option linter.unusedSimpArgs false

/-- a power of 2 that is never reckoned -/
def Pw (k : Nat) : Nat := 2 ^ k
theorem Pw_eq {k j : Nat} (h : k = j) : Pw k = 2 ^ j := by rw [h]; rfl
theorem Pw_pos (k : Nat) : 0 < Pw k := Nat.two_pow_pos k
theorem Pw_add (a b : Nat) : Pw (a + b) = Pw a * Pw b := Nat.pow_add 2 a b
/-- a float that is the whole number x -/
structure Wn (y : Nat) (x : Int) : Prop where
  le : y ≤ 18446744073709551615
  fin : y % 9223372036854775808 < 9218868437227405312
  val : sv y = x * ((Pw 1074 : Nat) : Int)
theorem sv_word (neg : Bool) {r : Nat} (hr : r < 9223372036854775808) : (if neg then 9223372036854775808 + r else r) % 9223372036854775808 = r ∧ sv (if neg then 9223372036854775808 + r else r) = if neg then -(vl r : Int) else vl r := by
  cases neg
  · have h1 : r % 9223372036854775808 = r := Nat.mod_eq_of_lt hr
    have h2 : r / 9223372036854775808 = 0 := Nat.div_eq_of_lt hr
    unfold sv
    simp only [Bool.false_eq_true, if_false]
    rw [h1, h2]
    exact ⟨rfl, rfl⟩
  · have h1 : (9223372036854775808 + r) % 9223372036854775808 = r := by omega
    have h2 : (9223372036854775808 + r) / 9223372036854775808 = 1 := by omega
    unfold sv
    simp only [if_true]
    rw [h1, h2]
    exact ⟨rfl, rfl⟩
theorem vl_norm {L M : Nat} (h0 : 4503599627370496 ≤ M) (h1 : M < 9007199254740992) (hL : L ≤ 52) : vl ((1022 + L) * 4503599627370496 + M) = M * 2 ^ (1022 + L) := by
  have h2 : ((1022 + L) * 4503599627370496 + M) % 4503599627370496 = M - 4503599627370496 := by omega
  have h3 : ((1022 + L) * 4503599627370496 + M) / 4503599627370496 = 1023 + L := by omega
  unfold vl dg pl
  rw [if_neg (by omega), if_neg (by omega), h2, h3]
  rw [show 4503599627370496 + (M - 4503599627370496) = M by omega, show 1023 + L - 1 = 1022 + L by omega]
theorem near_norm {X : Nat} (h0 : X ≠ 0) (h1 : X < 9007199254740992) (neg : Bool) : ∃ r : Nat, Ieee.double.nearest neg X 0 = (if neg then 9223372036854775808 + r else r) ∧ r < 9218868437227405312 ∧ vl r = X * Pw 1074 := by
  have hL : X.log2 < 53 := (Nat.log2_lt h0).2 (by omega)
  obtain ⟨L, hLe⟩ : ∃ L, X.log2 = L := ⟨_, rfl⟩
  have hlo : 2 ^ L ≤ X := by rw [← hLe]; exact Nat.log2_self_le h0
  have hhi : X < 2 ^ (L + 1) := by rw [← hLe]; exact Nat.lt_log2_self
  have e1 := nearest_shift neg X (52 - L) 0 h0
  obtain ⟨M, hM⟩ : ∃ M, X * 2 ^ (52 - L) = M := ⟨_, rfl⟩
  have p1 : 2 ^ L * 2 ^ (52 - L) = 2 ^ 52 := by rw [← Nat.pow_add]; congr 1; omega
  have p2 : 2 ^ (L + 1) * 2 ^ (52 - L) = 2 ^ 53 := by rw [← Nat.pow_add]; congr 1; omega
  have hp := Nat.two_pow_pos (52 - L)
  have m0 : 4503599627370496 ≤ M := by
    have := Nat.mul_le_mul_right (2 ^ (52 - L)) hlo
    rw [p1, hM] at this
    omega
  have m1 : M < 9007199254740992 := by
    have := Nat.mul_lt_mul_of_pos_right hhi hp
    rw [p2, hM] at this
    omega
  have hlog : M.log2 = 52 := by rw [← hM, log2_shift X (52 - L) h0, hLe]; omega
  rw [hM] at e1
  have e2 := nearest_is neg M (0 - ((52 - L : Nat) : Int)) (by omega)
  rw [e1, hlog] at e2
  have hmax : max ((0 : Int) - ((52 - L : Nat) : Int) + ((52 : Nat) : Int) - 52) (-1074) = 0 - ((52 - L : Nat) : Int) := by omega
  rw [hmax] at e2
  rw [if_pos (by omega)] at e2
  have hz : ((0 : Int) - ((52 - L : Nat) : Int) - (0 - ((52 - L : Nat) : Int))) = 0 := by omega
  rw [hz] at e2
  simp only [Int.neg_zero, Int.toNat_zero, Int.pow_zero, Int.mul_one] at e2
  refine ⟨(1022 + L) * 4503599627370496 + M, ?_, by omega, ?_⟩
  · have hs : ((Ieee.double.nearest neg X 0 : Nat) : Int) = ((if neg then 9223372036854775808 + ((1022 + L) * 4503599627370496 + M) else (1022 + L) * 4503599627370496 + M : Nat) : Int) := by
      rw [e2]
      unfold signW inf
      cases neg <;> simp <;> omega
    exact_mod_cast hs
  · rw [vl_norm m0 m1 (by omega), ← hM, Nat.mul_assoc, ← Nat.pow_add, ← Pw_eq (k := 1074) (j := 52 - L + (1022 + L)) (by omega)]
theorem near_whole {M X a b : Nat} {e : Int} (hX : X < 9007199254740992) (he : e = (a : Int) - b) (h0 : M * 2 ^ a = X * Pw b) (neg : Bool) : Wn (Ieee.double.nearest neg M e) (if neg then -(X : Int) else X) := by
  have h : M * 2 ^ a = X * 2 ^ b := h0
  have ha := Nat.two_pow_pos a
  have hb := Nat.two_pow_pos b
  by_cases hM : M = 0
  · have hX0 : X = 0 := by
      rw [hM, Nat.zero_mul] at h
      rcases Nat.mul_eq_zero.1 h.symm with h2 | h2
      · exact h2
      · omega
    subst hM hX0
    have hn : Ieee.double.nearest neg 0 e = (if neg then 9223372036854775808 + 0 else 0) := by
      unfold Ieee.Format.nearest
      rw [if_pos rfl, double_word]
    have hs := sv_word neg (r := 0) (by omega)
    rw [hn]
    refine ⟨by cases neg <;> simp, by rw [hs.1]; omega, ?_⟩
    rw [hs.2, vl_zero]
    cases neg <;> simp
  · have hX0 : X ≠ 0 := by
      intro h0
      rw [h0, Nat.zero_mul] at h
      rcases Nat.mul_eq_zero.1 h with h2 | h2
      · exact hM h2
      · omega
    have e1 := nearest_shift neg M a e hM
    have e2 := nearest_shift neg X b 0 hX0
    have e3 : Ieee.double.nearest neg M e = Ieee.double.nearest neg X 0 := by
      rw [← e1, ← e2, h]
      congr 1
      omega
    obtain ⟨r, h1, h2, h3⟩ := near_norm hX0 hX neg
    have hs := sv_word neg (r := r) (by omega)
    rw [e3, h1]
    refine ⟨by cases neg <;> simp <;> omega, by rw [hs.1]; omega, ?_⟩
    rw [hs.2, h3]
    cases neg <;> simp [Int.neg_mul]
section
variable {y z : Nat} {p q : Int}
theorem Wn.notN (h : Wn y p) : isN y = false := by
  unfold isN
  have := h.fin
  simp
  omega
theorem Wn.af_ (h : Wn y p) : af y = some y := af_some h.notN
/-- what it is read as -/
theorem Wn.read_ (h : Wn y p) : ∃ s m k, Ieee.double.read y = .number s m (-1074 + (k : Nat)) ∧ m * 2 ^ k = p.natAbs * Pw 1074 ∧ p = if s then -(p.natAbs : Int) else p.natAbs := by
  have hr := read_word y h.fin
  have hv := h.val
  obtain ⟨P, hP⟩ : ∃ P : Nat, Pw 1074 = P := ⟨_, rfl⟩
  have hP0 : 0 < P := by rw [← hP]; exact Pw_pos _
  rw [hP] at hv
  rw [hP]
  refine ⟨_, _, _, hr, ?_, ?_⟩
  · show vl (y % 9223372036854775808) = p.natAbs * P
    have h2 : (sv y).natAbs = vl (y % 9223372036854775808) := by
      unfold sv
      split <;> omega
    rw [← h2, hv, Int.natAbs_mul]
    rfl
  · unfold sv at hv
    cases hs : (y / 9223372036854775808 % 2 == 1)
    · rw [hs] at hv
      simp only [Bool.false_eq_true, if_false] at hv ⊢
      have : 0 ≤ p := by
        rcases Classical.em (p < 0) with h3 | h3
        · exfalso
          have := Int.mul_neg_of_neg_of_pos h3 (show (0 : Int) < (P : Int) by omega)
          omega
        · omega
      omega
    · rw [hs] at hv
      simp only [if_true] at hv ⊢
      have : p ≤ 0 := by
        rcases Classical.em (0 < p) with h3 | h3
        · exfalso
          have := Int.mul_pos h3 (show (0 : Int) < (P : Int) by omega)
          omega
        · omega
      omega
theorem Wn.mul (h : Wn y p) (k : Wn z q) (hb : (p * q).natAbs < 9007199254740992) : ∃ r, Ieee.double.mul y z = some r ∧ Wn r (p * q) := by
  obtain ⟨s, m, i, e1, e2, e3⟩ := h.read_
  obtain ⟨t, n, j, e4, e5, e6⟩ := k.read_
  refine ⟨Ieee.double.nearest (s ^^ t) (m * n) ((-1074 + (i : Nat)) + (-1074 + (j : Nat))), ?_, ?_⟩
  · unfold Ieee.Format.mul
    rw [e1, e4]
    rfl
  · have := near_whole (M := m * n) (X := (p * q).natAbs) (a := i + j) (b := 1074 + 1074) (e := (-1074 + (i : Nat)) + (-1074 + (j : Nat))) hb (by omega) (by
      rw [Nat.pow_add, Pw_add, Int.natAbs_mul]
      have e7 : m * n * (2 ^ i * 2 ^ j) = (m * 2 ^ i) * (n * 2 ^ j) := by
        generalize 2 ^ i = A
        generalize 2 ^ j = B
        ac_rfl
      rw [e7, e2, e5]
      generalize Pw 1074 = A
      ac_rfl) (s ^^ t)
    have e8 : (if (s ^^ t) = true then -((p * q).natAbs : Int) else ((p * q).natAbs : Int)) = p * q := by
      rw [Int.natAbs_mul]
      conv => rhs; rw [e3, e6]
      push_cast
      cases s <;> cases t <;> simp [Int.neg_mul, Int.mul_neg]
    rw [e8] at this
    exact this
theorem Wn.add (h : Wn y p) (k : Wn z q) (hb : (p + q).natAbs < 9007199254740992) : ∃ r, Ieee.double.add y z = some r ∧ Wn r (p + q) := by
  obtain ⟨s, m, i, e1, e2, e3⟩ := h.read_
  obtain ⟨t, n, j, e4, e5, e6⟩ := k.read_
  obtain ⟨mn, hmn⟩ : ∃ mn : Nat, min i j = mn := ⟨_, rfl⟩
  have hbase : min (-1074 + (i : Int)) (-1074 + (j : Int)) = -1074 + (mn : Int) := by omega
  obtain ⟨T, hT⟩ : ∃ T, Ieee.signed s m ((-1074 + (i : Int)) - (-1074 + (mn : Int))).toNat + Ieee.signed t n ((-1074 + (j : Int)) - (-1074 + (mn : Int))).toNat = T := ⟨_, rfl⟩
  refine ⟨Ieee.double.nearest (if T = 0 then s && t else T < 0) T.natAbs (-1074 + (mn : Int)), ?_, ?_⟩
  · unfold Ieee.Format.add
    rw [e1, e4]
    unfold Ieee.Datum.sum
    simp only [hbase, hT]
    rfl
  · have hsum : T * ((2 ^ mn : Nat) : Int) = (p + q) * ((Pw 1074 : Nat) : Int) := by
      rw [← hT, signed_is, signed_is]
      have i1 : ((-1074 + (i : Int)) - (-1074 + (mn : Int))).toNat = i - mn := by omega
      have i2 : ((-1074 + (j : Int)) - (-1074 + (mn : Int))).toNat = j - mn := by omega
      rw [i1, i2]
      have x1 : m * 2 ^ (i - mn) * 2 ^ mn = p.natAbs * Pw 1074 := by rw [Nat.mul_assoc, ← Nat.pow_add, show i - mn + mn = i by omega]; exact e2
      have x2 : n * 2 ^ (j - mn) * 2 ^ mn = q.natAbs * Pw 1074 := by rw [Nat.mul_assoc, ← Nat.pow_add, show j - mn + mn = j by omega]; exact e5
      generalize m * 2 ^ (i - mn) = A at *
      generalize n * 2 ^ (j - mn) = B at *
      generalize 2 ^ mn = C at *
      generalize Pw 1074 = P at *
      have y1 : (A : Int) * (C : Int) = (p.natAbs : Int) * (P : Int) := by exact_mod_cast x1
      have y2 : (B : Int) * (C : Int) = (q.natAbs : Int) * (P : Int) := by exact_mod_cast x2
      rw [Int.add_mul, Int.add_mul]
      have z1 : (if s = true then -(A : Int) else (A : Int)) * (C : Int) = p * (P : Int) := by
        conv => rhs; rw [e3]
        cases s
        · simpa using y1
        · simp only [if_true, Int.neg_mul]; rw [y1]
      have z2 : (if t = true then -(B : Int) else (B : Int)) * (C : Int) = q * (P : Int) := by
        conv => rhs; rw [e6]
        cases t
        · simpa using y2
        · simp only [if_true, Int.neg_mul]; rw [y2]
      rw [z1, z2]
    have hC : (0 : Int) < ((2 ^ mn : Nat) : Int) := by have := Nat.two_pow_pos mn; omega
    have hP : (0 : Int) < ((Pw 1074 : Nat) : Int) := by have := Pw_pos 1074; omega
    have := near_whole (M := T.natAbs) (X := (p + q).natAbs) (a := mn) (b := 1074) (e := -1074 + (mn : Int)) hb (by omega) (by
      have h9 := congrArg Int.natAbs hsum
      rw [Int.natAbs_mul, Int.natAbs_mul, Int.natAbs_natCast, Int.natAbs_natCast] at h9
      exact h9) (if T = 0 then s && t else T < 0)
    have e8 : (if (if T = 0 then s && t else decide (T < 0)) = true then -((p + q).natAbs : Int) else ((p + q).natAbs : Int)) = p + q := by
      generalize ((2 ^ mn : Nat) : Int) = C at *
      generalize ((Pw 1074 : Nat) : Int) = P at *
      rcases Int.lt_trichotomy T 0 with hT0 | hT0 | hT0
      · have h1 : (p + q) * P < 0 := by rw [← hsum]; exact Int.mul_neg_of_neg_of_pos hT0 hC
        have h2 : p + q < 0 := by
          rcases Classical.em (p + q < 0) with h3 | h3
          · exact h3
          · have := Int.mul_nonneg (show 0 ≤ p + q by omega) (Int.le_of_lt hP); omega
        have hne : ¬ T = 0 := by omega
        simp only [hne, if_false, hT0, decide_true, if_true]
        omega
      · have h1 : (p + q) * P = 0 := by rw [← hsum, hT0, Int.zero_mul]
        have h2 : p + q = 0 := by
          rcases Int.mul_eq_zero.1 h1 with h3 | h3
          · exact h3
          · omega
        rw [h2]
        simp
      · have h1 : 0 < (p + q) * P := by rw [← hsum]; exact Int.mul_pos hT0 hC
        have h2 : 0 < p + q := by
          rcases Classical.em (0 < p + q) with h3 | h3
          · exact h3
          · have := Int.mul_nonpos_of_nonpos_of_nonneg (show p + q ≤ 0 by omega) (Int.le_of_lt hP); omega
        have hne : ¬ T = 0 := by omega
        have hlt : ¬ T < 0 := by omega
        simp only [hne, if_false, hlt, decide_false, Bool.false_eq_true]
        omega
    rw [e8] at this
    exact this
theorem Wn.eq_ (h : Wn y p) (k : Wn z p) : (FloatKind.f64.format.order y z == some .eq) = true := by
  have := order_sv y z h.fin k.fin
  rw [h.val, k.val] at this
  have e : FloatKind.f64.format.order y z = Ieee.double.order y z := rfl
  rw [e, this]
  simp [compare, compareOfLessAndEq]
end
theorem wn_int {n : Int} (h : n.natAbs < 9007199254740992) : Wn (FloatKind.f64.nearest n) n := by
  have e : FloatKind.f64.nearest n = Ieee.double.nearest (decide (n < 0)) n.natAbs 0 := rfl
  rw [e]
  have := near_whole (M := n.natAbs) (X := n.natAbs) (a := 0) (b := 0) (e := 0) h (by omega) rfl (decide (n < 0))
  have e2 : (if decide (n < 0) = true then -(n.natAbs : Int) else (n.natAbs : Int)) = n := by
    by_cases h0 : n < 0
    · rw [if_pos (by simpa using h0)]; omega
    · rw [if_neg (by simpa using h0)]; omega
  rw [e2] at this
  exact this
/-- a sum of whole numbers -/
def isum (p : Nat → Int) : Nat → Int
  | 0 => 0
  | n + 1 => isum p n + p n
theorem isum_congr {p q : Nat → Int} : ∀ {n : Nat}, (∀ k, k < n → p k = q k) → isum p n = isum q n
  | 0, _ => rfl
  | n + 1, h => by
    show isum p n + p n = isum q n + q n
    rw [isum_congr (fun k hk => h k (by omega)), h n (by omega)]
theorem isum_first (p : Nat → Int) : ∀ n, isum p (n + 1) = p 0 + isum (fun k => p (k + 1)) n
  | 0 => by show 0 + p 0 = p 0 + 0; omega
  | n + 1 => by
    show isum p (n + 1) + p (n + 1) = p 0 + (isum (fun k => p (k + 1)) n + p (n + 1))
    rw [isum_first p n]
    omega
theorem isum_rev (p : Nat → Int) : ∀ n, isum (fun k => p (n - 1 - k)) n = isum p n
  | 0 => rfl
  | n + 1 => by
    rw [isum_first]
    show p (n + 1 - 1 - 0) + isum (fun k => p (n + 1 - 1 - (k + 1))) n = isum p n + p n
    have e : isum (fun k => p (n + 1 - 1 - (k + 1))) n = isum (fun k => p (n - 1 - k)) n := isum_congr (fun k hk => by congr 1; omega)
    rw [e, isum_rev p n, show n + 1 - 1 - 0 = n by omega]
    omega
theorem isum_bd {p : Nat → Int} {b : Int} (hb : 0 ≤ b) : ∀ {n : Nat}, (∀ k, k < n → -b ≤ p k ∧ p k ≤ b) → -(n * b) ≤ isum p n ∧ isum p n ≤ n * b
  | 0, _ => by show -((0 : Nat) * b) ≤ 0 ∧ 0 ≤ ((0 : Nat) : Int) * b; simp
  | n + 1, h => by
    have ih := isum_bd hb (p := p) (n := n) (fun k hk => h k (by omega))
    have h1 := h n (by omega)
    show -(((n + 1 : Nat) : Int) * b) ≤ isum p n + p n ∧ isum p n + p n ≤ ((n + 1 : Nat) : Int) * b
    have e : ((n + 1 : Nat) : Int) * b = n * b + b := by push_cast; rw [Int.add_mul, Int.one_mul]
    rw [e]
    omega
/-- the program's sums of products of whole numbers are exact -/
theorem wn_sum {x y : Nat → Nat} {p q : Nat → Int} : ∀ {n : Nat}, n ≤ 40 → (∀ k, k < n → Wn (x k) (p k) ∧ Wn (y k) (q k) ∧ -1048575 ≤ p k ∧ p k ≤ 1048575 ∧ -1048575 ≤ q k ∧ q k ≤ 1048575) →
    ∃ r, sumA (fun k => aop .mul (af (x k)) (af (y k))) n = some r ∧ Wn r (isum (fun k => p k * q k) n)
  | 0, _, _ => ⟨0, rfl, by have := wn_int (n := 0) (by decide); exact this⟩
  | n + 1, hn, h => by
    obtain ⟨r, h1, h2⟩ := wn_sum (n := n) (by omega) (fun k hk => h k (by omega))
    obtain ⟨w1, w2, a1, a2, a3, a4⟩ := h n (by omega)
    have pb : ∀ k, k < n + 1 → -1099511627776 ≤ p k * q k ∧ p k * q k ≤ 1099511627776 := fun k hk => by
      obtain ⟨_, _, a1, a2, a3, a4⟩ := h k hk
      have h3 : (p k * q k).natAbs ≤ 1048576 * 1048576 := by
        rw [Int.natAbs_mul]
        exact Nat.mul_le_mul (by omega) (by omega)
      omega
    have hb := isum_bd (p := fun k => p k * q k) (b := 1099511627776) (by omega) (n := n) (fun k hk => pb k (by omega))
    have hpn := pb n (by omega)
    obtain ⟨r2, h3, h4⟩ := w1.mul w2 (by omega)
    have h5 : aop .mul (af (x n)) (af (y n)) = some r2 := by rw [w1.af_, w2.af_]; exact h3
    obtain ⟨r3, h6, h7⟩ := h2.add h4 (by
      have : (n : Int) ≤ 39 := by omega
      have h9 : (n : Int) * 1099511627776 ≤ 39 * 1099511627776 := Int.mul_le_mul_of_nonneg_right this (by omega)
      omega)
    refine ⟨r3, ?_, h7⟩
    show aop .add (sumA (fun k => aop .mul (af (x k)) (af (y k))) n) (aop .mul (af (x n)) (af (y n))) = some r3
    rw [h1, h5]
    exact h6
end Go.Proofs.Ytfelmkkkaphkpaa
namespace Go.Proofs.Ytfelmkkkaphkpaa
open Go.ChangeShapes Go.WideShapes Go.ChangeAt Go.RowKit Go.Joins Go.Bw
set_option linter.unusedVariables false

/-- a list of whole numbers of 32 bits -/
structure IL (w : World) (A : Option Addr) (n c : Nat) (l : List Int) : Prop where
  len : l.length = n
  max : n ≤ 9223372036854775807
  bd : ∀ k, k < n → -2147483648 ≤ D l k ∧ D l k ≤ 2147483647
  at_ : ∀ k, k < n → ∃ ad, A = some ad ∧ ad.block < w.heap.size ∧ w.cell? (ad.add k) = some (.int .i32 (D l k))
theorem IL.on {w w' : World} {A : Option Addr} {n c : Nat} {l : List Int} (h : IL w A n c l) (hb : Below w.heap.size w w') : IL w' A n c l :=
  ⟨h.len, h.max, h.bd, fun k hk => by
    obtain ⟨ad, e, h1, h2⟩ := h.at_ k hk
    exact ⟨ad, e, Nat.lt_of_lt_of_le h1 hb.size, by rw [hb.cell (by rw [add_block]; exact h1)]; exact h2⟩⟩
set_option maxRecDepth 100000 in
theorem open_floats {H : Type} {enc : TypeId × Value → H} {W : World} {base b0 : Nat} {held : Bool} {r : Reach} {v : Value} {d : DataW H} {p : List MemPlace}
    (hv : Value.okWide Try.prog W r b0 22 v) (h : DataW.Trod enc Try.prog W base (fun _ => true) held 22 v d p) :
    ∃ (A : Option Addr) (n c : Nat) (l : List Int), v = .slice A n c ∧ FL W A n c l := by
  obtain ⟨A, n, c, rfl⟩ := okWide_slice Try.underlying22 hv
  obtain ⟨fuel, hf⟩ := h
  obtain ⟨A2, n2, c2, l, e, hl⟩ := open_fl hf
  have e2 : Value.slice A n c = .slice A2 n2 c2 := by simpa [Value.cells] using e
  cases e2
  exact ⟨A, n, c, l, rfl, hl⟩
theorem open_il {H : Type} {enc : TypeId × Value → H} {W : World} {base fuel : Nat} {held : Bool} {cs : List Value} {x : DataW H × List MemPlace} (h : DataW.trod enc Try.prog W base (fun _ => true) held fuel 69 cs = some x) : ∃ (A : Option Addr) (n c : Nat) (l : List Int), cs = [.slice A n c] ∧ IL W A n c l := by
  rcases open_ints Try.underlying69 Try.underlying21 (by kernel_rfl) h with ⟨rfl, _⟩ | ⟨a, n, c, zs, rfl, _, hl, hm, hz, _, hcell, hwz⟩
  · exact ⟨none, 0, 0, [], rfl, ⟨rfl, by omega, fun k hk => by omega, fun k hk => by omega⟩⟩
  · have hz2 : zs.length = c := by simpa using hz
    have hl2 : (zs.take n).length = n := by rw [List.length_take]; omega
    refine ⟨some a, n, c, zs.take n, rfl, ⟨hl2, by unfold maxLen at hm; omega, fun k hk => ?_, fun k hk => ⟨a, rfl, ?_, ?_⟩⟩⟩
    · rw [D_take, if_pos hk, D_in (by omega)]
      exact bounds_i32 (hwz _ (List.getElem_mem _))
    · have := lt_of_cell (hcell k (by omega))
      rw [add_block] at this; exact this
    · rw [hcell k (by omega), D_take, if_pos hk]; rfl
set_option maxRecDepth 100000 in
theorem open_i32s {H : Type} {enc : TypeId × Value → H} {W : World} {base b0 : Nat} {held : Bool} {r : Reach} {v : Value} {d : DataW H} {p : List MemPlace}
    (hv : Value.okWide Try.prog W r b0 69 v) (h : DataW.Trod enc Try.prog W base (fun _ => true) held 69 v d p) :
    ∃ (A : Option Addr) (n c : Nat) (l : List Int), v = .slice A n c ∧ IL W A n c l := by
  obtain ⟨A, n, c, rfl⟩ := okWide_slice Try.underlying69 hv
  obtain ⟨fuel, hf⟩ := h
  obtain ⟨A2, n2, c2, l, e, hl⟩ := open_il hf
  have e2 : Value.slice A n c = .slice A2 n2 c2 := by simpa [Value.cells] using e
  cases e2
  exact ⟨A, n, c, l, rfl, hl⟩
end Go.Proofs.Ytfelmkkkaphkpaa
namespace Go.Proofs.Ytfelmkkkaphkpaa
open Go.RowKit Go.Bw Go.Sort Go.Shelf
set_option linter.unusedVariables false
set_option linter.unusedSimpArgs false

/-- the first k words of x -/
def xs (x : Nat → Nat) (k : Nat) : List Int := (List.range k).map fun t => (x t : Int)
theorem xs_len (x : Nat → Nat) (k : Nat) : (xs x k).length = k := by simp [xs]
theorem xs_next (x : Nat → Nat) (k : Nat) : xs x (k + 1) = xs x k ++ [(x k : Int)] := by simp [xs, List.range_succ]
theorem xs_D {x : Nat → Nat} {k t : Nat} (h : t < k) : D (xs x k) t = (x t : Int) := by
  rw [D_in (by rw [xs_len]; exact h)]
  simp [xs]
theorem xs_wd {x : Nat → Nat} (h : ∀ t, x t ≤ 18446744073709551615) (k : Nat) : Wd (xs x k) := by
  intro y hy
  obtain ⟨t, _, rfl⟩ := List.mem_map.1 hy
  have := h t
  omega
theorem nearest_le (n : Int) (h : n.natAbs < 9007199254740992) : FloatKind.f64.nearest n ≤ 18446744073709551615 := (wn_int h).le
/-- two lists of floats that are appended to: apart -/
structure Mp (w : World) (B : Nat) (A1 : Option Addr) (c1 : Nat) (L1 : List Int) (A2 : Option Addr) (c2 : Nat) (L2 : List Int) : Prop where
  o1 : OwnF w B A1 c1 L1
  o2 : OwnF w B A2 c2 L2
  ap : ∀ b, (Value.slice A1 L1.length c1).ownBlock = some b → (Value.slice A2 L2.length c2).ownBlock ≠ some b
section
variable {w w' : World} {B c1 c2 c : Nat} {A1 A2 A : Option Addr} {L1 L2 m : List Int}
theorem Mp.nil (w : World) (B : Nat) : Mp w B none 0 [] none 0 [] := ⟨OwnF.nil w B, OwnF.nil w B, fun b h => by cases h⟩
theorem Mp.on (h : Mp w B A1 c1 L1 A2 c2 L2) (hb : Below w.heap.size w w') : Mp w' B A1 c1 L1 A2 c2 L2 := ⟨h.o1.on_ hb, h.o2.on_ hb, h.ap⟩
theorem Mp.turn (h : Mp w B A1 c1 L1 A2 c2 L2) : Mp w B A2 c2 L2 A1 c1 L1 := ⟨h.o2, h.o1, fun b h1 h2 => h.ap b h2 h1⟩
theorem Mp.one (h : Mp w B A1 c1 L1 A2 c2 L2) (ho : OwnF w' B A c (L1 ++ m)) (hg : w.grownBy w' (Value.slice A1 L1.length c1).ownBlock)
    (hat : (Value.slice A (L1 ++ m).length c).ownBlock = (Value.slice A1 L1.length c1).ownBlock ∨ (Value.slice A (L1 ++ m).length c).ownBlock = some w.heap.size) : Mp w' B A c (L1 ++ m) A2 c2 L2 := by
  refine ⟨ho, h.o2.grown_ hg (fun a e e2 => h.ap a.block e2.symm (by rw [e]; rfl)), fun b h1 h2 => ?_⟩
  rcases hat with h3 | h3
  · rw [h3] at h1
    exact h.ap b h1 h2
  · rw [h3] at h1
    injection h1 with h4
    cases hA : A2 with
    | none => rw [hA] at h2; cases h2
    | some a =>
      rw [hA] at h2
      injection h2 with h5
      have := (h.o2.gt hA).2
      omega
/-- noughts, just made -/
def CZ (W : World) (lo hi m : Nat) (v : Value) : Prop := v = .slice (some ⟨lo, 0, none⟩) m m ∧ FL W (some ⟨lo, 0, none⟩) m m (List.replicate m 0) ∧ lo < hi
theorem CZ.on {W W' : World} {lo hi m : Nat} {v : Value} (h : CZ W lo hi m v) (hb : Below W.heap.size W W') : CZ W' lo hi m v := ⟨h.1, h.2.1.on hb, h.2.2⟩
theorem zl_new (W : World) {m : Nat} (hm : m ≤ 512) : FL (W.alloc (.cells (LF (List.replicate m 0)).toArray 32)) (some ⟨W.heap.size, 0, none⟩) m m (List.replicate m 0) := by
  have h := own_new W (List.replicate m 0) (by simp; omega) (B := 0) (Nat.zero_le _)
  rw [List.length_replicate] at h
  exact ⟨by simp, h.nums, fun x hx => by rw [List.eq_of_mem_replicate hx]; omega⟩
/-- a product with one column -/
def colA (LU LX LY : List Int) (p a b k : Nat) : Option Nat := bothA (af b) (fa (D LY k)) (af a) (sumA (fun t => aop .mul (ma LU p k t) (fa (D LX t))) p)
section
variable {w : World} {B B2 B3 : Nat} {U X Y : Vu} {s g cap c s2 g2 cap2 c2 s3 g3 cap3 c3 a b m p : Nat} {l l2 l3 LU LX LY : List Int}
theorem gemv_m (ba : a ≤ 18446744073709551615) (bb : b ≤ 18446744073709551615) (hU : Ov w B U s g cap c l m p LU) (hX : Ov w B2 X s2 g2 cap2 c2 l2 p 1 LX) (hY : Ov w B3 Y s3 g3 cap3 c3 l3 m 1 LY) (ex : LX.length = p) (ey : LY.length = m) :
    Calls Try.prog 34 #[.float .f64 a, U.V, X.V, .float .f64 b, Y.V] w (OvK w B3 Y s3 g3 cap3 c3 m 1 m (colA LU LX LY p a b)) := by
  have vx : vecM (p : Int) 1 = true := by unfold vecM; simp
  have vy : vecM (m : Int) 1 = true := by unfold vecM; simp
  have hfit : (X.vec && Y.vec && szd U Y.len X.len) = true := by
    rw [hX.isvec, hY.isvec, vx, vy, hX.lenv vx, hY.lenv vy, ex, ey]
    unfold szd
    rw [hU.R, hU.C]
    simp
  refine (Gemv_yes (m := m) (q := p) ba bb hU.sv hX.sv hY.sv (refE_ok hfit (mem3 hU.ne hX.ne hY.ne)) hY.vk hY.st rfl hY.inj hU.R hU.C).mono ?_
  intro e w1 h
  refine ovk hY h (q := 1) rfl ey (fun k hk => ?_)
  unfold tg
  rw [if_pos rfl]
  dsimp only
  rw [vix_dm hY vy (q := 1) rfl (by rw [ey]; exact hk)]
  rfl
theorem gemm_m (ba : a ≤ 18446744073709551615) (bb : b ≤ 18446744073709551615) (hU : Ov w B U s g cap c l m p LU) (hX : Ov w B2 X s2 g2 cap2 c2 l2 p 1 LX) (hY : Ov w B3 Y s3 g3 cap3 c3 l3 m 1 LY) (ey : LY.length = m) :
    Calls Try.prog 43 #[.float .f64 a, U.V, X.V, .float .f64 b, Y.V] w (OvK w B3 Y s3 g3 cap3 c3 m 1 m (colA LU LX LY p a b)) := by
  have hfit : (U.C == X.R && szd Y U.R X.C) = true := by
    unfold szd
    rw [hU.R, hU.C, hX.R, hX.C, hY.R, hY.C]
    simp
  refine (Gemm_yes (m := m) (q := 1) (p := p) ba bb hU.sv hX.sv hY.sv (refE_ok hfit (mem3 hU.ne hX.ne hY.ne)) hY.vk hY.st rfl hY.inj hY.R hY.C hU.C).mono ?_
  intro e w1 h
  refine ovk hY h (q := 1) rfl ey (fun k hk => ?_)
  have e1 : ∀ (L : List Int) (k : Nat), ma L 1 k 0 = fa (D L k) := fun L k => by unfold ma; rw [Nat.mul_one, Nat.add_zero]
  unfold tg colA
  rw [if_pos rfl]
  dsimp only
  rw [Nat.div_one, Nat.mod_one, e1]
  congr 1
  exact sumA_congr fun t ht => by rw [e1]
theorem same_ov {R C : Int} (hX : Ov w B2 X s2 g2 cap2 c2 l2 R C LX) (hY : Ov w B3 Y s3 g3 cap3 c3 l3 R C LY) (h : sameL LX LY = true) : Calls Try.prog 55 #[X.V, Y.V] w (Ans w (.bool true)) := by
  have := Same_any (w := w) hX.vk (fun _ => ⟨hX.st, rfl⟩) hY.vk (fun _ => ⟨hY.st, rfl⟩)
  have e : sameV X c2 l2 Y c3 l3 = true := by
    unfold sameV
    have n1 : (X.p == none) = false := by rw [hX.p]; rfl
    have n2 : (Y.p == none) = false := by rw [hY.p]; rfl
    rw [n1, n2, hX.R, hX.C, hY.R, hY.C, hX.fl, hY.fl, h]
    simp
  rwa [e] at this
end
theorem alk_one {w : World} {B B2 : Nat} {X Y : Vu} {s2 g2 cap2 c2 s3 g3 cap3 c3 n m : Nat} {l2 l3 LX LY : List Int} (hX : Ov w B X s2 g2 cap2 c2 l2 n 1 LX) (hY : Ov w B2 Y s3 g3 cap3 c3 l3 m 1 LY) (e : LX.length = LY.length) : alk X Y = true := by
  have h1 : vecM (n : Int) 1 = true := by unfold vecM; simp
  have h2 : vecM (m : Int) 1 = true := by unfold vecM; simp
  unfold alk
  rw [hX.isvec, hY.isvec, h1, h2, hX.lenv h1, hY.lenv h2, e]
  simp
theorem src_of {w : World} {g r : Nat} (h : RowF w g [(r : Int)]) : NumF w (g + 1) (some ⟨g, 0, none⟩) 1 [(r : Int)] := by
  have := h.nums (B := g + 1) (c := 1) 0 1 (by simp) (by omega) (by unfold maxLen; omega) (by simp)
  simpa using this
theorem RowF.on {w w' : World} {g : Nat} {l : List Int} (h : RowF w g l) (hb : Below w.heap.size w w') : RowF w' g l := h.below hb h.lt
theorem rowf_one (w : World) (r : Nat) : RowF (w.alloc (.cells #[.float .f64 r] 32)) w.heap.size [(r : Int)] := by
  have := RowF.one w (r : Int)
  have e : fV (r : Int) = .float .f64 r := by show Value.float .f64 ((r : Int)).toNat = _; rw [Int.toNat_natCast]
  rwa [e] at this
end
end Go.Proofs.Ytfelmkkkaphkpaa
