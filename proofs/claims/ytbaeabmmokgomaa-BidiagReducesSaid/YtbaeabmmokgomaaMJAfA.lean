/-
  Floats, all NaNs being one: what an operation of the machine answers hangs on its operands so far alone.
-/
import Derived.Test.YtbaeabmmokgomaaProg
import Derived.Laws.FloatArith
import Derived.Laws.NewFold
import Derived.WalkKit
import Derived.Deep.Draws
import Ieee.Arith
namespace Go.Proofs.Ytbaeabmmokgomaa
open Go Go.RowKit
set_option linter.unusedVariables false
set_option linter.unusedSimpArgs false

/-- a NaN's word -/
def isN (x : Nat) : Bool := decide (9218868437227405312 < x % 9223372036854775808)
/-- the float, any NaN being none -/
def af (x : Nat) : Option Nat := if isN x then none else some x
theorem af_none {x : Nat} (h : isN x = true) : af x = none := by unfold af; rw [h]; rfl
theorem af_some {x : Nat} (h : isN x = false) : af x = some x := by unfold af; rw [h]; rfl
/-- what an operation comes to -/
def aop (op : BinOp) (a b : Option Nat) : Option Nat := match a, b with
  | some x, some y => floatBits op .f64 x y
  | _, _ => none
def Datum_ok : Option Ieee.Datum → Prop
  | some (.nan ..) => False
  | _ => True
theorem rungs : Ieee.double.signWeight = 9223372036854775808 ∧ Ieee.double.binade = 4503599627370496 ∧ Ieee.double.infRung = 9218868437227405312 := by decide
theorem dword (neg : Bool) (r : Nat) : Ieee.double.word neg r = if neg then 9223372036854775808 + r else r := rfl
theorem near_notN (z : Bool) (M : Nat) (e : Int) : isN (Ieee.double.nearest z M e) = false := by
  unfold isN Ieee.Format.nearest
  obtain ⟨e1, e2, e3⟩ := rungs
  rw [decide_eq_false]
  split
  · rw [dword]; split <;> omega
  · simp only [dword, e2, e3]
    split <;> omega
theorem write_notN {d : Ieee.Datum} (h : Datum_ok (some d)) : isN (Ieee.double.write d) = false := by
  cases d with
  | number s m e => exact near_notN s m e
  | infinity s =>
    unfold isN Ieee.Format.write
    obtain ⟨e1, e2, e3⟩ := rungs
    rw [decide_eq_false]
    simp only [dword, e3]
    split <;> omega
  | nan s f => exact h.elim
theorem read_isN (x : Nat) (hx : x ≤ 18446744073709551615) : isN x = true ↔ ∃ s f, Ieee.double.read x = .nan s f := by
  obtain ⟨e1, e2, e3⟩ := rungs
  unfold isN Ieee.Format.read
  simp only [e1, e2, e3, decide_eq_true_iff]
  constructor
  · intro h
    rw [if_neg (by omega), if_neg (by omega), if_neg (by omega)]
    exact ⟨_, _, rfl⟩
  · rintro ⟨s, f, h⟩
    split at h
    · cases h
    · split at h
      · cases h
      · split at h
        · cases h
        · omega
theorem sum_ok (a b : Ieee.Datum) : Datum_ok (a.sum b) := by
  cases a <;> cases b <;> simp only [Ieee.Datum.sum] <;> (try split) <;> trivial
theorem pro_ok (a b : Ieee.Datum) : Datum_ok (a.product b) := by
  cases a <;> cases b <;> simp only [Ieee.Datum.product] <;> (try split) <;> trivial
theorem quo_ok (n : Nat) (a b : Ieee.Datum) : Datum_ok (a.quotient n b) := by
  cases a <;> cases b <;> simp only [Ieee.Datum.quotient] <;> (repeat' split) <;> trivial
theorem root_ok (n : Nat) (a : Ieee.Datum) : Datum_ok (a.root n) := by
  cases a <;> simp only [Ieee.Datum.root] <;> (repeat' split) <;> trivial
theorem map_notN {o : Option Ieee.Datum} (h : Datum_ok o) {r : Nat} (hr : o.map Ieee.double.write = some r) : isN r = false := by
  cases o with
  | none => cases hr
  | some d =>
    simp only [Option.map_some, Option.some.injEq] at hr
    rw [← hr]
    exact write_notN h
def Ari (op : BinOp) : Prop := op = .add ∨ op = .sub ∨ op = .mul ∨ op = .quo
theorem bits_notN {op : BinOp} {x y r : Nat} (h : floatBits op .f64 x y = some r) : isN r = false := by
  unfold floatBits at h
  split at h
  · exact map_notN (sum_ok _ _) h
  · exact map_notN (sum_ok _ _) h
  · exact map_notN (pro_ok _ _) h
  · exact map_notN (quo_ok _ _ _) h
  · cases h
theorem nan_sum (s : Bool) (f : Nat) (d : Ieee.Datum) : (Ieee.Datum.nan s f).sum d = none ∧ d.sum (.nan s f) = none ∧ (Ieee.Datum.nan s f).product d = none ∧ d.product (.nan s f) = none ∧ (Ieee.Datum.nan s f).quotient 54 d = none ∧ d.quotient 54 (.nan s f) = none := by
  cases d <;> simp [Ieee.Datum.sum, Ieee.Datum.product, Ieee.Datum.quotient]
theorem bits_nan {op : BinOp} {x y : Nat} (hx : x ≤ 18446744073709551615) (hy : y ≤ 18446744073709551615) (h : isN x = true ∨ isN y = true) (ho : Ari op) : floatBits op .f64 x y = none := by
  have hd : Ieee.double.fractionBits + 2 = 54 := rfl
  rcases h with h | h
  · obtain ⟨s, f, e⟩ := (read_isN x hx).1 h
    obtain ⟨n1, n2, n3, n4, n5, n6⟩ := nan_sum s f (Ieee.double.read y)
    obtain ⟨m1, m2, m3, m4, m5, m6⟩ := nan_sum s f (Ieee.double.read y).opposite
    rcases ho with rfl | rfl | rfl | rfl
    · show ((Ieee.double.read x).sum (Ieee.double.read y)).map _ = none; rw [e, n1]; rfl
    · show ((Ieee.double.read x).sum (Ieee.double.read y).opposite).map _ = none; rw [e, m1]; rfl
    · show ((Ieee.double.read x).product (Ieee.double.read y)).map _ = none; rw [e, n3]; rfl
    · show ((Ieee.double.read x).quotient 54 (Ieee.double.read y)).map _ = none; rw [e, n5]; rfl
  · obtain ⟨s, f, e⟩ := (read_isN y hy).1 h
    obtain ⟨n1, n2, n3, n4, n5, n6⟩ := nan_sum s f (Ieee.double.read x)
    obtain ⟨m1, m2, m3, m4, m5, m6⟩ := nan_sum (!s) f (Ieee.double.read x)
    rcases ho with rfl | rfl | rfl | rfl
    · show ((Ieee.double.read x).sum (Ieee.double.read y)).map _ = none; rw [e, n2]; rfl
    · show ((Ieee.double.read x).sum (Ieee.double.read y).opposite).map _ = none; rw [e]; show (_ : Option Ieee.Datum).map _ = none; rw [show (Ieee.Datum.nan s f).opposite = .nan (!s) f from rfl, m2]; rfl
    · show ((Ieee.double.read x).product (Ieee.double.read y)).map _ = none; rw [e, n4]; rfl
    · show ((Ieee.double.read x).quotient 54 (Ieee.double.read y)).map _ = none; rw [e, n6]; rfl
theorem aop_is {op : BinOp} {x y : Nat} (hx : x ≤ 18446744073709551615) (hy : y ≤ 18446744073709551615) (ho : Ari op) : aop op (af x) (af y) = floatBits op .f64 x y := by
  cases h1 : isN x
  · cases h2 : isN y
    · rw [af_some h1, af_some h2]; rfl
    · rw [af_none h2, bits_nan hx hy (.inr h2) ho]; unfold aop; split <;> simp_all
  · rw [af_none h1, bits_nan hx hy (.inl h1) ho]; rfl
def pick (q : Question) (W : World) : Nat := q.cut (W.tape W.drawn q)
theorem nan_word (t : Nat) : (t % 2) * 2 ^ 63 + 0x7ff0000000000000 + 1 + (t / 2) % (2 ^ 52 - 1) ≤ 18446744073709551615 ∧ isN ((t % 2) * 2 ^ 63 + 0x7ff0000000000000 + 1 + (t / 2) % (2 ^ 52 - 1)) = true := by
  have h1 : t % 2 < 2 := Nat.mod_lt _ (by omega)
  have h2 : (t / 2) % (2 ^ 52 - 1) < 2 ^ 52 - 1 := Nat.mod_lt _ (by omega)
  generalize t % 2 = a at *
  generalize (t / 2) % (2 ^ 52 - 1) = b at *
  refine ⟨by omega, ?_⟩
  unfold isN
  rw [decide_eq_true_iff]
  omega
theorem pick_nan (x y : Nat) (W : World) : pick (.nanBits .f64 x y) W ≤ 18446744073709551615 ∧ isN (pick (.nanBits .f64 x y) W) = true := nan_word _
/-- the world has drawn, no more -/
def Dr (w w' : World) : Prop := ∃ n, w' = w.drewN n
theorem Dr.refl (w : World) : Dr w w := ⟨0, rfl⟩
theorem Dr.trans {a b c : World} (h : Dr a b) (k : Dr b c) : Dr a c := by
  obtain ⟨n, rfl⟩ := h
  obtain ⟨m, rfl⟩ := k
  exact ⟨n + m, by simp⟩
/-- an operation of the machine: a float that is what it comes to, and no more than draws -/
theorem run_op {P : Program} (op : BinOp) (t : TypeId) {x y : Nat} (hx : x ≤ 18446744073709551615) (hy : y ≤ 18446744073709551615) (ho : Ari op) (W : World) :
    ∃ r W', (binOp op t (.float .f64 x) (.float .f64 y)).run P W = .ok (.float .f64 r) W' ∧ Dr W W' ∧ af r = aop op (af x) (af y) ∧ r ≤ 18446744073709551615 := by
  rw [aop_is hx hy ho]
  cases h : floatBits op .f64 x y with
  | some r =>
    have hw := floatBits_wf h
    have : r < 18446744073709551616 := by simpa [Lit.wf] using hw
    exact ⟨r, W, run_float_arith W op t .f64 x y r h, Dr.refl W, af_some (bits_notN h), by omega⟩
  | none =>
    have hp := pick_nan x y W
    refine ⟨pick (.nanBits .f64 x y) W, W.drew, ?_, ⟨1, rfl⟩, af_none hp.2, hp.1⟩
    unfold floatBits at h
    rcases ho with rfl | rfl | rfl | rfl
    all_goals
      simp only at h
      simp [binOp, Op.floatArith, h, run_choose_drew, Question.forced, pick, Result.andThen]
/-- the four operations, by name -/
theorem run_add {P : Program} (t : TypeId) {x y : Nat} (hx : x ≤ 18446744073709551615) (hy : y ≤ 18446744073709551615) (W : World) : ∃ r W', (binOp .add t (.float .f64 x) (.float .f64 y)).run P W = .ok (.float .f64 r) W' ∧ Dr W W' ∧ af r = aop .add (af x) (af y) ∧ r ≤ 18446744073709551615 := run_op _ t hx hy (.inl rfl) W
theorem run_sub {P : Program} (t : TypeId) {x y : Nat} (hx : x ≤ 18446744073709551615) (hy : y ≤ 18446744073709551615) (W : World) : ∃ r W', (binOp .sub t (.float .f64 x) (.float .f64 y)).run P W = .ok (.float .f64 r) W' ∧ Dr W W' ∧ af r = aop .sub (af x) (af y) ∧ r ≤ 18446744073709551615 := run_op _ t hx hy (.inr (.inl rfl)) W
theorem run_mul {P : Program} (t : TypeId) {x y : Nat} (hx : x ≤ 18446744073709551615) (hy : y ≤ 18446744073709551615) (W : World) : ∃ r W', (binOp .mul t (.float .f64 x) (.float .f64 y)).run P W = .ok (.float .f64 r) W' ∧ Dr W W' ∧ af r = aop .mul (af x) (af y) ∧ r ≤ 18446744073709551615 := run_op _ t hx hy (.inr (.inr (.inl rfl))) W
theorem run_quo {P : Program} (t : TypeId) {x y : Nat} (hx : x ≤ 18446744073709551615) (hy : y ≤ 18446744073709551615) (W : World) : ∃ r W', (binOp .quo t (.float .f64 x) (.float .f64 y)).run P W = .ok (.float .f64 r) W' ∧ Dr W W' ∧ af r = aop .quo (af x) (af y) ∧ r ≤ 18446744073709551615 := run_op _ t hx hy (.inr (.inr (.inr rfl))) W
/-- order -/
def aord (a b : Option Nat) : Option Ordering := match a, b with
  | some x, some y => Ieee.double.order x y
  | _, _ => none
theorem aord_is {x y : Nat} (hx : x ≤ 18446744073709551615) (hy : y ≤ 18446744073709551615) : aord (af x) (af y) = FloatKind.f64.format.order x y := by
  show _ = (Ieee.double.read x).order (Ieee.double.read y)
  cases h1 : isN x
  · cases h2 : isN y
    · rw [af_some h1, af_some h2]; rfl
    · rw [af_none h2]
      obtain ⟨s, f, e⟩ := (read_isN y hy).1 h2
      rw [e]
      have : aord (af x) none = none := by unfold aord; split <;> simp_all
      rw [this]
      cases Ieee.double.read x <;> rfl
  · rw [af_none h1]
    obtain ⟨s, f, e⟩ := (read_isN x hx).1 h1
    rw [e]
    have : aord none (af y) = none := rfl
    rw [this]
    cases Ieee.double.read y <;> rfl
def gtA (a b : Option Nat) : Bool := aord a b == some .gt
def ltA (a b : Option Nat) : Bool := aord a b == some .lt
def eqA (a b : Option Nat) : Bool := aord a b == some .eq
def geA (a b : Option Nat) : Bool := aord a b == some .gt || aord a b == some .eq
theorem gt_is {x y : Nat} (hx : x ≤ 18446744073709551615) (hy : y ≤ 18446744073709551615) : gtA (af x) (af y) = (FloatKind.f64.format.order x y == some .gt) := by unfold gtA; rw [aord_is hx hy]
theorem lt_is {x y : Nat} (hx : x ≤ 18446744073709551615) (hy : y ≤ 18446744073709551615) : ltA (af x) (af y) = (FloatKind.f64.format.order x y == some .lt) := by unfold ltA; rw [aord_is hx hy]
theorem eq_is {x y : Nat} (hx : x ≤ 18446744073709551615) (hy : y ≤ 18446744073709551615) : eqA (af x) (af y) = (FloatKind.f64.format.order x y == some .eq) := by unfold eqA; rw [aord_is hx hy]
/-- sizes, and signs turned -/
def absA (a : Option Nat) : Option Nat := a.map (· % 9223372036854775808)
def negA (a : Option Nat) : Option Nat := a.map (fun x => if 9223372036854775808 ≤ x then x - 9223372036854775808 else x + 9223372036854775808)
theorem abs_is (x : Nat) : af (x % 9223372036854775808) = absA (af x) := by
  unfold af absA isN
  rw [Nat.mod_mod]
  split <;> rfl
theorem neg_is {x : Nat} (hx : x ≤ 18446744073709551615) : af (if 9223372036854775808 ≤ x then x - 9223372036854775808 else x + 9223372036854775808) = negA (af x) := by
  have e : isN (if 9223372036854775808 ≤ x then x - 9223372036854775808 else x + 9223372036854775808) = isN x := by
    unfold isN
    split
    · rw [show (x - 9223372036854775808) % 9223372036854775808 = x % 9223372036854775808 by omega]
    · rw [show (x + 9223372036854775808) % 9223372036854775808 = x % 9223372036854775808 by omega]
  unfold af negA
  rw [e]
  split <;> rfl
theorem xor_low (c : Nat) (hc : c < 2 ^ 63) : c ^^^ 2 ^ 63 = 2 ^ 63 + c := by
  have h := Nat.two_pow_add_eq_or_of_lt hc 1
  rw [Nat.mul_one] at h
  rw [h]
  apply Nat.eq_of_testBit_eq
  intro i
  rw [Nat.testBit_xor, Nat.testBit_or, Nat.testBit_two_pow]
  by_cases e : 63 = i
  · subst e; rw [Nat.testBit_lt_two_pow hc]; rfl
  · simp [e]

theorem xor_sign_nat (a : Nat) (ha : a < 18446744073709551616) : a ^^^ 9223372036854775808 = if 9223372036854775808 ≤ a then a - 9223372036854775808 else a + 9223372036854775808 := by
  by_cases c : 9223372036854775808 ≤ a
  · rw [if_pos c]
    have h := xor_low (a - 9223372036854775808) (by omega)
    have e : 2 ^ 63 + (a - 9223372036854775808) = a := by omega
    rw [e] at h
    have h2 : a ^^^ 2 ^ 63 = (a - 9223372036854775808) ^^^ 2 ^ 63 ^^^ 2 ^ 63 := by rw [h]
    rw [Nat.xor_assoc, Nat.xor_self, Nat.xor_zero] at h2
    exact h2
  · rw [if_neg c]
    have h := xor_low a (by omega)
    have e : 2 ^ 63 + a = a + 9223372036854775808 := by omega
    rw [e] at h
    exact h

/-- a float with its sign turned -/
theorem run_neg {P : Program} {x : Nat} (hx : x ≤ 18446744073709551615) : ∃ r, (∀ W : World, (Op.unary .neg (.float .f64 x)).run P W = .ok (.float .f64 r) W) ∧ af r = negA (af x) ∧ r ≤ 18446744073709551615 := by
  refine ⟨_, fun W => ?_, neg_is hx, by split <;> omega⟩
  have e : Op.negFloat .f64 x = if 9223372036854775808 ≤ x then x - 9223372036854775808 else x + 9223372036854775808 := xor_sign_nat x (by omega)
  rw [← e]; rfl
theorem ge_is {x y : Nat} (hx : x ≤ 18446744073709551615) (hy : y ≤ 18446744073709551615) : geA (af x) (af y) = (FloatKind.f64.format.order x y == some .gt || FloatKind.f64.format.order x y == some .eq) := by unfold geA; rw [aord_is hx hy]
/-- a root -/
def asq (a : Option Nat) : Option Nat := a.bind Ieee.double.sqrt
theorem root_notN {x r : Nat} (h : Ieee.double.sqrt x = some r) : isN r = false := map_notN (root_ok _ _) h
theorem asq_is {x : Nat} (hx : x ≤ 18446744073709551615) : asq (af x) = Ieee.double.sqrt x := by
  cases h1 : isN x
  · rw [af_some h1]; rfl
  · rw [af_none h1]
    obtain ⟨s, f, e⟩ := (read_isN x hx).1 h1
    show none = ((Ieee.double.read x).root _).map _
    rw [e]; rfl
/-- the same float: all NaNs are one -/
theorem same_af {x y : Nat} (h : af x = af y) : (isN x = true ∧ isN y = true) ∨ (isN x = false ∧ x = y) := by
  unfold af at h
  cases h1 : isN x <;> cases h2 : isN y <;> rw [h1, h2] at h <;> simp at h
  · exact .inr ⟨rfl, h⟩
  · exact .inl ⟨rfl, rfl⟩
theorem order_self_is {x : Nat} (hx : x ≤ 18446744073709551615) (h : isN x = true) : (FloatKind.f64.format.order x x != some .eq) = true := by
  rw [← aord_is hx hx, af_none h]; rfl
end Go.Proofs.Ytbaeabmmokgomaa
