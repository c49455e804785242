/-
  Layer 6: floats with all NaNs one.
-/
import Derived.Test.YtmfikppnkjhmjaaGreatDoorProg
import Derived.Test.YtmfikppnkjhmjaaGreatDoorUGu
import Derived.Laws.FloatArith
import Derived.Laws.NewFold
import Derived.WalkKit
import Derived.Deep.Draws
import Ieee.Arith
import Derived.WalkSpells
import Derived.WalkLawsBesides
import Derived.Deep.QuietTactic
import Derived.BigQuiet
import Derived.Lib.Hide
import Derived.Handy
import Derived.Below
import Derived.OneCell
import Derived.Laws.OwnMore
import Derived.Laws.Rows
import Derived.Deep.AppendLies
import Derived.OwnWalk
import Derived.Maps.AppendAt
import Derived.RegionTactic
import Derived.KernelRfl
import Derived.Laws.Externs
import Derived.Outline
import Derived.Deep.RegionHeld3
import Derived.Deep.RegionWith
import Derived.WalkMore
namespace Go.Proofs.YtmfikppnkjhmjaaGreatDoor
open Go Go.RowKit
set_option linter.unusedVariables false
set_option linter.unusedSimpArgs false

/-- a NaN's word -/
def isN (x : Nat) : Bool := decide (9218868437227405312 < x % 9223372036854775808)
/-- the float, any NaN being none -/
def af (x : Nat) : Option Nat := if isN x then none else some x
theorem af_none {x : Nat} (h : isN x = true) : af x = none := by unfold af; rw [h]; rfl
theorem af_some {x : Nat} (h : isN x = false) : af x = some x := by unfold af; rw [h]; rfl
/-- what an operation comes to -/
def aop (op : BinOp) (a b : Option Nat) : Option Nat := match a, b with
  | some x, some y => floatBits op .f64 x y
  | _, _ => none
def Datum_ok : Option Ieee.Datum → Prop
  | some (.nan ..) => False
  | _ => True
theorem rungs : Ieee.double.signWeight = 9223372036854775808 ∧ Ieee.double.binade = 4503599627370496 ∧ Ieee.double.infRung = 9218868437227405312 := by decide
theorem dword (neg : Bool) (r : Nat) : Ieee.double.word neg r = if neg then 9223372036854775808 + r else r := rfl
theorem near_notN (z : Bool) (M : Nat) (e : Int) : isN (Ieee.double.nearest z M e) = false := by
  unfold isN Ieee.Format.nearest
  obtain ⟨e1, e2, e3⟩ := rungs
  rw [decide_eq_false]
  split
  · rw [dword]; split <;> omega
  · simp only [dword, e2, e3]
    split <;> omega
theorem write_notN {d : Ieee.Datum} (h : Datum_ok (some d)) : isN (Ieee.double.write d) = false := by
  cases d with
  | number s m e => exact near_notN s m e
  | infinity s =>
    unfold isN Ieee.Format.write
    obtain ⟨e1, e2, e3⟩ := rungs
    rw [decide_eq_false]
    simp only [dword, e3]
    split <;> omega
  | nan s f => exact h.elim
theorem read_isN (x : Nat) (hx : x ≤ 18446744073709551615) : isN x = true ↔ ∃ s f, Ieee.double.read x = .nan s f := by
  obtain ⟨e1, e2, e3⟩ := rungs
  unfold isN Ieee.Format.read
  simp only [e1, e2, e3, decide_eq_true_iff]
  constructor
  · intro h
    rw [if_neg (by omega), if_neg (by omega), if_neg (by omega)]
    exact ⟨_, _, rfl⟩
  · rintro ⟨s, f, h⟩
    split at h
    · cases h
    · split at h
      · cases h
      · split at h
        · cases h
        · omega
theorem sum_ok (a b : Ieee.Datum) : Datum_ok (a.sum b) := by
  cases a <;> cases b <;> simp only [Ieee.Datum.sum] <;> (try split) <;> trivial
theorem pro_ok (a b : Ieee.Datum) : Datum_ok (a.product b) := by
  cases a <;> cases b <;> simp only [Ieee.Datum.product] <;> (try split) <;> trivial
theorem quo_ok (n : Nat) (a b : Ieee.Datum) : Datum_ok (a.quotient n b) := by
  cases a <;> cases b <;> simp only [Ieee.Datum.quotient] <;> (repeat' split) <;> trivial
theorem root_ok (n : Nat) (a : Ieee.Datum) : Datum_ok (a.root n) := by
  cases a <;> simp only [Ieee.Datum.root] <;> (repeat' split) <;> trivial
theorem map_notN {o : Option Ieee.Datum} (h : Datum_ok o) {r : Nat} (hr : o.map Ieee.double.write = some r) : isN r = false := by
  cases o with
  | none => cases hr
  | some d =>
    simp only [Option.map_some, Option.some.injEq] at hr
    rw [← hr]
    exact write_notN h
def Ari (op : BinOp) : Prop := op = .add ∨ op = .sub ∨ op = .mul ∨ op = .quo
theorem bits_notN {op : BinOp} {x y r : Nat} (h : floatBits op .f64 x y = some r) : isN r = false := by
  unfold floatBits at h
  split at h
  · exact map_notN (sum_ok _ _) h
  · exact map_notN (sum_ok _ _) h
  · exact map_notN (pro_ok _ _) h
  · exact map_notN (quo_ok _ _ _) h
  · cases h
theorem nan_sum (s : Bool) (f : Nat) (d : Ieee.Datum) : (Ieee.Datum.nan s f).sum d = none ∧ d.sum (.nan s f) = none ∧ (Ieee.Datum.nan s f).product d = none ∧ d.product (.nan s f) = none ∧ (Ieee.Datum.nan s f).quotient 54 d = none ∧ d.quotient 54 (.nan s f) = none := by
  cases d <;> simp [Ieee.Datum.sum, Ieee.Datum.product, Ieee.Datum.quotient]
theorem bits_nan {op : BinOp} {x y : Nat} (hx : x ≤ 18446744073709551615) (hy : y ≤ 18446744073709551615) (h : isN x = true ∨ isN y = true) (ho : Ari op) : floatBits op .f64 x y = none := by
  have hd : Ieee.double.fractionBits + 2 = 54 := rfl
  rcases h with h | h
  · obtain ⟨s, f, e⟩ := (read_isN x hx).1 h
    obtain ⟨n1, n2, n3, n4, n5, n6⟩ := nan_sum s f (Ieee.double.read y)
    obtain ⟨m1, m2, m3, m4, m5, m6⟩ := nan_sum s f (Ieee.double.read y).opposite
    rcases ho with rfl | rfl | rfl | rfl
    · show ((Ieee.double.read x).sum (Ieee.double.read y)).map _ = none; rw [e, n1]; rfl
    · show ((Ieee.double.read x).sum (Ieee.double.read y).opposite).map _ = none; rw [e, m1]; rfl
    · show ((Ieee.double.read x).product (Ieee.double.read y)).map _ = none; rw [e, n3]; rfl
    · show ((Ieee.double.read x).quotient 54 (Ieee.double.read y)).map _ = none; rw [e, n5]; rfl
  · obtain ⟨s, f, e⟩ := (read_isN y hy).1 h
    obtain ⟨n1, n2, n3, n4, n5, n6⟩ := nan_sum s f (Ieee.double.read x)
    obtain ⟨m1, m2, m3, m4, m5, m6⟩ := nan_sum (!s) f (Ieee.double.read x)
    rcases ho with rfl | rfl | rfl | rfl
    · show ((Ieee.double.read x).sum (Ieee.double.read y)).map _ = none; rw [e, n2]; rfl
    · show ((Ieee.double.read x).sum (Ieee.double.read y).opposite).map _ = none; rw [e]; show (_ : Option Ieee.Datum).map _ = none; rw [show (Ieee.Datum.nan s f).opposite = .nan (!s) f from rfl, m2]; rfl
    · show ((Ieee.double.read x).product (Ieee.double.read y)).map _ = none; rw [e, n4]; rfl
    · show ((Ieee.double.read x).quotient 54 (Ieee.double.read y)).map _ = none; rw [e, n6]; rfl
theorem aop_is {op : BinOp} {x y : Nat} (hx : x ≤ 18446744073709551615) (hy : y ≤ 18446744073709551615) (ho : Ari op) : aop op (af x) (af y) = floatBits op .f64 x y := by
  cases h1 : isN x
  · cases h2 : isN y
    · rw [af_some h1, af_some h2]; rfl
    · rw [af_none h2, bits_nan hx hy (.inr h2) ho]; unfold aop; split <;> simp_all
  · rw [af_none h1, bits_nan hx hy (.inl h1) ho]; rfl
def pick (q : Question) (W : World) : Nat := q.cut (W.tape W.drawn q)
theorem nan_word (t : Nat) : (t % 2) * 2 ^ 63 + 0x7ff0000000000000 + 1 + (t / 2) % (2 ^ 52 - 1) ≤ 18446744073709551615 ∧ isN ((t % 2) * 2 ^ 63 + 0x7ff0000000000000 + 1 + (t / 2) % (2 ^ 52 - 1)) = true := by
  have h1 : t % 2 < 2 := Nat.mod_lt _ (by omega)
  have h2 : (t / 2) % (2 ^ 52 - 1) < 2 ^ 52 - 1 := Nat.mod_lt _ (by omega)
  generalize t % 2 = a at *
  generalize (t / 2) % (2 ^ 52 - 1) = b at *
  refine ⟨by omega, ?_⟩
  unfold isN
  rw [decide_eq_true_iff]
  omega
theorem pick_nan (x y : Nat) (W : World) : pick (.nanBits .f64 x y) W ≤ 18446744073709551615 ∧ isN (pick (.nanBits .f64 x y) W) = true := nan_word _
/-- the world has drawn, no more -/
def Dr (w w' : World) : Prop := ∃ n, w' = w.drewN n
theorem Dr.refl (w : World) : Dr w w := ⟨0, rfl⟩
theorem Dr.trans {a b c : World} (h : Dr a b) (k : Dr b c) : Dr a c := by
  obtain ⟨n, rfl⟩ := h
  obtain ⟨m, rfl⟩ := k
  exact ⟨n + m, by simp⟩
/-- an operation of the machine: a float that is what it comes to, and no more than draws -/
theorem run_op {P : Program} (op : BinOp) (t : TypeId) {x y : Nat} (hx : x ≤ 18446744073709551615) (hy : y ≤ 18446744073709551615) (ho : Ari op) (W : World) :
    ∃ r W', (binOp op t (.float .f64 x) (.float .f64 y)).run P W = .ok (.float .f64 r) W' ∧ Dr W W' ∧ af r = aop op (af x) (af y) ∧ r ≤ 18446744073709551615 := by
  rw [aop_is hx hy ho]
  cases h : floatBits op .f64 x y with
  | some r =>
    have hw := floatBits_wf h
    have : r < 18446744073709551616 := by simpa [Lit.wf] using hw
    exact ⟨r, W, run_float_arith W op t .f64 x y r h, Dr.refl W, af_some (bits_notN h), by omega⟩
  | none =>
    have hp := pick_nan x y W
    refine ⟨pick (.nanBits .f64 x y) W, W.drew, ?_, ⟨1, rfl⟩, af_none hp.2, hp.1⟩
    unfold floatBits at h
    rcases ho with rfl | rfl | rfl | rfl
    all_goals
      simp only at h
      simp [binOp, Op.floatArith, h, run_choose_drew, Question.forced, pick, Result.andThen]
/-- the four operations, by name -/
theorem run_addG {P : Program} (t : TypeId) {x y : Nat} (hx : x ≤ 18446744073709551615) (hy : y ≤ 18446744073709551615) (W : World) : ∃ r W', (binOp .add t (.float .f64 x) (.float .f64 y)).run P W = .ok (.float .f64 r) W' ∧ Dr W W' ∧ af r = aop .add (af x) (af y) ∧ r ≤ 18446744073709551615 := run_op _ t hx hy (.inl rfl) W
theorem run_subG {P : Program} (t : TypeId) {x y : Nat} (hx : x ≤ 18446744073709551615) (hy : y ≤ 18446744073709551615) (W : World) : ∃ r W', (binOp .sub t (.float .f64 x) (.float .f64 y)).run P W = .ok (.float .f64 r) W' ∧ Dr W W' ∧ af r = aop .sub (af x) (af y) ∧ r ≤ 18446744073709551615 := run_op _ t hx hy (.inr (.inl rfl)) W
theorem run_mul {P : Program} (t : TypeId) {x y : Nat} (hx : x ≤ 18446744073709551615) (hy : y ≤ 18446744073709551615) (W : World) : ∃ r W', (binOp .mul t (.float .f64 x) (.float .f64 y)).run P W = .ok (.float .f64 r) W' ∧ Dr W W' ∧ af r = aop .mul (af x) (af y) ∧ r ≤ 18446744073709551615 := run_op _ t hx hy (.inr (.inr (.inl rfl))) W
theorem run_quo {P : Program} (t : TypeId) {x y : Nat} (hx : x ≤ 18446744073709551615) (hy : y ≤ 18446744073709551615) (W : World) : ∃ r W', (binOp .quo t (.float .f64 x) (.float .f64 y)).run P W = .ok (.float .f64 r) W' ∧ Dr W W' ∧ af r = aop .quo (af x) (af y) ∧ r ≤ 18446744073709551615 := run_op _ t hx hy (.inr (.inr (.inr rfl))) W
/-- order -/
def aord (a b : Option Nat) : Option Ordering := match a, b with
  | some x, some y => Ieee.double.order x y
  | _, _ => none
theorem aord_is {x y : Nat} (hx : x ≤ 18446744073709551615) (hy : y ≤ 18446744073709551615) : aord (af x) (af y) = FloatKind.f64.format.order x y := by
  show _ = (Ieee.double.read x).order (Ieee.double.read y)
  cases h1 : isN x
  · cases h2 : isN y
    · rw [af_some h1, af_some h2]; rfl
    · rw [af_none h2]
      obtain ⟨s, f, e⟩ := (read_isN y hy).1 h2
      rw [e]
      have : aord (af x) none = none := by unfold aord; split <;> simp_all
      rw [this]
      cases Ieee.double.read x <;> rfl
  · rw [af_none h1]
    obtain ⟨s, f, e⟩ := (read_isN x hx).1 h1
    rw [e]
    have : aord none (af y) = none := rfl
    rw [this]
    cases Ieee.double.read y <;> rfl
def gtA (a b : Option Nat) : Bool := aord a b == some .gt
def ltA (a b : Option Nat) : Bool := aord a b == some .lt
def eqA (a b : Option Nat) : Bool := aord a b == some .eq
def geA (a b : Option Nat) : Bool := aord a b == some .gt || aord a b == some .eq
theorem gt_is {x y : Nat} (hx : x ≤ 18446744073709551615) (hy : y ≤ 18446744073709551615) : gtA (af x) (af y) = (FloatKind.f64.format.order x y == some .gt) := by unfold gtA; rw [aord_is hx hy]
theorem lt_is {x y : Nat} (hx : x ≤ 18446744073709551615) (hy : y ≤ 18446744073709551615) : ltA (af x) (af y) = (FloatKind.f64.format.order x y == some .lt) := by unfold ltA; rw [aord_is hx hy]
theorem eq_is {x y : Nat} (hx : x ≤ 18446744073709551615) (hy : y ≤ 18446744073709551615) : eqA (af x) (af y) = (FloatKind.f64.format.order x y == some .eq) := by unfold eqA; rw [aord_is hx hy]
/-- sizes, and signs turned -/
def absA (a : Option Nat) : Option Nat := a.map (· % 9223372036854775808)
def negA (a : Option Nat) : Option Nat := a.map (fun x => if 9223372036854775808 ≤ x then x - 9223372036854775808 else x + 9223372036854775808)
theorem abs_is (x : Nat) : af (x % 9223372036854775808) = absA (af x) := by
  unfold af absA isN
  rw [Nat.mod_mod]
  split <;> rfl
theorem neg_is {x : Nat} (hx : x ≤ 18446744073709551615) : af (if 9223372036854775808 ≤ x then x - 9223372036854775808 else x + 9223372036854775808) = negA (af x) := by
  have e : isN (if 9223372036854775808 ≤ x then x - 9223372036854775808 else x + 9223372036854775808) = isN x := by
    unfold isN
    split
    · rw [show (x - 9223372036854775808) % 9223372036854775808 = x % 9223372036854775808 by omega]
    · rw [show (x + 9223372036854775808) % 9223372036854775808 = x % 9223372036854775808 by omega]
  unfold af negA
  rw [e]
  split <;> rfl
theorem xor_low (c : Nat) (hc : c < 2 ^ 63) : c ^^^ 2 ^ 63 = 2 ^ 63 + c := by
  have h := Nat.two_pow_add_eq_or_of_lt hc 1
  rw [Nat.mul_one] at h
  rw [h]
  apply Nat.eq_of_testBit_eq
  intro i
  rw [Nat.testBit_xor, Nat.testBit_or, Nat.testBit_two_pow]
  by_cases e : 63 = i
  · subst e; rw [Nat.testBit_lt_two_pow hc]; rfl
  · simp [e]

theorem xor_sign_nat (a : Nat) (ha : a < 18446744073709551616) : a ^^^ 9223372036854775808 = if 9223372036854775808 ≤ a then a - 9223372036854775808 else a + 9223372036854775808 := by
  by_cases c : 9223372036854775808 ≤ a
  · rw [if_pos c]
    have h := xor_low (a - 9223372036854775808) (by omega)
    have e : 2 ^ 63 + (a - 9223372036854775808) = a := by omega
    rw [e] at h
    have h2 : a ^^^ 2 ^ 63 = (a - 9223372036854775808) ^^^ 2 ^ 63 ^^^ 2 ^ 63 := by rw [h]
    rw [Nat.xor_assoc, Nat.xor_self, Nat.xor_zero] at h2
    exact h2
  · rw [if_neg c]
    have h := xor_low a (by omega)
    have e : 2 ^ 63 + a = a + 9223372036854775808 := by omega
    rw [e] at h
    exact h

/-- a float with its sign turned -/
theorem run_neg {P : Program} {x : Nat} (hx : x ≤ 18446744073709551615) : ∃ r, (∀ W : World, (Op.unary .neg (.float .f64 x)).run P W = .ok (.float .f64 r) W) ∧ af r = negA (af x) ∧ r ≤ 18446744073709551615 := by
  refine ⟨_, fun W => ?_, neg_is hx, by split <;> omega⟩
  have e : Op.negFloat .f64 x = if 9223372036854775808 ≤ x then x - 9223372036854775808 else x + 9223372036854775808 := xor_sign_nat x (by omega)
  rw [← e]; rfl
theorem ge_is {x y : Nat} (hx : x ≤ 18446744073709551615) (hy : y ≤ 18446744073709551615) : geA (af x) (af y) = (FloatKind.f64.format.order x y == some .gt || FloatKind.f64.format.order x y == some .eq) := by unfold geA; rw [aord_is hx hy]
/-- a root -/
def asq (a : Option Nat) : Option Nat := a.bind Ieee.double.sqrt
theorem root_notN {x r : Nat} (h : Ieee.double.sqrt x = some r) : isN r = false := map_notN (root_ok _ _) h
theorem asq_is {x : Nat} (hx : x ≤ 18446744073709551615) : asq (af x) = Ieee.double.sqrt x := by
  cases h1 : isN x
  · rw [af_some h1]; rfl
  · rw [af_none h1]
    obtain ⟨s, f, e⟩ := (read_isN x hx).1 h1
    show none = ((Ieee.double.read x).root _).map _
    rw [e]; rfl
/-- the same float: all NaNs are one -/
theorem same_af {x y : Nat} (h : af x = af y) : (isN x = true ∧ isN y = true) ∨ (isN x = false ∧ x = y) := by
  unfold af at h
  cases h1 : isN x <;> cases h2 : isN y <;> rw [h1, h2] at h <;> simp at h
  · exact .inr ⟨rfl, h⟩
  · exact .inl ⟨rfl, rfl⟩
theorem order_self_is {x : Nat} (hx : x ≤ 18446744073709551615) (h : isN x = true) : (FloatKind.f64.format.order x x != some .eq) = true := by
  rw [← aord_is hx hx, af_none h]; rfl
end Go.Proofs.YtmfikppnkjhmjaaGreatDoor
namespace Go.Proofs.YtmfikppnkjhmjaaGreatDoor
open Go Go.RowKit
set_option linter.unusedVariables false
set_option linter.unusedSimpArgs false

theorem run_float64bitsG (n : Nat) (w : World) : (callFunc 45 #[.float .f64 n]).run Tryz.prog w = .ok (.value (.int .u64 (n : Int))) w := by
  rw [run_callFunc_extern (e := Extern.MathFloatBits.float64bits) Tryz.func45 (by kernel_rfl) (by kernel_rfl) (by kernel_rfl) (by kernel_rfl)]; rfl
theorem run_float64frombitsG (x : Int) (w : World) : (callFunc 47 #[.int .u64 x]).run Tryz.prog w = .ok (.value (.float .f64 x.toNat)) w := by
  rw [run_callFunc_extern (e := Extern.MathFloatBits.float64frombits) Tryz.func47 (by kernel_rfl) (by kernel_rfl) (by kernel_rfl) (by kernel_rfl)]; rfl
/-- a float is handed back that is so far f; no more than draws -/
def FP (f : Option Nat) (w : World) (e : Ending) (w' : World) : Prop := ∃ r, e = .returned (.float .f64 r) ∧ af r = f ∧ r ≤ 18446744073709551615 ∧ w = w'
def FA (f : Option Nat) (w : World) (e : Ending) (w' : World) : Prop := ∃ r, e = .returned (.float .f64 r) ∧ af r = f ∧ r ≤ 18446744073709551615 ∧ Dr w w'
theorem ext_sqrt (y : Nat) : Extern.MathSqrt.sqrt #[.float .f64 y] = (match FloatKind.f64.format.sqrt y with
    | some r => pure (.float .f64 r)
    | none => do pure (.float .f64 (← choose (.nanBits .f64 y y)))) := rfl
theorem run_root {x : Nat} (hx : x ≤ 18446744073709551615) (W : World) :
    ∃ r W', (callFunc 74 #[.float .f64 x]).run Tryz.prog W = .ok (.value (.float .f64 r)) W' ∧ Dr W W' ∧ af r = asq (af x) ∧ r ≤ 18446744073709551615 := by
  rw [asq_is hx]
  rw [run_callFunc_extern (e := Extern.MathSqrt.sqrt) Tryz.func74 (by kernel_rfl) (by kernel_rfl) (by kernel_rfl) (by kernel_rfl), ext_sqrt]
  cases h : Ieee.double.sqrt x with
  | some r =>
    have h2 : FloatKind.f64.format.sqrt x = some r := h
    rw [h2]
    have hlt : r < 2 ^ Ieee.double.width := Ieee.Format.sqrt_lt Ieee.double h
    rw [show (2 : Nat) ^ Ieee.double.width = 18446744073709551616 by decide] at hlt
    exact ⟨r, W, rfl, Dr.refl W, af_some (root_notN h), by omega⟩
  | none =>
    have h2 : FloatKind.f64.format.sqrt x = none := h
    rw [h2]
    have hp := pick_nan x x W
    refine ⟨pick (.nanBits .f64 x x) W, W.drew, ?_, ⟨1, rfl⟩, af_none hp.2, hp.1⟩
    simp [run_choose_drew, Question.forced, pick, Result.andThen]

set_option maxHeartbeats 400000 in
theorem sqrt_any {x : Nat} (hx : x ≤ 18446744073709551615) (w : World) : Calls Tryz.prog 46 #[.float .f64 x] w (FA (asq (af x)) w) := by
  obtain ⟨r, w1, e1, d1, h1, b1⟩ := run_root hx w
  have H1 := Lib.hid h1
  clear h1
  go_enter Tryz.func46, Tryz.ntmps46
  go_wp2_with fail
  go_ret
  exact ⟨r, rfl, H1.out, b1, d1⟩

set_option maxHeartbeats 400000 in
theorem rAbs_any {x : Nat} (hx : x ≤ 18446744073709551615) (w : World) : Calls Tryz.prog 20 #[.float .f64 x] w (FP (absA (af x)) w) := by
  have hb := run_float64bitsG x
  have hf := run_float64frombitsG (x % 9223372036854775808 : Nat)
  have e1 : IntKind.u64.wrap ((x : Int) * 2) / 2 = ((x % 9223372036854775808 : Nat) : Int) := by rw [IntKind.wrap_u64]; omega
  have h9 := abs_is x
  rw [Int.toNat_natCast] at hf
  have H9 := Lib.hid h9
  have b9 : x % 9223372036854775808 ≤ 18446744073709551615 := by omega
  generalize x % 9223372036854775808 = y at *
  clear h9
  go_enter Tryz.func20, Tryz.ntmps20
  go_wp2_with fail
  go_ret
  exact ⟨_, rfl, H9.out, b9, rfl⟩

set_option maxHeartbeats 1000000 in
theorem rSame_any {x y : Nat} (hx : x ≤ 18446744073709551615) (hy : y ≤ 18446744073709551615) (h : af x = af y) (w : World) :
    Calls Tryz.prog 18 #[.float .f64 x, .float .f64 y] w fun e w' => e = .returned (.bool true) ∧ w = w' := by
  have bx := run_float64bitsG x
  have by9 := run_float64bitsG y
  rcases same_af h with ⟨h1, h2⟩ | ⟨h1, rfl⟩
  · have o1 := order_self_is hx h1
    have o2 := order_self_is hy h2
    clear h h1 h2
    go_enter Tryz.func18, Tryz.ntmps18
    go_wp2_with fail
    go_ret
    exact ⟨rfl, rfl⟩
  · clear h h1
    cases d : (FloatKind.f64.format.order x x != some .eq)
    · go_enter Tryz.func18, Tryz.ntmps18
      go_wp2_with fail
      go_ret
      exact ⟨rfl, rfl⟩
    · go_enter Tryz.func18, Tryz.ntmps18
      go_wp2_with fail
      go_ret
      exact ⟨rfl, rfl⟩
end Go.Proofs.YtmfikppnkjhmjaaGreatDoor
namespace Go.Proofs.YtmfikppnkjhmjaaGreatDoor
open Go Go.RowKit
set_option linter.unusedVariables false
set_option linter.unusedSimpArgs false

/-- sqrt(1 + t * t) -/
def rootA (t : Option Nat) : Option Nat := asq (aop .add (some 4607182418800017408) (aop .mul t t))
def hyp2A (p q : Option Nat) : Option Nat := if eqA p (some 0) then p else aop .mul p (rootA (aop .quo q p))
def hypA (a b : Option Nat) : Option Nat := if gtA (absA b) (absA a) then hyp2A (absA b) (absA a) else hyp2A (absA a) (absA b)
theorem af_zero : af 0 = some 0 := by decide
theorem af_one : af 4607182418800017408 = some 4607182418800017408 := by decide
theorem af_two : af 4611686018427387904 = some 4611686018427387904 := by decide
theorem af_half : af 4602678819172646912 = some 4602678819172646912 := by decide
theorem af_mhalf : af 13826050856027422720 = some 13826050856027422720 := by decide
/-- three floats are handed back -/
def FA3 (p : Option Nat × Option Nat × Option Nat) (w : World) (e : Ending) (w' : World) : Prop := ∃ a b c, e = .returned (.tuple #[.float .f64 a, .float .f64 b, .float .f64 c]) ∧ (af a = p.1 ∧ af b = p.2.1 ∧ af c = p.2.2) ∧ a ≤ 18446744073709551615 ∧ b ≤ 18446744073709551615 ∧ c ≤ 18446744073709551615 ∧ Dr w w'
def rot1A (t f : Option Nat) : Option Nat × Option Nat × Option Nat := (aop .quo (some 4607182418800017408) (rootA t), aop .mul (aop .quo (some 4607182418800017408) (rootA t)) t, aop .mul f (rootA t))
def givA (f g : Option Nat) : Option Nat × Option Nat × Option Nat :=
  if eqA g (some 0) then (some 4607182418800017408, some 0, f) else if eqA f (some 0) then (some 0, some 4607182418800017408, g) else
  if gtA (absA f) (absA g) then rot1A (aop .quo g f) f else ((rot1A (aop .quo f g) g).2.1, (rot1A (aop .quo f g) g).1, (rot1A (aop .quo f g) g).2.2)
end Go.Proofs.YtmfikppnkjhmjaaGreatDoor
namespace Go.Proofs.YtmfikppnkjhmjaaGreatDoor
open Go Go.RowKit
set_option linter.unusedVariables false
set_option linter.unusedSimpArgs false

/-- the entry i of a list; 0, where there is none -/
def DG (l : List Int) (i : Nat) : Int := l.getD i 0
theorem D_outG {l : List Int} {i : Nat} (h : l.length ≤ i) : DG l i = 0 := by simp [DG, List.getElem?_eq_none h]
theorem D_inG {l : List Int} {i : Nat} (h : i < l.length) : DG l i = l[i] := by simp [DG, h]
theorem D_cons_zeroG (x : Int) (l : List Int) : DG (x :: l) 0 = x := by simp [DG]
theorem D_cons_succG (x : Int) (l : List Int) (i : Nat) : DG (x :: l) (i + 1) = DG l i := by simp [DG]
theorem D_setG {l : List Int} {i : Nat} (v : Int) (j : Nat) (hi : i < l.length) : DG (l.set i v) j = if j = i then v else DG l j := by
  unfold DG
  by_cases h : j = i
  · subst h; simp [hi]
  · rw [if_neg h, List.getD_eq_getElem?_getD, List.getD_eq_getElem?_getD, List.getElem?_set_ne (by omega)]
theorem D_takeG (l : List Int) (k j : Nat) : DG (l.take k) j = if j < k then DG l j else 0 := by
  unfold DG
  rw [List.getD_eq_getElem?_getD, List.getD_eq_getElem?_getD, List.getElem?_take]
  split <;> simp
theorem D_dropG (l : List Int) (k j : Nat) : DG (l.drop k) j = DG l (k + j) := by
  unfold DG
  rw [List.getD_eq_getElem?_getD, List.getD_eq_getElem?_getD, List.getElem?_drop]
theorem D_appendG (l m : List Int) (j : Nat) : DG (l ++ m) j = if j < l.length then DG l j else DG m (j - l.length) := by
  unfold DG
  rw [List.getD_eq_getElem?_getD, List.getD_eq_getElem?_getD, List.getD_eq_getElem?_getD, List.getElem?_append]
  split <;> rfl
theorem add_blockG (a : Addr) (n : Nat) : (a.add n).block = a.block := by unfold Addr.add; split <;> rfl
theorem add_addG (a : Addr) (i j : Nat) : (a.add i).add j = a.add (i + j) := by
  unfold Addr.add
  by_cases hi : i = 0 <;> by_cases hj : j = 0 <;> simp [hi, hj, Nat.add_assoc]
theorem add_atG (g o k : Nat) : (⟨g, o, none⟩ : Addr).add k = ⟨g, o + k, none⟩ := by
  unfold Addr.add
  by_cases hk : k = 0 <;> simp [hk]

abbrev fV (x : Int) : Value := .float .f64 x.toNat
def LF (l : List Int) : List Value := l.map fV
theorem LF_length (l : List Int) : (LF l).length = l.length := by simp [LF]
theorem LF_get {l : List Int} {k : Nat} (h : k < l.length) : (LF l)[k]? = some (.float .f64 (DG l k).toNat) := by
  simp [LF, DG, h]
theorem LF_one (l : List Int) : ∀ u ∈ LF l, u.oneCell' = true := by intro u hu; unfold LF at hu; obtain ⟨x, _, rfl⟩ := List.mem_map.1 hu; rfl

/-- the slice '.slice A l.length c' reads as l, in a block below B -/
def NumF (w : World) (B : Nat) (A : Option Addr) (c : Nat) (l : List Int) : Prop :=
  l.length ≤ c ∧ c ≤ maxLen ∧ (0 < l.length → ∃ ad, A = some ad ∧ ad.block < B ∧ ∀ k, k < l.length → w.cell? (ad.add k) = some (.float .f64 (DG l k).toNat))

/-- the block g is just the numbers of l -/
def RowF (w : World) (g : Nat) (l : List Int) : Prop := w.heap[g]? = some (.cells (LF l).toArray 22 (0, 0))

/-- the slice '.slice A l.length c' is the call's own (from block 'base' on) and reads as l -/
def OwnF (w : World) (base : Nat) (A : Option Addr) (c : Nat) (l : List Int) : Prop := w.ownsRow base 22 1 (.slice A l.length c) l.length (LF l)

section
variable {w w' : World} {B B' c g : Nat} {A : Option Addr} {l : List Int}

theorem NumF.nil (w : World) (B : Nat) : NumF w B none 0 [] := ⟨by simp, by unfold maxLen; omega, fun h => by simp at h⟩
theorem NumF.empty (w : World) (B : Nat) (A : Option Addr) (hc : c ≤ maxLen) : NumF w B A c [] := ⟨by simp, hc, fun h => by simp at h⟩
theorem NumF.le (h : NumF w B A c l) : l.length ≤ c := h.1
theorem NumF.max (h : NumF w B A c l) : c ≤ maxLen := h.2.1
theorem NumF.max' (h : NumF w B A c l) : c ≤ 9223372036854775807 := by have := h.2.1; unfold maxLen at this; omega
theorem NumF.at_ {k : Nat} (h : NumF w B A c l) (hk : k < l.length) : ∃ ad, A = some ad ∧ ad.block < B ∧ w.cell? (ad.add k) = some (.float .f64 (DG l k).toNat) := by
  obtain ⟨ad, e, hb, hc⟩ := h.2.2 (by omega)
  exact ⟨ad, e, hb, hc k hk⟩
theorem NumF.at_some {k : Nat} {ad : Addr} (h : NumF w B (some ad) c l) (hk : k < l.length) : w.cell? (ad.add k) = some (.float .f64 (DG l k).toNat) := by
  obtain ⟨ad', e, hb, hc⟩ := h.2.2 (by omega)
  injection e with e; subst e
  exact hc k hk
theorem NumF.some_ (h : NumF w B A c l) (hk : 0 < l.length) : ∃ ad, A = some ad ∧ ad.block < B := by
  obtain ⟨ad, e, hb, hc⟩ := h.2.2 (by omega)
  exact ⟨ad, e, hb⟩
theorem NumF.keep (h : NumF w B A c l) (hk : ∀ p : Addr, p.block < B → w'.cell? p = w.cell? p) : NumF w' B A c l :=
  ⟨h.1, h.2.1, fun hn => by
    obtain ⟨ad, e, hb, hc⟩ := h.2.2 hn
    exact ⟨ad, e, hb, fun k hk' => (hk _ (by rw [add_blockG]; exact hb)).trans (hc k hk')⟩⟩
theorem NumF.more (h : NumF w B A c l) (hB : B ≤ B') : NumF w B' A c l :=
  ⟨h.1, h.2.1, fun hn => by
    obtain ⟨ad, e, hb, hc⟩ := h.2.2 hn
    exact ⟨ad, e, by omega, hc⟩⟩
theorem NumF.below (h : NumF w B A c l) (hb : Below B w w') : NumF w' B A c l := h.keep fun _ hp => hb.cell hp
/-- what lay in the caller's memory, in the callee's world -/
theorem NumF.on (h : NumF w B A c l) (hb : Below B w w') (hB : B ≤ w.heap.size) : NumF w' w'.heap.size A c l := (h.below hb).more (by have := hb.size; omega)
theorem NumF.drew (h : NumF w B A c l) : NumF w.drew B A c l := h
theorem NumF.drewN (h : NumF w B A c l) (k : Nat) : NumF (w.drewN k) B A c l := h
theorem NumF.alloc (h : NumF w B A c l) (hB : B ≤ w.heap.size) (o : Obj) : NumF (w.alloc o) B A c l := h.keep fun p hp => World.cell?_alloc_lt w o p (by omega)
theorem NumF.setCell (h : NumF w B A c l) {p : Addr} (hB : B ≤ p.block) (u : Value) : NumF (w.setCell p u) B A c l :=
  h.keep fun q hq => World.cell?_setCell_other w p q u (fun e => by subst e; omega)
theorem NumF.grown (h : NumF w B A c l) {row : Option Nat} (hg : w.grownBy w' row) (hB : B ≤ w.heap.size) (hr : ∀ g, row = some g → B ≤ g) : NumF w' B A c l :=
  h.keep fun p hp => World.cell?_of_block (hg.block p.block (by omega) (fun e => by have := hr _ e.symm; omega))
theorem NumF.take (h : NumF w B A c l) (k : Nat) : NumF w B A c (l.take k) :=
  ⟨by rw [List.length_take]; have := h.1; omega, h.2.1, fun hn => by
    rw [List.length_take] at hn
    obtain ⟨ad, e, hb, hc⟩ := h.2.2 (by omega)
    refine ⟨ad, e, hb, fun j hj => ?_⟩
    rw [List.length_take] at hj
    rw [hc j (by omega), D_takeG, if_pos (by omega)]⟩
theorem NumF.length (h : NumF w B A c l) : l.length ≤ 9223372036854775807 := Nat.le_trans h.1 h.max'

theorem RowF.lt (h : RowF w g l) : g < w.heap.size := lt_of_block h
theorem RowF.cell (h : RowF w g l) {k : Nat} (hk : k < l.length) : w.cell? ⟨g, k, none⟩ = some (.float .f64 (DG l k).toNat) := by
  rw [cell_of_row w g k _ _ (0, 0) h]
  simpa using LF_get hk
theorem RowF.frozen (h : RowF w g l) (k : Nat) : w.frozen? ⟨g, k, none⟩ = false := by
  unfold RowF at h
  simp [World.frozen?, h]
theorem RowF.new (w : World) (l : List Int) : RowF (w.alloc (.cells (LF l).toArray 22)) w.heap.size l := heap_alloc_new w _
theorem RowF.one (w : World) (x : Int) : RowF (w.alloc (.cells #[fV x] 22)) w.heap.size [x] := heap_alloc_new w _
theorem RowF.drew (h : RowF w g l) : RowF w.drew g l := h
theorem RowF.drewN (h : RowF w g l) (n : Nat) : RowF (w.drewN n) g l := h
theorem RowF.alloc (h : RowF w g l) (o : Obj) : RowF (w.alloc o) g l := (Below.heap_alloc w o g h.lt).trans h
theorem RowF.set_ (h : RowF w g l) (k : Nat) (v : Int) : RowF (w.setCell ⟨g, k, none⟩ (fV v)) g (l.set k v) := by
  unfold RowF at h ⊢
  simp [World.setCell, Array.getElem?_modify, h, LF, List.map_set]
theorem RowF.far (h : RowF w g l) {p : Addr} (hp : g ≠ p.block) (u : Value) : RowF (w.setCell p u) g l := (Below.heap_setCell w p u g hp).trans h
theorem RowF.below (h : RowF w g l) (hb : Below B w w') (hg : g < B) : RowF w' g l := (hb.block g hg).trans h
theorem RowF.grown (h : RowF w g l) {row : Option Nat} (hb : w.grownBy w' row) (hg : some g ≠ row) : RowF w' g l := (hb.block g h.lt hg).trans h
theorem RowF.nums (h : RowF w g l) (o n : Nat) (hn : o + n ≤ l.length) (hc : n ≤ c) (hm : c ≤ maxLen) (hB : g < B) : NumF w B (some ⟨g, o, none⟩) c ((l.drop o).take n) := by
  have e : ((l.drop o).take n).length = n := by rw [List.length_take, List.length_drop]; omega
  refine ⟨by omega, hm, fun _ => ⟨_, rfl, hB, fun k hk => ?_⟩⟩
  rw [e] at hk
  rw [add_atG, h.cell (by omega), D_takeG, if_pos hk, D_dropG]
theorem RowF.own (h : RowF w g l) (n : Nat) (hn : n ≤ l.length) (hm : l.length ≤ maxLen) (hB : B ≤ g) : OwnF w B (some ⟨g, 0, none⟩) l.length (l.take n) := by
  have e : (l.take n).length = n := by rw [List.length_take]; omega
  unfold OwnF
  rw [e]
  refine ⟨by rw [LF_length, e]; omega, .inr ⟨g, l.length, _, rfl, hB, h, hn, hm, by simp [LF], ?_⟩⟩
  simp [LF, List.map_take]
theorem OwnF.nil (w : World) (B : Nat) : OwnF w B none 0 [] := World.ownsRow_nil w B _ 1
theorem OwnF.nums (h : OwnF w B A c l) : NumF w w.heap.size A c l := by
  have hc : l.length ≤ c ∧ c ≤ maxLen := by
    rcases h.2 with ⟨h1, h2⟩ | ⟨g, cap, cur, hv, _, _, h3, h4, _⟩
    · injection h1 with _ _ h1; unfold maxLen; omega
    · injection hv with _ _ h1; omega
  refine ⟨hc.1, hc.2, fun hn => ?_⟩
  obtain ⟨g, cap, hv, _, hlt⟩ := World.ownsRow.form h hn
  have hA : A = some ⟨g, 0, none⟩ := by injection hv
  subst hA
  refine ⟨_, rfl, hlt, fun k hk => World.ownsRow.cells h (g := g) rfl k _ (LF_get hk)⟩
theorem OwnF.below (h : OwnF w B A c l) (hb : Below w.heap.size w w') : OwnF w' B A c l := by
  rcases h with ⟨h1, h2⟩
  refine ⟨h1, h2.imp id fun ⟨g, cap, cur, hv, hg, hh, r⟩ => ⟨g, cap, cur, hv, hg, (hb.block g (lt_of_block hh)).trans hh, r⟩⟩
theorem OwnF.alloc_ (h : OwnF w B A c l) (o : Obj) : OwnF (w.alloc o) B A c l := World.ownsRow.alloc h o
theorem OwnF.less (h : OwnF w B A c l) (hB : B' ≤ B) : OwnF w B' A c l := by
  rcases h with ⟨h1, h2⟩
  exact ⟨h1, h2.imp id fun ⟨g, cap, cur, hv, hg, r⟩ => ⟨g, cap, cur, hv, by omega, r⟩⟩
theorem OwnF.form (h : OwnF w B A c l) (hn : 0 < l.length) : ∃ g, A = some ⟨g, 0, none⟩ ∧ B ≤ g ∧ g < w.heap.size := by
  obtain ⟨g, cap, hv, hg, hlt⟩ := World.ownsRow.form h hn
  injection hv with hA
  exact ⟨g, hA, hg, hlt⟩

end
/-- words -/
def Wd (l : List Int) : Prop := ∀ x ∈ l, 0 ≤ x ∧ x ≤ 18446744073709551615
theorem Wd.at_ {l : List Int} (h : Wd l) (k : Nat) : 0 ≤ DG l k ∧ DG l k ≤ 18446744073709551615 := by
  rcases Nat.lt_or_ge k l.length with hk | hk
  · rw [D_inG hk]; exact h _ (List.getElem_mem _)
  · rw [D_outG hk]; decide
/-- a list of floats in memory -/
def FL (w : World) (A : Option Addr) (n c : Nat) (l : List Int) : Prop := l.length = n ∧ NumF w w.heap.size A c l ∧ Wd l
section
variable {w w' : World} {A : Option Addr} {n c : Nat} {l : List Int}
theorem FL.on (h : FL w A n c l) (hb : Below w.heap.size w w') : FL w' A n c l := ⟨h.1, h.2.1.on hb (Nat.le_refl _), h.2.2⟩
theorem FL.at_ (h : FL w A n c l) {k : Nat} (hk : k < n) : ∃ ad, A = some ad ∧ ad.block < w.heap.size ∧ w.cell? (ad.add k) = some (.float .f64 (DG l k).toNat) := h.2.1.at_ (by rw [h.1]; exact hk)
theorem FL.max (h : FL w A n c l) : n ≤ 9223372036854775807 := by rw [← h.1]; exact h.2.1.length
theorem FL.nil (w : World) : FL w none 0 0 [] := ⟨rfl, NumF.nil _ _, fun x hx => by cases hx⟩
theorem FL.dr (h : FL w A n c l) (hd : Dr w w') : FL w' A n c l := by
  obtain ⟨k, rfl⟩ := hd
  exact h
theorem FL.alloc (h : FL w A n c l) (o : Obj) : FL (w.alloc o) A n c l := h.on ((Below.refl _ w).alloc (Nat.le_refl _) o)
theorem fl_built {W : World} {l : List Int} (hl : Wd l) (hm : l.length ≤ 1000) : FL (W.alloc (.cells (LF l).toArray 22)) (some ⟨W.heap.size, 0, none⟩) l.length l.length l := by
  have h := (RowF.new W l).nums (B := W.heap.size + 1) (c := l.length) 0 l.length (by omega) (Nat.le_refl _) (by unfold maxLen; omega) (by omega)
  refine ⟨rfl, ?_, hl⟩
  simpa using h
theorem take_next {k : Nat} (hk : k < l.length) : l.take (k + 1) = l.take k ++ [DG l k] := by
  rw [List.take_add_one, D_inG hk, List.getElem?_eq_getElem hk]; rfl
end
/-- scale and sum, one float on -/
def nrmS (p : Option Nat × Option Nat) (x : Option Nat) : Option Nat × Option Nat :=
  if eqA x (some 0) then p
  else if ltA p.1 (absA x) then (absA x, aop .add (some 4607182418800017408) (aop .mul (aop .mul p.2 (aop .quo p.1 (absA x))) (aop .quo p.1 (absA x))))
  else (p.1, aop .add p.2 (aop .mul (aop .quo (absA x) p.1) (aop .quo (absA x) p.1)))
def nrmL (l : List Int) : Option Nat × Option Nat := l.foldl (fun p x => nrmS p (af x.toNat)) (some 0, some 4607182418800017408)
def nrmA (l : List Int) : Option Nat := aop .mul (nrmL l).1 (asq (nrmL l).2)
theorem nrmL_next {l : List Int} {k : Nat} (hk : k < l.length) : nrmL (l.take (k + 1)) = nrmS (nrmL (l.take k)) (af (DG l k).toNat) := by
  unfold nrmL
  rw [take_next hk, List.foldl_append]
  rfl
end Go.Proofs.YtmfikppnkjhmjaaGreatDoor
