/-
  Layer 2, joined (wip/tools/merge.py): BitsA BitsB BitsR BitsC BitsS.
  Plain facts on words of 64 bits: masks, the sign's bit, a word's field, fraction and class.
  Walks of layer 1, part one: classes, signs, parts: the program's and the reference's.
  Rounding, in plain numbers: what the program's cut and the reference's doubling and halving come to.
  Walks of layer 1, part two: parts of words: the program's and the reference's; 'join', 'split'.
  Numbers that are just a float's, in plain numbers.
-/
import Derived.WalkKit
import Derived.Test.YtcdbjlmegkcaiaaGreatDoorProg
import Derived.WalkSpells
import Derived.WalkLawsBesides
import Derived.Deep.QuietTactic
import Derived.BigQuiet
import Derived.Lib.Hide
import Derived.Lib.BitFns
import Derived.Test.YtcdbjlmegkcaiaaGreatDoorShelf
import Derived.Handy
namespace Go.Bw
open Go
set_option linter.unusedVariables false

theorem wraps_u64 (n : Int) (h₀ : 0 ≤ n) (h₁ : n < 2 ^ 64) : IntKind.u64.wrap n = n := by
  rw [IntKind.wrap_u64]; omega

theorem and_mask (i : Nat) (hi : i ≤ 64) (x : Int) (h0 : 0 ≤ x) (h1 : x ≤ 18446744073709551615) : bits .and .u64 x (2 ^ i - 1) = x % 2 ^ i :=
  bits_mask .u64 64 (by decide) wraps_u64 i hi x h0 (by omega)

theorem and_field (x : Int) (h0 : 0 ≤ x) (h1 : x ≤ 18446744073709551615) : bits .and .u64 x 2047 = x % 2048 := by
  simpa using and_mask 11 (by omega) x h0 h1
theorem and_fraction (x : Int) (h0 : 0 ≤ x) (h1 : x ≤ 18446744073709551615) : bits .and .u64 x 4503599627370495 = x % 4503599627370496 := by
  simpa using and_mask 52 (by omega) x h0 h1
theorem and_15 (x : Int) (h0 : 0 ≤ x) (h1 : x ≤ 18446744073709551615) : bits .and .u64 x 15 = x % 16 := by
  simpa using and_mask 4 (by omega) x h0 h1
theorem and_1 (x : Int) (h0 : 0 ≤ x) (h1 : x ≤ 18446744073709551615) : bits .and .u64 x 1 = x % 2 := by
  simpa using and_mask 1 (by omega) x h0 h1

theorem and_sign_nat (a : Nat) (ha : a < 18446744073709551616) : a &&& 9223372036854775808 = a / 9223372036854775808 % 2 * 9223372036854775808 := by
  have h := and_bit_var 64 a 63 (by decide)
  simpa using h

theorem and_sign (x : Int) (h0 : 0 ≤ x) (h1 : x ≤ 18446744073709551615) :
    bits .and .u64 x 9223372036854775808 = if 9223372036854775808 ≤ x then 9223372036854775808 else 0 := by
  obtain ⟨a, rfl⟩ := Int.eq_ofNat_of_zero_le h0
  have h := bits_and_u64_nat a 9223372036854775808 (by omega) (by omega)
  rw [and_sign_nat a (by omega)] at h
  rw [show ((9223372036854775808 : Int)) = ((9223372036854775808 : Nat) : Int) from rfl, h]
  split <;> omega

theorem xor_low (c : Nat) (hc : c < 2 ^ 63) : c ^^^ 2 ^ 63 = 2 ^ 63 + c := by
  have h := Nat.two_pow_add_eq_or_of_lt hc 1
  rw [Nat.mul_one] at h
  rw [h]
  apply Nat.eq_of_testBit_eq
  intro i
  rw [Nat.testBit_xor, Nat.testBit_or, Nat.testBit_two_pow]
  by_cases e : 63 = i
  · subst e; rw [Nat.testBit_lt_two_pow hc]; rfl
  · simp [e]

theorem xor_sign_nat (a : Nat) (ha : a < 18446744073709551616) : a ^^^ 9223372036854775808 = if 9223372036854775808 ≤ a then a - 9223372036854775808 else a + 9223372036854775808 := by
  by_cases c : 9223372036854775808 ≤ a
  · rw [if_pos c]
    have h := xor_low (a - 9223372036854775808) (by omega)
    have e : 2 ^ 63 + (a - 9223372036854775808) = a := by omega
    rw [e] at h
    have h2 : a ^^^ 2 ^ 63 = (a - 9223372036854775808) ^^^ 2 ^ 63 ^^^ 2 ^ 63 := by rw [h]
    rw [Nat.xor_assoc, Nat.xor_self, Nat.xor_zero] at h2
    exact h2
  · rw [if_neg c]
    have h := xor_low a (by omega)
    have e : 2 ^ 63 + a = a + 9223372036854775808 := by omega
    rw [e] at h
    exact h

theorem xor_sign (x : Int) (h0 : 0 ≤ x) (h1 : x ≤ 18446744073709551615) :
    bits .xor .u64 x 9223372036854775808 = if 9223372036854775808 ≤ x then x - 9223372036854775808 else x + 9223372036854775808 := by
  obtain ⟨a, rfl⟩ := Int.eq_ofNat_of_zero_le h0
  have h := bits_xor_u64_nat a 9223372036854775808 (by omega) (by omega)
  rw [xor_sign_nat a (by omega)] at h
  rw [show ((9223372036854775808 : Int)) = ((9223372036854775808 : Nat) : Int) from rfl, h]
  split <;> split <;> omega

theorem or_hidden (f : Int) (h0 : 0 ≤ f) (h1 : f < 4503599627370496) : bits .or .u64 4503599627370496 f = 4503599627370496 + f :=
  bits_join .u64 64 (by decide) wraps_u64 52 4503599627370496 f (by decide) (by decide) (by decide) h0 (by omega) (by omega)

theorem or_comm (a b : Int) : bits .or .u64 a b = bits .or .u64 b a := by
  show IntKind.u64.wrap ((BitVec.ofInt 64 a ||| BitVec.ofInt 64 b).toNat : Int) = IntKind.u64.wrap ((BitVec.ofInt 64 b ||| BitVec.ofInt 64 a).toNat : Int)
  rw [BitVec.or_comm]

theorem sign_or (f : Int) (h0 : 0 ≤ f) (h1 : f < 9223372036854775808) : bits .or .u64 9223372036854775808 f = 9223372036854775808 + f :=
  bits_join .u64 64 (by decide) wraps_u64 63 9223372036854775808 f (by decide) (by decide) (by decide) h0 (by omega) (by omega)
theorem or_sign (f : Int) (h0 : 0 ≤ f) (h1 : f < 9223372036854775808) : bits .or .u64 f 9223372036854775808 = 9223372036854775808 + f := by
  rw [or_comm]; exact sign_or f h0 h1

/-- a nibble put behind others -/
theorem or_nibble (x d : Int) (hx : 0 ≤ x) (h16 : x % 16 = 0) (h1 : x ≤ 18446744073709551615) (h0 : 0 ≤ d) (hd : d < 16) : bits .or .u64 x d = x + d :=
  bits_join .u64 64 (by decide) wraps_u64 4 x d hx (by simpa using h16) (by omega) h0 (by simpa using hd) (by omega)

/-! ### a word's parts -/
def fld (x : Int) : Int := x / 4503599627370496 % 2048
def frc (x : Int) : Int := x % 4503599627370496
def cls (x : Int) : Int :=
  if fld x = 2047 then (if frc x = 0 then 4 else 5) else if fld x = 0 then (if frc x = 0 then 1 else 2) else 3
def nan : Int := 9221120237041090560
def one (x : Int) : Int := if cls x = 5 then nan else x
def flip (x : Int) : Int := if 9223372036854775808 ≤ x then x - 9223372036854775808 else x + 9223372036854775808
def negate (x : Int) : Int := if cls x = 5 then nan else flip x
/-- the word without its sign -/
def mag (x : Int) : Int := x % 9223372036854775808
def inf : Int := 9218868437227405312

theorem fld_bd (x : Int) : 0 ≤ fld x ∧ fld x ≤ 2047 := by unfold fld; omega
theorem frc_bd (x : Int) : 0 ≤ frc x ∧ frc x ≤ 4503599627370495 := by unfold frc; omega
theorem cls_bd (x : Int) : 1 ≤ cls x ∧ cls x ≤ 5 := by unfold cls; repeat' split <;> omega
theorem flip_bd (x : Int) (h0 : 0 ≤ x) (h1 : x ≤ 18446744073709551615) : 0 ≤ flip x ∧ flip x ≤ 18446744073709551615 := by
  unfold flip; split <;> omega
theorem fld_flip (x : Int) (h0 : 0 ≤ x) (h1 : x ≤ 18446744073709551615) : fld (flip x) = fld x := by
  unfold fld flip; split <;> omega
theorem frc_flip (x : Int) (h0 : 0 ≤ x) (h1 : x ≤ 18446744073709551615) : frc (flip x) = frc x := by
  unfold frc flip; split <;> omega
theorem cls_flip (x : Int) (h0 : 0 ≤ x) (h1 : x ≤ 18446744073709551615) : cls (flip x) = cls x := by
  unfold cls; rw [fld_flip x h0 h1, frc_flip x h0 h1]
theorem one_flip (x : Int) (h0 : 0 ≤ x) (h1 : x ≤ 18446744073709551615) : one (flip x) = negate x := by
  unfold one negate; rw [cls_flip x h0 h1]
theorem mag_eq (x : Int) (h0 : 0 ≤ x) (h1 : x ≤ 18446744073709551615) : mag x = fld x * 4503599627370496 + frc x := by
  unfold mag fld frc; omega
theorem one_bd (x : Int) (h0 : 0 ≤ x) (h1 : x ≤ 18446744073709551615) : 0 ≤ one x ∧ one x ≤ 18446744073709551615 := by
  unfold one nan; split <;> omega
theorem cls_one (x : Int) : cls (one x) = cls x := by
  unfold one; split
  · rename_i h; rw [h]; decide
  · rfl

/-- what the model's operations say of field and fraction -/
theorem field_op (x : Int) (h0 : 0 ≤ x) (h1 : x ≤ 18446744073709551615) : bits .and .u64 (x / 4503599627370496) 2047 = fld x :=
  and_field _ (by omega) (by omega)
theorem fraction_op (x : Int) (h0 : 0 ≤ x) (h1 : x ≤ 18446744073709551615) : bits .and .u64 x 4503599627370495 = frc x :=
  and_fraction x h0 h1
theorem sign_op (x : Int) (h0 : 0 ≤ x) (h1 : x ≤ 18446744073709551615) : (bits .and .u64 x 9223372036854775808 != 0) = decide (9223372036854775808 ≤ x) := by
  rw [and_sign x h0 h1]; split <;> simp [*]
theorem andnot_sign (x : Int) (h0 : 0 ≤ x) (h1 : x ≤ 18446744073709551615) : bits .andNot .u64 x 9223372036854775808 = mag x := by
  rw [u64_andNot x 9223372036854775808 h0 (by omega) (by decide) (by decide)]
  obtain ⟨a, rfl⟩ := Int.eq_ofNat_of_zero_le h0
  have e : (18446744073709551615 : Nat) - (9223372036854775808 : Int).toNat = 2 ^ 63 - 1 := by decide
  rw [e, Nat.and_two_pow_sub_one_eq_mod]
  unfold mag
  simp
end Go.Bw
namespace Go.Proofs.YtcdbjlmegkcaiaaGreatDoor
open Go.RowKit Go.Bw
set_option linter.unusedVariables false

theorem rtB_int {k : IntKind} {a b : Int} (h : a = b) : Ending.returned (.int k a) = .returned (.int k b) := by rw [h]
theorem rtB_bool {a b : Bool} (h : a = b) : Ending.returned (.bool a) = .returned (.bool b) := by rw [h]

set_option maxHeartbeats 400000 in
theorem field_any (x : Int) (h0 : 0 ≤ x) (h1 : x ≤ 18446744073709551615) (w : World) :
    Calls Tryz.prog 69 #[.int .u64 x] w fun e w' => e = .returned (.int .i64 (fld x)) ∧ w = w' := by
  have e := field_op x h0 h1
  have hb := fld_bd x
  go_enter Tryz.func69, Tryz.ntmps69
  go_wp2
  go_ret
  exact ⟨rfl, rfl⟩

set_option maxHeartbeats 400000 in
theorem fraction_any (x : Int) (h0 : 0 ≤ x) (h1 : x ≤ 18446744073709551615) (w : World) :
    Calls Tryz.prog 68 #[.int .u64 x] w fun e w' => e = .returned (.int .u64 (frc x)) ∧ w = w' := by
  have e := fraction_op x h0 h1
  go_enter Tryz.func68, Tryz.ntmps68
  go_wp2
  go_ret
  exact ⟨rfl, rfl⟩

theorem cls_5 {x : Int} (a : (fld x == 2047) = true) (b : (frc x != 0) = true) : (5 : Int) = cls x := by
  simp at a b; unfold cls; rw [if_pos a, if_neg b]
theorem cls_4 {x : Int} (a : (fld x == 2047) = true) (b : (frc x != 0) = false) : (4 : Int) = cls x := by
  simp at a b; unfold cls; rw [if_pos a, if_pos b]
theorem cls_2 {x : Int} (a : (fld x == 2047) = false) (c : (fld x == 0) = true) (b : (frc x != 0) = true) : (2 : Int) = cls x := by
  simp at a b c; unfold cls; rw [if_neg a, if_pos c, if_neg b]
theorem cls_1 {x : Int} (a : (fld x == 2047) = false) (c : (fld x == 0) = true) (b : (frc x != 0) = false) : (1 : Int) = cls x := by
  simp at a b c; unfold cls; rw [if_neg a, if_pos c, if_pos b]
theorem cls_3 {x : Int} (a : (fld x == 2047) = false) (c : (fld x == 0) = false) : (3 : Int) = cls x := by
  simp at a c; unfold cls; rw [if_neg a, if_neg c]

set_option maxHeartbeats 400000 in
theorem class_any (x : Int) (h0 : 0 ≤ x) (h1 : x ≤ 18446744073709551615) (w : World) :
    Calls Tryz.prog 67 #[.int .u64 x] w fun e w' => e = .returned (.int .i64 (cls x)) ∧ w = w' := by
  go_enter Tryz.func67, Tryz.ntmps67
  go_wp2_with (first
    | (go_at_call 69; refine (field_any _ h0 h1 _).mono ?_; rintro e w' ⟨rfl, rfl⟩)
    | (go_at_call 68; refine (fraction_any _ h0 h1 _).mono ?_; rintro e w' ⟨rfl, rfl⟩))
  · go_ret; exact ⟨rtB_int (cls_5 ‹_› ‹_›), rfl⟩
  · go_ret; exact ⟨rtB_int (cls_4 ‹_› ‹_›), rfl⟩
  · go_ret; exact ⟨rtB_int (cls_2 ‹_› ‹_› ‹_›), rfl⟩
  · go_ret; exact ⟨rtB_int (cls_1 ‹_› ‹_› ‹_›), rfl⟩
  · go_ret; exact ⟨rtB_int (cls_3 ‹_› ‹_›), rfl⟩

theorem cls_4' {x : Int} (a : (fld x == 2047) = true) (b : (frc x == 0) = true) : (4 : Int) = cls x := by
  simp at a b; unfold cls; rw [if_pos a, if_pos b]
theorem cls_5' {x : Int} (a : (fld x == 2047) = true) (b : (frc x == 0) = false) : (5 : Int) = cls x := by
  simp at a b; unfold cls; rw [if_pos a, if_neg b]

/-! ### NaNs are one; the sign turned -/
theorem one_yes {x : Int} (h : (cls x == 5) = true) : nan = one x := by
  simp at h; unfold one; rw [if_pos h]
theorem one_no {x : Int} (h : (cls x == 5) = false) : x = one x := by
  simp at h; unfold one; rw [if_neg h]

set_option maxHeartbeats 400000 in
theorem oneNaN_any (x : Int) (h0 : 0 ≤ x) (h1 : x ≤ 18446744073709551615) (w : World) :
    Calls Tryz.prog 70 #[.int .u64 x] w fun e w' => e = .returned (.int .u64 (one x)) ∧ w = w' := by
  go_enter Tryz.func70, Tryz.ntmps70
  go_wp2_with (go_at_call 67; refine (class_any _ h0 h1 _).mono ?_; rintro e w' ⟨rfl, rfl⟩)
  · go_ret; exact ⟨rtB_int (one_yes ‹_›), rfl⟩
  · go_ret; exact ⟨rtB_int (one_no ‹_›), rfl⟩

theorem negate_yes {x : Int} (h : (cls x == 5) = true) : nan = negate x := by
  simp at h; unfold negate; rw [if_pos h]
theorem negate_no {x : Int} (h : (cls x == 5) = false) : flip x = negate x := by
  simp at h; unfold negate; rw [if_neg h]

/-! ### floats and their words -/
theorem run_float64bits (n : Nat) (w : World) : (callFunc 40 #[.float .f64 n]).run Tryz.prog w = .ok (.value (.int .u64 (n : Int))) w := by
  rw [run_callFunc_extern (e := Extern.MathFloatBits.float64bits) Tryz.func40 (by kernel_rfl) (by kernel_rfl) (by kernel_rfl) (by kernel_rfl)]; rfl
theorem run_float64frombits (x : Int) (w : World) : (callFunc 39 #[.int .u64 x]).run Tryz.prog w = .ok (.value (.float .f64 x.toNat)) w := by
  rw [run_callFunc_extern (e := Extern.MathFloatBits.float64frombits) Tryz.func39 (by kernel_rfl) (by kernel_rfl) (by kernel_rfl) (by kernel_rfl)]; rfl

set_option maxHeartbeats 400000 in
theorem ofBany (n : Nat) (hn : n ≤ 18446744073709551615) (w : World) :
    Calls Tryz.prog 51 #[.float .f64 n] w fun e w' => e = .returned (.int .u64 (one (n : Int))) ∧ w = w' := by
  have hx := run_float64bits n
  go_enter Tryz.func51, Tryz.ntmps51
  go_wp2_with (go_at_call 70; refine (oneNaN_any _ (by omega) (by omega) _).mono ?_; rintro e w' ⟨rfl, rfl⟩)
  go_ret
  exact ⟨rfl, rfl⟩

end Go.Proofs.YtcdbjlmegkcaiaaGreatDoor
namespace Go.Bw
open Go
set_option linter.unusedVariables false
set_option linter.unusedSectionVars false

/-- how many bits -/
def bl (man : Int) : Int := (Lib.bitLen man.toNat : Int)
/-- the place of the last bit -/
def rE (man exp : Int) : Int := max (exp + bl man - 53) (-1074)
/-- what stands above the cut, rounded; 'd' places are cut off -/
def rUp (man d : Int) (more : Bool) : Bool := decide (2 ^ d.toNat < 2 * (man % 2 ^ d.toNat)) || (decide (2 * (man % 2 ^ d.toNat) = 2 ^ d.toNat) && (more || decide (man / 2 ^ d.toNat % 2 = 1)))
def rW (man d : Int) (more : Bool) : Int := if d ≤ 0 then man * 2 ^ (-d).toNat else man / 2 ^ d.toNat + (if rUp man d more then 1 else 0)
def rnd (man exp : Int) (more : Bool) : Int := if man = 0 then 0 else min ((rE man exp + 1074) * 4503599627370496 + rW man (rE man exp - exp) more) inf

theorem aux_zero (f : Nat) : Lib.bitLenAux f 0 = 0 := by cases f <;> simp [Lib.bitLenAux]
theorem aux_spec : ∀ (f x : Nat), x < 2 ^ f → x < 2 ^ Lib.bitLenAux f x ∧ (x ≠ 0 → 1 ≤ Lib.bitLenAux f x ∧ 2 ^ (Lib.bitLenAux f x - 1) ≤ x)
  | 0, x, h => by
    have : x = 0 := by simpa using h
    subst this
    simp [Lib.bitLenAux]
  | f + 1, x, h => by
    by_cases h0 : x = 0
    · subst h0; simp [Lib.bitLenAux]
    · have ih := aux_spec f (x / 2) (by rw [Nat.pow_succ] at h; omega)
      have e : Lib.bitLenAux (f + 1) x = 1 + Lib.bitLenAux f (x / 2) := by rw [Lib.bitLenAux, if_neg h0]
      have hz : x / 2 = 0 → Lib.bitLenAux f (x / 2) = 0 := fun h => by rw [h]; exact aux_zero f
      rw [e]
      generalize Lib.bitLenAux f (x / 2) = b at ih hz
      refine ⟨?_, fun _ => ⟨by omega, ?_⟩⟩
      · rw [Nat.add_comm, Nat.pow_succ]; omega
      · rw [Nat.add_comm, Nat.add_sub_cancel]
        by_cases hx : x / 2 = 0
        · rw [hz hx]; omega
        · have := (ih.2 hx).2
          have h1 := (ih.2 hx).1
          have e3 : 2 ^ b = 2 ^ (b - 1) * 2 := by rw [← Nat.pow_succ]; congr 1; omega
          rw [e3]; omega
theorem bl_spec (n : Nat) (h : n < 18446744073709551616) : n < 2 ^ Lib.bitLen n ∧ (n ≠ 0 → 1 ≤ Lib.bitLen n ∧ 2 ^ (Lib.bitLen n - 1) ≤ n) := aux_spec 64 n h
theorem bl_le (n : Nat) (h : n < 18446744073709551616) : Lib.bitLen n ≤ 64 := Lib.bitLen_le n 64 (by decide) h

/-- the number of bits is told by two powers -/
theorem bl_uniq (n L : Nat) (h : n < 18446744073709551616) (a : n < 2 ^ L) (b : 2 ^ L ≤ 2 * n) : Lib.bitLen n = L := by
  have hp := Nat.two_pow_pos L
  have s := bl_spec n h
  have s2 := s.2 (by omega)
  generalize Lib.bitLen n = B at s s2
  rcases Nat.lt_trichotomy B L with c | c | c
  · exfalso
    have := Nat.pow_le_pow_right (show 0 < 2 by decide) (show B + 1 ≤ L from c)
    rw [Nat.pow_succ] at this
    omega
  · exact c
  · exfalso
    have := Nat.pow_le_pow_right (show 0 < 2 by decide) (show L ≤ B - 1 by omega)
    omega

theorem bl_shift (n k : Nat) (h0 : n ≠ 0) (h : n * 2 ^ k < 18446744073709551616) : Lib.bitLen (n * 2 ^ k) = Lib.bitLen n + k := by
  have hp := Nat.two_pow_pos k
  have hn : n < 18446744073709551616 := Nat.lt_of_le_of_lt (Nat.le_mul_of_pos_right n hp) h
  have s := bl_spec n hn
  have s2 := s.2 h0
  refine bl_uniq _ _ h ?_ ?_
  · rw [Nat.pow_add]; exact Nat.mul_lt_mul_of_pos_right s.1 hp
  · rw [Nat.pow_add, ← Nat.mul_assoc]
    refine Nat.mul_le_mul_right _ ?_
    have e3 : 2 ^ Lib.bitLen n = 2 ^ (Lib.bitLen n - 1) * 2 := by rw [← Nat.pow_succ]; congr 1; omega
    rw [e3]; omega

/-! ### the two powers and a cut number -/
theorem div_lt_53 (M j : Nat) (hM : M < 18446744073709551616) : M / 2 ^ j < 9007199254740992 ↔ Lib.bitLen M ≤ 53 + j := by
  have hp := Nat.two_pow_pos j
  rw [Nat.div_lt_iff_lt_mul hp, show (9007199254740992 : Nat) = 2 ^ 53 from rfl, ← Nat.pow_add]
  have s := bl_spec M hM
  constructor
  · intro h
    by_cases h0 : M = 0
    · subst h0; have : Lib.bitLen 0 = 0 := by decide
      omega
    · have s2 := s.2 h0
      rcases Nat.lt_or_ge (53 + j) (Lib.bitLen M) with c | c
      · exfalso
        have := Nat.pow_le_pow_right (show 0 < 2 by decide) (show 53 + j ≤ Lib.bitLen M - 1 by omega)
        omega
      · exact c
  · intro h
    exact Nat.lt_of_lt_of_le s.1 (Nat.pow_le_pow_right (by decide) h)
theorem div_ge_52 (M j : Nat) (hM : M < 18446744073709551616) : 4503599627370496 ≤ M / 2 ^ j ↔ 53 + j ≤ Lib.bitLen M := by
  have hp := Nat.two_pow_pos j
  rw [Nat.le_div_iff_mul_le hp, show (4503599627370496 : Nat) = 2 ^ 52 from rfl, ← Nat.pow_add]
  have s := bl_spec M hM
  constructor
  · intro h
    rcases Nat.lt_or_ge (Lib.bitLen M) (53 + j) with c | c
    · exfalso
      have := Nat.pow_le_pow_right (show 0 < 2 by decide) (show Lib.bitLen M ≤ 52 + j by omega)
      omega
    · exact c
  · intro h
    have h0 : M ≠ 0 := by
      intro e; subst e; have : Lib.bitLen 0 = 0 := by decide
      omega
    have s2 := s.2 h0
    exact Nat.le_trans (Nat.pow_le_pow_right (by decide) (by omega)) s2.2

/-! ### what a number is when it is halved j times: the last bit that went, and whether there was more -/
def hHalf (M j : Nat) : Bool := match j with
  | 0 => false
  | i + 1 => decide (M / 2 ^ i % 2 = 1)
def hRest (M j : Nat) (more : Bool) : Bool := match j with
  | 0 => more
  | i + 1 => more || decide (M % 2 ^ i ≠ 0)
theorem hRest_succ (M j : Nat) (more : Bool) : hRest M (j + 1) more = (hRest M j more || hHalf M j) := by
  cases j with
  | zero => simp [hRest, hHalf, Nat.mod_one]
  | succ i =>
    simp only [hRest, hHalf]
    rw [Bool.or_assoc]
    congr 1
    rw [Nat.pow_succ, Nat.mod_mul]
    have hp := Nat.two_pow_pos i
    have hm := Nat.mod_lt M hp
    rcases Nat.mod_two_eq_zero_or_one (M / 2 ^ i) with h | h
    · rw [h]; simp
    · rw [h]; simp
theorem rUp_nat (M j : Nat) (more : Bool) : rUp (M : Int) (j : Int) more = (decide (2 ^ j < 2 * (M % 2 ^ j)) || (decide (2 * (M % 2 ^ j) = 2 ^ j) && (more || decide (M / 2 ^ j % 2 = 1)))) := by
  have e1 : ((2 : Int) ^ ((j : Int).toNat) < 2 * ((M : Int) % 2 ^ ((j : Int).toNat))) ↔ (2 ^ j < 2 * (M % 2 ^ j)) := by rw [Int.toNat_natCast]; exact_mod_cast Iff.rfl
  have e2 : (2 * ((M : Int) % 2 ^ ((j : Int).toNat)) = (2 : Int) ^ ((j : Int).toNat)) ↔ (2 * (M % 2 ^ j) = 2 ^ j) := by rw [Int.toNat_natCast]; exact_mod_cast Iff.rfl
  have e3 : ((M : Int) / 2 ^ ((j : Int).toNat) % 2 = 1) ↔ (M / 2 ^ j % 2 = 1) := by rw [Int.toNat_natCast]; exact_mod_cast Iff.rfl
  unfold rUp
  simp only [e1, e2, e3]
theorem half_up (M j : Nat) (more : Bool) : (hHalf M j && (hRest M j more || decide (M / 2 ^ j % 2 = 1))) = rUp (M : Int) (j : Int) more := by
  rw [rUp_nat]
  cases j with
  | zero => simp [hHalf, Nat.mod_one]
  | succ i =>
    have hp := Nat.two_pow_pos i
    have hm := Nat.mod_lt M hp
    simp only [hHalf, hRest]
    have e4 : M % 2 ^ (i + 1) = M % 2 ^ i + 2 ^ i * (M / 2 ^ i % 2) := by rw [Nat.pow_succ, Nat.mod_mul]
    have e5 : 2 ^ (i + 1) = 2 * 2 ^ i := by rw [Nat.pow_succ]; omega
    rw [e4, e5]
    generalize M / (2 * 2 ^ i) % 2 = o
    generalize M % 2 ^ i = r at *
    generalize 2 ^ i = P at *
    rcases Nat.mod_two_eq_zero_or_one (M / P) with h | h
    · rw [h]
      rw [Bool.eq_iff_iff]; simp; omega
    · rw [h]
      rw [Bool.eq_iff_iff]
      cases more <;> simp <;> omega

/-! ### the end of the halving -/
theorem rE_of (man exp : Int) (k j M : Nat) (X : Int) (hman : 0 < man) (hM : M < 18446744073709551616) (hk : man * 2 ^ k = (M : Int)) (hX : exp = X + k)
    (a : M / 2 ^ j < 9007199254740992) (b : -1074 ≤ X + j) (c : j = 0 → 4503599627370496 ≤ M ∨ X ≤ -1074) (d : ∀ i, j = i + 1 → 9007199254740992 ≤ M / 2 ^ i ∨ X + i < -1074) : rE man exp = X + j := by
  obtain ⟨m, rfl⟩ := Int.eq_ofNat_of_zero_le (Int.le_of_lt hman)
  have hk' : m * 2 ^ k = M := by exact_mod_cast hk
  have hm0 : m ≠ 0 := by omega
  have hb : Lib.bitLen M = Lib.bitLen m + k := by rw [← hk']; exact bl_shift m k hm0 (by omega)
  have a' := (div_lt_53 M j hM).1 a
  unfold rE bl
  rw [Int.toNat_natCast]
  cases j with
  | zero =>
    rcases c rfl with h | h
    · have := (div_ge_52 M 0 hM).1 (by simpa using h)
      omega
    · omega
  | succ i =>
    rcases d i rfl with h | h
    · have : ¬ (M / 2 ^ i < 9007199254740992) := by omega
      rw [div_lt_53 M i hM] at this
      omega
    · omega

theorem rE_52 (man exp : Int) (k j M : Nat) (X : Int) (hman : 0 < man) (hM : M < 18446744073709551616) (hk : man * 2 ^ k = (M : Int)) (hX : exp = X + k)
    (hE : rE man exp = X + j) (h : M / 2 ^ j < 4503599627370496) : X + j = -1074 := by
  obtain ⟨m, rfl⟩ := Int.eq_ofNat_of_zero_le (Int.le_of_lt hman)
  have hk' : m * 2 ^ k = M := by exact_mod_cast hk
  have hm0 : m ≠ 0 := by omega
  have hb : Lib.bitLen M = Lib.bitLen m + k := by rw [← hk']; exact bl_shift m k hm0 (by omega)
  have a' : ¬ (4503599627370496 ≤ M / 2 ^ j) := by omega
  rw [div_ge_52 M j hM] at a'
  unfold rE bl at hE
  rw [Int.toNat_natCast] at hE
  omega

/-- the reference's last steps -/
def putM (man exp : Int) : Int := if man < 4503599627370496 then man else if 971 < exp then inf else (exp + 1075) * 4503599627370496 + man - 4503599627370496
theorem putM_eq (q E : Int) (h0 : 0 ≤ q) (h1 : q < 9007199254740992) (hE : -1074 ≤ E) (h2 : q < 4503599627370496 → E = -1074) : putM q E = min ((E + 1074) * 4503599627370496 + q) inf := by
  unfold putM inf
  by_cases c : q < 4503599627370496
  · rw [if_pos c, h2 c]; omega
  · rw [if_neg c]
    by_cases e : 971 < E
    · rw [if_pos e]; omega
    · rw [if_neg e]; omega
theorem putM_top (E : Int) (hE : -1074 ≤ E) : putM 4503599627370496 (E + 1) = min ((E + 1074) * 4503599627370496 + 9007199254740992) inf := by
  unfold putM inf
  rw [if_neg (by omega)]
  by_cases e : 971 < E + 1
  · rw [if_pos e]; omega
  · rw [if_neg e]; omega

/-- what is rounded, out of where the reference stands -/
theorem rW_of (man exp : Int) (k j M : Nat) (X : Int) (more : Bool) (hk : man * 2 ^ k = (M : Int)) (hX : exp = X + k) (hE : rE man exp = X + j) (hkj : k = 0 ∨ j = 0) :
    rW man (rE man exp - exp) more = ((M / 2 ^ j : Nat) : Int) + if rUp (M : Int) (j : Int) more then 1 else 0 := by
  rw [hE, hX, show X + (j : Int) - (X + k) = (j : Int) - k by omega]
  unfold rW
  by_cases hj : j = 0
  · subst hj
    rw [if_pos (by omega), show (-(((0 : Nat) : Int) - (k : Int))).toNat = k by omega, hk]
    have : rUp (M : Int) ((0 : Nat) : Int) more = false := by rw [rUp_nat]; simp [Nat.mod_one]
    rw [this]; simp
  · have hk0 : k = 0 := by omega
    subst hk0
    rw [if_neg (by omega)]
    have hm : man = (M : Int) := by simpa using hk
    rw [hm]
    simp

/-! ### the program's cut -/
def signW (neg : Bool) (m : Int) : Int := if neg then 9223372036854775808 + m else m
def joinM (whole exp : Int) : Int := min ((exp + 1074) * 4503599627370496 + whole) inf

theorem join_sum {whole exp : Int} (h0 : 0 ≤ whole) (h1 : whole ≤ 9007199254740992) (e0 : -1074 ≤ exp) (e1 : exp ≤ 2900) :
    0 ≤ (exp + 1074) * 4503599627370496 + whole ∧ (exp + 1074) * 4503599627370496 + whole ≤ 18446744073709551615 := by omega

theorem pow_pos_int (n : Nat) : (0 : Int) < 2 ^ n := Int.pow_pos (by decide)
theorem rW_nonneg (man d : Int) (more : Bool) (h : 0 ≤ man) : 0 ≤ rW man d more := by
  unfold rW
  split
  · exact Int.mul_nonneg h (Int.le_of_lt (pow_pos_int _))
  · have := Int.ediv_nonneg h (Int.le_of_lt (pow_pos_int d.toNat))
    split <;> omega
theorem rnd_inf (man exp : Int) (more : Bool) (h0 : 0 < man) (h : 973 ≤ rE man exp) : rnd man exp more = inf := by
  have := rW_nonneg man (rE man exp - exp) more (by omega)
  unfold rnd
  rw [if_neg (by omega)]
  unfold inf at *
  omega

theorem bl_bd (man : Int) (h0 : 0 < man) (h1 : man ≤ 18446744073709551615) : 1 ≤ bl man ∧ bl man ≤ 64 := by
  unfold bl
  have a := bl_le man.toNat (by omega)
  have b := (bl_spec man.toNat (by omega)).2 (by omega)
  omega

theorem up_lt (man : Int) (d : Nat) (h0 : 0 < man) (h1 : man ≤ 18446744073709551615) (h : bl man + d ≤ 53) : 0 ≤ man * 2 ^ d ∧ man * 2 ^ d ≤ 9007199254740991 := by
  obtain ⟨m, rfl⟩ := Int.eq_ofNat_of_zero_le (Int.le_of_lt h0)
  unfold bl at h
  rw [Int.toNat_natCast] at h
  have s := (bl_spec m (by omega)).1
  have hp := Nat.two_pow_pos d
  have : m * 2 ^ d < 2 ^ 53 := by
    refine Nat.lt_of_lt_of_le (Nat.mul_lt_mul_of_pos_right s hp) ?_
    rw [← Nat.pow_add]
    exact Nat.pow_le_pow_right (by decide) (by omega)
  have e : ((m : Int) * 2 ^ d) = ((m * 2 ^ d : Nat) : Int) := by simp
  rw [e]
  omega
theorem down_lt (man : Int) (d : Nat) (h0 : 0 < man) (h1 : man ≤ 18446744073709551615) (h : bl man ≤ 53 + d) : 0 ≤ man / 2 ^ d ∧ man / 2 ^ d ≤ 9007199254740991 := by
  obtain ⟨m, rfl⟩ := Int.eq_ofNat_of_zero_le (Int.le_of_lt h0)
  unfold bl at h
  rw [Int.toNat_natCast] at h
  have s := (div_lt_53 m d (by omega)).2 (by omega)
  have e : ((m : Int) / 2 ^ d) = ((m / 2 ^ d : Nat) : Int) := by simp
  rw [e]
  generalize m / 2 ^ d = q at s
  omega

section
variable (man exp f L E d : Int) (more : Bool) (h0 : 0 < man) (h1 : man ≤ 18446744073709551615) (hf : min (max exp (-2048)) 2048 = f) (hL : bl man = L) (hE : max (f + L - 52 - 1) (-1074) = E) (hd : E - f = d)
include h0 h1 hf hL hE hd

theorem cut_rE (h : exp ≤ 2048) (h' : -2048 ≤ exp) : rE man exp = E ∧ rE man exp - exp = d := by
  unfold rE; omega

theorem cut_up (d0 : d ≤ 0) : 0 ≤ man * 2 ^ (-d).toNat ∧ man * 2 ^ (-d).toNat ≤ 9007199254740991 ∧ joinM (man * 2 ^ (-d).toNat) E = rnd man exp more := by
  have b := up_lt man (-d).toNat h0 h1 (by omega)
  refine ⟨b.1, b.2, ?_⟩
  have hb := bl_bd man h0 h1
  by_cases c : exp ≤ 2048
  · have r := cut_rE man exp f L E d h0 h1 hf hL hE hd c (by omega)
    unfold rnd joinM
    rw [if_neg (by omega), r.1]
    rw [show rW man (E - exp) more = man * 2 ^ (-d).toNat by rw [← r.1, r.2]; unfold rW; rw [if_pos d0]]
  · rw [rnd_inf man exp more h0 (by unfold rE; omega)]
    unfold joinM inf
    omega

theorem cut_far (d0 : 64 < d) : joinM 0 E = rnd man exp more := by
  have hb := bl_bd man h0 h1
  have hE2 : E = -1074 := by omega
  have hr : rE man exp = -1074 := by unfold rE; omega
  have hd2 : 64 < rE man exp - exp := by omega
  unfold rnd joinM
  rw [if_neg (by omega), hr, hE2]
  rw [hr] at hd2
  generalize (-1074 - exp) = g at hd2
  have hz : rW man g more = 0 := by
    unfold rW
    rw [if_neg (by omega)]
    have hp : (2 : Int) ^ 65 ≤ 2 ^ g.toNat := by
      have := Nat.pow_le_pow_right (show 0 < 2 by decide) (show 65 ≤ g.toNat by omega)
      exact_mod_cast this
    have hlt : man < 2 ^ g.toNat := by
      have : (18446744073709551615 : Int) < 2 ^ 65 := by decide
      omega
    have h2 : 2 * man < 2 ^ g.toNat := by
      have : (2 * 18446744073709551615 : Int) < 2 ^ 65 := by decide
      omega
    have q : man / 2 ^ g.toNat = 0 := Int.ediv_eq_zero_of_lt (by omega) hlt
    have r : man % 2 ^ g.toNat = man := Int.emod_eq_of_lt (by omega) hlt
    have u : rUp man g more = false := by
      unfold rUp
      rw [r]
      rw [decide_eq_false (by omega), decide_eq_false (by omega)]
      rfl
    rw [q, u]; rfl
  rw [hz]

theorem cut_rest (d0 : 0 < d) (d1 : d ≤ 64) : man * 2 ^ (64 - d).toNat % 18446744073709551616 = (man % 2 ^ d.toNat) * 2 ^ (64 - d).toNat := by
  have e : (18446744073709551616 : Int) = 2 ^ d.toNat * 2 ^ (64 - d).toNat := by
    rw [← Int.pow_add, show d.toNat + (64 - d).toNat = 64 by omega]; decide
  rw [e, Int.mul_comm man, Int.mul_comm (2 ^ d.toNat), Int.mul_emod_mul_of_pos _ _ (pow_pos_int _), Int.mul_comm]

theorem cut_test (d0 : 0 < d) (d1 : d ≤ 64) :
    (decide (9223372036854775808 < man * 2 ^ (64 - d).toNat % 18446744073709551616) || (decide (man * 2 ^ (64 - d).toNat % 18446744073709551616 = 9223372036854775808) && (more || decide (man / 2 ^ d.toNat % 2 = 1)))) = rUp man d more := by
  rw [cut_rest man exp f L E d h0 h1 hf hL hE hd d0 d1]
  have e : (9223372036854775808 : Int) * 2 = 2 ^ d.toNat * 2 ^ (64 - d).toNat := by
    rw [← Int.pow_add, show d.toNat + (64 - d).toNat = 64 by omega]; decide
  have hp := pow_pos_int (64 - d).toNat
  unfold rUp
  generalize man % 2 ^ d.toNat = r
  have a1 : (9223372036854775808 < r * 2 ^ (64 - d).toNat) ↔ (2 ^ d.toNat < 2 * r) := by
    constructor
    · intro h
      refine Int.lt_of_mul_lt_mul_right (a := 2 ^ (64 - d).toNat) ?_ (Int.le_of_lt hp)
      rw [← e, Int.mul_assoc]; omega
    · intro h
      have := Int.mul_lt_mul_of_pos_right h hp
      rw [← e, Int.mul_assoc] at this; omega
  have a2 : (r * 2 ^ (64 - d).toNat = 9223372036854775808) ↔ (2 * r = 2 ^ d.toNat) := by
    constructor
    · intro h
      refine Int.eq_of_mul_eq_mul_right (Int.ne_of_gt hp) ?_
      rw [← e, Int.mul_assoc]; omega
    · intro h
      have := congrArg (fun z : Int => z * 2 ^ (64 - d).toNat) h
      rw [← e, Int.mul_assoc] at this; omega
  simp only [a1, a2]

theorem cut_mid (d0 : 0 < d) (d1 : d ≤ 64) : 0 ≤ man / 2 ^ d.toNat ∧ man / 2 ^ d.toNat ≤ 9007199254740991 ∧ joinM (man / 2 ^ d.toNat + if rUp man d more then 1 else 0) E = rnd man exp more := by
  have hb := bl_bd man h0 h1
  have b := down_lt man d.toNat h0 h1 (by omega)
  refine ⟨b.1, b.2, ?_⟩
  by_cases c : exp ≤ 2048
  · have r := cut_rE man exp f L E d h0 h1 hf hL hE hd c (by omega)
    unfold rnd joinM
    rw [if_neg (show ¬ man = 0 by omega), r.1]
    rw [show rW man (E - exp) more = man / 2 ^ d.toNat + if rUp man d more then 1 else 0 by rw [← r.1, r.2]; unfold rW; rw [if_neg (by omega)]]
  · rw [rnd_inf man exp more h0 (by unfold rE; omega)]
    unfold joinM inf
    split <;> omega
end

/-! ### the cut as functions -/
def sF (exp : Int) : Int := min (max exp (-2048)) 2048
def sE (man exp : Int) : Int := if man = 0 then -1074 else max (sF exp + bl man - 52 - 1) (-1074)
def sD (man exp : Int) : Int := sE man exp - sF exp
def sW (man exp : Int) : Int := if man = 0 then 0 else if sD man exp ≤ 0 then man * 2 ^ (-sD man exp).toNat else if sD man exp ≤ 64 then man / 2 ^ (sD man exp).toNat else 0
def sR (man exp : Int) : Int := if man = 0 then 0 else if sD man exp ≤ 0 then 0 else if sD man exp ≤ 64 then man * 2 ^ (64 - sD man exp).toNat % 18446744073709551616 else 1
def sUp (W R : Int) (more : Bool) : Bool := decide (9223372036854775808 < R) || (decide (R = 9223372036854775808) && (more || decide (W % 2 = 1)))

theorem sE_bd (man exp : Int) (h0 : 0 ≤ man) (h1 : man ≤ 18446744073709551615) : -1074 ≤ sE man exp ∧ sE man exp ≤ 2900 := by
  unfold sE sF
  split
  · omega
  · have := bl_bd man (by omega) h1
    omega
theorem sW_bd (man exp : Int) (h0 : 0 ≤ man) (h1 : man ≤ 18446744073709551615) : 0 ≤ sW man exp ∧ sW man exp ≤ 9007199254740991 := by
  by_cases hm : man = 0
  · subst hm; simp [sW]
  · unfold sW
    rw [if_neg hm]
    split
    · have h := cut_up man exp (sF exp) (bl man) (sE man exp) (sD man exp) false (by omega) h1 rfl rfl (by unfold sE; rw [if_neg hm]) rfl (by assumption)
      exact ⟨h.1, h.2.1⟩
    · split
      · have h := cut_mid man exp (sF exp) (bl man) (sE man exp) (sD man exp) false (by omega) h1 rfl rfl (by unfold sE; rw [if_neg hm]) rfl (by omega) (by assumption)
        exact ⟨h.1, h.2.1⟩
      · omega
theorem sR_bd (man exp : Int) : 0 ≤ sR man exp ∧ sR man exp ≤ 18446744073709551615 := by
  unfold sR
  repeat' split
  all_goals omega
theorem cut_rnd (man exp : Int) (more : Bool) (h0 : 0 ≤ man) (h1 : man ≤ 18446744073709551615) :
    joinM (sW man exp + if sUp (sW man exp) (sR man exp) more then 1 else 0) (sE man exp) = rnd man exp more := by
  by_cases hm : man = 0
  · subst hm
    simp [sW, sR, sUp, sE, joinM, rnd, inf]
    decide
  · have hE : max (sF exp + bl man - 52 - 1) (-1074) = sE man exp := by unfold sE; rw [if_neg hm]
    by_cases c : sD man exp ≤ 0
    · have h := cut_up man exp (sF exp) (bl man) (sE man exp) (sD man exp) more (by omega) h1 rfl rfl hE rfl c
      have e : sR man exp = 0 := by unfold sR; rw [if_neg hm, if_pos c]
      have e2 : sW man exp = man * 2 ^ (-sD man exp).toNat := by unfold sW; rw [if_neg hm, if_pos c]
      rw [e, e2, show sUp (man * 2 ^ (-sD man exp).toNat) 0 more = false by unfold sUp; simp]
      simpa using h.2.2
    · by_cases c2 : sD man exp ≤ 64
      · have h := cut_mid man exp (sF exp) (bl man) (sE man exp) (sD man exp) more (by omega) h1 rfl rfl hE rfl (by omega) c2
        have t := cut_test man exp (sF exp) (bl man) (sE man exp) (sD man exp) more (by omega) h1 rfl rfl hE rfl (by omega) c2
        have e : sR man exp = man * 2 ^ (64 - sD man exp).toNat % 18446744073709551616 := by unfold sR; rw [if_neg hm, if_neg c, if_pos c2]
        have e2 : sW man exp = man / 2 ^ (sD man exp).toNat := by unfold sW; rw [if_neg hm, if_neg c, if_pos c2]
        rw [e, e2]
        unfold sUp
        rw [t]
        exact h.2.2
      · have h := cut_far man exp (sF exp) (bl man) (sE man exp) (sD man exp) more (by omega) h1 rfl rfl hE rfl (by omega)
        have e : sR man exp = 1 := by unfold sR; rw [if_neg hm, if_neg c, if_neg c2]
        have e2 : sW man exp = 0 := by unfold sW; rw [if_neg hm, if_neg c, if_neg c2]
        rw [e, e2, show sUp 0 1 more = false by unfold sUp; simp]
        simpa using h
theorem rnd_bd (man exp : Int) (more : Bool) (h0 : 0 ≤ man) (h1 : man ≤ 18446744073709551615) : 0 ≤ rnd man exp more ∧ rnd man exp more ≤ inf := by
  have a := sW_bd man exp h0 h1
  have b := sE_bd man exp h0 h1
  rw [← cut_rnd man exp more h0 h1]
  unfold joinM inf
  split <;> omega
end Go.Bw
namespace Go.Bw
/-- parts of a finite word -/
def pneg (x : Int) : Bool := decide (9223372036854775808 ≤ x)
def pman (x : Int) : Int := if cls x = 3 then 4503599627370496 + frc x else frc x
def pexp (x : Int) : Int := if cls x = 1 then 0 else if cls x = 2 then -1074 else fld x - 1075
end Go.Bw
namespace Go.Proofs.YtcdbjlmegkcaiaaGreatDoor
open Go.RowKit Go.Bw
set_option linter.unusedVariables false

abbrev partsV (neg : Bool) (man exp : Int) : Value := .agg #[.bool neg, .int .u64 man, .int .i64 exp]

theorem cls_frc0 {x : Int} (h : cls x = 1) : frc x = 0 := by
  unfold cls at h; repeat' split at h
  all_goals omega

/-- what Parts answers -/
def partsR (x : Int) : Value := .tuple (if cls x ≤ 3 then #[partsV (pneg x) (pman x) (pexp x), .int .i64 0] else #[partsV false 0 0, .int .i64 2])

theorem partsR_1 {x : Int} (h : (cls x == 1) = true) : Value.tuple #[partsV (decide (9223372036854775808 ≤ x)) 0 0, .int .i64 0] = partsR x := by
  simp at h
  unfold partsR pneg pman pexp
  rw [if_pos (by omega), if_neg (by omega), if_pos h, cls_frc0 h]
theorem partsR_2 {x : Int} (h : (cls x == 2) = true) : Value.tuple #[partsV (decide (9223372036854775808 ≤ x)) (frc x) (-1074), .int .i64 0] = partsR x := by
  simp at h
  unfold partsR pneg pman pexp
  rw [if_pos (by omega), if_neg (by omega), if_neg (by omega), if_pos h]
theorem partsR_3 {x : Int} (h : (cls x == 3) = true) : Value.tuple #[partsV (decide (9223372036854775808 ≤ x)) (4503599627370496 + frc x) (fld x - 1 + -1074), .int .i64 0] = partsR x := by
  simp at h
  unfold partsR pneg pman pexp
  rw [if_pos (by omega), if_pos h, if_neg (by omega), if_neg (by omega), show fld x - 1 + -1074 = fld x - 1075 by omega]
theorem partsR_no {x : Int} (a : (cls x == 1) = false) (b : (cls x == 2) = false) (c : (cls x == 3) = false) : Value.tuple #[partsV false 0 0, .int .i64 2] = partsR x := by
  simp at a b c
  have := cls_bd x
  unfold partsR
  rw [if_neg (by omega)]

theorem bcell {W w1 : World} (hb : Below W.heap.size W w1) : (∀ b o, b < W.heap.size → w1.cell? ⟨b, o, none⟩ = W.cell? ⟨b, o, none⟩) ∧ (∀ b o, b < W.heap.size → w1.frozen? ⟨b, o, none⟩ = W.frozen? ⟨b, o, none⟩) :=
  ⟨fun b o h => hb.cell (p := ⟨b, o, none⟩) h, fun b o h => hb.frozen (p := ⟨b, o, none⟩) h⟩

set_option maxHeartbeats 1000000 in
theorem parts_any (x : Int) (h0 : 0 ≤ x) (h1 : x ≤ 18446744073709551615) (w : World) :
    Calls Tryz.prog 50 #[.int .u64 x] w fun e w' => e = .returned (partsR x) ∧ Below w.heap.size w w' := by
  have es := sign_op x h0 h1
  have hf := frc_bd x
  have eo := or_hidden (frc x) hf.1 (by omega)
  have hd := fld_bd x
  go_enter Tryz.func50, Tryz.ntmps50
  go_wp2_with (first
    | (go_at_call 67; refine (class_any _ h0 h1 _).mono ?_; rintro e w' ⟨rfl, rfl⟩)
    | (go_at_call 69; refine (field_any _ h0 h1 _).mono ?_; rintro e w' ⟨rfl, rfl⟩)
    | (go_at_call 68; refine (fraction_any _ h0 h1 _).mono ?_; rintro e w' ⟨rfl, rfl⟩))
  · refine bodyPost_ret (v := .tuple #[partsV (decide (9223372036854775808 ≤ x)) 0 0, .int .i64 0]) (by simp [results, Tryz.results50, go_sem]) rfl ⟨congrArg _ (partsR_1 ‹_›), ?_⟩
    go_grown
  · refine bodyPost_ret (v := .tuple #[partsV (decide (9223372036854775808 ≤ x)) (frc x) (-1074), .int .i64 0]) (by simp [results, Tryz.results50, go_sem]) rfl ⟨congrArg _ (partsR_2 ‹_›), ?_⟩
    go_grown
  · refine bodyPost_ret (v := .tuple #[partsV (decide (9223372036854775808 ≤ x)) (4503599627370496 + frc x) (fld x - 1 + -1074), .int .i64 0]) (by simp [results, Tryz.results50, go_sem]) rfl ⟨congrArg _ (partsR_3 ‹_›), ?_⟩
    go_grown
  · refine bodyPost_ret (v := .tuple #[partsV false 0 0, .int .i64 2]) (by simp [results, Tryz.results50, go_sem]) rfl ⟨congrArg _ (partsR_no ‹_› ‹_› ‹_›), ?_⟩
    go_grown

theorem rparts_1 {x : Int} (h : (cls x == 1) = true) : partsV (decide (9223372036854775808 ≤ x)) (frc x) 0 = partsV (pneg x) (pman x) (pexp x) := by
  simp at h
  unfold pneg pman pexp
  rw [if_neg (by omega), if_pos h]
theorem rparts_2 {x : Int} (a : (cls x == 1) = false) (h : (cls x == 3) = false) (hf : cls x ≤ 3) : partsV (decide (9223372036854775808 ≤ x)) (frc x) (-1074) = partsV (pneg x) (pman x) (pexp x) := by
  simp at h a
  have := cls_bd x
  unfold pneg pman pexp
  rw [if_neg (by omega), if_neg (by omega), if_pos (by omega)]
theorem rparts_3 {x : Int} (h : (cls x == 3) = true) : partsV (decide (9223372036854775808 ≤ x)) (frc x + 4503599627370496) (fld x - 1075) = partsV (pneg x) (pman x) (pexp x) := by
  simp at h
  unfold pneg pman pexp
  rw [if_pos h, if_neg (by omega), if_neg (by omega), Int.add_comm]

/-! ### a word put together -/
theorem tuple_3 {k1 k2 k3 : IntKind} {a b c a' b' c' : Int} (h1 : a = a') (h2 : b = b') (h3 : c = c') : Ending.returned (.tuple #[.int k1 a, .int k2 b, .int k3 c]) = .returned (.tuple #[.int k1 a', .int k2 b', .int k3 c']) := by rw [h1, h2, h3]
theorem tuple_2 {k1 k2 : IntKind} {a b a' b' : Int} (h1 : a = a') (h2 : b = b') : Ending.returned (.tuple #[.int k1 a, .int k2 b]) = .returned (.tuple #[.int k1 a', .int k2 b']) := by rw [h1, h2]

theorem belowBdrewN {B : Nat} {a w : World} (h : Below B a w) (n : Nat) : Below B a (w.drewN n) := ⟨h.os, h.tape, h.output, h.size, h.block⟩

def splitV (man exp : Int) : Value := .tuple #[.int .u64 (sW man exp), .int .u64 (sR man exp), .int .i64 (sE man exp)]
end Go.Proofs.YtcdbjlmegkcaiaaGreatDoor
namespace Go.Bw
open Go
set_option linter.unusedVariables false
set_option linter.unusedSectionVars false

/-! ### an odd number times a power of two is told by both -/
theorem odd_pow_eq {a b i j : Nat} (ha : a % 2 = 1) (hb : b % 2 = 1) (h : a * 2 ^ i = b * 2 ^ j) : a = b ∧ i = j := by
  have key : ∀ (i j a b : Nat), a % 2 = 1 → b % 2 = 1 → i ≤ j → a * 2 ^ i = b * 2 ^ j → a = b ∧ i = j := by
    intro i j a b ha hb hij h
    obtain ⟨k, rfl⟩ : ∃ k, j = i + k := ⟨j - i, by omega⟩
    rw [Nat.pow_add, Nat.mul_comm (2 ^ i), ← Nat.mul_assoc] at h
    have h' := Nat.eq_of_mul_eq_mul_right (Nat.two_pow_pos i) h
    cases k with
    | zero => exact ⟨by simpa using h', rfl⟩
    | succ k =>
      exfalso
      rw [Nat.pow_succ, ← Nat.mul_assoc] at h'
      omega
  rcases Nat.le_total i j with c | c
  · exact key i j a b ha hb c h
  · have := key j i b a hb ha c h.symm
    exact ⟨this.1.symm, this.2.symm⟩

/-! ### the word's size, and its parts -/
theorem fld_signW (neg : Bool) (m : Int) (h0 : 0 ≤ m) (h1 : m ≤ inf) : fld (signW neg m) = m / 4503599627370496 := by
  unfold inf at h1; unfold fld signW; split <;> omega
theorem frc_signW (neg : Bool) (m : Int) (h0 : 0 ≤ m) (h1 : m ≤ inf) : frc (signW neg m) = m % 4503599627370496 := by
  unfold inf at h1; unfold frc signW; split <;> omega
theorem cls_signW (neg : Bool) (m : Int) (h0 : 0 ≤ m) (h1 : m ≤ inf) : cls (signW neg m) = if m = inf then 4 else if m = 0 then 1 else if m < 4503599627370496 then 2 else 3 := by
  unfold cls
  rw [fld_signW neg m h0 h1, frc_signW neg m h0 h1]
  unfold inf at *
  repeat' split
  all_goals omega

/-- parts of a word that was put together -/
theorem pman_join (neg : Bool) (W E : Int) (h0 : 0 < W) (h1 : W ≤ 9007199254740991) (hE : -1074 ≤ E) (hl : W < 4503599627370496 → E = -1074) (hf : joinM W E < inf) :
    pman (signW neg (joinM W E)) = W ∧ pexp (signW neg (joinM W E)) = E := by
  have hj : joinM W E = (E + 1074) * 4503599627370496 + W := by unfold joinM at *; unfold inf at *; omega
  have j0 : 0 ≤ joinM W E := by omega
  have hc := cls_signW neg _ j0 (Int.le_of_lt hf)
  have e1 := fld_signW neg _ j0 (Int.le_of_lt hf)
  have e2 := frc_signW neg _ j0 (Int.le_of_lt hf)
  rw [hj] at hc e1 e2
  rw [hj]
  generalize hw : signW neg ((E + 1074) * 4503599627370496 + W) = w at hc e1 e2 ⊢
  rw [hj] at hf
  unfold inf at *
  unfold pman pexp
  by_cases c : W < 4503599627370496
  · have := hl c
    have hc2 : cls w = 2 := by rw [hc, if_neg (by omega), if_neg (by omega), if_pos (by omega)]
    rw [if_neg (by omega), if_neg (by omega), if_pos hc2]
    omega
  · have hc3 : cls w = 3 := by rw [hc, if_neg (by omega), if_neg (by omega), if_neg (by omega)]
    rw [if_pos hc3, if_neg (by omega), if_neg (by omega)]
    omega
theorem pexp_join (neg : Bool) (W E : Int) (h0 : 0 < W) (h1 : W ≤ 9007199254740992) (hE : -1074 ≤ E) (hl : W < 4503599627370496 → E = -1074) (hf : joinM W E < inf) :
    E ≤ pexp (signW neg (joinM W E)) := by
  by_cases c : W ≤ 9007199254740991
  · rw [(pman_join neg W E h0 c hE hl hf).2]; exact Int.le_refl _
  · have hW : W = 9007199254740992 := by omega
    have hj : joinM W E = (E + 1074) * 4503599627370496 + W := by unfold joinM at *; unfold inf at *; omega
    have j0 : 0 ≤ joinM W E := by omega
    have hc := cls_signW neg _ j0 (Int.le_of_lt hf)
    have e1 := fld_signW neg _ j0 (Int.le_of_lt hf)
    rw [hj] at hc e1
    rw [hj]
    generalize hw : signW neg ((E + 1074) * 4503599627370496 + W) = w at hc e1 ⊢
    rw [hj] at hf
    unfold inf at *
    have hc3 : cls w = 3 := by rw [hc, if_neg (by omega), if_neg (by omega), if_neg (by omega)]
    unfold pexp
    rw [if_neg (by omega), if_neg (by omega)]
    omega

/-! ### the cut's numbers -/
theorem sW_52 (man exp : Int) (h0 : 0 < man) (h1 : man ≤ 18446744073709551615) (h : sW man exp < 4503599627370496) : sE man exp = -1074 := by
  have hb := bl_bd man h0 h1
  rcases Decidable.em (sE man exp = -1074) with e | e
  · exact e
  · exfalso
    have hE : sE man exp = sF exp + bl man - 53 := by
      unfold sE at e ⊢; rw [if_neg (by omega)] at e ⊢; omega
    have hd : sD man exp = bl man - 53 := by unfold sD; omega
    obtain ⟨m, rfl⟩ := Int.eq_ofNat_of_zero_le (Int.le_of_lt h0)
    have hm : m < 18446744073709551616 := by omega
    have hbl : bl (m : Int) = (Lib.bitLen m : Int) := by unfold bl; rw [Int.toNat_natCast]
    unfold sW at h
    rw [if_neg (by omega)] at h
    by_cases c : sD (m : Int) exp ≤ 0
    · rw [if_pos c] at h
      have s := ((bl_spec m hm).2 (by omega)).2
      have hk : (-sD (m : Int) exp).toNat = 53 - Lib.bitLen m := by omega
      rw [hk] at h
      have e2 : (2 : Nat) ^ 52 ≤ m * 2 ^ (53 - Lib.bitLen m) := by
        have := Nat.mul_le_mul_right (2 ^ (53 - Lib.bitLen m)) s
        rw [← Nat.pow_add, show Lib.bitLen m - 1 + (53 - Lib.bitLen m) = 52 by omega] at this
        exact this
      have e3 : ((m : Int) * 2 ^ (53 - Lib.bitLen m)) = ((m * 2 ^ (53 - Lib.bitLen m) : Nat) : Int) := by simp
      rw [e3] at h
      omega
    · rw [if_neg c, if_pos (by omega)] at h
      have hk : (sD (m : Int) exp).toNat = Lib.bitLen m - 53 := by omega
      rw [hk] at h
      have s := (div_ge_52 m (Lib.bitLen m - 53) hm).2 (by omega)
      have e3 : ((m : Int) / 2 ^ (Lib.bitLen m - 53)) = ((m / 2 ^ (Lib.bitLen m - 53) : Nat) : Int) := by simp
      rw [e3] at h
      omega

theorem man_lt_pow (o t : Nat) (ho : 0 < o) (h : o * 2 ^ t < 18446744073709551616) : t < 64 := by
  rcases Nat.lt_or_ge t 64 with c | c
  · exact c
  · exfalso
    have := Nat.pow_le_pow_right (show 0 < 2 by decide) c
    have := Nat.le_mul_of_pos_left (2 ^ t) ho
    omega

/-- where nothing was lost, what stands above the cut is the number -/
theorem cut_exact (o t : Nat) (exp : Int) (ho : o % 2 = 1) (h1 : o * 2 ^ t < 18446744073709551616) (x0 : -2048 ≤ exp) (x1 : exp ≤ 2048) (hR : sR ((o * 2 ^ t : Nat) : Int) exp = 0) :
    ∃ u : Nat, sW ((o * 2 ^ t : Nat) : Int) exp = ((o * 2 ^ u : Nat) : Int) ∧ sE ((o * 2 ^ t : Nat) : Int) exp + u = exp + t := by
  have hp := Nat.two_pow_pos t
  have hm0 : 0 < o * 2 ^ t := Nat.mul_pos (by omega) hp
  generalize hM : o * 2 ^ t = M at *
  have hf : sF exp = exp := by unfold sF; omega
  have hd : sE (M : Int) exp = exp + sD (M : Int) exp := by unfold sD; omega
  unfold sR at hR
  rw [if_neg (by omega)] at hR
  unfold sW
  rw [if_neg (by omega)]
  by_cases c : sD (M : Int) exp ≤ 0
  · rw [if_pos c]
    refine ⟨t + (-sD (M : Int) exp).toNat, ?_, by omega⟩
    rw [← hM, Nat.pow_add]
    simp [Int.mul_assoc]
  · rw [if_neg c] at hR ⊢
    by_cases c2 : sD (M : Int) exp ≤ 64
    · rw [if_pos c2] at hR ⊢
      have hE : max (sF exp + bl (M : Int) - 52 - 1) (-1074) = sE (M : Int) exp := by unfold sE; rw [if_neg (by omega)]
      rw [cut_rest (M : Int) exp (sF exp) (bl M) (sE M exp) (sD M exp) (by omega) (by omega) rfl rfl hE rfl (by omega) c2] at hR
      have hz : (M : Int) % 2 ^ (sD (M : Int) exp).toNat = 0 := by
        rcases Int.mul_eq_zero.1 hR with h | h
        · exact h
        · exact absurd h (Int.ne_of_gt (pow_pos_int _))
      obtain ⟨D, hD⟩ : ∃ D : Nat, (sD (M : Int) exp).toNat = D := ⟨_, rfl⟩
      rw [hD] at hz ⊢
      have hz' : M % 2 ^ D = 0 := by exact_mod_cast hz
      have hq : M = M / 2 ^ D * 2 ^ D := by
        have := Nat.div_add_mod M (2 ^ D)
        rw [hz', Nat.add_zero, Nat.mul_comm] at this
        exact this.symm
      have hDt : D ≤ t := by
        rcases Nat.lt_or_ge t D with g | g
        · exfalso
          obtain ⟨k, rfl⟩ : ∃ k, D = t + (k + 1) := ⟨D - t - 1, by omega⟩
          rw [← hM] at hz'
          rw [Nat.pow_add, Nat.mul_comm o, Nat.mul_mod_mul_left] at hz'
          have h2 : 2 ^ t = 0 ∨ o % 2 ^ (k + 1) = 0 := Nat.mul_eq_zero.1 hz'
          rcases h2 with h2 | h2
          · omega
          · have hdvd : 2 ∣ 2 ^ (k + 1) := ⟨2 ^ k, by rw [Nat.pow_succ, Nat.mul_comm]⟩
            have := Nat.mod_mod_of_dvd o hdvd
            rw [h2] at this
            omega
        · exact g
      refine ⟨t - D, ?_, by omega⟩
      have e : M / 2 ^ D = o * 2 ^ (t - D) := by
        rw [← hM, show t = (t - D) + D by omega, Nat.pow_add, ← Nat.mul_assoc, Nat.mul_div_cancel _ (Nat.two_pow_pos D)]
        simp
      have e3 : ((M : Int) / 2 ^ D) = ((M / 2 ^ D : Nat) : Int) := by simp
      rw [e3, e]
    · rw [if_neg c2] at hR
      exact absurd hR (by decide)

/-- where something was lost, the number's last bit lies below the cut -/
theorem cut_lost (o t : Nat) (exp : Int) (ho : o % 2 = 1) (h1 : o * 2 ^ t < 18446744073709551616) (x1 : exp ≤ 2048) (hR : sR ((o * 2 ^ t : Nat) : Int) exp ≠ 0) :
    exp + t < sE ((o * 2 ^ t : Nat) : Int) exp := by
  have hp := Nat.two_pow_pos t
  have hm0 : 0 < o * 2 ^ t := Nat.mul_pos (by omega) hp
  have ht := man_lt_pow o t (by omega) h1
  generalize hM : o * 2 ^ t = M at *
  have eb := sE_bd (M : Int) exp (by omega) (by omega)
  by_cases x0 : exp < -2048
  · omega
  · have hf : sF exp = exp := by unfold sF; omega
    have hd : sE (M : Int) exp = exp + sD (M : Int) exp := by unfold sD; omega
    unfold sR at hR
    rw [if_neg (by omega)] at hR
    by_cases c : sD (M : Int) exp ≤ 0
    · rw [if_pos c] at hR; exact absurd rfl hR
    · rw [if_neg c] at hR
      by_cases c2 : sD (M : Int) exp ≤ 64
      · rw [if_pos c2] at hR
        rcases Decidable.em (exp + t < sE (M : Int) exp) with g | g
        · exact g
        · exfalso
          apply hR
          have hE : max (sF exp + bl (M : Int) - 52 - 1) (-1074) = sE (M : Int) exp := by unfold sE; rw [if_neg (by omega)]
          rw [cut_rest (M : Int) exp (sF exp) (bl M) (sE M exp) (sD M exp) (by omega) (by omega) rfl rfl hE rfl (by omega) c2]
          obtain ⟨D, hD⟩ : ∃ D : Nat, (sD (M : Int) exp).toNat = D := ⟨_, rfl⟩
          rw [hD]
          have hz : M % 2 ^ D = 0 := by
            rw [← hM, show t = (t - D) + D by omega, Nat.pow_add, ← Nat.mul_assoc, Nat.mul_mod_left]
          have e : ((M : Int) % 2 ^ D) = ((M % 2 ^ D : Nat) : Int) := by simp
          rw [e, hz]; simp
      · omega

/-! ### the same number, told with a shorter mantissa, is rounded to the same word -/
theorem rUp_shift (o t k : Nat) : rUp ((o * 2 ^ t : Nat) : Int) ((t + k : Nat) : Int) false = rUp (o : Int) (k : Int) false := by
  have hp := Nat.two_pow_pos t
  rw [rUp_nat, rUp_nat]
  have e1 : o * 2 ^ t % 2 ^ (t + k) = o % 2 ^ k * 2 ^ t := by
    rw [Nat.pow_add, Nat.mul_comm o, Nat.mul_mod_mul_left, Nat.mul_comm]
  have e2 : o * 2 ^ t / 2 ^ (t + k) = o / 2 ^ k := by
    rw [Nat.pow_add, Nat.mul_comm o, Nat.mul_div_mul_left _ _ hp]
  have e3 : 2 ^ (t + k) = 2 ^ k * 2 ^ t := by rw [Nat.pow_add, Nat.mul_comm]
  rw [e1, e2, e3]
  have a1 : (2 ^ k * 2 ^ t < 2 * (o % 2 ^ k * 2 ^ t)) ↔ (2 ^ k < 2 * (o % 2 ^ k)) := by
    rw [← Nat.mul_assoc]
    exact Nat.mul_lt_mul_right hp
  have a2 : (2 * (o % 2 ^ k * 2 ^ t) = 2 ^ k * 2 ^ t) ↔ (2 * (o % 2 ^ k) = 2 ^ k) := by
    rw [← Nat.mul_assoc]
    exact Nat.mul_left_inj (Nat.pos_iff_ne_zero.1 hp)
  simp only [a1, a2]

theorem rW_le (man d : Int) (more : Bool) (h : d ≤ 0) : rW man d more = man * 2 ^ (-d).toNat := by unfold rW; rw [if_pos h]
theorem rW_gt (man d : Int) (more : Bool) (h : ¬ d ≤ 0) : rW man d more = man / 2 ^ d.toNat + (if rUp man d more then 1 else 0) := by unfold rW; rw [if_neg h]
theorem rW_shift (o t : Nat) (d : Int) : rW ((o * 2 ^ t : Nat) : Int) d false = rW (o : Int) (d - t) false := by
  have hp := Nat.two_pow_pos t
  by_cases c : d ≤ 0
  · rw [rW_le _ _ _ c, rW_le _ _ _ (by omega), show (-(d - (t : Int))).toNat = t + (-d).toNat by omega, Int.pow_add]
    simp [Int.mul_assoc]
  · rw [rW_gt _ _ _ c]
    by_cases c2 : d ≤ t
    · rw [rW_le _ _ _ (by omega)]
      obtain ⟨D, rfl⟩ := Int.eq_ofNat_of_zero_le (show 0 ≤ d by omega)
      have hD : D ≤ t := by omega
      have e : o * 2 ^ t = o * 2 ^ (t - D) * 2 ^ D := by
        rw [Nat.mul_assoc, ← Nat.pow_add, Nat.sub_add_cancel hD]
      have u : rUp ((o * 2 ^ t : Nat) : Int) (D : Int) false = false := by
        rw [rUp_nat, e, Nat.mul_mod_left]
        have h2 := Nat.two_pow_pos D
        have n1 : ¬ (2 ^ D < 2 * 0) := by omega
        have n2 : ¬ (2 * 0 = 2 ^ D) := by omega
        rw [decide_eq_false n1, decide_eq_false n2]; rfl
      rw [u, Int.toNat_natCast, show (-((D : Int) - (t : Int))).toNat = t - D by omega]
      have q : o * 2 ^ t / 2 ^ D = o * 2 ^ (t - D) := by rw [e, Nat.mul_div_cancel _ (Nat.two_pow_pos D)]
      have e3 : (((o * 2 ^ t : Nat) : Int) / 2 ^ D) = ((o * 2 ^ t / 2 ^ D : Nat) : Int) := by simp
      rw [e3, q]
      simp
    · obtain ⟨k, hk⟩ : ∃ k : Nat, d = ((t + k : Nat) : Int) := ⟨(d - t).toNat, by omega⟩
      subst hk
      rw [rUp_shift, Int.toNat_natCast, show ((t + k : Nat) : Int) - (t : Int) = (k : Int) by omega, rW_gt _ _ _ (by omega), Int.toNat_natCast]
      have e3 : (((o * 2 ^ t : Nat) : Int) / 2 ^ (t + k)) = ((o * 2 ^ t / 2 ^ (t + k) : Nat) : Int) := by simp
      have e2 : o * 2 ^ t / 2 ^ (t + k) = o / 2 ^ k := by
        rw [Nat.pow_add, Nat.mul_comm o, Nat.mul_div_mul_left _ _ hp]
      rw [e3, e2]
      simp

theorem rnd_shift (o t : Nat) (exp : Int) (ho : 0 < o) (h1 : o * 2 ^ t < 18446744073709551616) : rnd (o : Int) (exp + t) false = rnd ((o * 2 ^ t : Nat) : Int) exp false := by
  have hm0 : 0 < o * 2 ^ t := Nat.mul_pos ho (Nat.two_pow_pos t)
  have hb : bl ((o * 2 ^ t : Nat) : Int) = bl (o : Int) + t := by
    unfold bl
    rw [Int.toNat_natCast, Int.toNat_natCast, bl_shift o t (by omega) h1]
    omega
  have hE : rE (o : Int) (exp + t) = rE ((o * 2 ^ t : Nat) : Int) exp := by unfold rE; omega
  unfold rnd
  rw [if_neg (by omega), if_neg (by omega), hE, rW_shift, show rE ((o * 2 ^ t : Nat) : Int) exp - (exp + (t : Int)) = rE ((o * 2 ^ t : Nat) : Int) exp - exp - t by omega]

/-! ### is the number a float's? -/
def exIs (neg : Bool) (man exp : Int) : Bool := decide (sR man exp = 0) && !(cls (signW neg (joinM (sW man exp) (sE man exp))) == 4)

theorem joinM_bd' (W E : Int) (h0 : 0 ≤ W) (e0 : -1074 ≤ E) : 0 ≤ joinM W E ∧ joinM W E ≤ inf := by
  unfold joinM inf; omega
theorem cls_fin (neg : Bool) (m : Int) (h0 : 0 ≤ m) (h1 : m ≤ inf) : cls (signW neg m) ≤ 3 ↔ m < inf := by
  rw [cls_signW neg m h0 h1]
  unfold inf at *
  repeat' split
  all_goals omega
theorem cls_inf (neg : Bool) (m : Int) (h0 : 0 ≤ m) (h1 : m ≤ inf) : cls (signW neg m) = 4 ↔ m = inf := by
  rw [cls_signW neg m h0 h1]
  unfold inf at *
  repeat' split
  all_goals omega

theorem sD_up (man exp : Int) (h0 : 0 < man) (h1 : man ≤ 18446744073709551615) (hx : 2048 < exp) (W : Int) (hW : 0 ≤ W) : joinM W (sE man exp) = inf := by
  have hb := bl_bd man h0 h1
  have : 1900 ≤ sE man exp := by unfold sE sF; rw [if_neg (by omega)]; omega
  unfold joinM inf; omega

section
variable (neg : Bool) (o t : Nat) (exp : Int) (ho : o % 2 = 1) (h1 : o * 2 ^ t < 18446744073709551616)
include ho h1

/-- an infinity is never just a number's -/
theorem ex_inf (hw : ¬ cls (signW neg (rnd (o : Int) (exp + t) false)) ≤ 3) : exIs neg ((o * 2 ^ t : Nat) : Int) exp = false := by
  have hm0 : 0 < o * 2 ^ t := Nat.mul_pos (by omega) (Nat.two_pow_pos t)
  rw [rnd_shift o t exp (by omega) h1] at hw
  generalize hM : o * 2 ^ t = M at *
  have wb := sW_bd (M : Int) exp (by omega) (by omega)
  have eb := sE_bd (M : Int) exp (by omega) (by omega)
  have rb := rnd_bd (M : Int) exp false (by omega) (by omega)
  rw [cls_fin neg _ rb.1 rb.2] at hw
  have hc := cut_rnd (M : Int) exp false (by omega) (by omega)
  unfold exIs
  by_cases hR : sR (M : Int) exp = 0
  · have hu : sUp (sW (M : Int) exp) (sR (M : Int) exp) false = false := by rw [hR]; simp [sUp]
    rw [hu] at hc
    have jb := joinM_bd' (sW (M : Int) exp) (sE (M : Int) exp) wb.1 eb.1
    have hj : joinM (sW (M : Int) exp) (sE (M : Int) exp) = inf := by
      have : joinM (sW (M : Int) exp) (sE (M : Int) exp) = rnd (M : Int) exp false := by rw [← hc]; simp
      omega
    have := (cls_inf neg _ jb.1 jb.2).2 hj
    rw [this]; simp
  · simp [hR]

/-- of a finite word: its parts, halved till odd, are the number's just if it is that number's -/
theorem ex_iff (q u : Nat) (hw : cls (signW neg (rnd (o : Int) (exp + t) false)) ≤ 3) (hq : pman (signW neg (rnd (o : Int) (exp + t) false)) = ((q * 2 ^ u : Nat) : Int)) (hodd : q = 0 ∨ q % 2 = 1) :
    ((q = o ∧ pexp (signW neg (rnd (o : Int) (exp + t) false)) + u = exp + t) ↔ exIs neg ((o * 2 ^ t : Nat) : Int) exp = true) ∧
    (exIs neg ((o * 2 ^ t : Nat) : Int) exp = true → signW neg (joinM (sW ((o * 2 ^ t : Nat) : Int) exp) (sE ((o * 2 ^ t : Nat) : Int) exp)) = signW neg (rnd (o : Int) (exp + t) false)) := by
  have hm0 : 0 < o * 2 ^ t := Nat.mul_pos (by omega) (Nat.two_pow_pos t)
  have ht := man_lt_pow o t (by omega) h1
  have cl := cut_lost o t exp ho h1
  have ce := cut_exact o t exp ho h1
  rw [rnd_shift o t exp (by omega) h1] at hw hq ⊢
  generalize hM : o * 2 ^ t = M at *
  have wb := sW_bd (M : Int) exp (by omega) (by omega)
  have eb := sE_bd (M : Int) exp (by omega) (by omega)
  have rb := rnd_bd (M : Int) exp false (by omega) (by omega)
  have hfin := (cls_fin neg _ rb.1 rb.2).1 hw
  have hc := cut_rnd (M : Int) exp false (by omega) (by omega)
  have x1 : exp ≤ 2048 := by
    rcases Decidable.em (exp ≤ 2048) with g | g
    · exact g
    · exfalso
      have := sD_up (M : Int) exp (by omega) (by omega) (by omega) (sW (M : Int) exp + if sUp (sW (M : Int) exp) (sR (M : Int) exp) false then 1 else 0) (by split <;> omega)
      omega
  have s52 := sW_52 (M : Int) exp (by omega) (by omega)
  by_cases hR : sR (M : Int) exp = 0
  · have hu : sUp (sW (M : Int) exp) (sR (M : Int) exp) false = false := by rw [hR]; simp [sUp]
    rw [hu] at hc
    have hj : joinM (sW (M : Int) exp) (sE (M : Int) exp) = rnd (M : Int) exp false := by rw [← hc]; simp
    have hok : exIs neg (M : Int) exp = true := by
      unfold exIs
      rw [hR, hj]
      have : ¬ cls (signW neg (rnd (M : Int) exp false)) = 4 := by
        rw [cls_inf neg _ rb.1 rb.2]; omega
      simp [this]
    have x0 : -2048 ≤ exp := by
      rcases Decidable.em (-2048 ≤ exp) with g | g
      · exact g
      · exfalso
        have hb := bl_bd (M : Int) (by omega) (by omega)
        have hD : 64 < sD (M : Int) exp := by unfold sD sE sF; rw [if_neg (by omega)]; omega
        unfold sR at hR
        rw [if_neg (by omega), if_neg (by omega), if_neg (by omega)] at hR
        omega
    obtain ⟨v, hv1, hv2⟩ := ce x0 x1 hR
    have hv0 : 0 < o * 2 ^ v := Nat.mul_pos (by omega) (Nat.two_pow_pos v)
    have pj := pman_join neg (sW (M : Int) exp) (sE (M : Int) exp) (by omega) wb.2 eb.1 s52 (by omega)
    rw [hj] at pj
    rw [pj.1, hv1] at hq
    have hq' : q * 2 ^ u = o * 2 ^ v := by
      have : ((o * 2 ^ v : Nat) : Int) = ((q * 2 ^ u : Nat) : Int) := hq
      omega
    have hq1 : q % 2 = 1 := by
      rcases hodd with h | h
      · subst h; omega
      · exact h
    have hu := odd_pow_eq hq1 ho hq'
    refine ⟨⟨fun _ => hok, fun _ => ⟨hu.1, ?_⟩⟩, fun _ => by rw [hj]⟩
    rw [pj.2, hu.2]; exact hv2
  · have hno : exIs neg (M : Int) exp = false := by unfold exIs; simp [hR]
    have hlost := cl x1 hR
    rw [hno]
    refine ⟨⟨fun h => ?_, fun h => by cases h⟩, fun h => by cases h⟩
    exfalso
    obtain ⟨hqo, hqe⟩ := h
    have hv0 : 0 < q * 2 ^ u := Nat.mul_pos (by omega) (Nat.two_pow_pos u)
    have hpos : 0 < sW (M : Int) exp + if sUp (sW (M : Int) exp) (sR (M : Int) exp) false then 1 else 0 := by
      rcases Decidable.em (0 < sW (M : Int) exp + if sUp (sW (M : Int) exp) (sR (M : Int) exp) false then 1 else 0) with g | g
      · exact g
      · exfalso
        have hz : sW (M : Int) exp + (if sUp (sW (M : Int) exp) (sR (M : Int) exp) false then 1 else 0) = 0 := by
          have : (0 : Int) ≤ (if sUp (sW (M : Int) exp) (sR (M : Int) exp) false then 1 else 0) := by split <;> omega
          omega
        have hW0 : sW (M : Int) exp = 0 := by
          have : (0 : Int) ≤ (if sUp (sW (M : Int) exp) (sR (M : Int) exp) false then 1 else 0) := by split <;> omega
          omega
        have hE := s52 (by omega)
        rw [hz, hE] at hc
        have hr0 : rnd (M : Int) exp false = 0 := by rw [← hc]; decide
        rw [hr0] at hq
        have : pman (signW neg 0) = 0 := by cases neg <;> decide
        omega
    have hlow : sW (M : Int) exp + (if sUp (sW (M : Int) exp) (sR (M : Int) exp) false then 1 else 0) < 4503599627370496 → sE (M : Int) exp = -1074 := by
      intro h
      have : (0 : Int) ≤ (if sUp (sW (M : Int) exp) (sR (M : Int) exp) false then 1 else 0) := by split <;> omega
      exact s52 (by omega)
    have := pexp_join neg _ (sE (M : Int) exp) hpos (by split <;> omega) eb.1 hlow (by rw [hc]; exact hfin)
    rw [hc] at this
    omega
end
end Go.Bw
