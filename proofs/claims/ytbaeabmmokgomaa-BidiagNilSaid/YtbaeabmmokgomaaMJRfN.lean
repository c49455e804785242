/-
  Floats with all NaNs one: products in either order, products of a float with its sign turned.
-/
import Derived.Test.YtbaeabmmokgomaaMJAfA
namespace Go.Proofs.Ytbaeabmmokgomaa
open Go Go.RowKit
set_option linter.unusedVariables false
set_option linter.unusedSimpArgs false

theorem pro_comm (a b : Ieee.Datum) : a.product b = b.product a := by
  cases a with
  | nan s f => cases b <;> rfl
  | infinity s =>
    cases b with
    | nan t g => rfl
    | infinity t => show some (Ieee.Datum.infinity (s ^^ t)) = some (Ieee.Datum.infinity (t ^^ s)); rw [Bool.xor_comm]
    | number t n j => rfl
  | number s m i =>
    cases b with
    | nan t g => rfl
    | infinity t => rfl
    | number t n j =>
      show some (Ieee.Datum.number (s ^^ t) (m * n) (i + j)) = some (Ieee.Datum.number (t ^^ s) (n * m) (j + i))
      rw [Bool.xor_comm, Nat.mul_comm, Int.add_comm]
theorem mul_comm_A (a b : Option Nat) : aop .mul a b = aop .mul b a := by
  cases a with
  | none => cases b <;> rfl
  | some x =>
    cases b with
    | none => rfl
    | some y =>
      show ((Ieee.double.read x).product (Ieee.double.read y)).map Ieee.double.write = ((Ieee.double.read y).product (Ieee.double.read x)).map Ieee.double.write
      rw [pro_comm]
/-- a word with its sign turned -/
def ngW (x : Nat) : Nat := if 9223372036854775808 ≤ x then x - 9223372036854775808 else x + 9223372036854775808
theorem negA_some (x : Nat) : negA (some x) = some (ngW x) := rfl
theorem ngW_bd {x : Nat} (hx : x ≤ 18446744073709551615) : ngW x ≤ 18446744073709551615 := by unfold ngW; split <;> omega
theorem read_ng {x : Nat} (hx : x ≤ 18446744073709551615) : Ieee.double.read (ngW x) = (Ieee.double.read x).opposite := by
  obtain ⟨e1, e2, e3⟩ := rungs
  have h1 : ngW x % 9223372036854775808 = x % 9223372036854775808 := by unfold ngW; split <;> omega
  have h2 : (ngW x / 9223372036854775808 % 2 == 1) = !(x / 9223372036854775808 % 2 == 1) := by
    unfold ngW
    by_cases h : 9223372036854775808 ≤ x
    · rw [if_pos h]
      have a : (x - 9223372036854775808) / 9223372036854775808 % 2 = 0 := by omega
      have b : x / 9223372036854775808 % 2 = 1 := by omega
      rw [a, b]; rfl
    · rw [if_neg h]
      have a : (x + 9223372036854775808) / 9223372036854775808 % 2 = 1 := by omega
      have b : x / 9223372036854775808 % 2 = 0 := by omega
      rw [a, b]; rfl
  unfold Ieee.Format.read
  simp only [e1, e2, e3, h1, h2]
  split
  · rfl
  · split
    · rfl
    · split <;> rfl
theorem word_ng (s : Bool) {r : Nat} (hr : r < 9223372036854775808) : Ieee.double.word (!s) r = ngW (Ieee.double.word s r) := by
  cases s
  · show 9223372036854775808 + r = ngW r
    unfold ngW
    rw [if_neg (by omega)]; omega
  · show r = ngW (9223372036854775808 + r)
    unfold ngW
    rw [if_pos (by omega)]; omega
theorem write_ng {d : Ieee.Datum} (hd : Datum_ok (some d)) : Ieee.double.write d.opposite = ngW (Ieee.double.write d) := by
  obtain ⟨e1, e2, e3⟩ := rungs
  cases d with
  | nan s f => exact hd.elim
  | infinity s => exact word_ng s (by rw [e3]; omega)
  | number s m e =>
    show Ieee.double.nearest (!s) m e = ngW (Ieee.double.nearest s m e)
    unfold Ieee.Format.nearest
    split
    · exact word_ng s (by omega)
    · exact word_ng s (by rw [e3]; omega)
theorem opp_pro (a b : Ieee.Datum) : a.opposite.product b = (a.product b).map Ieee.Datum.opposite := by
  cases a with
  | nan s f => cases b <;> rfl
  | infinity s =>
    cases b with
    | nan t g => rfl
    | infinity t => simp [Ieee.Datum.product, Ieee.Datum.opposite]
    | number t n j =>
      simp only [Ieee.Datum.product, Ieee.Datum.opposite]
      split <;> simp [Ieee.Datum.opposite]
  | number s m i =>
    cases b with
    | nan t g => rfl
    | infinity t =>
      simp only [Ieee.Datum.product, Ieee.Datum.opposite]
      split <;> simp [Ieee.Datum.opposite]
    | number t n j => simp [Ieee.Datum.product, Ieee.Datum.opposite]
/-- a product of a float with its sign turned -/
theorem neg_mul_A {x : Nat} (hx : x ≤ 18446744073709551615) (s : Option Nat) : aop .mul (negA (af x)) s = negA (aop .mul (af x) s) := by
  cases hn : isN x
  · rw [af_some hn]
    cases s with
    | none => rfl
    | some y =>
      rw [negA_some]
      show ((Ieee.double.read (ngW x)).product (Ieee.double.read y)).map Ieee.double.write = negA (((Ieee.double.read x).product (Ieee.double.read y)).map Ieee.double.write)
      rw [read_ng hx, opp_pro]
      have ok := pro_ok (Ieee.double.read x) (Ieee.double.read y)
      revert ok
      generalize (Ieee.double.read x).product (Ieee.double.read y) = o
      intro ok
      cases o with
      | none => rfl
      | some d =>
        show some (Ieee.double.write d.opposite) = some (ngW (Ieee.double.write d))
        rw [write_ng ok]
  · rw [af_none hn]; rfl
end Go.Proofs.Ytbaeabmmokgomaa
