/-
  Layer 7, walks: floats that are alike; all NaNs are one.
-/
import Derived.Test.YtfelmkkkaphkpaaKVwL
import Derived.Test.YtfelmkkkaphkpaaAfA
namespace Go.Proofs.Ytfelmkkkaphkpaa
open Go Go.RowKit Go.Bw
set_option linter.unusedVariables false
set_option linter.unusedSimpArgs false

theorem run_float64bits (n : Nat) (w : World) : (callFunc 100 #[.float .f64 n]).run Try.prog w = .ok (.value (.int .u64 (n : Int))) w := by
  rw [run_callFunc_extern (e := Extern.MathFloatBits.float64bits) Try.func100 (by kernel_rfl) (by kernel_rfl) (by kernel_rfl) (by kernel_rfl)]; rfl
theorem order_self_not {x : Nat} (hx : x ≤ 18446744073709551615) (h : isN x = false) : (FloatKind.f64.format.order x x != some .eq) = false := by
  show ((Ieee.double.read x).order (Ieee.double.read x) != some .eq) = false
  cases hr : Ieee.double.read x with
  | nan s f => rw [(read_isN x hx).2 ⟨s, f, hr⟩] at h; cases h
  | infinity s => cases s <;> rfl
  | number s m e =>
    simp only [Ieee.Datum.order]
    simp
theorem isN_cls {x : Int} (h0 : 0 ≤ x) (h1 : x ≤ 18446744073709551615) : isN x.toNat = decide (cls x = 5) := by
  obtain ⟨n, rfl⟩ := Int.eq_ofNat_of_zero_le h0
  rw [Int.toNat_natCast]
  unfold isN cls fld frc
  rw [decide_eq_decide]
  constructor
  · intro h
    rw [if_pos (by omega), if_neg (by omega)]
  · intro h
    split at h
    · split at h
      · omega
      · omega
    · split at h
      · split at h <;> omega
      · omega
/-- the same float, all NaNs being one -/
def alikeB (x y : Int) : Bool := decide (one x = one y)
theorem order_cls {x : Int} (h0 : 0 ≤ x) (h1 : x ≤ 18446744073709551615) : (FloatKind.f64.format.order x.toNat x.toNat != some .eq) = decide (cls x = 5) := by
  rw [← isN_cls h0 h1]
  cases h : isN x.toNat
  · exact order_self_not (by omega) h
  · exact order_self_is (by omega) h
theorem alike_no {x y : Int} (h : x ≠ y) : alikeB x y = (decide (cls x = 5) && decide (cls y = 5)) := by
  unfold alikeB one
  have n1 : cls nan = 5 := by decide
  by_cases h1 : cls x = 5
  · by_cases h2 : cls y = 5
    · simp [h1, h2]
    · rw [if_pos h1, if_neg h2]
      have : nan ≠ y := fun e => h2 (by rw [← e]; exact n1)
      simp [h2, this]
  · by_cases h2 : cls y = 5
    · rw [if_neg h1, if_pos h2]
      have : x ≠ nan := fun e => h1 (by rw [e]; exact n1)
      simp [h1, this]
    · simp [h1, h2, h]
theorem alike_self (x : Int) : alikeB x x = true := by unfold alikeB; simp

set_option maxHeartbeats 1000000 in
theorem alike_any {x y : Int} (x0 : 0 ≤ x) (x1 : x ≤ 18446744073709551615) (y0 : 0 ≤ y) (y1 : y ≤ 18446744073709551615) (w : World) :
    Calls Try.prog 94 #[.float .f64 x.toNat, .float .f64 y.toNat] w fun e w' => e = .returned (.bool (alikeB x y)) ∧ w' = w := by
  have bx := run_float64bits x.toNat
  have by9 := run_float64bits y.toNat
  rw [Int.toNat_of_nonneg x0] at bx
  rw [Int.toNat_of_nonneg y0] at by9
  by_cases hxy : x = y
  · subst hxy
    rw [alike_self]
    cases d : (FloatKind.f64.format.order x.toNat x.toNat != some .eq)
    · go_enter Try.func94, Try.ntmps94
      go_wp2_with fail
      go_ret
      exact ⟨rfl, rfl⟩
    · go_enter Try.func94, Try.ntmps94
      go_wp2_with fail
      go_ret
      exact ⟨rfl, rfl⟩
  · rw [alike_no hxy]
    have d1 := order_cls x0 x1
    have d2 := order_cls y0 y1
    have hb : (x == y) = false := by simp [hxy]
    clear hxy
    obtain ⟨b1, h1⟩ : ∃ b, decide (cls x = 5) = b := ⟨_, rfl⟩
    obtain ⟨b2, h2⟩ : ∃ b, decide (cls y = 5) = b := ⟨_, rfl⟩
    rw [h1] at d1 ⊢
    rw [h2] at d2 ⊢
    clear h1 h2
    cases b1
    · cases b2
      · go_enter Try.func94, Try.ntmps94
        go_wp2_with fail
        go_ret
        exact ⟨rfl, rfl⟩
      · go_enter Try.func94, Try.ntmps94
        go_wp2_with fail
        go_ret
        exact ⟨rfl, rfl⟩
    · cases b2
      · go_enter Try.func94, Try.ntmps94
        go_wp2_with fail
        go_ret
        exact ⟨rfl, rfl⟩
      · go_enter Try.func94, Try.ntmps94
        go_wp2_with fail
        go_ret
        exact ⟨rfl, rfl⟩

set_option maxHeartbeats 1000000 in
theorem All_any (v : Vu) (w : World) : Calls Try.prog 93 #[v.V] w fun e w' => e = .returned (.func (.func 109) #[] #[.pointer (some ⟨w.heap.size, 0, none⟩)]) ∧ w' = w.alloc (.cells v.L.toArray 30) := by
  obtain ⟨p, f0, f1, d0, d1, r0, r1, R, C⟩ := v
  go_enter Try.func93, Try.ntmps93
  go_wp2_with fail
  go_ret
  exact ⟨rfl, rfl⟩
end Go.Proofs.Ytfelmkkkaphkpaa
