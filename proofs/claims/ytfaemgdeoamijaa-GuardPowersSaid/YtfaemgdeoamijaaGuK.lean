/-
  Layer 5, walks: the code of words, by the reference.
-/
import Derived.Test.YtfaemgdeoamijaaGuJ
import Derived.Test.YtfaemgdeoamijaaGuD
import Derived.Test.YtfaemgdeoamijaaGuF
namespace Go.Proofs.Ytfaemgdeoamijaa
open Go.RowKit Go.Bw
set_option linter.unusedVariables false
set_option linter.unusedSimpArgs false

/-- how ranks stand to sizes that are not below 0 -/
theorem sm_mag {x : Int} (h0 : 0 ≤ x) (h1 : x ≤ 9223372036854775807) : sm x = x ∧ mag x = x := by
  unfold sm mag
  rw [if_neg (by omega)]
  omega
theorem fin_mag {x : Int} (h : fin x = true) : fin (mag x) = true := by
  unfold fin mag at *
  simp at h ⊢
  omega

set_option maxHeartbeats 1000000 in
theorem rInRange_any (x : Int) (h0 : 0 ≤ x) (h1 : x ≤ 18446744073709551615) (w : World) :
    Calls Try.prog 17 #[.int .u64 x] w (Ans w (.bool (inr x))) := by
  cases hf : fin x
  · have hi : inr x = false := by
      cases hb : inr x
      · rfl
      · rw [inr_fin hb] at hf; cases hf
    rw [hi]
    go_enter Try.func17, Try.ntmps17
    go_wp2_with (go_at_call 19; refine (rFinite_any _ h0 h1 _).mono ?_; rintro e9 w' ⟨rfl, rfl⟩)
    go_ret
    exact ⟨rfl, rfl⟩
  · have hm := mag_bd x
    have e1 : IntKind.u64.wrap (x * 2) / 2 = mag x := by rw [IntKind.wrap_u64]; unfold mag; omega
    have fm := fin_mag hf
    obtain ⟨y, hy⟩ : ∃ y, mag x = y := ⟨_, rfl⟩
    have hi : inr x = decide (y = 0 ∨ 2805742567851819008 ≤ y ∧ y ≤ 6408622269748215808) := by unfold inr; rw [hy]
    rw [hi]
    rw [hy] at hm e1 fm
    obtain ⟨n, rfl⟩ := Int.eq_ofNat_of_zero_le hm.1
    have hx := run_float64frombits (n : Int)
    rw [Int.toNat_natCast] at hx
    obtain ⟨s1, s2⟩ := sm_mag hm.1 hm.2
    have o0 := (order_lt n 0 (by omega) (by omega) fm (by decide)).2.2
    have o1 := order_lt n 2805742567851819008 (by omega) (by omega) fm (by decide)
    have o2 := order_lt n 6408622269748215808 (by omega) (by omega) fm (by decide)
    have z0 : sm ((0 : Nat) : Int) = 0 := by decide
    have z1 : sm ((2805742567851819008 : Nat) : Int) = 2805742567851819008 := by decide
    have z2 : sm ((6408622269748215808 : Nat) : Int) = 6408622269748215808 := by decide
    rw [s1, z0] at o0
    rw [s1, z1] at o1
    rw [s1, z2] at o2
    have c0 : (FloatKind.f64.format.order n 0 == some .eq) = decide ((n : Int) = 0) := o0
    obtain ⟨_, c1, c2⟩ := o1
    obtain ⟨c3, _, c4⟩ := o2
    have C0 := Lib.hid c0
    have C1 := Lib.hid c1
    have C2 := Lib.hid c2
    have C3 := Lib.hid c3
    have C4 := Lib.hid c4
    clear hi hy s1 s2 z0 z1 z2 o0 c0 c1 c2 c3 c4
    have k0 := C0.out
    by_cases q0 : (n : Int) = 0
    · rw [decide_eq_true q0] at k0
      have Q0 := Lib.hid q0
      clear q0
      go_enter Try.func17, Try.ntmps17
      go_wp2_with (go_at_call 19; refine (rFinite_any _ h0 h1 _).mono ?_; rintro e9 w' ⟨rfl, rfl⟩)
      go_ret
      exact ⟨ret_bool (by simp [Q0.out]), rfl⟩
    · rw [decide_eq_false q0] at k0
      have k1 := C1.out
      have k2 := C2.out
      by_cases q1 : (2805742567851819008 : Int) < n
      · rw [decide_eq_true q1] at k1
        rw [decide_eq_false (by omega)] at k2
        have k3 := C3.out
        have k4 := C4.out
        go_enter Try.func17, Try.ntmps17
        go_wp2_with (go_at_call 19; refine (rFinite_any _ h0 h1 _).mono ?_; rintro e9 w' ⟨rfl, rfl⟩)
        go_ret
        exact ⟨ret_bool (by first | (rw [Bool.eq_iff_iff]; simp; omega) | (simp; omega)), rfl⟩
      · rw [decide_eq_false q1] at k1
        by_cases q2 : (n : Int) = 2805742567851819008
        · rw [decide_eq_true q2] at k2
          have Q2 := Lib.hid q2
          have k3 := C3.out
          have k4 := C4.out
          clear q2
          go_enter Try.func17, Try.ntmps17
          go_wp2_with (go_at_call 19; refine (rFinite_any _ h0 h1 _).mono ?_; rintro e9 w' ⟨rfl, rfl⟩)
          go_ret
          exact ⟨ret_bool (by have q2 := Q2.out; first | (rw [Bool.eq_iff_iff]; simp; omega) | (simp; omega)), rfl⟩
        · rw [decide_eq_false q2] at k2
          go_enter Try.func17, Try.ntmps17
          go_wp2_with (go_at_call 19; refine (rFinite_any _ h0 h1 _).mono ?_; rintro e9 w' ⟨rfl, rfl⟩)
          go_ret
          exact ⟨ret_bool (by first | (rw [Bool.eq_iff_iff]; simp; omega) | (simp; omega)), rfl⟩
end Go.Proofs.Ytfaemgdeoamijaa
