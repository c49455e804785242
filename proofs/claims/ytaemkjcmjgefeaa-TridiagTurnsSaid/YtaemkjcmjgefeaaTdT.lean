/-
  Layer 10, walks: what is refused, by the program.
-/
import Derived.Test.YtaemkjcmjgefeaaTdF
import Derived.Test.YtaemkjcmjgefeaaTdC
import Derived.Test.YtaemkjcmjgefeaaQGuF
namespace Go.Proofs.Ytaemkjcmjgefeaa
open Go.RowKit Go.Bw
set_option linter.unusedVariables false
set_option linter.unusedSimpArgs false
attribute [local go_sem] run_store_float

set_option maxHeartbeats 1000000 in
theorem tsized_any (x : Int) (w : World) : Calls Try.prog 33 #[.int .i64 x] w (Ret (.bool (decide (0 ≤ x ∧ x ≤ 512))) w) := by
  by_cases h0 : 0 ≤ x
  · by_cases h1 : x ≤ 512
    · have e : decide (0 ≤ x ∧ x ≤ 512) = true := decide_eq_true ⟨h0, h1⟩
      rw [e]
      clear e
      go_enter Try.func33, Try.ntmps33
      go_wp2_with fail
      go_ret
      exact ⟨rfl, rfl⟩
    · have e : decide (0 ≤ x ∧ x ≤ 512) = false := decide_eq_false (by omega)
      rw [e]
      clear e
      go_enter Try.func33, Try.ntmps33
      go_wp2_with fail
      go_ret
      exact ⟨by simp <;> omega, rfl⟩
  · have e : decide (0 ≤ x ∧ x ≤ 512) = false := decide_eq_false (by omega)
    rw [e]
    clear e
    go_enter Try.func33, Try.ntmps33
    go_wp2_with fail
    go_ret
    exact ⟨by simp <;> omega, rfl⟩
set_option maxHeartbeats 400000 in
theorem mNaN_any {x : Nat} (hx : x ≤ 18446744073709551615) (w : World) : Calls Try.prog 57 #[.float .f64 x] w (Ret (.bool (isN x)) w) := by
  have h9 := ne_is x hx
  generalize isN x = b at *
  go_enter Try.func57, Try.ntmps57
  go_wp2_with fail
  go_ret
  exact ⟨by first | rfl | simp [h9], rfl⟩
set_option maxHeartbeats 400000 in
theorem mAbs_any {x : Nat} (hx : x ≤ 18446744073709551615) (w : World) : Calls Try.prog 59 #[.float .f64 x] w (Ret (.float .f64 (x % 9223372036854775808)) w) := by
  have hb := run_float64bits x
  have hf := run_float64frombits (x % 9223372036854775808 : Nat)
  rw [Int.toNat_natCast] at hf
  have e1 : bits .andNot .u64 (x : Int) 9223372036854775808 = ((x % 9223372036854775808 : Nat) : Int) := by
    rw [andnot_sign _ (by omega) (by omega)]; unfold mag; omega
  generalize x % 9223372036854775808 = y at *
  go_enter Try.func59, Try.ntmps59
  go_wp2_with fail
  go_ret
  exact ⟨rfl, rfl⟩
theorem gt_max9 {x : Nat} (hx : x ≤ 18446744073709551615) (hn : isN x = false) : (FloatKind.f64.format.order (x % 9223372036854775808) 9218868437227405311 == some .gt) = !fin (x : Int) := by
  have h9 := notN_le hn
  cases hf : fin (x : Int)
  · have e : x % 9223372036854775808 = 9218868437227405312 := by
      unfold fin mag at hf
      have := of_decide_eq_false hf
      omega
    rw [e]; decide
  · have hf2 : x % 9223372036854775808 < 9218868437227405312 := by
      unfold fin mag at hf
      have := of_decide_eq_true hf
      omega
    have h := (order_lt (x % 9223372036854775808) 9218868437227405311 (by omega) (by omega) (by unfold fin mag; simp; omega) (by decide)).2.1
    rw [h]
    refine decide_eq_false ?_
    unfold sm mag
    split <;> omega
set_option maxHeartbeats 400000 in
theorem mInf_any {x : Nat} (hx : x ≤ 18446744073709551615) (hn : isN x = false) (w : World) : Calls Try.prog 58 #[.float .f64 x, .int .i64 0] w (Ret (.bool (!fin (x : Int))) w) := by
  have hg := gt_max9 hx hn
  generalize fin (x : Int) = b at *
  go_enter Try.func58, Try.ntmps58
  go_wp2_with fail
  with_reducible refine (mAbs_any hx _).mono ?_
  rintro e w1 ⟨rfl, rfl⟩
  cases b
  · go_wp2_with fail
    go_ret
    exact ⟨rfl, rfl⟩
  · go_wp2_with fail
    go_ret
    exact ⟨rfl, rfl⟩
theorem fin_nan {x : Nat} (h : isN x = true) : fin (x : Int) = false := by
  unfold isN at h
  have := of_decide_eq_true h
  unfold fin mag
  exact decide_eq_false (by omega)
set_option maxRecDepth 100000 in
set_option maxHeartbeats 4000000 in
theorem tfinite_any {A : Option Addr} {n c : Nat} {l : List Int} {w : World} (h : FL w A n c l) :
    Calls Try.prog 39 #[.slice A n c] w (Ret (.bool (l.all fin)) w) := by
  have hmx := h.max
  have hln := Lib.hid h.1
  have H0 := Lib.hid (show ∀ k, k < l.length → fin (D l k) = false → l.all fin = false from fun k hk h => all_false hk h)
  have H1 := Lib.hid (show (∀ k, k < l.length → fin (D l k) = true) → l.all fin = true from fun h => all_true h)
  generalize hV : l.all fin = V at *
  clear hV
  go_enter Try.func39, Try.ntmps39
  go_wp2_with fail
  go_loop [7] (fun i => ∃ k : Nat, k ≤ n ∧ i = .int .i64 k ∧ Hid (∀ j, j < k → fin (D l j) = true)) (fun i => n - (intOf i).toNat)
  case atStart => exact ⟨0, Nat.zero_le _, rfl, Lib.hid (fun j hj => by omega)⟩
  case round =>
    obtain ⟨k, hk, rfl, HK⟩ := hrel
    by_cases hlt : k < n
    · obtain ⟨ad, rfl, hb, hc⟩ := h.at_ hlt
      obtain ⟨x0, x1⟩ := h.2.2.at_ k
      have i0 : (0 : Int) ≤ k := by omega
      have i1 : (k : Int) < n := by omega
      obtain ⟨X, hX⟩ : ∃ X, (D l k).toNat = X := ⟨_, rfl⟩
      have bX : X ≤ 18446744073709551615 := by omega
      have HX : Hid (D l k = (X : Int)) := Lib.hid (by omega)
      rw [hX] at hc
      clear hX
      have pn := fun W => mNaN_any bX W
      cases hN : isN X
      · have pi := fun W => mInf_any bX hN W
        rw [hN] at pn
        cases hP2 : fin (X : Int)
        · have hf : V = false := H0.out k (by rw [hln.out]; exact hlt) (by rw [HX.out]; exact hP2)
          subst hf
          rw [hP2] at pi
          go_wp2_with fail
          with_reducible refine (pn _).mono ?_
          rintro e9 w' ⟨rfl, rfl⟩
          go_wp2_with fail
          with_reducible refine (pi _).mono ?_
          rintro e9 w' ⟨rfl, rfl⟩
          go_wp2_with fail
          go_ret
          exact ⟨rfl, rfl⟩
        · have HK2 := Lib.hid (show ∀ j, j < k + 1 → fin (D l j) = true from fun j hj => by
            rcases Nat.lt_or_ge j k with g | g
            · exact HK.out j g
            · obtain rfl : j = k := by omega
              rw [HX.out]; exact hP2)
          rw [hP2] at pi
          go_wp2_with fail
          with_reducible refine (pn _).mono ?_
          rintro e9 w' ⟨rfl, rfl⟩
          go_wp2_with fail
          with_reducible refine (pi _).mono ?_
          rintro e9 w' ⟨rfl, rfl⟩
          go_wp2_with fail
          go_round
          case rel => exact ⟨k + 1, by omega, by go_num, HK2⟩
          case measure => simp [intOf]; omega
      · have hf : V = false := H0.out k (by rw [hln.out]; exact hlt) (by rw [HX.out]; exact fin_nan hN)
        subst hf
        rw [hN] at pn
        go_wp2_with fail
        with_reducible refine (pn _).mono ?_
        rintro e9 w' ⟨rfl, rfl⟩
        go_wp2_with fail
        go_ret
        exact ⟨rfl, rfl⟩
    · obtain rfl : k = n := by omega
      have hf : V = true := H1.out (fun j hj => HK.out j (by rw [hln.out] at hj; exact hj))
      subst hf
      go_wp2_with fail
      go_ret
      exact ⟨rfl, rfl⟩
end Go.Proofs.Ytaemkjcmjgefeaa
