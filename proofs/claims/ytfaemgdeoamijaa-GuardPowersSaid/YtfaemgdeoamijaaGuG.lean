/-
  Layer 5, walks: what is asked of all words, of all places, of all floats. (Written by wip/tools/gen_gug.py.)
-/
import Derived.Test.YtfaemgdeoamijaaGuE
import Derived.WalkMore
namespace Go.Proofs.Ytfaemgdeoamijaa
open Go.RowKit Go.Bw
set_option linter.unusedVariables false
set_option linter.unusedSimpArgs false

theorem all_true {P : Int → Bool} {l : List Int} (h : ∀ k, k < l.length → P (D l k) = true) : l.all P = true := by
  rw [List.all_eq_true]
  intro x hx
  obtain ⟨i, hi, rfl⟩ := List.getElem_of_mem hx
  have := h i hi
  rwa [D_in hi] at this
theorem all_false {P : Int → Bool} {l : List Int} {k : Nat} (hk : k < l.length) (h : P (D l k) = false) : l.all P = false := by
  rw [D_in hk] at h
  cases hb : l.all P
  · rfl
  · rw [List.all_eq_true] at hb
    rw [hb _ (List.getElem_mem hk)] at h
    cases h

set_option maxHeartbeats 1000000 in
theorem all_fin {A : Option Addr} {n c : Nat} {l : List Int} {w : World} (h : UL w A n c l) :
    Calls Try.prog 43 #[.func (.func 36) #[] #[], .slice A n c] w (Ans w (.bool (l.all fin))) := by
  have hn2 := h.max
  have hln := Lib.hid h.1
  obtain ⟨B, hB⟩ : ∃ B, l.all fin = B := ⟨_, rfl⟩
  have HB := Lib.hid hB
  rw [hB]
  clear hB
  go_enter Try.func43, Try.ntmps43
  go_wp2_with fail
  go_loop [9] (fun i => ∃ k : Nat, k ≤ n ∧ i = .int .i64 k ∧ Hid (∀ j, j < k → fin (D l j) = true)) (fun i => n - (intOf i).toNat)
  case atStart => exact ⟨0, Nat.zero_le _, rfl, Lib.hid (fun j hj => by omega)⟩
  case round =>
    obtain ⟨k, hk, rfl, HK⟩ := hrel
    by_cases hlt : k < n
    · obtain ⟨ad, rfl, hb, hc⟩ := h.at_ hlt
      obtain ⟨x0, x1⟩ := h.2.2.at_ k
      have i0 : (0 : Int) ≤ k := by omega
      have i1 : (k : Int) < n := by omega
      obtain ⟨X, hX⟩ : ∃ X, D l k = X := ⟨_, rfl⟩
      have HX := Lib.hid hX
      rw [hX] at hc x0 x1
      clear hX
      cases hP : fin X
      · have hf : B = false := by rw [← HB.out]; exact all_false (by rw [hln.out]; exact hlt) (by rw [HX.out]; exact hP)
        subst hf
        go_wp2_with fail
        with_reducible refine (finite_any _ x0 x1 _).mono ?_
        rintro e w1 ⟨rfl, rfl⟩
        go_wp2_with fail
        go_ret
        exact ⟨rfl, rfl⟩
      · have HK2 := Lib.hid (show ∀ j, j < k + 1 → fin (D l j) = true from fun j hj => by
          rcases Nat.lt_or_ge j k with g | g
          · exact HK.out j g
          · obtain rfl : j = k := by omega
            rw [HX.out]; exact hP)
        go_wp2_with fail
        with_reducible refine (finite_any _ x0 x1 _).mono ?_
        rintro e w1 ⟨rfl, rfl⟩
        go_wp2_with fail
        go_round
        case rel => exact ⟨k + 1, by omega, by go_num, HK2⟩
        case measure => simp [intOf]; omega
    · obtain rfl : k = n := by omega
      have hf : B = true := by rw [← HB.out]; exact all_true (fun j hj => HK.out j (by rw [hln.out] at hj; exact hj))
      subst hf
      go_wp2_with fail
      go_ret
      exact ⟨rfl, rfl⟩

set_option maxHeartbeats 1000000 in
theorem all_inr {A : Option Addr} {n c : Nat} {l : List Int} {w : World} (h : UL w A n c l) :
    Calls Try.prog 43 #[.func (.func 16) #[] #[], .slice A n c] w (Ans w (.bool (l.all inr))) := by
  have hn2 := h.max
  have hln := Lib.hid h.1
  obtain ⟨B, hB⟩ : ∃ B, l.all inr = B := ⟨_, rfl⟩
  have HB := Lib.hid hB
  rw [hB]
  clear hB
  go_enter Try.func43, Try.ntmps43
  go_wp2_with fail
  go_loop [9] (fun i => ∃ k : Nat, k ≤ n ∧ i = .int .i64 k ∧ Hid (∀ j, j < k → inr (D l j) = true)) (fun i => n - (intOf i).toNat)
  case atStart => exact ⟨0, Nat.zero_le _, rfl, Lib.hid (fun j hj => by omega)⟩
  case round =>
    obtain ⟨k, hk, rfl, HK⟩ := hrel
    by_cases hlt : k < n
    · obtain ⟨ad, rfl, hb, hc⟩ := h.at_ hlt
      obtain ⟨x0, x1⟩ := h.2.2.at_ k
      have i0 : (0 : Int) ≤ k := by omega
      have i1 : (k : Int) < n := by omega
      obtain ⟨X, hX⟩ : ∃ X, D l k = X := ⟨_, rfl⟩
      have HX := Lib.hid hX
      rw [hX] at hc x0 x1
      clear hX
      cases hP : inr X
      · have hf : B = false := by rw [← HB.out]; exact all_false (by rw [hln.out]; exact hlt) (by rw [HX.out]; exact hP)
        subst hf
        go_wp2_with fail
        with_reducible refine (inRange_any _ x0 x1 _).mono ?_
        rintro e w1 ⟨rfl, rfl⟩
        go_wp2_with fail
        go_ret
        exact ⟨rfl, rfl⟩
      · have HK2 := Lib.hid (show ∀ j, j < k + 1 → inr (D l j) = true from fun j hj => by
          rcases Nat.lt_or_ge j k with g | g
          · exact HK.out j g
          · obtain rfl : j = k := by omega
            rw [HX.out]; exact hP)
        go_wp2_with fail
        with_reducible refine (inRange_any _ x0 x1 _).mono ?_
        rintro e w1 ⟨rfl, rfl⟩
        go_wp2_with fail
        go_round
        case rel => exact ⟨k + 1, by omega, by go_num, HK2⟩
        case measure => simp [intOf]; omega
    · obtain rfl : k = n := by omega
      have hf : B = true := by rw [← HB.out]; exact all_true (fun j hj => HK.out j (by rw [hln.out] at hj; exact hj))
      subst hf
      go_wp2_with fail
      go_ret
      exact ⟨rfl, rfl⟩

set_option maxHeartbeats 1000000 in
theorem gFinite_any {A : Option Addr} {n c : Nat} {l : List Int} {w : World} (h : FL w A n c l) :
    Calls Try.prog 18 #[.slice A n c] w (Ans w (.bool (l.all fin))) := by
  have hn2 := h.max
  have hln := Lib.hid h.1
  obtain ⟨B, hB⟩ : ∃ B, l.all fin = B := ⟨_, rfl⟩
  have HB := Lib.hid hB
  rw [hB]
  clear hB
  go_enter Try.func18, Try.ntmps18
  go_wp2_with fail
  go_loop [7] (fun i => ∃ k : Nat, k ≤ n ∧ i = .int .i64 k ∧ Hid (∀ j, j < k → fin (D l j) = true)) (fun i => n - (intOf i).toNat)
  case atStart => exact ⟨0, Nat.zero_le _, rfl, Lib.hid (fun j hj => by omega)⟩
  case round =>
    obtain ⟨k, hk, rfl, HK⟩ := hrel
    by_cases hlt : k < n
    · obtain ⟨ad, rfl, hb, hc⟩ := h.at_ hlt
      obtain ⟨x0, x1⟩ := h.2.2.at_ k
      have i0 : (0 : Int) ≤ k := by omega
      have i1 : (k : Int) < n := by omega
      obtain ⟨X, hX⟩ : ∃ X, D l k = X := ⟨_, rfl⟩
      have HX := Lib.hid hX
      rw [hX] at hc x0 x1
      clear hX
      have hbk := run_bits_back X x0
      cases hP : fin X
      · have hf : B = false := by rw [← HB.out]; exact all_false (by rw [hln.out]; exact hlt) (by rw [HX.out]; exact hP)
        subst hf
        go_wp2_with (go_at_call 36; refine (finite_any _ x0 x1 _).mono ?_; rintro e w1 ⟨rfl, rfl⟩)
        go_ret
        exact ⟨rfl, rfl⟩
      · have HK2 := Lib.hid (show ∀ j, j < k + 1 → fin (D l j) = true from fun j hj => by
          rcases Nat.lt_or_ge j k with g | g
          · exact HK.out j g
          · obtain rfl : j = k := by omega
            rw [HX.out]; exact hP)
        go_wp2_with (go_at_call 36; refine (finite_any _ x0 x1 _).mono ?_; rintro e w1 ⟨rfl, rfl⟩)
        go_round
        case rel => exact ⟨k + 1, by omega, by go_num, HK2⟩
        case measure => simp [intOf]; omega
    · obtain rfl : k = n := by omega
      have hf : B = true := by rw [← HB.out]; exact all_true (fun j hj => HK.out j (by rw [hln.out] at hj; exact hj))
      subst hf
      go_wp2_with fail
      go_ret
      exact ⟨rfl, rfl⟩
end Go.Proofs.Ytfaemgdeoamijaa
