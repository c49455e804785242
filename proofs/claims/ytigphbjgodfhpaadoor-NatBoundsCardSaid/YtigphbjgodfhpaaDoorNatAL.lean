/-
  Layer 2, the reference, part one: num, long, Norm, Same, is.
-/
import Derived.Test.YtigphbjgodfhpaaDoorNatAK
import Derived.Deep.QuietTactic
namespace Go.Proofs.YtigphbjgodfhpaaDoor
open Go.RowKit
set_option linter.unusedVariables false

theorem num_any (n : Int) (w : World) : Calls Tryd.prog 20 #[.int .i64 n] w fun e w' => e = .returned (.int .i64 n) ∧ w = w' := by
  go_enter Tryd.func20, Tryd.ntmps20
  go_wp2_with fail
  go_ret
  exact ⟨rfl, rfl⟩

theorem long_any (A : Option Addr) (n c : Nat) (hn : n ≤ 9223372036854775807) (w : World) : Calls Tryd.prog 15 #[.slice A n c] w fun e w' => e = .returned (.bool (decide (60 < n))) ∧ w = w' := by
  go_enter Tryd.func15, Tryd.ntmps15
  go_wp2_with fail
  go_ret
  refine ⟨?_, rfl⟩
  congr 2
  by_cases h : 60 < n
  · have : (60 : Int) < n := by omega
    simp [h, this]
  · have : ¬ (60 : Int) < n := by omega
    simp [h]
    omega

/-- what the reference's Norm leaves -/
def NormPost (l : List Int) (w : World) (e : Ending) (w' : World) : Prop :=
  ∃ A' c', e = .returned (.slice A' (norm l).length c') ∧ Own w' w.heap.size A' c' (norm l) ∧ Below w.heap.size w w'

set_option maxHeartbeats 2000000 in
theorem refNorm_any (A : Option Addr) (c : Nat) (l : List Int) (w : World) (h : Nums w w.heap.size A c l) (hl : Lim 18446744073709551616 l) (hlen : l.length ≤ 1000000) :
    Calls Tryd.prog 22 #[.slice A l.length c] w (NormPost l w) := by
  have hm := h.length
  have hle := h.le
  have hmax := h.max'
  go_enter Tryd.func22, Tryd.ntmps22
  go_wp2_with fail
  go_loop [3] (fun s => ∃ k : Nat, k ≤ l.length ∧ (∀ i, k ≤ i → D l i = 0) ∧ s = .int .i64 k) (fun s => (intOf s).toNat)
  case atStart => exact ⟨l.length, Nat.le_refl _, fun i hi => D_out hi, rfl⟩
  case round =>
    obtain ⟨k, hk, hz, rfl⟩ := hrel
    have HZ := Lib.hid hz
    clear hz
    rcases Nat.eq_zero_or_pos k with h0 | h0
    · subst h0
      have e := norm_is (by omega) hl (Nat.zero_le _) HZ.out (.inl rfl)
      go_wp2_with (at_builtin; refine wpList_app _ rfl _ _ rfl w.heap.size none 0 [] rfl (Own.nil w _) w.heap.size A c [] rfl (Nums.empty w _ A h.2.1) (by simp) (Nat.le_refl _) ?_; intro A2 c2 w' hown hg hat)
      go_ret
      rw [List.take_zero] at e
      exact ⟨A2, c2, by rw [e]; rfl, by rw [e]; exact hown, below_app (Below.refl _ _) (Own.nil w _) hg (Nat.le_refl _)⟩
    · obtain ⟨ad, rfl, hb, hc⟩ := h.at_ (k := k - 1) (by omega)
      have h1 : (1 : Int) ≤ k := by omega
      have e1 : ((k : Int) - 1).toNat = k - 1 := by omega
      by_cases hd : D l (k - 1) = 0
      · rw [hd] at hc
        have HD := Lib.hid hd
        clear hd
        go_wp2_with fail
        go_round
        case rel =>
          refine ⟨k - 1, by omega, fun i hi => ?_, by go_num⟩
          rcases Nat.lt_or_ge i k with h2 | h2
          · obtain rfl : i = k - 1 := by omega
            exact HD.out
          · exact HZ.out i h2
        case measure => simp [intOf]; omega
      · have hd' : (D l (k - 1) == 0) = false := by simpa using hd
        have e := norm_is (by omega) hl hk HZ.out (.inr hd)
        have htk := h.take k
        have hml : (l.take k).length = k := by rw [List.length_take]; omega
        obtain ⟨m, hme⟩ : ∃ m, l.take k = m := ⟨_, rfl⟩
        rw [hme] at htk hml e
        have hkc : k ≤ c := by omega
        have hkl : (k : Int) ≤ l.length := by omega
        have hkc2 : (k : Int) ≤ c := by omega
        have hml2 : m.length ≤ 1000000 := by omega
        clear hd HZ hme hk
        subst hml
        go_wp2_with (at_builtin; refine wpList_app _ rfl _ _ rfl w.heap.size none 0 [] rfl (Own.nil w _) w.heap.size (some ad) c m rfl htk (by simp; omega) (Nat.le_refl _) ?_; intro A2 c2 w' hown hg hat)
        go_ret
        exact ⟨A2, c2, by rw [e]; rfl, by rw [e]; exact hown, below_app (Below.refl _ _) (Own.nil w _) hg (Nat.le_refl _)⟩

set_option maxHeartbeats 2000000 in
theorem same_true (A : Option Addr) (c : Nat) (A2 : Option Addr) (c2 : Nat) (l : List Int) (w : World) (B B2 : Nat) (h : Nums w B A c l) (h2 : Nums w B2 A2 c2 l) :
    Calls Tryd.prog 21 #[.slice A l.length c, .slice A2 l.length c2] w fun e w' => e = .returned (.bool true) ∧ ∃ n, w.drewN n = w' := by
  have hm := h.length
  go_enter Tryd.func21, Tryd.ntmps21
  go_wp2_with fail
  go_loopw [5] (fun i wr => ∃ k n : Nat, k ≤ l.length ∧ i = .int .i64 k ∧ wr = w.drewN n) (fun i _ => l.length - (intOf i).toNat)
  case atStart => exact ⟨0, 0, Nat.zero_le _, rfl, rfl⟩
  case round =>
    obtain ⟨k, n, hk, rfl, rfl⟩ := hrel
    by_cases hkl : k < l.length
    · obtain ⟨ad, rfl, hb, hc⟩ := h.at_ hkl
      obtain ⟨ad2, rfl, hb2, hc2⟩ := h2.at_ hkl
      have i0 : (0 : Int) ≤ k := by omega
      have i1 : (k : Int) < l.length := by omega
      have hd' : (D l k != D l k) = false := by simp
      go_wp2_with fail
      go_quiet (fail)
      go_wp2_with fail
      go_roundw
      case rel => exact ⟨k + 1, _, by omega, by go_num, rfl⟩
      case measure => simp [intOf]; omega
    · obtain rfl : k = l.length := by omega
      go_wp2_with fail
      go_ret
      exact ⟨rfl, n, rfl⟩
end Go.Proofs.YtigphbjgodfhpaaDoor
