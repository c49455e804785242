/-
  Layer 2, walks, part twenty-three: texts that may be; a block of digits.
-/
import Derived.Test.YtigphbjgodfhpaaDoorNatAB
import Derived.Test.YtigphbjgodfhpaaDoorNatAC
namespace Go.Proofs.YtigphbjgodfhpaaDoor
open Go.RowKit
set_option linter.unusedVariables false

theorem byte_at (s : ByteArray) (k : Nat) (h : k < s.size) : s.data.toList[k]'(by simpa using h) = s[k] := by rw [Array.getElem_toList]; rfl
theorem size_nil {s : ByteArray} (h : s.data.toList = []) : s.size = 0 := by
  have h1 : s.data.toList.length = s.size := by rw [Array.length_toList]; rfl
  rw [h] at h1; exact h1.symm
theorem mem_at (s : ByteArray) (k : Nat) (h : k < s.size) : s[k] ∈ s.data.toList := by rw [← byte_at s k h]; exact List.getElem_mem _
theorem ok_digit {s : ByteArray} (h : OkText s.data.toList) {k : Nat} (hk : k < s.size) : 48 ≤ s[k].toNat ∧ s[k].toNat ≤ 57 := h.2.2.2 _ (mem_at s k hk)

set_option maxHeartbeats 1000000 in
theorem isText_loop_yes (s : ByteArray) (h : OkText s.data.toList) (w : World) (h1 : 1 < s.size) :
    Calls Tryd.prog 69 #[.string s] w fun e w' => e = .returned (.bool true) ∧ w = w' := by
  have hs : s.size ≤ 78914 := by simpa using h.2.1
  have h0 : ((s.size : Int) == 0) = false := beq_eq_false_iff_ne.2 (by omega)
  have hd := h.2.2.1 (by simpa using h1)
  have hc : ((s[0].toNat : Int) == 48) = false := by
    refine beq_eq_false_iff_ne.2 (fun e => hd ?_)
    have e2 : s[0] = 48 := by
      apply UInt8.toNat_inj.1
      have : (48 : UInt8).toNat = 48 := by decide
      omega
    rw [List.head?_eq_getElem?, List.getElem?_eq_getElem (by simp; omega), byte_at s 0 (by omega), e2]
  clear hd
  go_enter Tryd.func69, Tryd.ntmps69
  go_wp2_with fail
  go_loop [24] (fun i => ∃ k : Nat, k ≤ s.size ∧ i = .int .i64 k) (fun i => s.size - (intOf i).toNat)
  case atStart => exact ⟨0, by omega, rfl⟩
  case round =>
    obtain ⟨k, hk, rfl⟩ := hrel
    by_cases hlt : k < s.size
    · have hb := ok_digit h hlt
      go_wp2_with fail
      go_round
      case rel => exact ⟨k + 1, by omega, by go_num⟩
      case measure => simp [intOf]; omega
    · go_wp2_with fail
      go_ret
      exact ⟨rfl, rfl⟩
set_option maxHeartbeats 1000000 in
theorem isText_one_yes (s : ByteArray) (h : OkText s.data.toList) (w : World) (h1 : s.size = 1) :
    Calls Tryd.prog 69 #[.string s] w fun e w' => e = .returned (.bool true) ∧ w = w' := by
  have h0 : ((s.size : Int) == 0) = false := beq_eq_false_iff_ne.2 (by omega)
  have h2 : (s.size : Int) ≤ 1 := by omega
  have h3 : 1 ≤ s.size := by omega
  clear h1
  go_enter Tryd.func69, Tryd.ntmps69
  go_wp2_with fail
  go_loop [24] (fun i => ∃ k : Nat, k ≤ s.size ∧ i = .int .i64 k) (fun i => s.size - (intOf i).toNat)
  case atStart => exact ⟨0, by omega, rfl⟩
  case round =>
    obtain ⟨k, hk, rfl⟩ := hrel
    by_cases hlt : k < s.size
    · have hb := ok_digit h hlt
      go_wp2_with fail
      go_round
      case rel => exact ⟨k + 1, by omega, by go_num⟩
      case measure => simp [intOf]; omega
    · go_wp2_with fail
      go_ret
      exact ⟨rfl, rfl⟩
theorem isText_yes (s : ByteArray) (h : OkText s.data.toList) (w : World) :
    Calls Tryd.prog 69 #[.string s] w fun e w' => e = .returned (.bool true) ∧ w = w' := by
  have h0 : 0 < s.size := by
    have := List.length_pos_iff.2 h.1
    simpa using this
  rcases (show s.size = 1 ∨ 1 < s.size by omega) with h1 | h1
  · exact isText_one_yes s h w h1
  · exact isText_loop_yes s h w h1

set_option maxHeartbeats 1000000 in
theorem isText_no (s : ByteArray) (hm : s.size ≤ 9223372036854775807) (h : ¬ OkText s.data.toList) (w : World) :
    Calls Tryd.prog 69 #[.string s] w fun e w' => e = .returned (.bool false) ∧ w = w' := by
  have HN := Lib.hid h
  clear h
  by_cases h0 : s.size = 0
  · have hz : ((s.size : Int) == 0) = true := by simp [h0]
    have H0 := Lib.hid h0
    clear h0
    go_enter Tryd.func69, Tryd.ntmps69
    go_wp2_with fail
    go_ret
    exact ⟨rfl, rfl⟩
  have hz : ((s.size : Int) == 0) = false := beq_eq_false_iff_ne.2 (by omega)
  by_cases h1 : 78914 < s.size
  · go_enter Tryd.func69, Tryd.ntmps69
    go_wp2_with fail
    go_ret
    exact ⟨rfl, rfl⟩
  by_cases h2 : 1 < s.size
  · have hl : 0 < s.size := by omega
    by_cases h3 : (s[0].toNat : Int) = 48
    · have hc : ((s[0].toNat : Int) == 48) = true := by simpa using h3
      have H3 := Lib.hid h3
      clear h3
      go_enter Tryd.func69, Tryd.ntmps69
      go_wp2_with fail
      go_ret
      exact ⟨rfl, rfl⟩
    · have hc : ((s[0].toNat : Int) == 48) = false := beq_eq_false_iff_ne.2 h3
      have H3 := Lib.hid h3
      clear h3
      go_enter Tryd.func69, Tryd.ntmps69
      go_wp2_with fail
      go_loop [24] (fun i => ∃ k : Nat, k ≤ s.size ∧ i = .int .i64 k ∧ ∀ j (hj : j < s.size), j < k → 48 ≤ s[j].toNat ∧ s[j].toNat ≤ 57) (fun i => s.size - (intOf i).toNat)
      case atStart => exact ⟨0, by omega, rfl, fun j hj h => absurd h (by omega)⟩
      case round =>
        obtain ⟨k, hk, rfl, hA⟩ := hrel
        have HA := Lib.hid hA
        clear hA
        by_cases hlt : k < s.size
        · rcases (show s[k].toNat < 48 ∨ 57 < s[k].toNat ∨ (48 ≤ s[k].toNat ∧ s[k].toNat ≤ 57) from by omega) with hb | hb | hb
          · go_wp2_with fail
            go_ret
            exact ⟨rfl, rfl⟩
          · go_wp2_with fail
            go_ret
            exact ⟨rfl, rfl⟩
          · go_wp2_with fail
            go_round
            case rel => exact ⟨k + 1, by omega, by go_num, fun j hj h => by
              rcases Nat.lt_or_ge j k with h5 | h5
              · exact HA.out j hj h5
              · obtain rfl : j = k := by omega
                exact hb⟩
            case measure => simp [intOf]; omega
        · exfalso
          refine HN.out ⟨fun e => ?_, by simp; omega, fun _ => ?_, fun c hc => ?_⟩
          · exact h0 (size_nil e)
          · rw [List.head?_eq_getElem?, List.getElem?_eq_getElem (by simp; omega), byte_at s 0 (by omega)]
            intro e
            injection e with e
            rw [e] at H3
            exact H3.out (by decide)
          · obtain ⟨i, hi, rfl⟩ := List.getElem_of_mem hc
            have hi' : i < s.size := by simpa using hi
            rw [byte_at s i hi']
            exact HA.out i hi' (by omega)
  · have h4 : (s.size : Int) ≤ 1 := by omega
    have h5 : 1 ≤ s.size := by omega
    go_enter Tryd.func69, Tryd.ntmps69
    go_wp2_with fail
    go_loop [24] (fun i => ∃ k : Nat, k ≤ s.size ∧ i = .int .i64 k ∧ ∀ j (hj : j < s.size), j < k → 48 ≤ s[j].toNat ∧ s[j].toNat ≤ 57) (fun i => s.size - (intOf i).toNat)
    case atStart => exact ⟨0, by omega, rfl, fun j hj h => absurd h (by omega)⟩
    case round =>
      obtain ⟨k, hk, rfl, hA⟩ := hrel
      have HA := Lib.hid hA
      clear hA
      by_cases hlt : k < s.size
      · rcases (show s[k].toNat < 48 ∨ 57 < s[k].toNat ∨ (48 ≤ s[k].toNat ∧ s[k].toNat ≤ 57) from by omega) with hb | hb | hb
        · go_wp2_with fail
          go_ret
          exact ⟨rfl, rfl⟩
        · go_wp2_with fail
          go_ret
          exact ⟨rfl, rfl⟩
        · go_wp2_with fail
          go_round
          case rel => exact ⟨k + 1, by omega, by go_num, fun j hj h => by
            rcases Nat.lt_or_ge j k with h5 | h5
            · exact HA.out j hj h5
            · obtain rfl : j = k := by omega
              exact hb⟩
          case measure => simp [intOf]; omega
      · exfalso
        refine HN.out ⟨fun e => ?_, by simp; omega, fun hx => ?_, fun c hc => ?_⟩
        · exact h0 (size_nil e)
        · simp at hx; omega
        · obtain ⟨i, hi, rfl⟩ := List.getElem_of_mem hc
          have hi' : i < s.size := by simpa using hi
          rw [byte_at s i hi']
          exact HA.out i hi' (by omega)
end Go.Proofs.YtigphbjgodfhpaaDoor
