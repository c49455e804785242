/-
  Layer 9, walks: what may be a matrix, why a call is refused, lists of reflections of one length, copies, matrices that are the same.
-/
import Derived.Test.YtbaeabmmokgomaaMJRfF
namespace Go.Proofs.Ytbaeabmmokgomaa
open Go.RowKit Go.Bw
set_option linter.unusedVariables false
set_option linter.unusedSimpArgs false

def Ret (v : Value) (W : World) (e : Ending) (w' : World) : Prop := e = .returned v ∧ W = w'
set_option maxHeartbeats 1000000 in
theorem gSized_any (x : Int) (w : World) : Calls Try.prog 82 #[.int .i64 x] w (Ret (.bool (decide (0 ≤ x ∧ x ≤ 512))) w) := by
  by_cases h0 : 0 ≤ x
  · by_cases h1 : x ≤ 512
    · have e : decide (0 ≤ x ∧ x ≤ 512) = true := decide_eq_true ⟨h0, h1⟩
      rw [e]
      clear e
      go_enter Try.func82, Try.ntmps82
      go_wp2_with fail
      go_ret
      exact ⟨rfl, rfl⟩
    · have e : decide (0 ≤ x ∧ x ≤ 512) = false := decide_eq_false (by omega)
      rw [e]
      clear e
      go_enter Try.func82, Try.ntmps82
      go_wp2_with fail
      go_ret
      exact ⟨by simp <;> omega, rfl⟩
  · have e : decide (0 ≤ x ∧ x ≤ 512) = false := decide_eq_false (by omega)
    rw [e]
    clear e
    go_enter Try.func82, Try.ntmps82
    go_wp2_with fail
    go_ret
    exact ⟨by simp <;> omega, rfl⟩
theorem prod512 {R C : Int} (h : 0 ≤ R ∧ R ≤ 512) (k : 0 ≤ C ∧ C ≤ 512) : 0 ≤ R * C ∧ R * C ≤ 262144 := by
  have a := Int.mul_nonneg h.1 k.1
  have b := Int.mul_le_mul h.2 k.2 k.1 (by omega)
  omega
set_option maxHeartbeats 2000000 in
theorem gMay_any {R C : Int} {A : Option Addr} {n c : Nat} (hn : n ≤ 9223372036854775807) (w : World) : Calls Try.prog 57 #[mV R C A n c] w (Ans w (.bool (mayB R C n))) := by
  have pR := gSized_any R
  have pC := gSized_any C
  have bz := (Below.refl _ w).alloc (Nat.le_refl _) (.cells #[.int .i64 R, .int .i64 C, .slice A n c] 24)
  unfold mayB
  by_cases hR : 0 ≤ R ∧ R ≤ 512
  · rw [decide_eq_true hR] at pR
    by_cases hC : 0 ≤ C ∧ C ≤ 512
    · rw [decide_eq_true hC] at pC
      have hp := prod512 hR hC
      have e : decide (0 ≤ R ∧ R ≤ 512 ∧ 0 ≤ C ∧ C ≤ 512 ∧ (n : Int) = R * C) = ((n : Int) == R * C) := by
        rw [Bool.eq_iff_iff, decide_eq_true_iff, beq_iff_eq]
        constructor
        · intro h; exact h.2.2.2.2
        · intro h; exact ⟨hR.1, hR.2, hC.1, hC.2, h⟩
      rw [e]
      obtain ⟨z, hz⟩ : ∃ z, R * C = z := ⟨_, rfl⟩
      rw [hz] at hp ⊢
      clear e hR hC
      go_enter Try.func57, Try.ntmps57
      go_wp2_with fail
      with_reducible refine (pR _).mono ?_
      rintro e w1 ⟨rfl, rfl⟩
      go_wp2_with fail
      with_reducible refine (pC _).mono ?_
      rintro e w1 ⟨rfl, rfl⟩
      go_wp2_with fail
      go_ret
      exact ⟨rfl, bz⟩
    · rw [decide_eq_false hC] at pC
      rw [decide_eq_false (by omega)]
      clear hR hC
      go_enter Try.func57, Try.ntmps57
      go_wp2_with fail
      with_reducible refine (pR _).mono ?_
      rintro e w1 ⟨rfl, rfl⟩
      go_wp2_with fail
      with_reducible refine (pC _).mono ?_
      rintro e w1 ⟨rfl, rfl⟩
      go_wp2_with fail
      go_ret
      exact ⟨rfl, bz⟩
  · rw [decide_eq_false hR] at pR
    rw [decide_eq_false (by omega)]
    clear hR
    go_enter Try.func57, Try.ntmps57
    go_wp2_with fail
    with_reducible refine (pR _).mono ?_
    rintro e w1 ⟨rfl, rfl⟩
    go_wp2_with fail
    go_ret
    exact ⟨rfl, bz⟩
/-- why a call is refused: two fits -/
theorem gRef_bad {A : Option Addr} {k c : Nat} (w : World) : Calls Try.prog 59 #[.bool false, .slice A k c] w (Ret (.int .i64 2) w) := by
  go_enter Try.func59, Try.ntmps59
  go_wp2_with fail
  go_ret
  exact ⟨rfl, rfl⟩
def Bl (w : World) (A : Option Addr) (n : Nat) (bs : List Bool) : Prop := bs.length = n ∧ n ≤ 4000 ∧ (n ≠ 0 → ∃ ad : Addr, A = some ad ∧ ∀ (i : Nat) (b : Bool), bs[i]? = some b → w.cell? (ad.add i) = some (.bool b))
set_option maxHeartbeats 4000000 in
theorem gRef_any {A : Option Addr} {n c : Nat} {bs : List Bool} {w : World} {E : Int} (h : Bl w A n bs) (hE : (if bs.all id = true then (0 : Int) else 8) = E) : Calls Try.prog 59 #[.bool true, .slice A n c] w (Ret (.int .i64 E) w) := by
  have HE := Lib.hid hE
  clear hE
  obtain ⟨h1, h2, h3⟩ := h
  have H3 := Lib.hid h3
  clear h3
  go_enter Try.func59, Try.ntmps59
  go_wp2_with fail
  go_loopw [11] (fun i wr => ∃ k : Nat, k ≤ n ∧ i = .int .i64 k ∧ (bs.take k).all id = true ∧ w = wr) (fun i _ => n - (intOf i).toNat)
  case atStart => exact ⟨0, Nat.zero_le _, rfl, rfl, rfl⟩
  case round =>
    obtain ⟨k, hk, rfl, ha, rfl⟩ := hrel
    by_cases hlt : k < n
    · obtain ⟨ad, rfl, hc⟩ := H3.out (by omega)
      have hg : bs[k]? = some bs[k] := List.getElem?_eq_getElem (by omega)
      have hc0 := hc k _ hg
      have ht : bs.take (k + 1) = bs.take k ++ [bs[k]] := by rw [List.take_add_one, hg]; rfl
      have k0 : (0 : Int) ≤ k := by omega
      have k1 : (k : Int) < n := by omega
      have HT := Lib.hid ht
      have HA := Lib.hid ha
      have HM : Hid (bs[k] ∈ bs) := Lib.hid (List.getElem_mem _)
      clear ht ha hg hc
      generalize bs[k] = b at *
      cases b
      · go_wp2_with fail
        go_ret
        refine ⟨?_, rfl⟩
        have : bs.all id = false := by
          rw [List.all_eq_false]
          exact ⟨false, HM.out, by simp⟩
        rw [← HE.out, this]; rfl
      · go_wp2_with fail
        go_roundw
        case rel => exact ⟨k + 1, by omega, by go_num, by rw [HT.out, List.all_append, HA.out]; rfl, by first | rfl | trivial⟩
        case measure => simp [intOf]; omega
    · obtain rfl : k = n := by omega
      rw [← h1, List.take_length] at ha
      have e0 : E = 0 := HE.out.symm.trans (if_pos ha)
      subst e0
      clear ha HE
      go_wp2_with fail
      go_ret
      exact ⟨rfl, rfl⟩
end Go.Proofs.Ytbaeabmmokgomaa
