/-
  Walks of layer 1, part twelve: the law on rounding.
-/
import Derived.Test.YtpbhaheginnkiaaBitsF
import Derived.Test.YtpbhaheginnkiaaBitsK
namespace Go.Proofs.Ytpbhaheginnkiaa
open Go.RowKit Go.Bw
set_option linter.unusedVariables false

set_option maxRecDepth 100000 in
set_option maxHeartbeats 1000000 in
theorem law_round_no (neg more : Bool) (man exp : Int)
    (h1 : Hid (∀ w, Calls Try.prog 27 #[partsV neg man exp, .bool more] w fun e w' => e = .returned (.tuple #[.int .u64 0, .int .i64 2]) ∧ Below w.heap.size w w'))
    (h2 : Hid (∀ w, Calls Try.prog 30 #[partsV neg man exp, .bool more] w fun e w' => e = .returned (.bool false) ∧ Below w.heap.size w w')) (w : World) :
    Calls Try.prog 7 #[partsV neg man exp, .bool more] w fun e w' => e = .returned (.bool true) ∧ Below w.heap.size w w' := by
  go_enter Try.func7, Try.ntmps7
  go_wp2_with (first
    | (go_at_call 27; refine (h1.out _).mono ?_; rintro e w1 ⟨rfl, hb1⟩; obtain ⟨hc1, hf1⟩ := bcell hb1; have z1 : w.heap.size < w1.heap.size := by have := hb1.size; simp at this; omega)
    | (go_at_call 30; refine (h2.out _).mono ?_; rintro e w2 ⟨rfl, hb2⟩; have z2 := hb2.size)
    | (go_at_call 25; refine (num_any _ _).mono ?_; rintro e w' ⟨rfl, rfl⟩)
    | (go_at_call 18; refine (known_any _).mono ?_; rintro e w3 ⟨rfl, hb3⟩))
  go_ret
  exact ⟨rfl, ((Below.refl _ _).alloc (Nat.le_refl _) _).trans ((hb1.mono (by simp)).trans ((hb2.mono (by omega)).trans (hb3.mono (by omega))))⟩

set_option maxRecDepth 100000 in
set_option maxHeartbeats 1000000 in
theorem law_round_yes (neg more : Bool) (man exp s : Int)
    (h1 : Hid (∀ w, Calls Try.prog 27 #[partsV neg man exp, .bool more] w fun e w' => e = .returned (.tuple #[.int .u64 s, .int .i64 0]) ∧ Below w.heap.size w w'))
    (h2 : Hid (∀ w, Calls Try.prog 30 #[partsV neg man exp, .bool more] w fun e w' => e = .returned (.bool true) ∧ Below w.heap.size w w'))
    (h3 : Hid (∀ w, Calls Try.prog 31 #[partsV neg man exp, .bool more] w fun e w' => e = .returned (.int .u64 s) ∧ Below w.heap.size w w')) (w : World) :
    Calls Try.prog 7 #[partsV neg man exp, .bool more] w fun e w' => e = .returned (.bool true) ∧ Below w.heap.size w w' := by
  go_enter Try.func7, Try.ntmps7
  go_wp2_with (first
    | (go_at_call 27; refine (h1.out _).mono ?_; rintro e w1 ⟨rfl, hb1⟩; obtain ⟨hc1, hf1⟩ := bcell hb1; have z1 : w.heap.size < w1.heap.size := by have := hb1.size; simp at this; omega)
    | (go_at_call 30; refine (h2.out _).mono ?_; rintro e w2 ⟨rfl, hb2⟩; obtain ⟨hc2, hf2⟩ := bcell hb2; have z2 := hb2.size)
    | (go_at_call 31; refine (h3.out _).mono ?_; rintro e w4 ⟨rfl, hb4⟩; have z4 := hb4.size)
    | (go_at_call 25; refine (num_any _ _).mono ?_; rintro e w' ⟨rfl, rfl⟩)
    | (go_at_call 18; refine (known_any _).mono ?_; rintro e w3 ⟨rfl, hb3⟩))
  go_ret
  exact ⟨rfl, ((Below.refl _ _).alloc (Nat.le_refl _) _).trans ((hb1.mono (by simp)).trans ((hb2.mono (by omega)).trans ((hb4.mono (by omega)).trans (hb3.mono (by omega)))))⟩

theorem law_round (neg : Bool) (man exp : Int) (more : Bool) (h0 : 0 ≤ man) (h1 : man ≤ 18446744073709551615) (w : World) :
    Calls Try.prog 7 #[partsV neg man exp, .bool more] w fun e w' => e = .returned (.bool true) ∧ Below w.heap.size w w' := by
  cases hm : roundMay man exp more
  · exact law_round_no neg more man exp (Lib.hid fun w => (round_any neg man exp more h0 h1 w).mono fun e w' h => ⟨by rw [h.1]; simp [roundV, hm], h.2⟩)
      (Lib.hid fun w => (rmay_any neg more man exp w).mono fun e w' h => ⟨by rw [h.1, hm], h.2⟩) w
  · exact law_round_yes neg more man exp _ (Lib.hid fun w => (round_any neg man exp more h0 h1 w).mono fun e w' h => ⟨by rw [h.1]; simp [roundV, hm], h.2⟩)
      (Lib.hid fun w => (rmay_any neg more man exp w).mono fun e w' h => ⟨by rw [h.1, hm], h.2⟩) (Lib.hid fun w => rround_any neg more man exp h0 h1 hm w) w
end Go.Proofs.Ytpbhaheginnkiaa
