/-
  Walks of layer 1, part ten: the laws on classes, floats, powers, the order, logarithms.
-/
import Derived.Test.YtpbhaheginnkiaaBitsF
import Derived.Test.YtpbhaheginnkiaaBitsK
namespace Go.Proofs.Ytpbhaheginnkiaa
open Go.RowKit Go.Bw
set_option linter.unusedVariables false

set_option maxRecDepth 100000 in
set_option maxHeartbeats 1000000 in
theorem law_class (x : Int) (h0 : 0 ≤ x) (h1 : x ≤ 18446744073709551615) (w : World) :
    Calls Try.prog 3 #[.int .u64 x] w fun e w' => e = .returned (.bool true) ∧ Below w.heap.size w w' := by
  go_enter Try.func3, Try.ntmps3
  go_wp2_with (first
    | (go_at_call 14; refine (class_any _ h0 h1 _).mono ?_; rintro e w' ⟨rfl, rfl⟩)
    | (go_at_call 15; refine (rclass_any _ h0 h1 _).mono ?_; rintro e w' ⟨rfl, rfl⟩)
    | (go_at_call 16; refine (negate_any _ h0 h1 _).mono ?_; rintro e w' ⟨rfl, rfl⟩)
    | (go_at_call 17; refine (rnegate_any _ h0 h1 _).mono ?_; rintro e w' ⟨rfl, rfl⟩)
    | (go_at_call 18; refine (known_any _).mono ?_; rintro e w' ⟨rfl, hb⟩))
  go_ret
  exact ⟨rfl, hb⟩

/-! ### Scale -/
set_option maxHeartbeats 1000000 in
theorem rscale_yes (x k m e r : Int) (neg : Bool) (h0 : 0 ≤ x) (h1 : x ≤ 18446744073709551615) (hc : decide (cls x ≤ 3) = true) (hp : Hid (∀ w, Calls Try.prog 28 #[.int .u64 x] w fun e' w' => e' = .returned (partsV neg m e) ∧ Below w.heap.size w w'))
    (m0 : 0 ≤ m) (m1 : m ≤ 9007199254740991) (e0 : -1075 ≤ e) (e1 : e ≤ 972)
    (hr : Hid (∀ w, Calls Try.prog 31 #[partsV neg m (e + max (-5000) (min 5000 k)), .bool false] w fun e' w' => e' = .returned (.int .u64 r) ∧ Below w.heap.size w w')) (w : World) :
    Calls Try.prog 33 #[.int .u64 x, .int .i64 k] w fun e' w' => e' = .returned (.int .u64 r) ∧ Below w.heap.size w w' := by
  go_enter Try.func33, Try.ntmps33
  go_wp2_with (first
    | (go_at_call 24; refine (rfinite_any _ h0 h1 _).mono ?_; rintro e w' ⟨rfl, rfl⟩)
    | (go_at_call 28; refine (hp.out _).mono ?_; rintro e w' ⟨rfl, hb⟩; have hz := hb.size)
    | (go_at_call 31; refine (hr.out _).mono ?_; rintro e w' ⟨rfl, hb2⟩))
  go_ret
  exact ⟨rfl, (hb.alloc hz _).trans (hb2.mono (by simp; omega))⟩

set_option maxHeartbeats 1000000 in
theorem rscale_no (x k : Int) (h0 : 0 ≤ x) (h1 : x ≤ 18446744073709551615) (hc : decide (cls x ≤ 3) = false) (w : World) :
    Calls Try.prog 33 #[.int .u64 x, .int .i64 k] w fun e' w' => e' = .returned (.int .u64 (one x)) ∧ Below w.heap.size w w' := by
  go_enter Try.func33, Try.ntmps33
  go_wp2_with (first
    | (go_at_call 24; refine (rfinite_any _ h0 h1 _).mono ?_; rintro e w' ⟨rfl, rfl⟩)
    | (go_at_call 21; refine (rone_any _ h0 h1 _).mono ?_; rintro e w' ⟨rfl, rfl⟩))
  go_ret
  exact ⟨rfl, Below.refl _ _⟩

/-- far exponents are all one -/
theorem rnd_far (man e k : Int) (h0 : 0 ≤ man) (h1 : man ≤ 18446744073709551615) (e0 : -1075 ≤ e) (e1 : e ≤ 972) :
    rnd man (e + max (-5000) (min 5000 k)) false = rnd man (e + min (max k (-4096)) 4096) false := by
  by_cases hm : man = 0
  · subst hm; simp [rnd]
  · by_cases a : k < -4096
    · rw [rnd_low man _ false h0 h1 (by omega), rnd_low man _ false h0 h1 (by omega)]
    · by_cases b : 4096 < k
      · rw [rnd_high man _ false (by omega) h1 (by omega), rnd_high man _ false (by omega) h1 (by omega)]
      · rw [show max (-5000) (min 5000 k) = min (max k (-4096)) 4096 by omega]

theorem rscale_any (x k : Int) (h0 : 0 ≤ x) (h1 : x ≤ 18446744073709551615) (w : World) :
    Calls Try.prog 33 #[.int .u64 x, .int .i64 k] w fun e' w' => e' = .returned (.int .u64 (scaleW x k)) ∧ Below w.heap.size w w' := by
  have mb := pman_bd x
  have eb := pexp_bd x
  by_cases hc : cls x ≤ 3
  · have hr : ∀ w, Calls Try.prog 31 #[partsV (pneg x) (pman x) (pexp x + max (-5000) (min 5000 k)), .bool false] w fun e' w' => e' = .returned (.int .u64 (signW (pneg x) (rnd (pman x) (pexp x + min (max k (-4096)) 4096) false))) ∧ Below w.heap.size w w' :=
      fun w => (rround_any _ false _ _ mb.1 (by omega) (by simp [roundMay]) w).mono fun e' w' h => ⟨by rw [h.1, rnd_far _ _ k mb.1 (by omega) eb.1 eb.2], h.2⟩
    have r := rscale_yes x k (pman x) (pexp x) _ (pneg x) h0 h1 (by simpa using hc) (Lib.hid (rparts_any x h0 h1 hc)) mb.1 mb.2 eb.1 eb.2 (Lib.hid hr) w
    exact r.mono fun e' w' h => ⟨by rw [h.1]; simp [scaleW, hc], h.2⟩
  · exact (rscale_no x k h0 h1 (by simpa using hc) w).mono fun e' w' h => ⟨by rw [h.1]; simp [scaleW, hc], h.2⟩

set_option maxRecDepth 100000 in
set_option maxHeartbeats 1000000 in
theorem law_scale (x k : Int) (h0 : 0 ≤ x) (h1 : x ≤ 18446744073709551615) (w : World) :
    Calls Try.prog 8 #[.int .u64 x, .int .i64 k] w fun e w' => e = .returned (.bool true) ∧ Below w.heap.size w w' := by
  go_enter Try.func8, Try.ntmps8
  go_wp2_with (first
    | (go_at_call 32; refine (scale_any _ _ h0 h1 _).mono ?_; rintro e w1 ⟨rfl, hb1⟩; have z1 := hb1.size)
    | (go_at_call 33; refine (rscale_any _ _ h0 h1 _).mono ?_; rintro e w2 ⟨rfl, hb2⟩; have z2 := hb2.size)
    | (go_at_call 18; refine (known_any _).mono ?_; rintro e w3 ⟨rfl, hb3⟩))
  go_ret
  exact ⟨rfl, hb1.trans ((hb2.mono z1).trans (hb3.mono (by omega)))⟩

/-! ### Log -/
set_option maxRecDepth 100000 in
set_option maxHeartbeats 1000000 in
theorem law_log_no (x : Int) (h0 : 0 ≤ x) (h1 : x ≤ 18446744073709551615) (hl : Hid (∀ w, Calls Try.prog 38 #[.int .u64 x] w fun e w' => e = .returned (.tuple #[.int .i64 0, .int .i64 2]) ∧ Below w.heap.size w w'))
    (hc : decide (cls x ≤ 3) = false ∨ decide (cls x ≤ 3) = true ∧ (cls x == 1) = true) (w : World) :
    Calls Try.prog 10 #[.int .u64 x] w fun e w' => e = .returned (.bool true) ∧ Below w.heap.size w w' := by
  rcases hc with hc | ⟨hc, hc1⟩
  all_goals
    go_enter Try.func10, Try.ntmps10
    go_wp2_with (first
      | (go_at_call 38; refine (hl.out _).mono ?_; rintro e w1 ⟨rfl, hb1⟩; have z1 := hb1.size)
      | (go_at_call 24; refine (rfinite_any _ h0 h1 _).mono ?_; rintro e w' ⟨rfl, rfl⟩)
      | (go_at_call 15; refine (rclass_any _ h0 h1 _).mono ?_; rintro e w' ⟨rfl, rfl⟩)
      | (go_at_call 25; refine (num_any _ _).mono ?_; rintro e w' ⟨rfl, rfl⟩)
      | (go_at_call 18; refine (known_any _).mono ?_; rintro e w3 ⟨rfl, hb3⟩))
    go_ret
    exact ⟨rfl, hb1.trans (hb3.mono z1)⟩

set_option maxRecDepth 100000 in
set_option maxHeartbeats 1000000 in
theorem law_log_yes (x n : Int) (h0 : 0 ≤ x) (h1 : x ≤ 18446744073709551615) (hl : Hid (∀ w, Calls Try.prog 38 #[.int .u64 x] w fun e w' => e = .returned (.tuple #[.int .i64 n, .int .i64 0]) ∧ Below w.heap.size w w'))
    (hr : Hid (∀ w, Calls Try.prog 39 #[.int .u64 x] w fun e w' => e = .returned (.int .i64 n) ∧ Below w.heap.size w w'))
    (hc : decide (cls x ≤ 3) = true) (hc1 : (cls x == 1) = false) (w : World) :
    Calls Try.prog 10 #[.int .u64 x] w fun e w' => e = .returned (.bool true) ∧ Below w.heap.size w w' := by
  go_enter Try.func10, Try.ntmps10
  go_wp2_with (first
    | (go_at_call 38; refine (hl.out _).mono ?_; rintro e w1 ⟨rfl, hb1⟩; have z1 := hb1.size)
    | (go_at_call 39; refine (hr.out _).mono ?_; rintro e w2 ⟨rfl, hb2⟩; have z2 := hb2.size)
    | (go_at_call 24; refine (rfinite_any _ h0 h1 _).mono ?_; rintro e w' ⟨rfl, rfl⟩)
    | (go_at_call 15; refine (rclass_any _ h0 h1 _).mono ?_; rintro e w' ⟨rfl, rfl⟩)
    | (go_at_call 25; refine (num_any _ _).mono ?_; rintro e w' ⟨rfl, rfl⟩)
    | (go_at_call 18; refine (known_any _).mono ?_; rintro e w3 ⟨rfl, hb3⟩))
  go_ret
  exact ⟨rfl, hb1.trans ((hb2.mono z1).trans (hb3.mono (by omega)))⟩

theorem law_log (x : Int) (h0 : 0 ≤ x) (h1 : x ≤ 18446744073709551615) (w : World) :
    Calls Try.prog 10 #[.int .u64 x] w fun e w' => e = .returned (.bool true) ∧ Below w.heap.size w w' := by
  have hb := cls_bd x
  have mb := pman_bd x
  have eb := pexp_bd x
  by_cases hc : cls x ≤ 3 ∧ cls x ≠ 1
  · have hm : 1 ≤ pman x := by
      have := pman_zero hc.1
      omega
    exact law_log_yes x (logI x) h0 h1 (Lib.hid fun w => (log_any x h0 h1 w).mono fun e w' h => ⟨by rw [h.1]; unfold logV; rw [if_pos (by omega)], h.2⟩)
      (Lib.hid fun w => rlog_any x (pman x) (pexp x) (pneg x) (Lib.hid (rparts_any x h0 h1 hc.1)) hm mb.2 eb.1 eb.2 w) (by simpa using hc.1) (by simpa using hc.2) w
  · refine law_log_no x h0 h1 (Lib.hid fun w => (log_any x h0 h1 w).mono fun e w' h => ⟨by rw [h.1]; unfold logV; rw [if_neg (by omega)], h.2⟩) ?_ w
    by_cases c : cls x ≤ 3
    · exact Or.inr ⟨by simpa using c, by simp; omega⟩
    · exact Or.inl (by simpa using c)
end Go.Proofs.Ytpbhaheginnkiaa
