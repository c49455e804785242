/-
  Walks of layer 1, part fourteen: the law on parts of words.
-/
import Derived.Test.YtpbhaheginnkiaaBitsF
import Derived.Test.YtpbhaheginnkiaaBitsK
import Derived.Test.YtpbhaheginnkiaaBitsS
import Derived.Lib.QuietBelow
namespace Go.Proofs.Ytpbhaheginnkiaa
open Go.RowKit Go.Bw Go.Sort
set_option linter.unusedVariables false

theorem exOk_zeroP (neg : Bool) (exp : Int) : exOk neg 0 exp = true ∧ signW neg (joinM (sW 0 exp) (sE 0 exp)) = signW neg 0 := by
  have e1 : sW 0 exp = 0 := by unfold sW; rw [if_pos rfl]
  have e2 : sR 0 exp = 0 := by unfold sR; rw [if_pos rfl]
  have e3 : sE 0 exp = -1074 := by unfold sE; rw [if_pos rfl]
  unfold exOk
  rw [e1, e2, e3]
  cases neg <;> decide

theorem mixed : Try.prog.follows .mixedOrders = true := by kernel_rfl

set_option maxRecDepth 100000 in
set_option maxHeartbeats 1000000 in
theorem law_parts_no (x : Int) (h0 : 0 ≤ x) (h1 : x ≤ 18446744073709551615) (hc : decide (cls x ≤ 3) = false) (hp : Hid (∀ w, Calls Try.prog 23 #[.int .u64 x] w fun e' w' => e' = .returned (.tuple #[partsV false 0 0, .int .i64 2]) ∧ Below w.heap.size w w')) (w : World) :
    Calls Try.prog 5 #[.int .u64 x] w fun e w' => e = .returned (.bool true) ∧ Below w.heap.size w w' := by
  go_enter Try.func5, Try.ntmps5
  go_wp2_with (first
    | (go_at_call 23; refine (hp.out _).mono ?_; rintro e w1 ⟨rfl, hb1⟩; have z1 := hb1.size)
    | (go_at_call 24; refine (rfinite_any _ h0 h1 _).mono ?_; rintro e w' ⟨rfl, rfl⟩)
    | (go_at_call 25; refine (num_any _ _).mono ?_; rintro e w' ⟨rfl, rfl⟩)
    | (go_at_call 18; refine (known_any _).mono ?_; rintro e w3 ⟨rfl, hb3⟩))
  go_ret
  exact ⟨rfl, (hb1.alloc z1 _).trans (hb3.mono (by simp; omega))⟩

theorem quiet_num (n : Int) (w : World) (d : Nat) (os : Array Obj) : Calls Try.prog 25 #[.int .i64 n] (grow (redrawn w d) os) fun e w'' => e = .returned (.int .i64 n) ∧ ∃ p : Regrown, w'' = grow (redrawn w p.d) p.os :=
  Calls.regrown_of ((num_any n _).mono fun e w' h => ⟨h.1, h.2 ▸ Below.refl _ _⟩)

set_option maxRecDepth 100000 in
set_option maxHeartbeats 4000000 in
theorem law_parts_yes (x m ex : Int) (neg : Bool) (h0 : 0 ≤ x) (h1 : x ≤ 18446744073709551615) (hc : decide (cls x ≤ 3) = true)
    (hp : Hid (∀ w, Calls Try.prog 23 #[.int .u64 x] w fun e' w' => e' = .returned (.tuple #[partsV neg m ex, .int .i64 0]) ∧ Below w.heap.size w w'))
    (hx : Hid (∀ w, Calls Try.prog 26 #[partsV neg m ex] w fun e' w' => e' = .returned (.tuple #[.int .u64 x, .int .i64 0]) ∧ Below w.heap.size w w'))
    (hr : Hid (∀ w, Calls Try.prog 27 #[partsV neg m ex, .bool false] w fun e' w' => e' = .returned (.tuple #[.int .u64 x, .int .i64 0]) ∧ Below w.heap.size w w'))
    (hq : Hid (∀ w, Calls Try.prog 28 #[.int .u64 x] w fun e' w' => e' = .returned (partsV neg m ex) ∧ Below w.heap.size w w')) (w : World) :
    Calls Try.prog 5 #[.int .u64 x] w fun e w' => e = .returned (.bool true) ∧ Below w.heap.size w w' := by
  go_enter Try.func5, Try.ntmps5
  go_wp2_with (first
    | (go_at_call 23; refine (hp.out _).mono ?_; rintro e w1 ⟨rfl, hb1⟩; have z1 := hb1.size)
    | (go_at_call 24; refine (rfinite_any _ h0 h1 _).mono ?_; rintro e w' ⟨rfl, rfl⟩)
    | (go_at_call 26; refine (hx.out _).mono ?_; rintro e w2 ⟨rfl, hb2⟩; obtain ⟨hc2, hf2⟩ := bcell hb2; have z2 : w1.heap.size < w2.heap.size := by have := hb2.size; simp at this; omega)
    | (go_at_call 27; refine (hr.out _).mono ?_; rintro e w3 ⟨rfl, hb3⟩))
  have g0 : w3.cell? ⟨w1.heap.size, 0, none⟩ = some (.bool neg) := by
    rw [hb3.cell (p := ⟨w1.heap.size, 0, none⟩) z2, hc2 _ _ (by simp)]; go_simp
  have g1 : w3.cell? ⟨w1.heap.size, 1, none⟩ = some (.int .u64 m) := by
    rw [hb3.cell (p := ⟨w1.heap.size, 1, none⟩) z2, hc2 _ _ (by simp)]; go_simp
  have g2 : w3.cell? ⟨w1.heap.size, 2, none⟩ = some (.int .i64 ex) := by
    rw [hb3.cell (p := ⟨w1.heap.size, 2, none⟩) z2, hc2 _ _ (by simp)]; go_simp
  have k0 := cell_regrown g0
  have k1 := cell_regrown g1
  have k2 := cell_regrown g2
  have z3 := hb3.size
  have HB := Lib.hid (((hb1.alloc z1 (Obj.cells #[Value.bool neg, Value.int .u64 m, Value.int .i64 ex] 32)).trans (hb2.mono (by simp; omega))).trans (hb3.mono (by omega)) : Below w.heap.size w w3)
  clear hb1 hb2 hb3 hc2 hf2 g0 g1 g2
  have cN := fun n => quiet_num n w3
  have cK : ∀ d os, Calls Try.prog 18 #[] (grow (redrawn w3 d) os) fun e w'' => e = .returned (.bool true) ∧ ∃ p : Regrown, w'' = grow (redrawn w3 p.d) p.os := fun d os => Calls.regrown_of (known_any _)
  have cP : ∀ d os, Calls Try.prog 28 #[.int .u64 x] (grow (redrawn w3 d) os) fun e w'' => e = .returned (partsV neg m ex) ∧ ∃ p : Regrown, w'' = grow (redrawn w3 p.d) p.os := fun d os => Calls.regrown_of (hq.out _)
  refine wp_region_quiet_below mixed (by kernel_rfl) ?_
  repeat (quiet_step (first | exact cP _ _ | exact cK _ _ | exact cN _ _ _))
  refine wpQuiet_nil ?_
  intro _ hw'
  obtain ⟨⟨dq, osq⟩, hw''⟩ := hw'
  subst hw''
  go_wp2
  go_ret
  exact ⟨ret_bool (by decide), HB.out.trans ((below_regrown w3 dq osq).mono (by omega))⟩

/-! ### a word's parts come back to it -/
theorem word_sign (x : Int) (h0 : 0 ≤ x) (h1 : x ≤ 18446744073709551615) : signW (pneg x) (mag x) = x := by
  unfold signW pneg mag
  by_cases c : 9223372036854775808 ≤ x
  · rw [if_pos (by simpa using c)]; omega
  · rw [if_neg (by simpa using c)]; omega

theorem cls_3_fld {x : Int} (h : cls x = 3) : 1 ≤ fld x ∧ fld x ≤ 2046 := by
  have hf := fld_bd x
  unfold cls at h
  repeat' split at h
  all_goals omega
theorem cls_12_fld {x : Int} (h : cls x = 1 ∨ cls x = 2) : fld x = 0 ∧ (cls x = 2 → frc x ≠ 0) := by
  have hf := fld_bd x
  unfold cls at *
  repeat' split at h
  all_goals (first | omega | (refine ⟨by assumption, fun g => ?_⟩; assumption) | (refine ⟨by assumption, fun g => ?_⟩; repeat' split at g; all_goals omega))

/-- the place of a finite word's last bit is just its parts' -/
theorem parts_place (x : Int) (hc : cls x ≤ 3) (hz : cls x ≠ 1) : 0 < pman x ∧ max (pexp x + bl (pman x) - 53) (-1074) = pexp x ∧ (pexp x + 1074) * 4503599627370496 + pman x = fld x * 4503599627370496 + frc x := by
  have hb := cls_bd x
  have hf := frc_bd x
  by_cases c3 : cls x = 3
  · have hd := cls_3_fld c3
    have hm : pman x = 4503599627370496 + frc x := by unfold pman; rw [if_pos c3]
    have he : pexp x = fld x - 1075 := by unfold pexp; rw [if_neg (by omega), if_neg (by omega)]
    have hbl : bl (pman x) = 53 := by
      unfold bl
      rw [hm]
      have : Lib.bitLen (4503599627370496 + frc x).toNat = 53 := bl_uniq _ 53 (by omega) (by omega) (by omega)
      rw [this]; rfl
    rw [hbl, he, hm]; omega
  · have c2 : cls x = 2 := by omega
    have hd := cls_12_fld (Or.inr c2)
    have hm : pman x = frc x := by unfold pman; rw [if_neg c3]
    have he : pexp x = -1074 := by unfold pexp; rw [if_neg hz, if_pos c2]
    have hbl : bl (pman x) ≤ 52 := by
      unfold bl
      rw [hm]
      have := Lib.bitLen_le (frc x).toNat 52 (by decide) (by omega)
      omega
    have := hd.2 c2
    rw [he, hm] at *
    omega

theorem mag_lt_inf (x : Int) (h0 : 0 ≤ x) (h1 : x ≤ 18446744073709551615) (hc : cls x ≤ 3) : mag x < inf := by
  rw [mag_eq x h0 h1]
  have hf := frc_bd x
  have hd := fld_bd x
  unfold inf
  by_cases c : fld x = 2047
  · exfalso
    unfold cls at hc; rw [if_pos c] at hc
    split at hc <;> omega
  · omega

theorem parts_rnd (x : Int) (h0 : 0 ≤ x) (h1 : x ≤ 18446744073709551615) (hc : cls x ≤ 3) : rnd (pman x) (pexp x) false = mag x := by
  have hl := mag_lt_inf x h0 h1 hc
  by_cases hz : cls x = 1
  · have hm : pman x = 0 := (pman_zero hc).2 hz
    have hf := cls_frc0 hz
    have hd := cls_12_fld (Or.inl hz)
    rw [hm, mag_eq x h0 h1, hf, hd.1]
    unfold rnd; rw [if_pos rfl]; rfl
  · obtain ⟨a, b, c⟩ := parts_place x hc hz
    rw [mag_eq x h0 h1] at *
    unfold rnd
    rw [if_neg (by omega)]
    have hE : rE (pman x) (pexp x) = pexp x := by unfold rE; exact b
    rw [hE, rW_le _ _ _ (by omega)]
    have : (-(pexp x - pexp x)).toNat = 0 := by omega
    rw [this]
    unfold inf at *
    omega

theorem parts_exact (x : Int) (h0 : 0 ≤ x) (h1 : x ≤ 18446744073709551615) (hc : cls x ≤ 3) : exOk (pneg x) (pman x) (pexp x) = true ∧ signW (pneg x) (joinM (sW (pman x) (pexp x)) (sE (pman x) (pexp x))) = x := by
  have hl := mag_lt_inf x h0 h1 hc
  have hx := word_sign x h0 h1
  by_cases hz : cls x = 1
  · have hm : pman x = 0 := (pman_zero hc).2 hz
    have hf := cls_frc0 hz
    have hd := cls_12_fld (Or.inl hz)
    have hmag : mag x = 0 := by rw [mag_eq x h0 h1, hf, hd.1]; rfl
    rw [hmag] at hx
    rw [hm]
    have k := exOk_zeroP (pneg x) (pexp x)
    exact ⟨k.1, k.2.trans hx⟩
  · obtain ⟨a, b, c⟩ := parts_place x hc hz
    have mb := pman_bd x
    have eb := pexp_bd x
    have hF : sF (pexp x) = pexp x := by unfold sF; omega
    have hE : sE (pman x) (pexp x) = pexp x := by unfold sE; rw [if_neg (by omega), hF]; omega
    have hD : sD (pman x) (pexp x) = 0 := by unfold sD; rw [hE, hF]; omega
    have hR : sR (pman x) (pexp x) = 0 := by unfold sR; rw [if_neg (by omega), if_pos (by omega)]
    have hW : sW (pman x) (pexp x) = pman x := by unfold sW; rw [if_neg (by omega), if_pos (by omega), hD]; simp
    have hJ : joinM (pman x) (pexp x) = mag x := by
      rw [mag_eq x h0 h1] at *
      unfold joinM inf at *
      omega
    rw [hW, hE, hJ, hx]
    refine ⟨?_, rfl⟩
    unfold exOk
    rw [hR, hW, hE, hJ, hx]
    have : ¬ cls x = 4 := by omega
    simp [this]

theorem law_parts (x : Int) (h0 : 0 ≤ x) (h1 : x ≤ 18446744073709551615) (w : World) :
    Calls Try.prog 5 #[.int .u64 x] w fun e w' => e = .returned (.bool true) ∧ Below w.heap.size w w' := by
  have mb := pman_bd x
  by_cases hc : cls x ≤ 3
  · have hr : ∀ w, Calls Try.prog 27 #[partsV (pneg x) (pman x) (pexp x), .bool false] w fun e' w' => e' = .returned (.tuple #[.int .u64 x, .int .i64 0]) ∧ Below w.heap.size w w' :=
      fun w => (round_any _ _ _ false mb.1 (by omega) w).mono fun e' w' h => ⟨by rw [h.1]; simp [roundV, roundMay, parts_rnd x h0 h1 hc, word_sign x h0 h1], h.2⟩
    have k := parts_exact x h0 h1 hc
    exact law_parts_yes x (pman x) (pexp x) (pneg x) h0 h1 (by simpa using hc) (Lib.hid (parts_yes h0 h1 hc)) (Lib.hid (exact_yes mb.1 (by omega) k.1 k.2)) (Lib.hid hr) (Lib.hid (rparts_any x h0 h1 hc)) w
  · exact law_parts_no x h0 h1 (by simpa using hc) (Lib.hid (parts_no h0 h1 hc)) w
end Go.Proofs.Ytpbhaheginnkiaa
