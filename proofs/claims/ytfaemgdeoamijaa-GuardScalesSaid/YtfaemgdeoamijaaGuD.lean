/-
  Layer 5, walks: a float times a power of 2, by the reference. (Written by wip/tools/gen_gud.py.)
-/
import Derived.Test.YtfaemgdeoamijaaGuC
namespace Go.Proofs.Ytfaemgdeoamijaa
open Go.RowKit Go.Bw
set_option linter.unusedVariables false
set_option linter.unusedSimpArgs false

theorem pm_pow_bd {x : Int} (h0 : 0 ≤ x) (h1 : x ≤ 18446744073709551615) (hz : mag x ≠ 0) {j : Nat} (hj : j ≤ upw x) : 0 < pm x * 2 ^ j ∧ pm x * 2 ^ j ≤ 9007199254740991 ∧ (pm x * 2 ^ j < 4503599627370496 ↔ j < upw x) := by
  have b := nM_bd h0 h1 hz
  have a := pm_pos h0 h1 hz
  have hp : (0 : Int) < 2 ^ j := Int.pow_pos (by decide)
  have h2 : 0 < pm x * 2 ^ j := Int.mul_pos a hp
  rcases Nat.lt_or_ge j (upw x) with c | c
  · have e : nM x = pm x * 2 ^ j * 2 ^ (upw x - j) := by unfold nM; rw [Int.mul_assoc, ← Int.pow_add]; congr 2; omega
    have p2 : (2 : Int) ≤ 2 ^ (upw x - j) := by
      have := Nat.pow_le_pow_right (show 0 < 2 by decide) (show 1 ≤ upw x - j by omega)
      have := pow_cast (upw x - j)
      omega
    have := Int.mul_le_mul_of_nonneg_left p2 (Int.le_of_lt h2)
    rw [← e] at this
    exact ⟨h2, by omega, by omega⟩
  · obtain rfl : j = upw x := by omega
    have e : nM x = pm x * 2 ^ upw x := rfl
    rw [← e]
    exact ⟨by omega, by omega, by omega⟩
/-- the doublings: from (m, e), j of them -/
structure Dbl (x m e : Int) : Prop where
  is : ∃ j : Nat, j ≤ upw x ∧ m = pm x * 2 ^ j ∧ e = px x + 1075 - j
theorem Dbl.start (x : Int) : Dbl x (pm x) (px x + 1075) := ⟨0, Nat.zero_le _, by simp, by simp⟩
theorem Dbl.step {x m e : Int} (h : Dbl x m e) (h0 : 0 ≤ x) (h1 : x ≤ 18446744073709551615) (hz : mag x ≠ 0) (c : m < 4503599627370496) : Dbl x (m * 2) (e - 1) := by
  obtain ⟨j, hj, rfl, rfl⟩ := h.is
  have := (pm_pow_bd h0 h1 hz hj).2.2.1 c
  exact ⟨j + 1, by omega, by rw [Int.pow_succ, Int.mul_assoc], by push_cast; omega⟩
theorem Dbl.bd {x m e : Int} (h : Dbl x m e) (h0 : 0 ≤ x) (h1 : x ≤ 18446744073709551615) (hf : fin x = true) (hz : mag x ≠ 0) : 0 < m ∧ m ≤ 9007199254740991 ∧ -52 ≤ e ∧ e ≤ 2046 := by
  obtain ⟨j, hj, rfl, rfl⟩ := h.is
  have a := pm_pow_bd h0 h1 hz hj
  have b := px_bd h0 h1 hf
  have c := nM_bd h0 h1 hz
  exact ⟨a.1, a.2.1, by omega, by omega⟩
theorem Dbl.fin {x m e : Int} (h : Dbl x m e) (h0 : 0 ≤ x) (h1 : x ≤ 18446744073709551615) (hz : mag x ≠ 0) (c : ¬ m < 4503599627370496) : m = nM x ∧ e = nE x + 1075 := by
  obtain ⟨j, hj, rfl, rfl⟩ := h.is
  have a := pm_pow_bd h0 h1 hz hj
  obtain rfl : j = upw x := by
    rcases Nat.lt_or_ge j (upw x) with g | g
    · exact absurd (a.2.2.2 g) c
    · omega
  exact ⟨rfl, by unfold nE; omega⟩
theorem tw_main {x p P : Int} (h0 : 0 ≤ x) (h1 : x ≤ 18446744073709551615) (hf : fin x = true) (hz : mag x ≠ 0) (hP : max (-5000) (min p 5000) = P) : tw x p = sgb x + rsz (nM x) (nE x + P) := by
  unfold tw
  rw [if_neg (by rintro (h | h); rw [hf] at h; cases h; exact hz h)]
  have b := nM_bd h0 h1 hz
  have c := nE_bd h0 h1 hf hz
  have := rsz_clamp (M := nM x) (p := p) (c := 5000) (by omega) b.2.1 c.1 c.2 (by omega)
  rw [← this, hP]
theorem rne_parts {M Q R H : Int} {n : Nat} (h : (2 : Int) ^ n = 2 * H) (hQ : M / 2 ^ n = Q) (hR : M - Q * 2 ^ n = R) : (H < R → rne M n = Q + 1) ∧ (R = H → Q % 2 = 1 → rne M n = Q + 1) ∧ (R < H → rne M n = Q) ∧ (R = H → ¬ Q % 2 = 1 → rne M n = Q) := by
  have hm : M % 2 ^ n = R := by
    have := Int.emod_add_mul_ediv M (2 ^ n)
    rw [hQ, Int.mul_comm] at this
    omega
  unfold rne
  rw [hm, hQ, h]
  refine ⟨fun a => ?_, fun a b => ?_, fun a => ?_, fun a b => ?_⟩
  · rw [if_pos (by omega)]
  · rw [if_pos (by omega)]
  · rw [if_neg (by omega)]; omega
  · rw [if_neg (by omega)]; omega

set_option maxHeartbeats 400000 in
theorem rTimes_self (x p : Int) (h0 : 0 ≤ x) (h1 : x ≤ 18446744073709551615) (h : fin x = false ∨ mag x = 0 ∨ p = 0) (w : World) :
    Calls Try.prog 26 #[.float .f64 x.toNat, .int .i64 p] w (Ans w (.float .f64 (tw x p).toNat)) := by
  have hb := run_bits_back x h0
  have r : tw x p = x := by
    rcases h with h | h | h
    · unfold tw; rw [if_pos (.inl h)]
    · unfold tw; rw [if_pos (.inr h)]
    · rw [h]; exact tw_zero x h0 h1
  rw [r]
  clear r
  have d1 : (IntKind.u64.wrap (x * 2) == 0) = decide (mag x = 0) := by
    rw [IntKind.wrap_u64, Bool.eq_iff_iff, beq_iff_eq, decide_eq_true_iff]; unfold mag; omega
  by_cases a : fin x = false
  · clear h d1
    go_enter Try.func26, Try.ntmps26
    go_wp2_with (go_at_call 19; refine (rFinite_any _ h0 h1 _).mono ?_; rintro e9 w' ⟨rfl, rfl⟩)
    go_ret
    exact ⟨rfl, rfl⟩
  · by_cases b : mag x = 0
    · rw [decide_eq_true b] at d1
      clear h
      have a' : fin x = true := by simpa using a
      clear a
      go_enter Try.func26, Try.ntmps26
      go_wp2_with (go_at_call 19; refine (rFinite_any _ h0 h1 _).mono ?_; rintro e9 w' ⟨rfl, rfl⟩)
      go_ret
      exact ⟨rfl, rfl⟩
    · rw [decide_eq_false b] at d1
      have a' : fin x = true := by simpa using a
      obtain rfl : p = 0 := by rcases h with h | h | h; exact absurd h a; exact absurd h b; exact h
      clear a h
      go_enter Try.func26, Try.ntmps26
      go_wp2_with (go_at_call 19; refine (rFinite_any _ h0 h1 _).mono ?_; rintro e9 w' ⟨rfl, rfl⟩)
      go_ret
      exact ⟨rfl, rfl⟩

set_option maxHeartbeats 16000000 in
theorem rTimes_main (x p : Int) (h0 : 0 ≤ x) (h1 : x ≤ 18446744073709551615) (p0 : -9223372036854775808 ≤ p) (p1 : p ≤ 9223372036854775807) (hf : fin x = true) (hz : mag x ≠ 0) (hp : p ≠ 0) (w : World) :
    Calls Try.prog 26 #[.float .f64 x.toNat, .int .i64 p] w (Ans w (.float .f64 (tw x p).toNat)) := by
  have hb := run_bits_back x h0
  have d1 : (IntKind.u64.wrap (x * 2) == 0) = false := by
    rw [IntKind.wrap_u64]; unfold mag at hz; simp; omega
  have d2 : (p == 0) = false := by simpa using hp
  have hb2 := run_float64frombits
  have pf := Lib.hid (fun w => rFinite_any x h0 h1 w)
  have f2 : IntKind.u64.wrap (x * 4096) / 4096 = frc x := by rw [IntKind.wrap_u64]; unfold frc; omega
  have HF := Lib.hid hf
  have HZ := Lib.hid hz
  have hfr := frc_bd x
  have hso := sgb_or x
  have f1 : x / 9223372036854775808 * 9223372036854775808 = sgb x := by unfold sgb; split <;> omega
  obtain ⟨S, hS⟩ : ∃ S, sgb x = S := ⟨_, rfl⟩
  rw [hS] at f1 hso
  have hS0 : 0 ≤ S ∧ S ≤ 9223372036854775808 := by omega
  have HS := Lib.hid hS
  obtain ⟨Fr, hFr⟩ : ∃ Fr, frc x = Fr := ⟨_, rfl⟩
  rw [hFr] at f2 hfr
  have hfd := fld_bd x
  have hfin : fld x ≠ 2047 := by
    have := mag_eq x h0 h1
    have := frc_bd x
    unfold fin at hf; simp at hf; omega
  have f3 : x / 4503599627370496 % 2048 = fld x := rfl
  obtain ⟨T, hT⟩ : ∃ T, tw x p = T := ⟨_, rfl⟩
  have HT := Lib.hid hT
  rw [hT]
  have D0 := Lib.hid (Dbl.start x)
  clear hT hS hso hz hp
  by_cases hfz : fld x = 0
  · rw [hfz] at f3
    have hpm : pm x = Fr := by unfold pm; rw [if_pos hfz, hFr]
    have hpx : px x + 1075 = 1 := by unfold px; rw [if_pos hfz]; omega
    rw [hpm, hpx] at D0
    clear hFr hfd hfin hpm hpx hfz
    go_enter Try.func26, Try.ntmps26
    go_wp2_with (go_at_call 19; refine (pf.out _).mono ?_; rintro e9 w' ⟨rfl, rfl⟩)
    go_loop [7, 8] (fun m e => ∃ M E : Int, m = .int .u64 M ∧ e = .int .i64 E ∧ Hid (Dbl x M E)) (fun m _ => (9007199254740992 - intOf m).toNat)
    case atStart => exact ⟨_, _, rfl, rfl, D0⟩
    case round =>
      obtain ⟨M, E, rfl, rfl, hD⟩ := hrel
      obtain ⟨b1, b2, b3, b4⟩ := hD.out.bd h0 h1 HF.out HZ.out
      by_cases hlt : M < 4503599627370496
      · go_wp2_with fail
        go_round
        case rel => exact ⟨M * 2, E - 1, by go_num, by go_num, Lib.hid (hD.out.step h0 h1 HZ.out hlt)⟩
        case measure => simp [intOf]; omega
      · obtain ⟨e1, e2⟩ := hD.out.fin h0 h1 HZ.out hlt
        have E1 := Lib.hid e1
        have E2 := Lib.hid e2
        have hM0 : 4503599627370496 ≤ M := by omega
        clear e1 e2 hD
        have h9 : ∀ P E3 : Int, max (-5000) (min p 5000) = P → E + P = E3 → T = S + rsz M (E3 - 1075) := fun P E3 hP hE3 => by
          have h := tw_main h0 h1 HF.out HZ.out hP
          have a1 := E1.out
          have a2 := E2.out
          rw [HT.out, HS.out, ← a1, show nE x + P = E3 - 1075 by omega] at h
          exact h
        have H9 := Lib.hid h9
        clear h9
        by_cases c1 : 5000 < p
        · obtain ⟨E3, hE3⟩ : ∃ E3, E + 5000 = E3 := ⟨_, rfl⟩
          have hT := H9.out 5000 E3 (by omega) hE3
          have hE4 : -6000 ≤ E3 ∧ E3 ≤ 8000 := by omega
          have HT3 := Lib.hid hT
          clear hT
          have r1 : T = S + 9218868437227405312 := by rw [HT3.out]; unfold rsz; rw [if_neg (by omega), if_pos (by omega)]
          rw [r1]
          go_wp2_with fail
          go_ret
          exact ⟨rfl, rfl⟩
        · by_cases c2 : p < -5000
          · obtain ⟨E3, hE3⟩ : ∃ E3, E + -5000 = E3 := ⟨_, rfl⟩
            have hT := H9.out (-5000) E3 (by omega) hE3
            have hE4 : -6000 ≤ E3 ∧ E3 ≤ 8000 := by omega
            have HT3 := Lib.hid hT
            clear hT
            obtain ⟨N, hN⟩ : ∃ N, 1 - E3 = N := ⟨_, rfl⟩
            have r1 : T = S := by rw [HT3.out]; unfold rsz; rw [if_pos (by omega), rne_far (by omega) (by omega) (by omega)]; omega
            rw [r1]
            go_wp2_with fail
            go_ret
            exact ⟨rfl, rfl⟩
          · obtain ⟨E3, hE3⟩ : ∃ E3, E + p = E3 := ⟨_, rfl⟩
            have hT := H9.out p E3 (by omega) hE3
            have hE4 : -6000 ≤ E3 ∧ E3 ≤ 8000 := by omega
            have HT3 := Lib.hid hT
            clear hT
            by_cases q1 : 2047 ≤ E3
            · have r1 : T = S + 9218868437227405312 := by rw [HT3.out]; unfold rsz; rw [if_neg (by omega), if_pos (by omega)]
              rw [r1]
              go_wp2_with fail
              go_ret
              exact ⟨rfl, rfl⟩
            · by_cases q2 : 1 ≤ E3
              · have r1 : T = S + E3 * 4503599627370496 + M - 4503599627370496 := by rw [HT3.out]; unfold rsz; rw [if_neg (by omega), if_neg (by omega)]; omega
                rw [r1]
                go_wp2_with fail
                go_ret
                exact ⟨rfl, rfl⟩
              · obtain ⟨N, hN⟩ : ∃ N, 1 - E3 = N := ⟨_, rfl⟩
                have hN0 : 1 ≤ N ∧ N ≤ 7000 := by omega
                have r0 : T = S + rne M N.toNat := by rw [HT3.out]; unfold rsz; rw [if_pos (by omega), show -1074 - (E3 - 1075) = N by omega]
                by_cases q3 : 60 < N
                · have r1 : T = S := by rw [r0, rne_far (by omega) (by omega) (by omega)]; omega
                  rw [r1]
                  clear r0
                  go_wp2_with fail
                  go_ret
                  exact ⟨rfl, rfl⟩
                · have hp1 : (2 : Int) ^ N.toNat = 2 * 2 ^ (N.toNat - 1) := by
                    obtain ⟨k, hk⟩ : ∃ k, N.toNat = k + 1 := ⟨N.toNat - 1, by omega⟩
                    rw [hk, Int.pow_succ, Nat.add_sub_cancel]; omega
                  have hp2 := pow_fit (k := N.toNat - 1) (by omega)
                  obtain ⟨H, hH⟩ : ∃ H : Int, 2 ^ (N.toNat - 1) = H := ⟨_, rfl⟩
                  have hw1 : IntKind.u64.wrap (2 ^ (N.toNat - 1)) = H := by rw [← hH]; exact wrap_id (by omega) (by omega)
                  obtain ⟨Q, hQ⟩ : ∃ Q : Int, M / 2 ^ N.toNat = Q := ⟨_, rfl⟩
                  obtain ⟨QD, hQD⟩ : ∃ QD : Int, Q * 2 ^ N.toNat = QD := ⟨_, rfl⟩
                  obtain ⟨R, hR⟩ : ∃ R : Int, M - QD = R := ⟨_, rfl⟩
                  have hQ0 : 0 ≤ Q := by rw [← hQ]; exact Int.ediv_nonneg (by omega) (by omega)
                  have hQ1 : Q ≤ M := by rw [← hQ]; exact Int.ediv_le_self _ (by omega)
                  have hm0 : 0 ≤ M % 2 ^ N.toNat := Int.emod_nonneg _ (by omega)
                  have hm1 := Int.emod_add_mul_ediv M (2 ^ N.toNat)
                  have hm2 : 0 ≤ QD := by rw [← hQD]; exact Int.mul_nonneg hQ0 (by omega)
                  have hmc := Int.mul_comm (2 ^ N.toNat) Q
                  rw [hQ, hmc, hQD] at hm1
                  have hw2 : IntKind.u64.wrap (Q * 2 ^ N.toNat) = QD := by rw [hQD]; exact wrap_id hm2 (by omega)
                  rw [hH] at hp1 hp2
                  obtain ⟨k1, k2, k3, k4⟩ := rne_parts (M := M) (Q := Q) (R := R) hp1 hQ (by rw [hQD]; exact hR)
                  have hR0 : 0 ≤ R ∧ R ≤ 9007199254740991 := by omega
                  have K1 := Lib.hid k1
                  have K2 := Lib.hid k2
                  have K3 := Lib.hid k3
                  have K4 := Lib.hid k4
                  have R0 := Lib.hid r0
                  clear k1 k2 k3 k4 r0 hm0 hm1 hmc hp1 hQD hH
                  by_cases s1 : H < R
                  · have r1 : T = S + (Q + 1) := by rw [R0.out, K1.out s1]
                    rw [r1]
                    go_wp2_with fail
                    go_ret
                    exact ⟨rfl, rfl⟩
                  · have s1' : decide (H < R) = false := decide_eq_false s1
                    by_cases s2 : R = H
                    · have s2' : (R == H) = true := by simpa using s2
                      have S2 := Lib.hid s2
                      clear s2 s1
                      by_cases s3 : Q % 2 = 1
                      · have r1 : T = S + (Q + 1) := by rw [R0.out, K2.out S2.out s3]
                        rw [r1]
                        go_wp2_with fail
                        go_ret
                        exact ⟨rfl, rfl⟩
                      · have r1 : T = S + Q := by rw [R0.out, K4.out S2.out s3]
                        have s3' : (Q % 2 == 1) = false := by simpa using s3
                        rw [r1]
                        go_wp2_with fail
                        go_ret
                        exact ⟨rfl, rfl⟩
                    · have r1 : T = S + Q := by rw [R0.out, K3.out (by omega)]
                      have s2' : (R == H) = false := by simpa using s2
                      rw [r1]
                      go_wp2_with fail
                      go_ret
                      exact ⟨rfl, rfl⟩
  · obtain ⟨F, hF⟩ : ∃ F, fld x = F := ⟨_, rfl⟩
    have hpm : pm x = Fr + 4503599627370496 := by unfold pm; rw [if_neg hfz, hFr]; omega
    have hpx : px x + 1075 = F := by unfold px; rw [if_neg hfz, hF]; omega
    rw [hpm, hpx] at D0
    rw [hF] at f3 hfd hfin hfz
    clear hFr hpm hpx hF
    go_enter Try.func26, Try.ntmps26
    go_wp2_with (go_at_call 19; refine (pf.out _).mono ?_; rintro e9 w' ⟨rfl, rfl⟩)
    go_loop [7, 8] (fun m e => ∃ M E : Int, m = .int .u64 M ∧ e = .int .i64 E ∧ Hid (Dbl x M E)) (fun m _ => (9007199254740992 - intOf m).toNat)
    case atStart => exact ⟨_, _, rfl, rfl, D0⟩
    case round =>
      obtain ⟨M, E, rfl, rfl, hD⟩ := hrel
      obtain ⟨b1, b2, b3, b4⟩ := hD.out.bd h0 h1 HF.out HZ.out
      by_cases hlt : M < 4503599627370496
      · go_wp2_with fail
        go_round
        case rel => exact ⟨M * 2, E - 1, by go_num, by go_num, Lib.hid (hD.out.step h0 h1 HZ.out hlt)⟩
        case measure => simp [intOf]; omega
      · obtain ⟨e1, e2⟩ := hD.out.fin h0 h1 HZ.out hlt
        have E1 := Lib.hid e1
        have E2 := Lib.hid e2
        have hM0 : 4503599627370496 ≤ M := by omega
        clear e1 e2 hD
        have h9 : ∀ P E3 : Int, max (-5000) (min p 5000) = P → E + P = E3 → T = S + rsz M (E3 - 1075) := fun P E3 hP hE3 => by
          have h := tw_main h0 h1 HF.out HZ.out hP
          have a1 := E1.out
          have a2 := E2.out
          rw [HT.out, HS.out, ← a1, show nE x + P = E3 - 1075 by omega] at h
          exact h
        have H9 := Lib.hid h9
        clear h9
        by_cases c1 : 5000 < p
        · obtain ⟨E3, hE3⟩ : ∃ E3, E + 5000 = E3 := ⟨_, rfl⟩
          have hT := H9.out 5000 E3 (by omega) hE3
          have hE4 : -6000 ≤ E3 ∧ E3 ≤ 8000 := by omega
          have HT3 := Lib.hid hT
          clear hT
          have r1 : T = S + 9218868437227405312 := by rw [HT3.out]; unfold rsz; rw [if_neg (by omega), if_pos (by omega)]
          rw [r1]
          go_wp2_with fail
          go_ret
          exact ⟨rfl, rfl⟩
        · by_cases c2 : p < -5000
          · obtain ⟨E3, hE3⟩ : ∃ E3, E + -5000 = E3 := ⟨_, rfl⟩
            have hT := H9.out (-5000) E3 (by omega) hE3
            have hE4 : -6000 ≤ E3 ∧ E3 ≤ 8000 := by omega
            have HT3 := Lib.hid hT
            clear hT
            obtain ⟨N, hN⟩ : ∃ N, 1 - E3 = N := ⟨_, rfl⟩
            have r1 : T = S := by rw [HT3.out]; unfold rsz; rw [if_pos (by omega), rne_far (by omega) (by omega) (by omega)]; omega
            rw [r1]
            go_wp2_with fail
            go_ret
            exact ⟨rfl, rfl⟩
          · obtain ⟨E3, hE3⟩ : ∃ E3, E + p = E3 := ⟨_, rfl⟩
            have hT := H9.out p E3 (by omega) hE3
            have hE4 : -6000 ≤ E3 ∧ E3 ≤ 8000 := by omega
            have HT3 := Lib.hid hT
            clear hT
            by_cases q1 : 2047 ≤ E3
            · have r1 : T = S + 9218868437227405312 := by rw [HT3.out]; unfold rsz; rw [if_neg (by omega), if_pos (by omega)]
              rw [r1]
              go_wp2_with fail
              go_ret
              exact ⟨rfl, rfl⟩
            · by_cases q2 : 1 ≤ E3
              · have r1 : T = S + E3 * 4503599627370496 + M - 4503599627370496 := by rw [HT3.out]; unfold rsz; rw [if_neg (by omega), if_neg (by omega)]; omega
                rw [r1]
                go_wp2_with fail
                go_ret
                exact ⟨rfl, rfl⟩
              · obtain ⟨N, hN⟩ : ∃ N, 1 - E3 = N := ⟨_, rfl⟩
                have hN0 : 1 ≤ N ∧ N ≤ 7000 := by omega
                have r0 : T = S + rne M N.toNat := by rw [HT3.out]; unfold rsz; rw [if_pos (by omega), show -1074 - (E3 - 1075) = N by omega]
                by_cases q3 : 60 < N
                · have r1 : T = S := by rw [r0, rne_far (by omega) (by omega) (by omega)]; omega
                  rw [r1]
                  clear r0
                  go_wp2_with fail
                  go_ret
                  exact ⟨rfl, rfl⟩
                · have hp1 : (2 : Int) ^ N.toNat = 2 * 2 ^ (N.toNat - 1) := by
                    obtain ⟨k, hk⟩ : ∃ k, N.toNat = k + 1 := ⟨N.toNat - 1, by omega⟩
                    rw [hk, Int.pow_succ, Nat.add_sub_cancel]; omega
                  have hp2 := pow_fit (k := N.toNat - 1) (by omega)
                  obtain ⟨H, hH⟩ : ∃ H : Int, 2 ^ (N.toNat - 1) = H := ⟨_, rfl⟩
                  have hw1 : IntKind.u64.wrap (2 ^ (N.toNat - 1)) = H := by rw [← hH]; exact wrap_id (by omega) (by omega)
                  obtain ⟨Q, hQ⟩ : ∃ Q : Int, M / 2 ^ N.toNat = Q := ⟨_, rfl⟩
                  obtain ⟨QD, hQD⟩ : ∃ QD : Int, Q * 2 ^ N.toNat = QD := ⟨_, rfl⟩
                  obtain ⟨R, hR⟩ : ∃ R : Int, M - QD = R := ⟨_, rfl⟩
                  have hQ0 : 0 ≤ Q := by rw [← hQ]; exact Int.ediv_nonneg (by omega) (by omega)
                  have hQ1 : Q ≤ M := by rw [← hQ]; exact Int.ediv_le_self _ (by omega)
                  have hm0 : 0 ≤ M % 2 ^ N.toNat := Int.emod_nonneg _ (by omega)
                  have hm1 := Int.emod_add_mul_ediv M (2 ^ N.toNat)
                  have hm2 : 0 ≤ QD := by rw [← hQD]; exact Int.mul_nonneg hQ0 (by omega)
                  have hmc := Int.mul_comm (2 ^ N.toNat) Q
                  rw [hQ, hmc, hQD] at hm1
                  have hw2 : IntKind.u64.wrap (Q * 2 ^ N.toNat) = QD := by rw [hQD]; exact wrap_id hm2 (by omega)
                  rw [hH] at hp1 hp2
                  obtain ⟨k1, k2, k3, k4⟩ := rne_parts (M := M) (Q := Q) (R := R) hp1 hQ (by rw [hQD]; exact hR)
                  have hR0 : 0 ≤ R ∧ R ≤ 9007199254740991 := by omega
                  have K1 := Lib.hid k1
                  have K2 := Lib.hid k2
                  have K3 := Lib.hid k3
                  have K4 := Lib.hid k4
                  have R0 := Lib.hid r0
                  clear k1 k2 k3 k4 r0 hm0 hm1 hmc hp1 hQD hH
                  by_cases s1 : H < R
                  · have r1 : T = S + (Q + 1) := by rw [R0.out, K1.out s1]
                    rw [r1]
                    go_wp2_with fail
                    go_ret
                    exact ⟨rfl, rfl⟩
                  · have s1' : decide (H < R) = false := decide_eq_false s1
                    by_cases s2 : R = H
                    · have s2' : (R == H) = true := by simpa using s2
                      have S2 := Lib.hid s2
                      clear s2 s1
                      by_cases s3 : Q % 2 = 1
                      · have r1 : T = S + (Q + 1) := by rw [R0.out, K2.out S2.out s3]
                        rw [r1]
                        go_wp2_with fail
                        go_ret
                        exact ⟨rfl, rfl⟩
                      · have r1 : T = S + Q := by rw [R0.out, K4.out S2.out s3]
                        have s3' : (Q % 2 == 1) = false := by simpa using s3
                        rw [r1]
                        go_wp2_with fail
                        go_ret
                        exact ⟨rfl, rfl⟩
                    · have r1 : T = S + Q := by rw [R0.out, K3.out (by omega)]
                      have s2' : (R == H) = false := by simpa using s2
                      rw [r1]
                      go_wp2_with fail
                      go_ret
                      exact ⟨rfl, rfl⟩
theorem rTimes_any (x p : Int) (h0 : 0 ≤ x) (h1 : x ≤ 18446744073709551615) (p0 : -9223372036854775808 ≤ p) (p1 : p ≤ 9223372036854775807) (w : World) :
    Calls Try.prog 26 #[.float .f64 x.toNat, .int .i64 p] w (Ans w (.float .f64 (tw x p).toNat)) := by
  by_cases h : fin x = false ∨ mag x = 0 ∨ p = 0
  · exact rTimes_self x p h0 h1 h w
  · exact rTimes_main x p h0 h1 p0 p1 (by cases hb : fin x; exact absurd (.inl hb) h; rfl) (fun e => h (.inr (.inl e))) (fun e => h (.inr (.inr e))) w
end Go.Proofs.Ytfaemgdeoamijaa
