/-
  Walks of layer 1, part seven: Log.
-/
import Derived.Test.YtpbhaheginnkiaaBitsE
import Derived.Test.YtpbhaheginnkiaaBitsG
namespace Go.Proofs.Ytpbhaheginnkiaa
open Go.RowKit Go.Bw
set_option linter.unusedVariables false

def logI (x : Int) : Int := pexp x + bl (pman x) - 1

set_option maxHeartbeats 1000000 in
theorem log_go (x m e : Int) (neg : Bool) (hp : Hid (∀ w, Calls Try.prog 23 #[.int .u64 x] w fun e' w' => e' = .returned (.tuple #[partsV neg m e, .int .i64 0]) ∧ Below w.heap.size w w'))
    (m0 : 0 ≤ m) (m1 : m ≤ 9007199254740991) (e0 : -1075 ≤ e) (e1 : e ≤ 972) (hm : (m == 0) = false) (w : World) :
    Calls Try.prog 38 #[.int .u64 x] w fun e' w' => e' = .returned (.tuple #[.int .i64 (e + (Lib.bitLen m.toNat : Int) - 1), .int .i64 0]) ∧ Below w.heap.size w w' := by
  have hb64 := bl_le m.toNat (by omega)
  go_enter Try.func38, Try.ntmps38
  go_wp2_with (go_at_call 23; refine (hp.out _).mono ?_; rintro e w' ⟨rfl, hb⟩; have hz := hb.size)
  go_quiet ((go_at_call 60; exact Calls.quiet_of_same (Try.bits_Len64 _ _ m0 (by omega))))
  go_wp2
  go_ret2
  exact ⟨rfl, below_drewN (hb.alloc hz _) _⟩

set_option maxHeartbeats 1000000 in
theorem log_zero (x e : Int) (neg : Bool) (hp : Hid (∀ w, Calls Try.prog 23 #[.int .u64 x] w fun e' w' => e' = .returned (.tuple #[partsV neg 0 e, .int .i64 0]) ∧ Below w.heap.size w w')) (w : World) :
    Calls Try.prog 38 #[.int .u64 x] w fun e' w' => e' = .returned (.tuple #[.int .i64 0, .int .i64 2]) ∧ Below w.heap.size w w' := by
  go_enter Try.func38, Try.ntmps38
  go_wp2_with (go_at_call 23; refine (hp.out _).mono ?_; rintro e w' ⟨rfl, hb⟩; have hz := hb.size)
  go_ret2
  exact ⟨rfl, hb.alloc hz _⟩

set_option maxHeartbeats 1000000 in
theorem log_no (x : Int) (hp : Hid (∀ w, Calls Try.prog 23 #[.int .u64 x] w fun e' w' => e' = .returned (.tuple #[partsV false 0 0, .int .i64 2]) ∧ Below w.heap.size w w')) (w : World) :
    Calls Try.prog 38 #[.int .u64 x] w fun e' w' => e' = .returned (.tuple #[.int .i64 0, .int .i64 2]) ∧ Below w.heap.size w w' := by
  go_enter Try.func38, Try.ntmps38
  go_wp2_with (go_at_call 23; refine (hp.out _).mono ?_; rintro e w' ⟨rfl, hb⟩; have hz := hb.size)
  go_ret2
  exact ⟨rfl, hb.alloc hz _⟩

theorem parts_yes {x : Int} (h0 : 0 ≤ x) (h1 : x ≤ 18446744073709551615) (hc : cls x ≤ 3) (w : World) :
    Calls Try.prog 23 #[.int .u64 x] w fun e' w' => e' = .returned (.tuple #[partsV (pneg x) (pman x) (pexp x), .int .i64 0]) ∧ Below w.heap.size w w' :=
  (parts_any x h0 h1 w).mono fun e' w' h => ⟨by rw [h.1]; simp [partsR, hc], h.2⟩
theorem parts_no {x : Int} (h0 : 0 ≤ x) (h1 : x ≤ 18446744073709551615) (hc : ¬ cls x ≤ 3) (w : World) :
    Calls Try.prog 23 #[.int .u64 x] w fun e' w' => e' = .returned (.tuple #[partsV false 0 0, .int .i64 2]) ∧ Below w.heap.size w w' :=
  (parts_any x h0 h1 w).mono fun e' w' h => ⟨by rw [h.1]; simp [partsR, hc], h.2⟩

theorem pman_zero {x : Int} (hc : cls x ≤ 3) : pman x = 0 ↔ cls x = 1 := by
  have hf := frc_bd x
  have hb := cls_bd x
  constructor
  · intro h
    by_cases c3 : cls x = 3
    · unfold pman at h; rw [if_pos c3] at h; omega
    · unfold pman at h; rw [if_neg c3] at h
      by_cases c1 : cls x = 1
      · exact c1
      · exfalso
        have c2 : cls x = 2 := by omega
        unfold cls at c2
        repeat' split at c2
        all_goals omega
  · intro h
    unfold pman; rw [if_neg (by omega)]; exact cls_frc0 h

def logV (x : Int) : Value := .tuple (if cls x = 2 ∨ cls x = 3 then #[.int .i64 (logI x), .int .i64 0] else #[.int .i64 0, .int .i64 2])
theorem log_any (x : Int) (h0 : 0 ≤ x) (h1 : x ≤ 18446744073709551615) (w : World) :
    Calls Try.prog 38 #[.int .u64 x] w fun e w' => e = .returned (logV x) ∧ Below w.heap.size w w' := by
  have hb := cls_bd x
  have mb := pman_bd x
  have eb := pexp_bd x
  unfold logV
  by_cases hc : cls x ≤ 3
  · by_cases c1 : cls x = 1
    · rw [if_neg (by omega)]
      refine log_zero x (pexp x) (pneg x) (Lib.hid fun w => ?_) w
      have := parts_yes h0 h1 hc w
      rwa [(pman_zero hc).2 c1] at this
    · rw [if_pos (by omega)]
      have hm : (pman x == 0) = false := by
        have := pman_zero hc
        simp; omega
      exact log_go x (pman x) (pexp x) (pneg x) (Lib.hid (parts_yes h0 h1 hc)) mb.1 mb.2 eb.1 eb.2 hm w
  · rw [if_neg (by omega)]
    exact log_no x (Lib.hid (parts_no h0 h1 hc)) w

/-! ### the reference's: halved till 1 -/
theorem bl_half' (m : Int) (h : 1 < m) (h1 : m ≤ 18446744073709551615) : bl m = bl (m / 2) + 1 := by
  unfold bl
  have := Lib.bitLen_half m.toNat (by omega) (by omega)
  rw [this, show (m / 2).toNat = m.toNat / 2 by omega]
  omega

set_option maxHeartbeats 1000000 in
theorem rlog_any (x m0 e0 : Int) (neg : Bool) (hp : Hid (∀ w, Calls Try.prog 28 #[.int .u64 x] w fun e' w' => e' = .returned (partsV neg m0 e0) ∧ Below w.heap.size w w'))
    (h0 : 1 ≤ m0) (h1 : m0 ≤ 9007199254740991) (x0 : -1075 ≤ e0) (x1 : e0 ≤ 972) (w : World) :
    Calls Try.prog 39 #[.int .u64 x] w fun e' w' => e' = .returned (.int .i64 (e0 + bl m0 - 1)) ∧ Below w.heap.size w w' := by
  go_enter Try.func39, Try.ntmps39
  go_wp2_with (go_at_call 28; refine (hp.out _).mono ?_; rintro e w1 ⟨rfl, hb⟩; have hz := hb.size)
  have HB := Lib.hid hb
  clear hb
  go_loopw [4] (fun n wr => ∃ m e : Int, n = .int .i64 e ∧ wr.cell? ⟨w1.heap.size, 1, none⟩ = some (.int .u64 m) ∧ wr.frozen? ⟨w1.heap.size, 1, none⟩ = false ∧ Below w.heap.size w wr ∧ 1 ≤ m ∧ m ≤ 9007199254740991 ∧ Hid (e + bl m = e0 + bl m0))
    (fun n wr => (intOf ((wr.cell? ⟨w1.heap.size, 1, none⟩).getD undef)).toNat)
  case atStart => exact ⟨m0, e0, rfl, by go_simp, by go_simp, HB.out.alloc hz _, h0, h1, rfl⟩
  case round =>
    obtain ⟨m, e, rfl, hcell, hfro, hbw, hm0, hm1, he⟩ := hrel
    have HBW := Lib.hid hbw
    clear hbw
    have b1 := bl_bd m (by omega) (by omega)
    have b2 := bl_bd m0 (by omega) (by omega)
    have he' := he.out
    have ex0 : -1200 ≤ e := by omega
    have ex1 : e ≤ 1100 := by omega
    clear he'
    by_cases c : 1 < m
    · have e1 : m.tdiv 2 = m / 2 := Int.tdiv_eq_ediv_of_nonneg (by omega)
      have hh := Lib.hid (bl_half' m c (by omega))
      go_wp2_with fail
      go_roundw
      case rel => exact ⟨m / 2, e + 1, rfl, by go_simp, by go_simp, HBW.out.setCell (by simp; omega) _, by omega, by omega, by have := he.out; have := hh.out; show e + 1 + bl (m / 2) = _; omega⟩
      case measure =>
        have hc2 : (wr.setCell ⟨w1.heap.size, 1, none⟩ (Value.int IntKind.u64 (m / 2))).cell? ⟨w1.heap.size, 1, none⟩ = some (Value.int IntKind.u64 (m / 2)) := by go_simp
        simp only [hc2, hcell, Option.getD_some, intOf]; omega
    · obtain rfl : m = 1 := by omega
      go_wp2_with fail
      go_ret
      exact ⟨ret_int (by have := he.out; have : bl 1 = 1 := by decide
                         omega), HBW.out⟩
end Go.Proofs.Ytpbhaheginnkiaa
