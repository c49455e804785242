/-
  Walks of layer 1, part thirteen: the law on words of just a number.
-/
import Derived.Test.YtpbhaheginnkiaaBitsF
import Derived.Test.YtpbhaheginnkiaaBitsK
import Derived.Test.YtpbhaheginnkiaaBitsS
namespace Go.Proofs.Ytpbhaheginnkiaa
open Go.RowKit Go.Bw
set_option linter.unusedVariables false

/-- stripped of t noughts -/
def Stripped (man exp m e : Int) : Prop := ∃ t : Nat, man = m * 2 ^ t ∧ e = exp + t
theorem Stripped.start (man exp : Int) : Stripped man exp man exp := ⟨0, by simp, by simp⟩
theorem Stripped.step {man exp m e : Int} (h : Stripped man exp m e) (c : m % 2 = 0) : Stripped man exp (m / 2) (e + 1) := by
  obtain ⟨t, h1, h2⟩ := h
  refine ⟨t + 1, ?_, by omega⟩
  rw [Int.pow_succ, Int.mul_comm (2 ^ t), ← Int.mul_assoc, show m / 2 * 2 = m by omega]; exact h1
theorem Stripped.bd {man exp m e : Int} (h : Stripped man exp m e) (h0 : 1 ≤ m) (h1 : man ≤ 18446744073709551615) : exp ≤ e ∧ e ≤ exp + 64 := by
  obtain ⟨t, h2, h3⟩ := h
  obtain ⟨n, rfl⟩ := Int.eq_ofNat_of_zero_le (show 0 ≤ m by omega)
  have e : (n : Int) * 2 ^ t = ((n * 2 ^ t : Nat) : Int) := by simp
  rw [e] at h2
  have := man_lt_pow n t (by omega) (by omega)
  omega

/-- what the reference answers of a finite word -/
theorem rexact_tell {neg : Bool} {man exp o e q qe wd : Int} (hm1 : man ≤ 18446744073709551615) (h1 : Stripped man exp o e) (ho0 : 1 ≤ o) (ho : o % 2 = 1) (hwd : signW neg (rnd o e false) = wd) (hc : cls wd ≤ 3)
    (h2 : Stripped (pman wd) (pexp wd) q qe) (hq0 : 0 ≤ q) (hq : q = 0 ∨ q % 2 = 1) :
    ((q = o ∧ qe = e) ↔ exOk neg man exp = true) ∧ (exOk neg man exp = true → signW neg (joinM (sW man exp) (sE man exp)) = wd) := by
  obtain ⟨t, a1, rfl⟩ := h1
  obtain ⟨u, b1, rfl⟩ := h2
  obtain ⟨n, rfl⟩ := Int.eq_ofNat_of_zero_le (show 0 ≤ o by omega)
  obtain ⟨k, rfl⟩ := Int.eq_ofNat_of_zero_le hq0
  have ea : (n : Int) * 2 ^ t = ((n * 2 ^ t : Nat) : Int) := by simp
  have eb : (k : Int) * 2 ^ u = ((k * 2 ^ u : Nat) : Int) := by simp
  rw [ea] at a1
  rw [eb] at b1
  subst hwd
  subst a1
  have r := ex_iff neg n t exp (by omega) (by omega) k u hc b1 (by omega)
  refine ⟨?_, r.2⟩
  have r1 : _ ↔ exOk neg ((n * 2 ^ t : Nat) : Int) exp = true := r.1
  rw [← r1]
  constructor
  · intro h; exact ⟨by omega, h.2⟩
  · intro h; exact ⟨by omega, h.2⟩
theorem rexact_inf {neg : Bool} {man exp o e wd : Int} (hm1 : man ≤ 18446744073709551615) (h1 : Stripped man exp o e) (ho0 : 1 ≤ o) (ho : o % 2 = 1) (hwd : signW neg (rnd o e false) = wd) (hc : ¬ cls wd ≤ 3) : exOk neg man exp = false := by
  obtain ⟨t, a1, rfl⟩ := h1
  obtain ⟨n, rfl⟩ := Int.eq_ofNat_of_zero_le (show 0 ≤ o by omega)
  have ea : (n : Int) * 2 ^ t = ((n * 2 ^ t : Nat) : Int) := by simp
  rw [ea] at a1
  subst hwd
  subst a1
  exact ex_inf neg n t exp (by omega) (by omega) hc

def rexactV (neg : Bool) (man exp : Int) : Value :=
  .tuple (if exOk neg man exp then #[.int .u64 (signW neg (joinM (sW man exp) (sE man exp))), .bool true] else #[.int .u64 0, .bool false])
theorem rexactV_y {neg : Bool} {man exp s : Int} (h : exOk neg man exp = true) (hs : signW neg (joinM (sW man exp) (sE man exp)) = s) : Value.tuple #[.int .u64 s, .bool true] = rexactV neg man exp := by
  unfold rexactV; rw [if_pos h, hs]
theorem rexactV_n {neg : Bool} {man exp : Int} (h : exOk neg man exp = false) : Value.tuple #[.int .u64 0, .bool false] = rexactV neg man exp := by
  unfold rexactV; rw [h]; rfl

set_option maxRecDepth 100000 in
set_option maxHeartbeats 2000000 in
theorem rexact_main (neg : Bool) (man exp : Int) (h0 : 1 ≤ man) (h1 : man ≤ 18446744073709551615) (x0 : -3000 ≤ exp) (x1 : exp ≤ 3000) (w : World) :
    Calls Try.prog 29 #[partsV neg man exp] w fun e w' => e = .returned (rexactV neg man exp) ∧ Below w.heap.size w w' := by
  have hz : decide (exp < -3000) = false := by simp; omega
  have hz2 : decide (3000 < exp) = false := by simp; omega
  have hz0 : (man == 0) = false := by simp; omega
  go_enter Try.func29, Try.ntmps29
  go_wp2_with fail
  go_quiet (fail)
  go_wp2_with fail
  go_loop [4, 5] (fun a b => ∃ m e : Int, a = .int .u64 m ∧ b = .int .i64 e ∧ Hid (Stripped man exp m e) ∧ 1 ≤ m ∧ m ≤ 18446744073709551615) (fun a _ => (intOf a).toNat)
  case atStart => exact ⟨man, exp, rfl, rfl, Stripped.start man exp, by omega, by omega⟩
  case round =>
    obtain ⟨m, e, rfl, rfl, hs, hm0, hm1⟩ := hrel
    obtain ⟨hb0, hb1⟩ := hs.out.bd hm0 h1
    have e1 : m.tdiv 2 = m / 2 := Int.tdiv_eq_ediv_of_nonneg (by omega)
    have e2 : m.tmod 2 = m % 2 := Int.tmod_eq_emod_of_nonneg (by omega)
    cases c : m % 2 == 0
    · have ho : m % 2 = 1 := by simp at c; omega
      have HO := Lib.hid ho
      clear ho e1 e2
      have rb := rnd_bd m e false (by omega) hm1
      have sb := signW_bd neg _ rb.1 rb.2
      generalize hwd : signW neg (rnd m e false) = wd at sb
      obtain ⟨w0, w1⟩ := sb
      have HW := Lib.hid hwd
      clear hwd rb
      have hrr := Lib.hid (fun W => rround_any neg false m e (by omega) hm1 (by simp [roundMay]) W)
      rw [HW.out] at hrr
      by_cases hc : cls wd ≤ 3
      · have hcb : decide (cls wd ≤ 3) = true := by simpa using hc
        have HC := Lib.hid hc
        clear hc
        go_wp2_with (first
          | (go_at_call 31; refine (hrr.out _).mono ?_; rintro ex wx ⟨rfl, hbx⟩; have zx : w.heap.size < wx.heap.size := by have := hbx.size; simp at this; omega)
          | (go_at_call 24; refine (rfinite_any _ w0 w1 _).mono ?_; rintro ex w' ⟨rfl, rfl⟩)
          | (go_at_call 28; refine (rparts_any _ w0 w1 HC.out _).mono ?_; rintro ex wy ⟨rfl, hby⟩; have zy := hby.size))
        have hbelow := Lib.hid (((below_drewN ((Below.refl _ _).alloc (Nat.le_refl _) _) _).trans ((hbx.mono (by simp)).trans (hby.mono (by omega)))).alloc (by omega) (Obj.cells #[Value.bool (pneg wd), Value.int IntKind.u64 (pman wd), Value.int IntKind.i64 (pexp wd)] 32) : Below w.heap.size w _)
        clear hbx hby
        have pb := pman_bd wd
        have qb := pexp_bd wd
        have hst := Lib.hid (Stripped.start (pman wd) (pexp wd))
        go_loopw [41] (fun z wr => ∃ q qe : Int, wr.cell? ⟨wy.heap.size, 1, none⟩ = some (.int .u64 q) ∧ wr.cell? ⟨wy.heap.size, 2, none⟩ = some (.int .i64 qe) ∧ wr.frozen? ⟨wy.heap.size, 1, none⟩ = false ∧ wr.frozen? ⟨wy.heap.size, 2, none⟩ = false ∧
            Below w.heap.size w wr ∧ 0 ≤ q ∧ q ≤ 9007199254740991 ∧ Hid (Stripped (pman wd) (pexp wd) q qe))
          (fun z wr => (intOf ((wr.cell? ⟨wy.heap.size, 1, none⟩).getD undef)).toNat)
        case atStart => exact ⟨pman wd, pexp wd, by go_simp, by go_simp, by go_simp, by go_simp, hbelow.out, pb.1, pb.2, hst.out⟩
        case round =>
          obtain ⟨q, qe, hq1, hq2, hf1, hf2, hbw, hq0, hqm, hqs⟩ := hrel
          have HBW := Lib.hid hbw
          clear hbw hbelow hst pb qb
          have e1 : q.tdiv 2 = q / 2 := Int.tdiv_eq_ediv_of_nonneg (by omega)
          have e2 : q.tmod 2 = q % 2 := Int.tmod_eq_emod_of_nonneg (by omega)
          by_cases cq : 0 < q ∧ q % 2 = 0
          · obtain ⟨cq0, cq1⟩ := cq
            have hqb := hqs.out.bd (by omega) (by have := pman_bd wd; omega)
            have hpe := pexp_bd wd
            have hqe0 : -2000 ≤ qe := by omega
            have hqe1 : qe ≤ 2000 := by omega
            clear hqb hpe
            have hcq : decide (0 < q) = true := by simpa using cq0
            have hcr : (q % 2 == 0) = true := by simpa using cq1
            have HQ := Lib.hid cq1
            clear cq1
            go_wp2_with fail
            go_roundw
            case rel => exact ⟨q / 2, qe + 1, by go_simp, by go_simp, by go_simp, by go_simp, (HBW.out.setCell (by simp; omega) _).setCell (by simp; omega) _, by omega, by omega, hqs.out.step HQ.out⟩
            case measure =>
              have hc2 : ((wr.setCell ⟨wy.heap.size, 1, none⟩ (Value.int IntKind.u64 (q / 2))).setCell ⟨wy.heap.size, 2, none⟩ (Value.int IntKind.i64 (qe + 1))).cell? ⟨wy.heap.size, 1, none⟩ = some (Value.int IntKind.u64 (q / 2)) := by go_simp
              simp only [hc2, hq1, Option.getD_some, intOf]; omega
          · have hx : decide (0 < q) = false ∨ decide (0 < q) = true ∧ (q % 2 == 0) = false := by
              by_cases g : 0 < q
              · exact Or.inr ⟨by simpa using g, by simp; omega⟩
              · exact Or.inl (by simpa using g)
            have tell := Lib.hid (rexact_tell h1 hs.out hm0 HO.out HW.out HC.out hqs.out hq0 (by omega))
            clear cq
            have hy : (q != m) = true ∨ (q != m) = false ∧ (qe != e) = true ∨ (q != m) = false ∧ (qe != e) = false := by
              cases q != m <;> cases qe != e <;> simp
            have HY := Lib.hid hy
            rcases hx with hx | ⟨hx, hx2⟩
            all_goals
              rcases hy with hy | ⟨hy, hy2⟩ | ⟨hy, hy2⟩
              · have no : exOk neg man exp = false := by
                  have := tell.out.1
                  cases g : exOk neg man exp
                  · rfl
                  · have := this.2 g
                    simp [this.1] at hy
                have NO := Lib.hid no
                clear no
                go_wp2_with fail
                go_ret2
                exact ⟨congrArg _ (rexactV_n NO.out), HBW.out⟩
              · have no : exOk neg man exp = false := by
                  have := tell.out.1
                  cases g : exOk neg man exp
                  · rfl
                  · have := this.2 g
                    simp [this.2] at hy2
                have NO := Lib.hid no
                clear no
                go_wp2_with fail
                go_ret2
                exact ⟨congrArg _ (rexactV_n NO.out), HBW.out⟩
              · have yes : exOk neg man exp = true := tell.out.1.1 ⟨by simpa using hy, by simpa using hy2⟩
                have YES := Lib.hid yes
                clear yes
                go_wp2_with fail
                go_ret2
                exact ⟨congrArg _ (rexactV_y YES.out (tell.out.2 YES.out)), HBW.out⟩
      · have hcb : decide (cls wd ≤ 3) = false := by simpa using hc
        have HE := Lib.hid (rexact_inf h1 hs.out hm0 HO.out HW.out hc)
        clear hc
        go_wp2_with (first
          | (go_at_call 31; refine (hrr.out _).mono ?_; rintro ex wx ⟨rfl, hbx⟩)
          | (go_at_call 24; refine (rfinite_any _ w0 w1 _).mono ?_; rintro ex w' ⟨rfl, rfl⟩))
        go_ret2
        exact ⟨congrArg _ (rexactV_n HE.out), (below_drewN ((Below.refl _ _).alloc (Nat.le_refl _) _) _).trans (hbx.mono (by simp))⟩
    · have hc0 : m % 2 = 0 := by simpa using c
      have HO := Lib.hid hc0
      clear hc0
      go_wp2_with fail
      go_round
      case rel => exact ⟨m / 2, e + 1, rfl, rfl, hs.out.step HO.out, by have := HO.out; omega, by omega⟩
      case measure => simp [intOf]; omega

set_option maxRecDepth 100000 in
set_option maxHeartbeats 2000000 in
theorem rexact_zero (neg : Bool) (exp : Int) (w : World) :
    Calls Try.prog 29 #[partsV neg 0 exp] w fun e w' => e = .returned (.tuple #[.int .u64 (signW neg 0), .bool true]) ∧ Below w.heap.size w w' := by
  go_enter Try.func29, Try.ntmps29
  go_wp2_with fail
  go_quiet (fail)
  go_wp2_with (go_at_call 53; refine (rsign_any _ _ (by omega) (by omega) _).mono ?_; rintro e w' ⟨rfl, rfl⟩)
  go_ret2
  exact ⟨rfl, below_drewN (by go_grown) _⟩

set_option maxRecDepth 100000 in
set_option maxHeartbeats 2000000 in
theorem rexact_out (neg : Bool) (man exp : Int) (h0 : 1 ≤ man) (hx : exp < -3000 ∨ 3000 < exp) (w : World) :
    Calls Try.prog 29 #[partsV neg man exp] w fun e w' => e = .returned (.tuple #[.int .u64 0, .bool false]) ∧ Below w.heap.size w w' := by
  have hz0 : (man == 0) = false := by simp; omega
  have hy : decide (exp < -3000) = true ∨ decide (exp < -3000) = false ∧ decide (3000 < exp) = true := by simp; omega
  clear hx
  rcases hy with hy | ⟨hy, hy2⟩
  all_goals
    go_enter Try.func29, Try.ntmps29
    go_wp2_with fail
    go_quiet (fail)
    go_wp2_with fail
    go_ret2
    exact ⟨rfl, below_drewN (by go_grown) _⟩

theorem exOk_zero (neg : Bool) (exp : Int) : exOk neg 0 exp = true ∧ signW neg (joinM (sW 0 exp) (sE 0 exp)) = signW neg 0 := by
  have e1 : sW 0 exp = 0 := by unfold sW; rw [if_pos rfl]
  have e2 : sR 0 exp = 0 := by unfold sR; rw [if_pos rfl]
  have e3 : sE 0 exp = -1074 := by unfold sE; rw [if_pos rfl]
  unfold exOk
  rw [e1, e2, e3]
  cases neg <;> decide
theorem exOk_out (neg : Bool) (man exp : Int) (h0 : 1 ≤ man) (h1 : man ≤ 18446744073709551615) (hx : exp < -3000 ∨ 3000 < exp) : exOk neg man exp = false := by
  have hb := bl_bd man (by omega) h1
  unfold exOk
  rcases hx with h | h
  · have hr : sR man exp = 1 := by
      have hD : 64 < sD man exp := by unfold sD sE sF; rw [if_neg (by omega)]; omega
      unfold sR; rw [if_neg (by omega), if_neg (by omega), if_neg (by omega)]
    rw [hr]; rfl
  · have hj := sD_up man exp (by omega) h1 (by omega) (sW man exp) (sW_bd man exp (by omega) h1).1
    rw [hj]
    have : cls (signW neg inf) = 4 := by cases neg <;> decide
    rw [this]; simp

theorem rexact_any (neg : Bool) (man exp : Int) (h0 : 0 ≤ man) (h1 : man ≤ 18446744073709551615) (w : World) :
    Calls Try.prog 29 #[partsV neg man exp] w fun e w' => e = .returned (rexactV neg man exp) ∧ Below w.heap.size w w' := by
  by_cases hm : man = 0
  · subst hm
    refine (rexact_zero neg exp w).mono fun e w' h => ⟨?_, h.2⟩
    rw [h.1]
    exact congrArg _ (rexactV_y (exOk_zero neg exp).1 (exOk_zero neg exp).2)
  · by_cases hx : exp < -3000 ∨ 3000 < exp
    · refine (rexact_out neg man exp (by omega) hx w).mono fun e w' h => ⟨?_, h.2⟩
      rw [h.1]
      exact congrArg _ (rexactV_n (exOk_out neg man exp (by omega) h1 hx))
    · exact rexact_main neg man exp (by omega) h1 (by omega) (by omega) w

/-! ### the law -/
set_option maxRecDepth 100000 in
set_option maxHeartbeats 1000000 in
theorem law_exact_no (neg : Bool) (man exp : Int)
    (h1 : Hid (∀ w, Calls Try.prog 26 #[partsV neg man exp] w fun e w' => e = .returned (.tuple #[.int .u64 0, .int .i64 6]) ∧ Below w.heap.size w w'))
    (h2 : Hid (∀ w, Calls Try.prog 29 #[partsV neg man exp] w fun e w' => e = .returned (.tuple #[.int .u64 0, .bool false]) ∧ Below w.heap.size w w')) (w : World) :
    Calls Try.prog 6 #[partsV neg man exp] w fun e w' => e = .returned (.bool true) ∧ Below w.heap.size w w' := by
  go_enter Try.func6, Try.ntmps6
  go_wp2_with (first
    | (go_at_call 26; refine (h1.out _).mono ?_; rintro e w1 ⟨rfl, hb1⟩; obtain ⟨hc1, hf1⟩ := bcell hb1; have z1 : w.heap.size < w1.heap.size := by have := hb1.size; simp at this; omega)
    | (go_at_call 29; refine (h2.out _).mono ?_; rintro e w2 ⟨rfl, hb2⟩; have z2 := hb2.size)
    | (go_at_call 25; refine (num_any _ _).mono ?_; rintro e w' ⟨rfl, rfl⟩)
    | (go_at_call 18; refine (known_any _).mono ?_; rintro e w3 ⟨rfl, hb3⟩))
  go_ret
  exact ⟨rfl, ((Below.refl _ _).alloc (Nat.le_refl _) _).trans ((hb1.mono (by simp)).trans ((hb2.mono (by omega)).trans (hb3.mono (by omega))))⟩

set_option maxRecDepth 100000 in
set_option maxHeartbeats 1000000 in
theorem law_exact_yes (neg : Bool) (man exp s : Int)
    (h1 : Hid (∀ w, Calls Try.prog 26 #[partsV neg man exp] w fun e w' => e = .returned (.tuple #[.int .u64 s, .int .i64 0]) ∧ Below w.heap.size w w'))
    (h2 : Hid (∀ w, Calls Try.prog 29 #[partsV neg man exp] w fun e w' => e = .returned (.tuple #[.int .u64 s, .bool true]) ∧ Below w.heap.size w w')) (w : World) :
    Calls Try.prog 6 #[partsV neg man exp] w fun e w' => e = .returned (.bool true) ∧ Below w.heap.size w w' := by
  go_enter Try.func6, Try.ntmps6
  go_wp2_with (first
    | (go_at_call 26; refine (h1.out _).mono ?_; rintro e w1 ⟨rfl, hb1⟩; obtain ⟨hc1, hf1⟩ := bcell hb1; have z1 : w.heap.size < w1.heap.size := by have := hb1.size; simp at this; omega)
    | (go_at_call 29; refine (h2.out _).mono ?_; rintro e w2 ⟨rfl, hb2⟩; have z2 := hb2.size)
    | (go_at_call 25; refine (num_any _ _).mono ?_; rintro e w' ⟨rfl, rfl⟩)
    | (go_at_call 18; refine (known_any _).mono ?_; rintro e w3 ⟨rfl, hb3⟩))
  go_ret
  exact ⟨rfl, ((Below.refl _ _).alloc (Nat.le_refl _) _).trans ((hb1.mono (by simp)).trans ((hb2.mono (by omega)).trans (hb3.mono (by omega))))⟩

theorem law_exact (neg : Bool) (man exp : Int) (h0 : 0 ≤ man) (h1 : man ≤ 18446744073709551615) (w : World) :
    Calls Try.prog 6 #[partsV neg man exp] w fun e w' => e = .returned (.bool true) ∧ Below w.heap.size w w' := by
  cases hk : exOk neg man exp
  · exact law_exact_no neg man exp (Lib.hid fun w => exact_not h0 h1 hk w) (Lib.hid fun w => (rexact_any neg man exp h0 h1 w).mono fun e w' h => ⟨by rw [h.1]; simp [rexactV, hk], h.2⟩) w
  · exact law_exact_yes neg man exp _ (Lib.hid fun w => exact_yes h0 h1 hk rfl w) (Lib.hid fun w => (rexact_any neg man exp h0 h1 w).mono fun e w' h => ⟨by rw [h.1]; simp [rexactV, hk], h.2⟩) w
end Go.Proofs.Ytpbhaheginnkiaa
