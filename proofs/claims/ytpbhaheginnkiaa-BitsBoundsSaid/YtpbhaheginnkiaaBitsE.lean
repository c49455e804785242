/-
  Walks of layer 1, part four: Exact, Scale.
-/
import Derived.Test.YtpbhaheginnkiaaBitsD
namespace Go.Proofs.Ytpbhaheginnkiaa
open Go.RowKit Go.Bw
set_option linter.unusedVariables false

theorem signW_bd (neg : Bool) (m : Int) (h0 : 0 ≤ m) (h1 : m ≤ inf) : 0 ≤ signW neg m ∧ signW neg m ≤ 18446744073709551615 := by
  unfold signW; unfold inf at h1; split <;> omega
theorem joinM_bd (W E : Int) (h0 : 0 ≤ W) (e0 : -1074 ≤ E) : 0 ≤ joinM W E ∧ joinM W E ≤ inf := by
  unfold joinM inf; omega

/-- is the number a float's? -/
def exOk (neg : Bool) (man exp : Int) : Bool := decide (sR man exp = 0) && !(cls (signW neg (joinM (sW man exp) (sE man exp))) == 4)
def exactV (neg : Bool) (man exp : Int) : Value :=
  .tuple (if exOk neg man exp then #[.int .u64 (signW neg (joinM (sW man exp) (sE man exp))), .int .i64 0] else #[.int .u64 0, .int .i64 6])

def exR (s R : Int) : Value := .tuple (if (decide (R = 0) && !(cls s == 4)) then #[.int .u64 s, .int .i64 0] else #[.int .u64 0, .int .i64 6])
theorem exR_y {s : Int} (h : (cls s == 4) = false) : Value.tuple #[.int .u64 s, .int .i64 0] = exR s 0 := by simp [exR, h]
theorem exR_n {s : Int} (h : (cls s == 4) = true) : Value.tuple #[.int .u64 0, .int .i64 6] = exR s 0 := by simp [exR, h]
theorem exR_r {s R : Int} (h : (R != 0) = true) : Value.tuple #[.int .u64 0, .int .i64 6] = exR s R := by simp at h; simp [exR, h]

set_option maxHeartbeats 1000000 in
theorem exact_go (neg : Bool) (man exp W R E s : Int) (hs : Hid (∀ w, Calls Try.prog 51 #[partsV neg man exp] w fun e w' => e = .returned (.tuple #[.int .u64 W, .int .u64 R, .int .i64 E]) ∧ Below w.heap.size w w'))
    (W0 : 0 ≤ W) (W1 : W ≤ 9007199254740991) (R0 : 0 ≤ R) (E0 : -1074 ≤ E) (E1 : E ≤ 2900) (hj : Hid (∀ w, Calls Try.prog 52 #[.bool neg, .int .u64 W, .int .i64 E] w fun e w' => e = .returned (.int .u64 s) ∧ w = w'))
    (s0 : 0 ≤ s) (s1 : s ≤ 18446744073709551615) (w : World) :
    Calls Try.prog 26 #[partsV neg man exp] w fun e w' => e = .returned (exR s R) ∧ Below w.heap.size w w' := by
  by_cases hR : R = 0
  · subst hR
    cases hc4 : cls s == 4
    · go_enter Try.func26, Try.ntmps26
      go_wp2_with (first
        | (go_at_call 51; refine (hs.out _).mono ?_; rintro e w' ⟨rfl, hb⟩; obtain ⟨hc, hf⟩ := bcell hb)
        | (go_at_call 52; refine (hj.out _).mono ?_; rintro e w' ⟨rfl, rfl⟩)
        | (go_at_call 14; refine (class_any _ s0 s1 _).mono ?_; rintro e w' ⟨rfl, rfl⟩))
      go_ret2
      exact ⟨congrArg _ (exR_y hc4), ((Below.refl _ _).alloc (Nat.le_refl _) _).trans (hb.mono (by simp))⟩
    · go_enter Try.func26, Try.ntmps26
      go_wp2_with (first
        | (go_at_call 51; refine (hs.out _).mono ?_; rintro e w' ⟨rfl, hb⟩; obtain ⟨hc, hf⟩ := bcell hb)
        | (go_at_call 52; refine (hj.out _).mono ?_; rintro e w' ⟨rfl, rfl⟩)
        | (go_at_call 14; refine (class_any _ s0 s1 _).mono ?_; rintro e w' ⟨rfl, rfl⟩))
      go_ret2
      exact ⟨congrArg _ (exR_n hc4), ((Below.refl _ _).alloc (Nat.le_refl _) _).trans (hb.mono (by simp))⟩
  · have hR' : (R != 0) = true := by simpa using hR
    go_enter Try.func26, Try.ntmps26
    go_wp2_with (first
      | (go_at_call 51; refine (hs.out _).mono ?_; rintro e w' ⟨rfl, hb⟩; obtain ⟨hc, hf⟩ := bcell hb)
      | (go_at_call 52; refine (hj.out _).mono ?_; rintro e w' ⟨rfl, rfl⟩)
      | (go_at_call 14; refine (class_any _ s0 s1 _).mono ?_; rintro e w' ⟨rfl, rfl⟩))
    go_ret2
    exact ⟨congrArg _ (exR_r hR'), ((Below.refl _ _).alloc (Nat.le_refl _) _).trans (hb.mono (by simp))⟩

theorem exact_any (neg : Bool) (man exp : Int) (h0 : 0 ≤ man) (h1 : man ≤ 18446744073709551615) (w : World) :
    Calls Try.prog 26 #[partsV neg man exp] w fun e w' => e = .returned (exactV neg man exp) ∧ Below w.heap.size w w' := by
  have wb := sW_bd man exp h0 h1
  have eb := sE_bd man exp h0 h1
  have jb := joinM_bd _ _ wb.1 eb.1
  have sb := signW_bd neg _ jb.1 jb.2
  exact exact_go neg man exp _ _ _ _ (Lib.hid (fun w => split_any neg man exp h0 h1 w)) wb.1 wb.2 (sR_bd man exp).1 eb.1 eb.2 (Lib.hid (fun w => join_any neg _ _ wb.1 (by omega) eb.1 eb.2 w)) sb.1 sb.2 w

/-! ### Scale -/
def scaleW (x k : Int) : Int := if cls x ≤ 3 then signW (pneg x) (rnd (pman x) (pexp x + min (max k (-4096)) 4096) false) else one x
theorem pman_bd (x : Int) : 0 ≤ pman x ∧ pman x ≤ 9007199254740991 := by
  have := frc_bd x
  unfold pman; split <;> omega
theorem pexp_bd (x : Int) : -1075 ≤ pexp x ∧ pexp x ≤ 972 := by
  have := fld_bd x
  unfold pexp; repeat' split
  all_goals omega

set_option maxHeartbeats 1000000 in
theorem scale_yes (x k m e r : Int) (neg : Bool) (hp : Hid (∀ w, Calls Try.prog 23 #[.int .u64 x] w fun e' w' => e' = .returned (.tuple #[partsV neg m e, .int .i64 0]) ∧ Below w.heap.size w w'))
    (m0 : 0 ≤ m) (m1 : m ≤ 9007199254740991) (e0 : -1075 ≤ e) (e1 : e ≤ 972)
    (hr : Hid (∀ w, Calls Try.prog 27 #[partsV neg m (e + min (max k (-4096)) 4096), .bool false] w fun e' w' => e' = .returned (.tuple #[.int .u64 r, .int .i64 0]) ∧ Below w.heap.size w w')) (w : World) :
    Calls Try.prog 32 #[.int .u64 x, .int .i64 k] w fun e' w' => e' = .returned (.int .u64 r) ∧ Below w.heap.size w w' := by
  go_enter Try.func32, Try.ntmps32
  go_wp2_with (first
    | (go_at_call 23; refine (hp.out _).mono ?_; rintro e w' ⟨rfl, hb⟩; have hz := hb.size)
    | (go_at_call 27; refine (hr.out _).mono ?_; rintro e w' ⟨rfl, hb2⟩))
  go_ret
  exact ⟨rfl, (hb.alloc hz _).trans (hb2.mono (by simp; omega))⟩

set_option maxHeartbeats 1000000 in
theorem scale_no (x k : Int) (neg : Bool) (h0 : 0 ≤ x) (h1 : x ≤ 18446744073709551615) (hp : Hid (∀ w, Calls Try.prog 23 #[.int .u64 x] w fun e' w' => e' = .returned (.tuple #[partsV false 0 0, .int .i64 2]) ∧ Below w.heap.size w w')) (w : World) :
    Calls Try.prog 32 #[.int .u64 x, .int .i64 k] w fun e' w' => e' = .returned (.int .u64 (one x)) ∧ Below w.heap.size w w' := by
  go_enter Try.func32, Try.ntmps32
  go_wp2_with (first
    | (go_at_call 23; refine (hp.out _).mono ?_; rintro e w' ⟨rfl, hb⟩; have hz := hb.size)
    | (go_at_call 49; refine (oneNaN_any _ h0 h1 _).mono ?_; rintro e w' ⟨rfl, rfl⟩))
  go_ret
  exact ⟨rfl, hb.alloc hz _⟩

theorem scale_any (x k : Int) (h0 : 0 ≤ x) (h1 : x ≤ 18446744073709551615) (w : World) :
    Calls Try.prog 32 #[.int .u64 x, .int .i64 k] w fun e' w' => e' = .returned (.int .u64 (scaleW x k)) ∧ Below w.heap.size w w' := by
  have mb := pman_bd x
  have eb := pexp_bd x
  by_cases hc : cls x ≤ 3
  · have hp : ∀ w, Calls Try.prog 23 #[.int .u64 x] w fun e' w' => e' = .returned (.tuple #[partsV (pneg x) (pman x) (pexp x), .int .i64 0]) ∧ Below w.heap.size w w' :=
      fun w => (parts_any x h0 h1 w).mono fun e' w' h => ⟨by rw [h.1]; simp [partsR, hc], h.2⟩
    have hr : ∀ w, Calls Try.prog 27 #[partsV (pneg x) (pman x) (pexp x + min (max k (-4096)) 4096), .bool false] w fun e' w' => e' = .returned (.tuple #[.int .u64 (signW (pneg x) (rnd (pman x) (pexp x + min (max k (-4096)) 4096) false)), .int .i64 0]) ∧ Below w.heap.size w w' :=
      fun w => (round_any _ _ _ false mb.1 (by omega) w).mono fun e' w' h => ⟨by rw [h.1]; simp [roundV, roundMay], h.2⟩
    have r := scale_yes x k (pman x) (pexp x) _ (pneg x) (Lib.hid hp) mb.1 mb.2 eb.1 eb.2 (Lib.hid hr) w
    exact r.mono fun e' w' h => ⟨by rw [h.1]; simp [scaleW, hc], h.2⟩
  · have hp : ∀ w, Calls Try.prog 23 #[.int .u64 x] w fun e' w' => e' = .returned (.tuple #[partsV false 0 0, .int .i64 2]) ∧ Below w.heap.size w w' :=
      fun w => (parts_any x h0 h1 w).mono fun e' w' h => ⟨by rw [h.1]; simp [partsR, hc], h.2⟩
    have r := scale_no x k false h0 h1 (Lib.hid hp) w
    exact r.mono fun e' w' h => ⟨by rw [h.1]; simp [scaleW, hc], h.2⟩

end Go.Proofs.Ytpbhaheginnkiaa
