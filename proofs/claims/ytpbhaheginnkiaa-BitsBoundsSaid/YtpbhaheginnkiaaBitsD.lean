/-
  Walks of layer 1, part three: Round, Exact, Scale.
-/
import Derived.Test.YtpbhaheginnkiaaBitsC
import Derived.BigGuardPart
namespace Go.Proofs.Ytpbhaheginnkiaa
open Go.RowKit Go.Bw
set_option linter.unusedVariables false

/-- what Round answers -/
def roundMay (man exp : Int) (more : Bool) : Bool := !(more && decide (man < 9007199254740992) && decide (-1074 ≤ exp))
def roundV (neg : Bool) (man exp : Int) (more : Bool) : Value :=
  .tuple (if roundMay man exp more then #[.int .u64 (signW neg (rnd man exp more)), .int .i64 0] else #[.int .u64 0, .int .i64 2])

set_option maxHeartbeats 1000000 in
theorem round_no (neg : Bool) (man exp : Int) (h0 : 0 ≤ man) (h1 : man ≤ 18446744073709551615) (hm : man < 9007199254740992) (he : -1074 ≤ exp) (w : World) :
    Calls Try.prog 27 #[partsV neg man exp, .bool true] w fun e w' => e = .returned (.tuple #[.int .u64 0, .int .i64 2]) ∧ Below w.heap.size w w' := by
  go_enter Try.func27, Try.ntmps27
  go_wp2_with fail
  go_ret2
  exact ⟨rfl, by go_grown⟩

theorem up_a {W R : Int} {m : Bool} (h : 9223372036854775808 < R) : sUp W R m = true := by simp [sUp, h]
theorem up_b {W R : Int} {m : Bool} (h : R = 9223372036854775808) (o : (W % 2 == 1) = true) : sUp W R m = true := by
  simp at o; simp [sUp, h, o]
theorem up_c {W R : Int} (h : R = 9223372036854775808) : sUp W R true = true := by simp [sUp, h]
theorem no_b {W R : Int} (h : R = 9223372036854775808) (o : (W % 2 == 1) = false) : sUp W R false = false := by
  simp at o; simp [sUp, h, o]
theorem no_c {W R : Int} {m : Bool} (h : ¬R = 9223372036854775808) (l : R ≤ 9223372036854775808) : sUp W R m = false := by
  have : ¬ (9223372036854775808 < R) := by omega
  simp [sUp, h, this]
theorem fin_up {neg m : Bool} {W R E r : Int} (hr : Hid (joinM (W + if sUp W R m then 1 else 0) E = r)) (h : sUp W R m = true) : signW neg (joinM (W + 1) E) = signW neg r := by
  have := hr.out; rw [h] at this; rw [← this]; rfl
theorem fin_no {neg m : Bool} {W R E r : Int} (hr : Hid (joinM (W + if sUp W R m then 1 else 0) E = r)) (h : sUp W R m = false) : signW neg (joinM W E) = signW neg r := by
  have := hr.out; rw [h] at this; rw [← this]; simp

set_option maxHeartbeats 1000000 in
theorem round_f (neg : Bool) (man exp W R E r : Int) (hs : Hid (∀ w, Calls Try.prog 51 #[partsV neg man exp] w fun e w' => e = .returned (.tuple #[.int .u64 W, .int .u64 R, .int .i64 E]) ∧ Below w.heap.size w w'))
    (W0 : 0 ≤ W) (W1 : W ≤ 9007199254740991) (E0 : -1074 ≤ E) (E1 : E ≤ 2900) (hr : Hid (joinM (W + if sUp W R false then 1 else 0) E = r)) (w : World) :
    Calls Try.prog 27 #[partsV neg man exp, .bool false] w fun e w' => e = .returned (.tuple #[.int .u64 (signW neg r), .int .i64 0]) ∧ Below w.heap.size w w' := by
  have ha := and_1 W W0 (by omega)
  go_enter Try.func27, Try.ntmps27
  go_wp2_with (first
    | (go_at_call 51; refine (hs.out _).mono ?_; rintro e w' ⟨rfl, hb⟩; obtain ⟨hc, hf⟩ := bcell hb)
    | (go_at_call 52; refine (join_any _ _ _ (by omega) (by omega) E0 E1 _).mono ?_; rintro e w' ⟨rfl, rfl⟩))
  · go_ret2; exact ⟨tuple_2 (fin_up hr (up_a ‹_›)) rfl, ((Below.refl _ _).alloc (Nat.le_refl _) _).trans (hb.mono (by simp))⟩
  · go_ret2; exact ⟨tuple_2 (fin_up hr (up_b ‹_› ‹_›)) rfl, ((Below.refl _ _).alloc (Nat.le_refl _) _).trans (hb.mono (by simp))⟩
  · go_ret2; exact ⟨tuple_2 (fin_no hr (no_b ‹_› ‹_›)) rfl, ((Below.refl _ _).alloc (Nat.le_refl _) _).trans (hb.mono (by simp))⟩
  · go_ret2; exact ⟨tuple_2 (fin_no hr (no_c ‹_› ‹_›)) rfl, ((Below.refl _ _).alloc (Nat.le_refl _) _).trans (hb.mono (by simp))⟩

set_option maxHeartbeats 1000000 in
theorem round_t (neg : Bool) (man exp W R E r : Int) (hs : Hid (∀ w, Calls Try.prog 51 #[partsV neg man exp] w fun e w' => e = .returned (.tuple #[.int .u64 W, .int .u64 R, .int .i64 E]) ∧ Below w.heap.size w w'))
    (W0 : 0 ≤ W) (W1 : W ≤ 9007199254740991) (E0 : -1074 ≤ E) (E1 : E ≤ 2900) (hr : Hid (joinM (W + if sUp W R true then 1 else 0) E = r)) (hmay : 9007199254740992 ≤ man ∨ man < 9007199254740992 ∧ exp < -1074) (w : World) :
    Calls Try.prog 27 #[partsV neg man exp, .bool true] w fun e w' => e = .returned (.tuple #[.int .u64 (signW neg r), .int .i64 0]) ∧ Below w.heap.size w w' := by
  rcases hmay with hmay | ⟨hm1, hm2⟩
  · have hx : decide (man < 9007199254740992) = false := by simp; omega
    go_enter Try.func27, Try.ntmps27
    go_wp2_with (first
      | (go_at_call 51; refine (hs.out _).mono ?_; rintro e w' ⟨rfl, hb⟩; obtain ⟨hc, hf⟩ := bcell hb)
      | (go_at_call 52; refine (join_any _ _ _ (by omega) (by omega) E0 E1 _).mono ?_; rintro e w' ⟨rfl, rfl⟩))
    · go_ret2; exact ⟨tuple_2 (fin_up hr (up_a ‹_›)) rfl, ((Below.refl _ _).alloc (Nat.le_refl _) _).trans (hb.mono (by simp))⟩
    · go_ret2; exact ⟨tuple_2 (fin_up hr (up_c ‹_›)) rfl, ((Below.refl _ _).alloc (Nat.le_refl _) _).trans (hb.mono (by simp))⟩
    · go_ret2; exact ⟨tuple_2 (fin_no hr (no_c ‹_› ‹_›)) rfl, ((Below.refl _ _).alloc (Nat.le_refl _) _).trans (hb.mono (by simp))⟩
  · have hx : decide (man < 9007199254740992) = true := by simp; omega
    have hy : decide (-1074 ≤ exp) = false := by simp; omega
    go_enter Try.func27, Try.ntmps27
    go_wp2_with (first
      | (go_at_call 51; refine (hs.out _).mono ?_; rintro e w' ⟨rfl, hb⟩; obtain ⟨hc, hf⟩ := bcell hb)
      | (go_at_call 52; refine (join_any _ _ _ (by omega) (by omega) E0 E1 _).mono ?_; rintro e w' ⟨rfl, rfl⟩))
    · go_ret2; exact ⟨tuple_2 (fin_up hr (up_a ‹_›)) rfl, ((Below.refl _ _).alloc (Nat.le_refl _) _).trans (hb.mono (by simp))⟩
    · go_ret2; exact ⟨tuple_2 (fin_up hr (up_c ‹_›)) rfl, ((Below.refl _ _).alloc (Nat.le_refl _) _).trans (hb.mono (by simp))⟩
    · go_ret2; exact ⟨tuple_2 (fin_no hr (no_c ‹_› ‹_›)) rfl, ((Below.refl _ _).alloc (Nat.le_refl _) _).trans (hb.mono (by simp))⟩

theorem roundMay_t {man exp : Int} (h : roundMay man exp true = true) : 9007199254740992 ≤ man ∨ man < 9007199254740992 ∧ exp < -1074 := by
  simp [roundMay] at h; omega

theorem round_any (neg : Bool) (man exp : Int) (more : Bool) (h0 : 0 ≤ man) (h1 : man ≤ 18446744073709551615) (w : World) :
    Calls Try.prog 27 #[partsV neg man exp, .bool more] w fun e w' => e = .returned (roundV neg man exp more) ∧ Below w.heap.size w w' := by
  have wb := sW_bd man exp h0 h1
  have eb := sE_bd man exp h0 h1
  have hs := Lib.hid (fun w => split_any neg man exp h0 h1 w)
  have hc := Lib.hid (cut_rnd man exp more h0 h1)
  unfold roundV
  cases hmay : roundMay man exp more
  · simp only [roundMay, Bool.not_eq_eq_eq_not, Bool.not_false, Bool.and_eq_true, decide_eq_true_eq] at hmay
    obtain ⟨⟨rfl, a⟩, b⟩ := hmay
    exact round_no neg man exp h0 h1 a b w
  · cases more
    · exact round_f neg man exp _ _ _ _ hs wb.1 wb.2 eb.1 eb.2 hc w
    · exact round_t neg man exp _ _ _ _ hs wb.1 wb.2 eb.1 eb.2 hc (roundMay_t hmay) w
end Go.Proofs.Ytpbhaheginnkiaa
