/-
  Layer 2, joined (wip/tools/merge.py): BitsD BitsE BitsF BitsG BitsH.
  Walks of layer 1, part three: Round, Exact, Scale.
  Walks of layer 1, part four: Exact, Scale.
  Walks of layer 1, part five: the reference's Round: doubled or halved till it may be a fraction.
  Walks of layer 1, part six: the order of words.
  Walks of layer 1, part seven: Log.
-/
import Derived.Test.YtfjellhbcjnjkaaGreatDoorSNB1
import Derived.BigGuardPart
namespace Go.Proofs.YtfjellhbcjnjkaaGreatDoor
open Go.RowKit Go.Bw
set_option linter.unusedVariables false

/-- what Round answers -/
def roundMay (man exp : Int) (more : Bool) : Bool := !(more && decide (man < 9007199254740992) && decide (-1074 ≤ exp))
def roundV (neg : Bool) (man exp : Int) (more : Bool) : Value :=
  .tuple (if roundMay man exp more then #[.int .u64 (signW neg (rnd man exp more)), .int .i64 0] else #[.int .u64 0, .int .i64 2])

set_option maxHeartbeats 1000000 in
theorem round_no (neg : Bool) (man exp : Int) (h0 : 0 ≤ man) (h1 : man ≤ 18446744073709551615) (hm : man < 9007199254740992) (he : -1074 ≤ exp) (w : World) :
    Calls Tryz.prog 89 #[partsV neg man exp, .bool true] w fun e w' => e = .returned (.tuple #[.int .u64 0, .int .i64 2]) ∧ Below w.heap.size w w' := by
  go_enter Tryz.func89, Tryz.ntmps89
  go_wp2_with fail
  go_ret2
  exact ⟨rfl, by go_grown⟩

theorem up_a {W R : Int} {m : Bool} (h : 9223372036854775808 < R) : sUp W R m = true := by simp [sUp, h]
theorem up_b {W R : Int} {m : Bool} (h : R = 9223372036854775808) (o : (W % 2 == 1) = true) : sUp W R m = true := by
  simp at o; simp [sUp, h, o]
theorem up_c {W R : Int} (h : R = 9223372036854775808) : sUp W R true = true := by simp [sUp, h]
theorem no_b {W R : Int} (h : R = 9223372036854775808) (o : (W % 2 == 1) = false) : sUp W R false = false := by
  simp at o; simp [sUp, h, o]
theorem no_c {W R : Int} {m : Bool} (h : ¬R = 9223372036854775808) (l : R ≤ 9223372036854775808) : sUp W R m = false := by
  have : ¬ (9223372036854775808 < R) := by omega
  simp [sUp, h, this]
theorem fin_up {neg m : Bool} {W R E r : Int} (hr : Hid (joinM (W + if sUp W R m then 1 else 0) E = r)) (h : sUp W R m = true) : signW neg (joinM (W + 1) E) = signW neg r := by
  have := hr.out; rw [h] at this; rw [← this]; rfl
theorem fin_no {neg m : Bool} {W R E r : Int} (hr : Hid (joinM (W + if sUp W R m then 1 else 0) E = r)) (h : sUp W R m = false) : signW neg (joinM W E) = signW neg r := by
  have := hr.out; rw [h] at this; rw [← this]; simp

set_option maxHeartbeats 1000000 in
theorem round_f (neg : Bool) (man exp W R E r : Int) (hs : Hid (∀ w, Calls Tryz.prog 126 #[partsV neg man exp] w fun e w' => e = .returned (.tuple #[.int .u64 W, .int .u64 R, .int .i64 E]) ∧ Below w.heap.size w w'))
    (W0 : 0 ≤ W) (W1 : W ≤ 9007199254740991) (E0 : -1074 ≤ E) (E1 : E ≤ 2900) (hr : Hid (joinM (W + if sUp W R false then 1 else 0) E = r)) (w : World) :
    Calls Tryz.prog 89 #[partsV neg man exp, .bool false] w fun e w' => e = .returned (.tuple #[.int .u64 (signW neg r), .int .i64 0]) ∧ Below w.heap.size w w' := by
  have ha := and_1 W W0 (by omega)
  go_enter Tryz.func89, Tryz.ntmps89
  go_wp2_with (first
    | (go_at_call 126; refine (hs.out _).mono ?_; rintro e w' ⟨rfl, hb⟩; obtain ⟨hc, hf⟩ := bcell hb)
    | (go_at_call 127; refine (joinBany _ _ _ (by omega) (by omega) E0 E1 _).mono ?_; rintro e w' ⟨rfl, rfl⟩))
  · go_ret2; exact ⟨tuple_2 (fin_up hr (up_a ‹_›)) rfl, ((Below.refl _ _).alloc (Nat.le_refl _) _).trans (hb.mono (by simp))⟩
  · go_ret2; exact ⟨tuple_2 (fin_up hr (up_b ‹_› ‹_›)) rfl, ((Below.refl _ _).alloc (Nat.le_refl _) _).trans (hb.mono (by simp))⟩
  · go_ret2; exact ⟨tuple_2 (fin_no hr (no_b ‹_› ‹_›)) rfl, ((Below.refl _ _).alloc (Nat.le_refl _) _).trans (hb.mono (by simp))⟩
  · go_ret2; exact ⟨tuple_2 (fin_no hr (no_c ‹_› ‹_›)) rfl, ((Below.refl _ _).alloc (Nat.le_refl _) _).trans (hb.mono (by simp))⟩

set_option maxHeartbeats 1000000 in
theorem round_t (neg : Bool) (man exp W R E r : Int) (hs : Hid (∀ w, Calls Tryz.prog 126 #[partsV neg man exp] w fun e w' => e = .returned (.tuple #[.int .u64 W, .int .u64 R, .int .i64 E]) ∧ Below w.heap.size w w'))
    (W0 : 0 ≤ W) (W1 : W ≤ 9007199254740991) (E0 : -1074 ≤ E) (E1 : E ≤ 2900) (hr : Hid (joinM (W + if sUp W R true then 1 else 0) E = r)) (hmay : 9007199254740992 ≤ man ∨ man < 9007199254740992 ∧ exp < -1074) (w : World) :
    Calls Tryz.prog 89 #[partsV neg man exp, .bool true] w fun e w' => e = .returned (.tuple #[.int .u64 (signW neg r), .int .i64 0]) ∧ Below w.heap.size w w' := by
  rcases hmay with hmay | ⟨hm1, hm2⟩
  · have hx : decide (man < 9007199254740992) = false := by simp; omega
    go_enter Tryz.func89, Tryz.ntmps89
    go_wp2_with (first
      | (go_at_call 126; refine (hs.out _).mono ?_; rintro e w' ⟨rfl, hb⟩; obtain ⟨hc, hf⟩ := bcell hb)
      | (go_at_call 127; refine (joinBany _ _ _ (by omega) (by omega) E0 E1 _).mono ?_; rintro e w' ⟨rfl, rfl⟩))
    · go_ret2; exact ⟨tuple_2 (fin_up hr (up_a ‹_›)) rfl, ((Below.refl _ _).alloc (Nat.le_refl _) _).trans (hb.mono (by simp))⟩
    · go_ret2; exact ⟨tuple_2 (fin_up hr (up_c ‹_›)) rfl, ((Below.refl _ _).alloc (Nat.le_refl _) _).trans (hb.mono (by simp))⟩
    · go_ret2; exact ⟨tuple_2 (fin_no hr (no_c ‹_› ‹_›)) rfl, ((Below.refl _ _).alloc (Nat.le_refl _) _).trans (hb.mono (by simp))⟩
  · have hx : decide (man < 9007199254740992) = true := by simp; omega
    have hy : decide (-1074 ≤ exp) = false := by simp; omega
    go_enter Tryz.func89, Tryz.ntmps89
    go_wp2_with (first
      | (go_at_call 126; refine (hs.out _).mono ?_; rintro e w' ⟨rfl, hb⟩; obtain ⟨hc, hf⟩ := bcell hb)
      | (go_at_call 127; refine (joinBany _ _ _ (by omega) (by omega) E0 E1 _).mono ?_; rintro e w' ⟨rfl, rfl⟩))
    · go_ret2; exact ⟨tuple_2 (fin_up hr (up_a ‹_›)) rfl, ((Below.refl _ _).alloc (Nat.le_refl _) _).trans (hb.mono (by simp))⟩
    · go_ret2; exact ⟨tuple_2 (fin_up hr (up_c ‹_›)) rfl, ((Below.refl _ _).alloc (Nat.le_refl _) _).trans (hb.mono (by simp))⟩
    · go_ret2; exact ⟨tuple_2 (fin_no hr (no_c ‹_› ‹_›)) rfl, ((Below.refl _ _).alloc (Nat.le_refl _) _).trans (hb.mono (by simp))⟩

theorem roundMay_t {man exp : Int} (h : roundMay man exp true = true) : 9007199254740992 ≤ man ∨ man < 9007199254740992 ∧ exp < -1074 := by
  simp [roundMay] at h; omega

theorem round_any (neg : Bool) (man exp : Int) (more : Bool) (h0 : 0 ≤ man) (h1 : man ≤ 18446744073709551615) (w : World) :
    Calls Tryz.prog 89 #[partsV neg man exp, .bool more] w fun e w' => e = .returned (roundV neg man exp more) ∧ Below w.heap.size w w' := by
  have wb := sW_bd man exp h0 h1
  have eb := sE_bd man exp h0 h1
  have hs := Lib.hid (fun w => split_any neg man exp h0 h1 w)
  have hc := Lib.hid (cut_rnd man exp more h0 h1)
  unfold roundV
  cases hmay : roundMay man exp more
  · simp only [roundMay, Bool.not_eq_eq_eq_not, Bool.not_false, Bool.and_eq_true, decide_eq_true_eq] at hmay
    obtain ⟨⟨rfl, a⟩, b⟩ := hmay
    exact round_no neg man exp h0 h1 a b w
  · cases more
    · exact round_f neg man exp _ _ _ _ hs wb.1 wb.2 eb.1 eb.2 hc w
    · exact round_t neg man exp _ _ _ _ hs wb.1 wb.2 eb.1 eb.2 hc (roundMay_t hmay) w
end Go.Proofs.YtfjellhbcjnjkaaGreatDoor
namespace Go.Proofs.YtfjellhbcjnjkaaGreatDoor
open Go.RowKit Go.Bw
set_option linter.unusedVariables false

/-! ### Scale -/
theorem pman_bd (x : Int) : 0 ≤ pman x ∧ pman x ≤ 9007199254740991 := by
  have := frc_bd x
  unfold pman; split <;> omega
end Go.Proofs.YtfjellhbcjnjkaaGreatDoor
namespace Go.Proofs.YtfjellhbcjnjkaaGreatDoor
open Go.RowKit Go.Bw
set_option linter.unusedVariables false

set_option maxHeartbeats 400000 in
theorem rsign_any (neg : Bool) (m : Int) (h0 : 0 ≤ m) (h1 : m ≤ 9223372036854775807) (w : World) :
    Calls Tryz.prog 128 #[.bool neg, .int .u64 m] w fun e w' => e = .returned (.int .u64 (signW neg m)) ∧ w = w' := by
  have hm : m + 9223372036854775808 ≤ 18446744073709551615 := by omega
  cases neg
  · go_enter Tryz.func128, Tryz.ntmps128
    go_wp2
    go_ret; exact ⟨rfl, rfl⟩
  · go_enter Tryz.func128, Tryz.ntmps128
    go_wp2
    go_ret; exact ⟨rtB_int (by unfold signW; rw [if_pos rfl, Int.add_comm]), rfl⟩

theorem put_a {man exp : Int} (c : man < 4503599627370496) : man = putM man exp := by unfold putM; rw [if_pos c]
theorem put_b {man exp : Int} (c : 4503599627370496 ≤ man) (c2 : 971 < exp) : 9218868437227405312 = putM man exp := by unfold putM; rw [if_neg (by omega), if_pos c2]; rfl
theorem put_c {man exp : Int} (c : 4503599627370496 ≤ man) (c2 : exp ≤ 971) : (exp + 1075) * 4503599627370496 + man - 4503599627370496 = putM man exp := by unfold putM; rw [if_neg (by omega), if_neg (by omega)]
set_option maxHeartbeats 400000 in
theorem rput_any (neg : Bool) (man exp : Int) (h0 : 0 ≤ man) (h1 : man ≤ 9007199254740991) (e0 : -1074 ≤ exp) (e1 : exp ≤ 5000) (w : World) :
    Calls Tryz.prog 129 #[.bool neg, .int .u64 man, .int .i64 exp] w fun e w' => e = .returned (.int .u64 (signW neg (putM man exp))) ∧ w = w' := by
  by_cases c : man < 4503599627370496
  · go_enter Tryz.func129, Tryz.ntmps129
    go_wp2_with (go_at_call 128; refine (rsign_any _ _ (by omega) (by omega) _).mono ?_; rintro e w' ⟨rfl, rfl⟩)
    go_ret; exact ⟨rtB_int (congrArg _ (put_a c)), rfl⟩
  · by_cases c2 : 971 < exp
    · go_enter Tryz.func129, Tryz.ntmps129
      go_wp2_with (go_at_call 128; refine (rsign_any _ _ (by omega) (by omega) _).mono ?_; rintro e w' ⟨rfl, rfl⟩)
      go_ret; exact ⟨rtB_int (congrArg _ (put_b ‹_› ‹_›)), rfl⟩
    · go_enter Tryz.func129, Tryz.ntmps129
      go_wp2_with (go_at_call 128; refine (rsign_any _ _ (by omega) (by omega) _).mono ?_; rintro e w' ⟨rfl, rfl⟩)
      go_ret; exact ⟨rtB_int (congrArg _ (put_c ‹_› ‹_›)), rfl⟩

/-- the first loop: doubled k times -/
def Up1 (man exp : Int) (M : Nat) (X : Int) : Prop := ∃ k : Nat, man * 2 ^ k = (M : Int) ∧ exp = X + k ∧ (k = 0 ∨ M < 9007199254740992 ∧ -1074 ≤ X)
theorem Up1.start (man exp : Int) (h0 : 0 ≤ man) : Up1 man exp man.toNat exp := ⟨0, by simp; omega, by simp, Or.inl rfl⟩
theorem Up1.step {man exp : Int} {M : Nat} {X : Int} (h : Up1 man exp M X) (a : M < 4503599627370496) (b : -1074 < X) : Up1 man exp (M * 2) (X - 1) := by
  obtain ⟨k, h1, h2, h3⟩ := h
  refine ⟨k + 1, ?_, by omega, Or.inr ⟨by omega, by omega⟩⟩
  rw [Int.pow_succ, ← Int.mul_assoc, h1]; omega
theorem Up1.step' {man exp M X : Int} (h : Up1 man exp M.toNat X) (h0 : 0 ≤ M) (a : M < 4503599627370496) (b : -1074 < X) : Up1 man exp (M * 2).toNat (X - 1) := by
  have := h.step (by omega) b
  rw [show (M * 2).toNat = M.toNat * 2 by omega]
  exact this
/-- the second loop: halved j times -/
def DnB (M : Nat) (X : Int) (more : Bool) (q : Nat) (E : Int) (half rest : Bool) : Prop :=
  ∃ j : Nat, q = M / 2 ^ j ∧ E = X + j ∧ half = hHalf M j ∧ rest = hRest M j more ∧ (∀ i, j = i + 1 → 9007199254740992 ≤ M / 2 ^ i ∨ X + i < -1074)
theorem DnB.start (M : Nat) (X : Int) (more : Bool) : DnB M X more M X false more := ⟨0, by simp, by simp, rfl, rfl, fun i h => by omega⟩
theorem DnB.step {M : Nat} {X : Int} {more : Bool} {q : Nat} {E : Int} {half rest : Bool} (h : DnB M X more q E half rest) (c : 9007199254740992 ≤ q ∨ E < -1074) :
    DnB M X more (q / 2) (E + 1) (decide (q % 2 = 1)) (rest || half) := by
  obtain ⟨j, rfl, rfl, rfl, rfl, h5⟩ := h
  refine ⟨j + 1, ?_, by omega, rfl, (hRest_succ M j more).symm, fun i hi => ?_⟩
  · rw [Nat.pow_succ, Nat.div_div_eq_div_mul]
  · obtain rfl : i = j := by omega
    exact c

theorem DnB.step' {M : Nat} {X : Int} {more : Bool} {q E : Int} {half rest : Bool} (h : DnB M X more q.toNat E half rest) (h0 : 0 ≤ q) (c : 9007199254740992 ≤ q ∨ E < -1074) :
    DnB M X more (q / 2).toNat (E + 1) (q % 2 == 1) (rest || half) := by
  have := h.step (by omega)
  rw [show (q / 2).toNat = q.toNat / 2 by omega, show (q % 2 == 1) = decide (q.toNat % 2 = 1) by rw [Bool.eq_iff_iff]; simp; omega]
  exact this
theorem DnB.bd {M : Nat} {X : Int} {more : Bool} {q : Nat} {E : Int} {half rest : Bool} (h : DnB M X more q E half rest) (hM : M < 18446744073709551616) (hX : X ≤ 3000) : E ≤ 3100 := by
  obtain ⟨j, rfl, rfl, rfl, rfl, h5⟩ := h
  rcases Nat.eq_zero_or_pos j with hj | hj
  · omega
  · obtain ⟨i, rfl⟩ : ∃ i, j = i + 1 := ⟨j - 1, by omega⟩
    rcases h5 i rfl with g | g
    · have : ¬ (M / 2 ^ i < 9007199254740992) := by omega
      rw [div_lt_53 M i hM] at this
      have := bl_le M hM
      omega
    · omega

/-- where both loops have ended -/
structure Ended (man exp : Int) (more : Bool) (q : Nat) (E : Int) (half rest : Bool) : Prop where
  lt : q < 9007199254740992
  ge : -1074 ≤ E
  le : E ≤ 4000
  low : q < 4503599627370496 → E = -1074
  word : min ((E + 1074) * 4503599627370496 + ((q : Int) + if half && (rest || decide (q % 2 = 1)) then 1 else 0)) inf = rnd man exp more
theorem Ended.mk' {man exp : Int} {more : Bool} {M : Nat} {X : Int} {q : Nat} {E : Int} {half rest : Bool} (h0 : 0 < man) (hx1 : exp ≤ 3000) (hM : M < 18446744073709551616)
    (u : Up1 man exp M X) (u2 : 4503599627370496 ≤ M ∨ X ≤ -1074) (d : DnB M X more q E half rest) (a : q < 9007199254740992) (b : -1074 ≤ E) : Ended man exp more q E half rest := by
  obtain ⟨k, hk, hX, hk3⟩ := u
  obtain ⟨j, rfl, rfl, rfl, rfl, h5⟩ := d
  have hE := rE_of man exp k j M X h0 hM hk hX a b (fun _ => u2) h5
  have hkj : k = 0 ∨ j = 0 := by
    rcases hk3 with h | ⟨h, h'⟩
    · exact Or.inl h
    · refine Or.inr ?_
      rcases Nat.eq_zero_or_pos j with hj | hj
      · exact hj
      · exfalso
        obtain ⟨i, rfl⟩ : ∃ i, j = i + 1 := ⟨j - 1, by omega⟩
        rcases h5 i rfl with g | g
        · have := Nat.div_le_self M (2 ^ i)
          omega
        · omega
  have hL : rE man exp ≤ 4000 := by
    unfold rE bl
    have hp := Nat.two_pow_pos k
    have hm : man < 18446744073709551616 := by
      obtain ⟨m, rfl⟩ := Int.eq_ofNat_of_zero_le (Int.le_of_lt h0)
      have hk' : m * 2 ^ k = M := by exact_mod_cast hk
      have := Nat.le_mul_of_pos_right m hp
      omega
    have := bl_le man.toNat (by omega)
    omega
  refine ⟨a, b, by omega, fun h => rE_52 man exp k j M X h0 hM hk hX hE h, ?_⟩
  have hw := rW_of man exp k j M X more hk hX hE hkj
  unfold rnd
  rw [if_neg (show ¬ man = 0 by omega), hw, hE, half_up M j more]

theorem Ended.no {man exp : Int} {more : Bool} {q : Nat} {E : Int} {half rest : Bool} (h : Ended man exp more q E half rest) (g : (half && (rest || decide (q % 2 = 1))) = false) : putM (q : Int) E = rnd man exp more := by
  rw [← h.word, g, putM_eq (q : Int) E (by omega) (by have := h.lt; omega) h.ge (fun c => h.low (by omega))]
  simp
theorem Ended.yes {man exp : Int} {more : Bool} {q : Nat} {E : Int} {half rest : Bool} (h : Ended man exp more q E half rest) (g : (half && (rest || decide (q % 2 = 1))) = true) (c : ¬ q + 1 = 9007199254740992) : putM ((q : Int) + 1) E = rnd man exp more := by
  have := h.lt
  rw [← h.word, g, putM_eq ((q : Int) + 1) E (by omega) (by omega) h.ge (fun c => h.low (by omega))]
  simp
theorem Ended.top {man exp : Int} {more : Bool} {q : Nat} {E : Int} {half rest : Bool} (h : Ended man exp more q E half rest) (g : (half && (rest || decide (q % 2 = 1))) = true) (c : q + 1 = 9007199254740992) : putM 4503599627370496 (E + 1) = rnd man exp more := by
  rw [← h.word, g, putM_top E h.ge]
  have : (q : Int) = 9007199254740991 := by omega
  rw [this]; simp

theorem rnd_low (man exp : Int) (more : Bool) (h0 : 0 ≤ man) (h1 : man ≤ 18446744073709551615) (h : exp < -3000) : rnd man exp more = 0 := by
  by_cases hm : man = 0
  · unfold rnd; rw [if_pos hm]
  · have hb := bl_bd man (by omega) h1
    have hE : max (sF exp + bl man - 52 - 1) (-1074) = sE man exp := by unfold sE; rw [if_neg hm]
    have hf : sF exp = -2048 := by unfold sF; omega
    have e : sE man exp = -1074 := by omega
    have k := cut_far man exp (sF exp) (bl man) (sE man exp) (sD man exp) more (by omega) h1 rfl rfl hE rfl (by unfold sD; omega)
    rw [← k, e]; decide
theorem rnd_high (man exp : Int) (more : Bool) (h0 : 0 < man) (h1 : man ≤ 18446744073709551615) (h : 3000 < exp) : rnd man exp more = inf := by
  have hb := bl_bd man h0 h1
  exact rnd_inf man exp more h0 (by unfold rE; omega)

theorem Ended.mkI {man exp : Int} {more : Bool} {M X q E : Int} {half rest : Bool} (h0 : 0 < man) (hx1 : exp ≤ 3000) (hM0 : 0 ≤ M) (hM : M ≤ 18446744073709551615)
    (u : Up1 man exp M.toNat X) (u2 : 4503599627370496 ≤ M ∨ X ≤ -1074) (d : DnB M.toNat X more q.toNat E half rest) (hq : 0 ≤ q) (a : q < 9007199254740992) (b : -1074 ≤ E) : Ended man exp more q.toNat E half rest :=
  Ended.mk' h0 hx1 (by omega) u (by omega) d (by omega) b
theorem Ended.noI {man exp : Int} {more : Bool} {q E : Int} {half rest : Bool} (h : Ended man exp more q.toNat E half rest) (hq : 0 ≤ q) (g : (half && (rest || decide (q.toNat % 2 = 1))) = false) : putM q E = rnd man exp more := by
  have := h.no g
  rwa [Int.toNat_of_nonneg hq] at this
theorem Ended.yesI {man exp : Int} {more : Bool} {q E : Int} {half rest : Bool} (h : Ended man exp more q.toNat E half rest) (hq : 0 ≤ q) (g : (half && (rest || decide (q.toNat % 2 = 1))) = true) (c : ¬ q + 1 = 9007199254740992) : putM (q + 1) E = rnd man exp more := by
  have := h.yes g (by omega)
  rwa [Int.toNat_of_nonneg hq] at this
theorem Ended.topI {man exp : Int} {more : Bool} {q E : Int} {half rest : Bool} (h : Ended man exp more q.toNat E half rest) (hq : 0 ≤ q) (g : (half && (rest || decide (q.toNat % 2 = 1))) = true) (c : q + 1 = 9007199254740992) : putM 4503599627370496 (E + 1) = rnd man exp more :=
  h.top g (by omega)

theorem odd_n {q : Int} {r : Bool} (hq : 0 ≤ q) (h : (q % 2 == 1) = r) : (true && (false || decide (q.toNat % 2 = 1))) = r := by
  rw [← h, Bool.eq_iff_iff]; simp; omega
theorem odd_y {q : Int} {r : Bool} (hq : 0 ≤ q) (h : (q % 2 == 1) = r) : (true && (false || decide (q.toNat % 2 = 1))) = r := odd_n hq h

set_option maxRecDepth 100000 in
set_option maxHeartbeats 2000000 in
theorem rround_main (neg more : Bool) (man exp : Int) (h0 : 0 < man) (h1 : man ≤ 18446744073709551615) (x0 : -3000 ≤ exp) (x1 : exp ≤ 3000) (w : World) :
    Calls Tryz.prog 96 #[partsV neg man exp, .bool more] w fun e w' => e = .returned (.int .u64 (signW neg (rnd man exp more))) ∧ Below w.heap.size w w' := by
  have hz : decide (exp < -3000) = false := by simp; omega
  have hz2 : decide (3000 < exp) = false := by simp; omega
  have hz0 : (man == 0) = false := by simp; omega
  go_enter Tryz.func96, Tryz.ntmps96
  go_wp2_with fail
  go_quiet (fail)
  go_wp2_with fail
  go_loop [5, 6] (fun m e => ∃ (M X : Int), m = .int .u64 M ∧ e = .int .i64 X ∧ Hid (Up1 man exp M.toNat X) ∧ 0 ≤ M ∧ M ≤ 18446744073709551615 ∧ -4000 ≤ X ∧ X ≤ 3000) (fun _ e => (intOf e + 1074).toNat)
  case atStart => exact ⟨man, exp, rfl, rfl, Up1.start man exp (by omega), by omega, by omega, by omega, by omega⟩
  case round =>
    obtain ⟨M, X, rfl, rfl, hu, hM0, hM, hX0, hX1⟩ := hrel
    by_cases c : M < 4503599627370496 ∧ -1074 < X
    · obtain ⟨ca, cb⟩ := c
      go_wp2_with fail
      go_round
      case rel => exact ⟨M * 2, X - 1, rfl, rfl, Up1.step' hu.out hM0 ca cb, by omega, by omega, by omega, by omega⟩
      case measure => simp [intOf]; omega
    · have HC := Lib.hid (show 4503599627370496 ≤ M ∨ X ≤ -1074 by omega)
      have c' : (M < 4503599627370496 ∧ X ≤ -1074) ∨ 4503599627370496 ≤ M := by omega
      clear c
      rcases c' with ⟨ca, cb⟩ | ca
      all_goals
        go_wp2_with fail
        go_loop [5, 6, 7, 8] (fun m e h r => ∃ (q E : Int) (half rest : Bool), m = .int .u64 q ∧ e = .int .i64 E ∧ h = .bool half ∧ r = .bool rest ∧ Hid (DnB M.toNat X more q.toNat E half rest) ∧ 0 ≤ q ∧ q ≤ 18446744073709551615 ∧ -4000 ≤ E)
          (fun m e _ _ => (intOf m).toNat + (-1074 - intOf e).toNat)
        case atStart => exact ⟨M, X, false, more, rfl, rfl, rfl, rfl, DnB.start M.toNat X more, by omega, by omega, by omega⟩
        case round =>
          obtain ⟨q, E, half, rest, rfl, rfl, rfl, rfl, hd, hq0, hq, hE0⟩ := hrel
          have hE1 := DnB.bd hd.out (by omega) hX1
          have e1 : q.tdiv 2 = q / 2 := Int.tdiv_eq_ediv_of_nonneg hq0
          have e2 : q.tmod 2 = q % 2 := Int.tmod_eq_emod_of_nonneg hq0
          by_cases c : 9007199254740992 ≤ q ∨ E < -1074
          · have HC2 := Lib.hid c
            have hlast : (decide (9007199254740992 ≤ q) = true) ∨ (decide (9007199254740992 ≤ q) = false ∧ decide (E < -1074) = true) := by simp; omega
            clear c
            cases rest <;> cases half
            all_goals
              rcases hlast with g | ⟨g, g2⟩
              all_goals
                go_wp2_with fail
                go_round
                case rel => exact ⟨q / 2, E + 1, _, _, rfl, rfl, rfl, rfl, DnB.step' hd.out hq0 HC2.out, by omega, by omega, by omega⟩
                case measure => (have := HC2.out; simp [intOf]; omega)
          · have hen := Lib.hid (Ended.mkI h0 x1 hM0 hM hu.out HC.out hd.out hq0 (by omega) (by omega))
            have hl : q < 9007199254740992 := by omega
            have hg : -1074 ≤ E := by omega
            have hb1 : decide (9007199254740992 ≤ q) = false := by simp; omega
            have hb2 : decide (E < -1074) = false := by simp; omega
            clear c
            cases half
            · go_wp2_with (go_at_call 129; refine (rput_any _ _ _ hq0 (by omega) (by omega) (by omega) _).mono ?_; rintro e w' ⟨rfl, rfl⟩)
              go_ret
              exact ⟨rtB_int (congrArg _ (Ended.noI hen.out hq0 rfl)), belowBdrewN (by go_grown) _⟩
            · cases rest
              · cases ho : q % 2 == 1
                · go_wp2_with (go_at_call 129; refine (rput_any _ _ _ hq0 (by omega) (by omega) (by omega) _).mono ?_; rintro e w' ⟨rfl, rfl⟩)
                  go_ret
                  exact ⟨rtB_int (congrArg _ (Ended.noI hen.out hq0 (odd_n hq0 ho))), belowBdrewN (by go_grown) _⟩
                · by_cases ht : q = 9007199254740991
                  · subst ht
                    go_wp2_with (go_at_call 129; refine (rput_any _ _ _ (by omega) (by omega) (by omega) (by omega) _).mono ?_; rintro e w' ⟨rfl, rfl⟩)
                    go_ret
                    exact ⟨rtB_int (congrArg _ (Ended.topI hen.out hq0 (odd_y hq0 ho) (by omega))), belowBdrewN (by go_grown) _⟩
                  · have ht2 : (q + 1 == 9007199254740992) = false := by simp; omega
                    go_wp2_with (go_at_call 129; refine (rput_any _ _ _ (by omega) (by omega) (by omega) (by omega) _).mono ?_; rintro e w' ⟨rfl, rfl⟩)
                    go_ret
                    exact ⟨rtB_int (congrArg _ (Ended.yesI hen.out hq0 (odd_y hq0 ho) (by omega))), belowBdrewN (by go_grown) _⟩
              · by_cases ht : q = 9007199254740991
                · subst ht
                  go_wp2_with (go_at_call 129; refine (rput_any _ _ _ (by omega) (by omega) (by omega) (by omega) _).mono ?_; rintro e w' ⟨rfl, rfl⟩)
                  go_ret
                  exact ⟨rtB_int (congrArg _ (Ended.topI hen.out hq0 rfl (by omega))), belowBdrewN (by go_grown) _⟩
                · have ht2 : (q + 1 == 9007199254740992) = false := by simp; omega
                  go_wp2_with (go_at_call 129; refine (rput_any _ _ _ (by omega) (by omega) (by omega) (by omega) _).mono ?_; rintro e w' ⟨rfl, rfl⟩)
                  go_ret
                  exact ⟨rtB_int (congrArg _ (Ended.yesI hen.out hq0 rfl (by omega))), belowBdrewN (by go_grown) _⟩

set_option maxRecDepth 100000 in
set_option maxHeartbeats 2000000 in
theorem rround_zero (neg : Bool) (exp : Int) (x0 : -3000 ≤ exp) (x1 : exp ≤ -1075) (w : World) :
    Calls Tryz.prog 96 #[partsV neg 0 exp, .bool true] w fun e w' => e = .returned (.int .u64 (signW neg 0)) ∧ Below w.heap.size w w' := by
  have hz : decide (exp < -3000) = false := by simp; omega
  have hz2 : decide (3000 < exp) = false := by simp; omega
  have hz3 : decide (-1074 < exp) = false := by simp; omega
  go_enter Tryz.func96, Tryz.ntmps96
  go_wp2_with fail
  go_quiet (fail)
  go_wp2_with fail
  go_loop [5, 6] (fun m e => m = .int .u64 0 ∧ e = .int .i64 exp) (fun _ e => 0)
  case atStart => exact ⟨rfl, rfl⟩
  case round =>
    obtain ⟨rfl, rfl⟩ := hrel
    go_wp2_with fail
    go_loop [5, 6, 7, 8] (fun m e h r => ∃ (E : Int), m = .int .u64 0 ∧ e = .int .i64 E ∧ h = .bool false ∧ r = .bool true ∧ -4000 ≤ E ∧ E ≤ -1074) (fun m e _ _ => (-1074 - intOf e).toNat)
    case atStart => exact ⟨exp, rfl, rfl, rfl, rfl, by omega, by omega⟩
    case round =>
      obtain ⟨E, rfl, rfl, rfl, rfl, hE0, hE1⟩ := hrel
      by_cases c : E < -1074
      · have hb : decide (E < -1074) = true := by simp; omega
        go_wp2_with fail
        go_round
        case rel => exact ⟨E + 1, rfl, rfl, rfl, rfl, by omega, by omega⟩
        case measure => simp [intOf]; omega
      · have hb : decide (E < -1074) = false := by simp; omega
        go_wp2_with (go_at_call 129; refine (rput_any _ _ _ (by omega) (by omega) (by omega) (by omega) _).mono ?_; rintro e w' ⟨rfl, rfl⟩)
        go_ret
        exact ⟨rfl, belowBdrewN (by go_grown) _⟩

set_option maxRecDepth 100000 in
set_option maxHeartbeats 2000000 in
theorem rround_low (neg more : Bool) (man exp : Int) (h : exp < -3000 ∨ man = 0 ∧ more = false) (w : World) :
    Calls Tryz.prog 96 #[partsV neg man exp, .bool more] w fun e w' => e = .returned (.int .u64 (signW neg 0)) ∧ Below w.heap.size w w' := by
  by_cases c : man = 0 ∧ more = false
  · obtain ⟨rfl, rfl⟩ := c
    go_enter Tryz.func96, Tryz.ntmps96
    go_wp2_with fail
    go_quiet (fail)
    go_wp2_with (go_at_call 128; refine (rsign_any _ _ (by omega) (by omega) _).mono ?_; rintro e w' ⟨rfl, rfl⟩)
    go_ret
    exact ⟨rfl, belowBdrewN (by go_grown) _⟩
  · have hx : decide (exp < -3000) = true := by
      rcases h with h | h
      · simp; omega
      · exact absurd h c
    have hm : (man == 0) = true ∧ more = true ∨ (man == 0) = false := by
      cases more <;> simp at c ⊢ <;> omega
    clear c h
    rcases hm with ⟨hm, rfl⟩ | hm
    all_goals
      go_enter Tryz.func96, Tryz.ntmps96
      go_wp2_with fail
      go_quiet (fail)
      go_wp2_with (go_at_call 128; refine (rsign_any _ _ (by omega) (by omega) _).mono ?_; rintro e w' ⟨rfl, rfl⟩)
      go_ret
      exact ⟨rfl, belowBdrewN (by go_grown) _⟩

set_option maxRecDepth 100000 in
set_option maxHeartbeats 2000000 in
theorem rround_high (neg more : Bool) (man exp : Int) (h0 : 0 < man) (h : 3000 < exp) (w : World) :
    Calls Tryz.prog 96 #[partsV neg man exp, .bool more] w fun e w' => e = .returned (.int .u64 (signW neg inf)) ∧ Below w.heap.size w w' := by
  have hx : decide (exp < -3000) = false := by simp; omega
  have hx2 : decide (3000 < exp) = true := by simp; omega
  have hm : (man == 0) = false := by simp; omega
  go_enter Tryz.func96, Tryz.ntmps96
  go_wp2_with fail
  go_quiet (fail)
  go_wp2_with (go_at_call 128; refine (rsign_any _ _ (by omega) (by omega) _).mono ?_; rintro e w' ⟨rfl, rfl⟩)
  go_ret
  exact ⟨rfl, belowBdrewN (by go_grown) _⟩

theorem rround_any (neg more : Bool) (man exp : Int) (h0 : 0 ≤ man) (h1 : man ≤ 18446744073709551615) (hmay : roundMay man exp more = true) (w : World) :
    Calls Tryz.prog 96 #[partsV neg man exp, .bool more] w fun e w' => e = .returned (.int .u64 (signW neg (rnd man exp more))) ∧ Below w.heap.size w w' := by
  by_cases c1 : exp < -3000 ∨ man = 0 ∧ more = false
  · have e : rnd man exp more = 0 := by
      rcases c1 with c | c
      · exact rnd_low man exp more h0 h1 c
      · unfold rnd; rw [if_pos c.1]
    rw [e]
    exact rround_low neg more man exp c1 w
  · by_cases hm : man = 0
    · subst hm
      have hmo : more = true := by cases more <;> simp at c1 ⊢
      subst hmo
      have hx : exp ≤ -1075 := by
        rcases roundMay_t hmay with h | h <;> omega
      have e : rnd 0 exp true = 0 := by unfold rnd; rw [if_pos rfl]
      rw [e]
      exact rround_zero neg exp (by omega) hx w
    · by_cases c2 : 3000 < exp
      · rw [rnd_high man exp more (by omega) h1 c2]
        exact rround_high neg more man exp (by omega) c2 w
      · exact rround_main neg more man exp (by omega) h1 (by omega) (by omega) w
end Go.Proofs.YtfjellhbcjnjkaaGreatDoor
namespace Go.Bw
end Go.Bw
namespace Go.Proofs.YtfjellhbcjnjkaaGreatDoor
open Go.RowKit Go.Bw
set_option linter.unusedVariables false

end Go.Proofs.YtfjellhbcjnjkaaGreatDoor
namespace Go.Proofs.YtfjellhbcjnjkaaGreatDoor
open Go.RowKit Go.Bw
set_option linter.unusedVariables false

theorem pman_zero {x : Int} (hc : cls x ≤ 3) : pman x = 0 ↔ cls x = 1 := by
  have hf := frc_bd x
  have hb := cls_bd x
  constructor
  · intro h
    by_cases c3 : cls x = 3
    · unfold pman at h; rw [if_pos c3] at h; omega
    · unfold pman at h; rw [if_neg c3] at h
      by_cases c1 : cls x = 1
      · exact c1
      · exfalso
        have c2 : cls x = 2 := by omega
        unfold cls at c2
        repeat' split at c2
        all_goals omega
  · intro h
    unfold pman; rw [if_neg (by omega)]; exact cls_frc0 h

/-! ### the reference's: halved till 1 -/
end Go.Proofs.YtfjellhbcjnjkaaGreatDoor
