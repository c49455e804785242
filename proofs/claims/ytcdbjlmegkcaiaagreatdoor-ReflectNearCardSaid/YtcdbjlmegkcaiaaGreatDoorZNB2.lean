/-
  Layer 2, joined (wip/tools/merge.py): BitsD BitsE BitsF BitsG BitsH.
  Walks of layer 1, part three: Round, Exact, Scale.
  Walks of layer 1, part four: Exact, Scale.
  Walks of layer 1, part five: the reference's Round: doubled or halved till it may be a fraction.
  Walks of layer 1, part six: the order of words.
  Walks of layer 1, part seven: Log.
-/
import Derived.Test.YtcdbjlmegkcaiaaGreatDoorZNB1
import Derived.BigGuardPart
namespace Go.Proofs.YtcdbjlmegkcaiaaGreatDoor
open Go.RowKit Go.Bw
set_option linter.unusedVariables false

/-- what Round answers -/
def roundMay (man exp : Int) (more : Bool) : Bool := !(more && decide (man < 9007199254740992) && decide (-1074 ≤ exp))
def roundV (neg : Bool) (man exp : Int) (more : Bool) : Value :=
  .tuple (if roundMay man exp more then #[.int .u64 (signW neg (rnd man exp more)), .int .i64 0] else #[.int .u64 0, .int .i64 2])

theorem up_a {W R : Int} {m : Bool} (h : 9223372036854775808 < R) : sUp W R m = true := by simp [sUp, h]
theorem up_b {W R : Int} {m : Bool} (h : R = 9223372036854775808) (o : (W % 2 == 1) = true) : sUp W R m = true := by
  simp at o; simp [sUp, h, o]
theorem up_c {W R : Int} (h : R = 9223372036854775808) : sUp W R true = true := by simp [sUp, h]
theorem no_b {W R : Int} (h : R = 9223372036854775808) (o : (W % 2 == 1) = false) : sUp W R false = false := by
  simp at o; simp [sUp, h, o]
theorem no_c {W R : Int} {m : Bool} (h : ¬R = 9223372036854775808) (l : R ≤ 9223372036854775808) : sUp W R m = false := by
  have : ¬ (9223372036854775808 < R) := by omega
  simp [sUp, h, this]
theorem fin_up {neg m : Bool} {W R E r : Int} (hr : Hid (joinM (W + if sUp W R m then 1 else 0) E = r)) (h : sUp W R m = true) : signW neg (joinM (W + 1) E) = signW neg r := by
  have := hr.out; rw [h] at this; rw [← this]; rfl
theorem fin_no {neg m : Bool} {W R E r : Int} (hr : Hid (joinM (W + if sUp W R m then 1 else 0) E = r)) (h : sUp W R m = false) : signW neg (joinM W E) = signW neg r := by
  have := hr.out; rw [h] at this; rw [← this]; simp

theorem roundMay_t {man exp : Int} (h : roundMay man exp true = true) : 9007199254740992 ≤ man ∨ man < 9007199254740992 ∧ exp < -1074 := by
  simp [roundMay] at h; omega

end Go.Proofs.YtcdbjlmegkcaiaaGreatDoor
namespace Go.Proofs.YtcdbjlmegkcaiaaGreatDoor
open Go.RowKit Go.Bw
set_option linter.unusedVariables false

theorem signW_bd (neg : Bool) (m : Int) (h0 : 0 ≤ m) (h1 : m ≤ inf) : 0 ≤ signW neg m ∧ signW neg m ≤ 18446744073709551615 := by
  unfold signW; unfold inf at h1; split <;> omega
theorem joinM_bd (W E : Int) (h0 : 0 ≤ W) (e0 : -1074 ≤ E) : 0 ≤ joinM W E ∧ joinM W E ≤ inf := by
  unfold joinM inf; omega

/-- is the number a float's? -/
def exOk (neg : Bool) (man exp : Int) : Bool := decide (sR man exp = 0) && !(cls (signW neg (joinM (sW man exp) (sE man exp))) == 4)
def exactV (neg : Bool) (man exp : Int) : Value :=
  .tuple (if exOk neg man exp then #[.int .u64 (signW neg (joinM (sW man exp) (sE man exp))), .int .i64 0] else #[.int .u64 0, .int .i64 6])

def exR (s R : Int) : Value := .tuple (if (decide (R = 0) && !(cls s == 4)) then #[.int .u64 s, .int .i64 0] else #[.int .u64 0, .int .i64 6])
theorem exR_y {s : Int} (h : (cls s == 4) = false) : Value.tuple #[.int .u64 s, .int .i64 0] = exR s 0 := by simp [exR, h]
theorem exR_n {s : Int} (h : (cls s == 4) = true) : Value.tuple #[.int .u64 0, .int .i64 6] = exR s 0 := by simp [exR, h]
theorem exR_r {s R : Int} (h : (R != 0) = true) : Value.tuple #[.int .u64 0, .int .i64 6] = exR s R := by simp at h; simp [exR, h]

/-! ### Scale -/
def scaleW (x k : Int) : Int := if cls x ≤ 3 then signW (pneg x) (rnd (pman x) (pexp x + min (max k (-4096)) 4096) false) else one x
theorem pman_bd (x : Int) : 0 ≤ pman x ∧ pman x ≤ 9007199254740991 := by
  have := frc_bd x
  unfold pman; split <;> omega
theorem pexp_bd (x : Int) : -1075 ≤ pexp x ∧ pexp x ≤ 972 := by
  have := fld_bd x
  unfold pexp; repeat' split
  all_goals omega

end Go.Proofs.YtcdbjlmegkcaiaaGreatDoor
namespace Go.Proofs.YtcdbjlmegkcaiaaGreatDoor
open Go.RowKit Go.Bw
set_option linter.unusedVariables false

theorem put_a {man exp : Int} (c : man < 4503599627370496) : man = putM man exp := by unfold putM; rw [if_pos c]
theorem put_b {man exp : Int} (c : 4503599627370496 ≤ man) (c2 : 971 < exp) : 9218868437227405312 = putM man exp := by unfold putM; rw [if_neg (by omega), if_pos c2]; rfl
theorem put_c {man exp : Int} (c : 4503599627370496 ≤ man) (c2 : exp ≤ 971) : (exp + 1075) * 4503599627370496 + man - 4503599627370496 = putM man exp := by unfold putM; rw [if_neg (by omega), if_neg (by omega)]
theorem may_a {man exp : Int} (c : 9007199254740992 ≤ man) : true = roundMay man exp true := by
  simp [roundMay]; omega
theorem may_b {man exp : Int} (c : ¬ 9007199254740992 ≤ man) : decide (exp ≤ -1075) = roundMay man exp true := by
  have : man < 9007199254740992 := by omega
  rw [Bool.eq_iff_iff]; simp [roundMay, this]; omega

/-- the first loop: doubled k times -/
def Up1 (man exp : Int) (M : Nat) (X : Int) : Prop := ∃ k : Nat, man * 2 ^ k = (M : Int) ∧ exp = X + k ∧ (k = 0 ∨ M < 9007199254740992 ∧ -1074 ≤ X)
theorem Up1.start (man exp : Int) (h0 : 0 ≤ man) : Up1 man exp man.toNat exp := ⟨0, by simp; omega, by simp, Or.inl rfl⟩
theorem Up1.step {man exp : Int} {M : Nat} {X : Int} (h : Up1 man exp M X) (a : M < 4503599627370496) (b : -1074 < X) : Up1 man exp (M * 2) (X - 1) := by
  obtain ⟨k, h1, h2, h3⟩ := h
  refine ⟨k + 1, ?_, by omega, Or.inr ⟨by omega, by omega⟩⟩
  rw [Int.pow_succ, ← Int.mul_assoc, h1]; omega
theorem Up1.step' {man exp M X : Int} (h : Up1 man exp M.toNat X) (h0 : 0 ≤ M) (a : M < 4503599627370496) (b : -1074 < X) : Up1 man exp (M * 2).toNat (X - 1) := by
  have := h.step (by omega) b
  rw [show (M * 2).toNat = M.toNat * 2 by omega]
  exact this
/-- the second loop: halved j times -/
def DnB (M : Nat) (X : Int) (more : Bool) (q : Nat) (E : Int) (half rest : Bool) : Prop :=
  ∃ j : Nat, q = M / 2 ^ j ∧ E = X + j ∧ half = hHalf M j ∧ rest = hRest M j more ∧ (∀ i, j = i + 1 → 9007199254740992 ≤ M / 2 ^ i ∨ X + i < -1074)
theorem DnB.start (M : Nat) (X : Int) (more : Bool) : DnB M X more M X false more := ⟨0, by simp, by simp, rfl, rfl, fun i h => by omega⟩
theorem DnB.step {M : Nat} {X : Int} {more : Bool} {q : Nat} {E : Int} {half rest : Bool} (h : DnB M X more q E half rest) (c : 9007199254740992 ≤ q ∨ E < -1074) :
    DnB M X more (q / 2) (E + 1) (decide (q % 2 = 1)) (rest || half) := by
  obtain ⟨j, rfl, rfl, rfl, rfl, h5⟩ := h
  refine ⟨j + 1, ?_, by omega, rfl, (hRest_succ M j more).symm, fun i hi => ?_⟩
  · rw [Nat.pow_succ, Nat.div_div_eq_div_mul]
  · obtain rfl : i = j := by omega
    exact c

theorem DnB.step' {M : Nat} {X : Int} {more : Bool} {q E : Int} {half rest : Bool} (h : DnB M X more q.toNat E half rest) (h0 : 0 ≤ q) (c : 9007199254740992 ≤ q ∨ E < -1074) :
    DnB M X more (q / 2).toNat (E + 1) (q % 2 == 1) (rest || half) := by
  have := h.step (by omega)
  rw [show (q / 2).toNat = q.toNat / 2 by omega, show (q % 2 == 1) = decide (q.toNat % 2 = 1) by rw [Bool.eq_iff_iff]; simp; omega]
  exact this
theorem DnB.bd {M : Nat} {X : Int} {more : Bool} {q : Nat} {E : Int} {half rest : Bool} (h : DnB M X more q E half rest) (hM : M < 18446744073709551616) (hX : X ≤ 3000) : E ≤ 3100 := by
  obtain ⟨j, rfl, rfl, rfl, rfl, h5⟩ := h
  rcases Nat.eq_zero_or_pos j with hj | hj
  · omega
  · obtain ⟨i, rfl⟩ : ∃ i, j = i + 1 := ⟨j - 1, by omega⟩
    rcases h5 i rfl with g | g
    · have : ¬ (M / 2 ^ i < 9007199254740992) := by omega
      rw [div_lt_53 M i hM] at this
      have := bl_le M hM
      omega
    · omega

/-- where both loops have ended -/
structure Ended (man exp : Int) (more : Bool) (q : Nat) (E : Int) (half rest : Bool) : Prop where
  lt : q < 9007199254740992
  ge : -1074 ≤ E
  le : E ≤ 4000
  low : q < 4503599627370496 → E = -1074
  word : min ((E + 1074) * 4503599627370496 + ((q : Int) + if half && (rest || decide (q % 2 = 1)) then 1 else 0)) inf = rnd man exp more
theorem Ended.mk' {man exp : Int} {more : Bool} {M : Nat} {X : Int} {q : Nat} {E : Int} {half rest : Bool} (h0 : 0 < man) (hx1 : exp ≤ 3000) (hM : M < 18446744073709551616)
    (u : Up1 man exp M X) (u2 : 4503599627370496 ≤ M ∨ X ≤ -1074) (d : DnB M X more q E half rest) (a : q < 9007199254740992) (b : -1074 ≤ E) : Ended man exp more q E half rest := by
  obtain ⟨k, hk, hX, hk3⟩ := u
  obtain ⟨j, rfl, rfl, rfl, rfl, h5⟩ := d
  have hE := rE_of man exp k j M X h0 hM hk hX a b (fun _ => u2) h5
  have hkj : k = 0 ∨ j = 0 := by
    rcases hk3 with h | ⟨h, h'⟩
    · exact Or.inl h
    · refine Or.inr ?_
      rcases Nat.eq_zero_or_pos j with hj | hj
      · exact hj
      · exfalso
        obtain ⟨i, rfl⟩ : ∃ i, j = i + 1 := ⟨j - 1, by omega⟩
        rcases h5 i rfl with g | g
        · have := Nat.div_le_self M (2 ^ i)
          omega
        · omega
  have hL : rE man exp ≤ 4000 := by
    unfold rE bl
    have hp := Nat.two_pow_pos k
    have hm : man < 18446744073709551616 := by
      obtain ⟨m, rfl⟩ := Int.eq_ofNat_of_zero_le (Int.le_of_lt h0)
      have hk' : m * 2 ^ k = M := by exact_mod_cast hk
      have := Nat.le_mul_of_pos_right m hp
      omega
    have := bl_le man.toNat (by omega)
    omega
  refine ⟨a, b, by omega, fun h => rE_52 man exp k j M X h0 hM hk hX hE h, ?_⟩
  have hw := rW_of man exp k j M X more hk hX hE hkj
  unfold rnd
  rw [if_neg (show ¬ man = 0 by omega), hw, hE, half_up M j more]

theorem Ended.no {man exp : Int} {more : Bool} {q : Nat} {E : Int} {half rest : Bool} (h : Ended man exp more q E half rest) (g : (half && (rest || decide (q % 2 = 1))) = false) : putM (q : Int) E = rnd man exp more := by
  rw [← h.word, g, putM_eq (q : Int) E (by omega) (by have := h.lt; omega) h.ge (fun c => h.low (by omega))]
  simp
theorem Ended.yes {man exp : Int} {more : Bool} {q : Nat} {E : Int} {half rest : Bool} (h : Ended man exp more q E half rest) (g : (half && (rest || decide (q % 2 = 1))) = true) (c : ¬ q + 1 = 9007199254740992) : putM ((q : Int) + 1) E = rnd man exp more := by
  have := h.lt
  rw [← h.word, g, putM_eq ((q : Int) + 1) E (by omega) (by omega) h.ge (fun c => h.low (by omega))]
  simp
theorem Ended.top {man exp : Int} {more : Bool} {q : Nat} {E : Int} {half rest : Bool} (h : Ended man exp more q E half rest) (g : (half && (rest || decide (q % 2 = 1))) = true) (c : q + 1 = 9007199254740992) : putM 4503599627370496 (E + 1) = rnd man exp more := by
  rw [← h.word, g, putM_top E h.ge]
  have : (q : Int) = 9007199254740991 := by omega
  rw [this]; simp

theorem rnd_low (man exp : Int) (more : Bool) (h0 : 0 ≤ man) (h1 : man ≤ 18446744073709551615) (h : exp < -3000) : rnd man exp more = 0 := by
  by_cases hm : man = 0
  · unfold rnd; rw [if_pos hm]
  · have hb := bl_bd man (by omega) h1
    have hE : max (sF exp + bl man - 52 - 1) (-1074) = sE man exp := by unfold sE; rw [if_neg hm]
    have hf : sF exp = -2048 := by unfold sF; omega
    have e : sE man exp = -1074 := by omega
    have k := cut_far man exp (sF exp) (bl man) (sE man exp) (sD man exp) more (by omega) h1 rfl rfl hE rfl (by unfold sD; omega)
    rw [← k, e]; decide
theorem rnd_high (man exp : Int) (more : Bool) (h0 : 0 < man) (h1 : man ≤ 18446744073709551615) (h : 3000 < exp) : rnd man exp more = inf := by
  have hb := bl_bd man h0 h1
  exact rnd_inf man exp more h0 (by unfold rE; omega)

theorem Ended.mkI {man exp : Int} {more : Bool} {M X q E : Int} {half rest : Bool} (h0 : 0 < man) (hx1 : exp ≤ 3000) (hM0 : 0 ≤ M) (hM : M ≤ 18446744073709551615)
    (u : Up1 man exp M.toNat X) (u2 : 4503599627370496 ≤ M ∨ X ≤ -1074) (d : DnB M.toNat X more q.toNat E half rest) (hq : 0 ≤ q) (a : q < 9007199254740992) (b : -1074 ≤ E) : Ended man exp more q.toNat E half rest :=
  Ended.mk' h0 hx1 (by omega) u (by omega) d (by omega) b
theorem Ended.noI {man exp : Int} {more : Bool} {q E : Int} {half rest : Bool} (h : Ended man exp more q.toNat E half rest) (hq : 0 ≤ q) (g : (half && (rest || decide (q.toNat % 2 = 1))) = false) : putM q E = rnd man exp more := by
  have := h.no g
  rwa [Int.toNat_of_nonneg hq] at this
theorem Ended.yesI {man exp : Int} {more : Bool} {q E : Int} {half rest : Bool} (h : Ended man exp more q.toNat E half rest) (hq : 0 ≤ q) (g : (half && (rest || decide (q.toNat % 2 = 1))) = true) (c : ¬ q + 1 = 9007199254740992) : putM (q + 1) E = rnd man exp more := by
  have := h.yes g (by omega)
  rwa [Int.toNat_of_nonneg hq] at this
theorem Ended.topI {man exp : Int} {more : Bool} {q E : Int} {half rest : Bool} (h : Ended man exp more q.toNat E half rest) (hq : 0 ≤ q) (g : (half && (rest || decide (q.toNat % 2 = 1))) = true) (c : q + 1 = 9007199254740992) : putM 4503599627370496 (E + 1) = rnd man exp more :=
  h.top g (by omega)

theorem odd_n {q : Int} {r : Bool} (hq : 0 ≤ q) (h : (q % 2 == 1) = r) : (true && (false || decide (q.toNat % 2 = 1))) = r := by
  rw [← h, Bool.eq_iff_iff]; simp; omega
theorem odd_y {q : Int} {r : Bool} (hq : 0 ≤ q) (h : (q % 2 == 1) = r) : (true && (false || decide (q.toNat % 2 = 1))) = r := odd_n hq h

end Go.Proofs.YtcdbjlmegkcaiaaGreatDoor
namespace Go.Bw
/-- a word's place: its number of steps from 0 -/
def plc (x : Int) : Int := if 9223372036854775808 ≤ x then -mag x else mag x
theorem mag_bd (x : Int) : 0 ≤ mag x ∧ mag x ≤ 9223372036854775807 := by unfold mag; omega
theorem plc_bd (x : Int) : -9223372036854775807 ≤ plc x ∧ plc x ≤ 9223372036854775807 := by
  have := mag_bd x
  unfold plc; split <;> omega
theorem mag_fin {x : Int} (h0 : 0 ≤ x) (h1 : x ≤ 18446744073709551615) (h : (cls x == 5) = false) : mag x ≤ 9218868437227405312 := by
  rw [mag_eq x h0 h1]
  have hf := fld_bd x
  have hr := frc_bd x
  simp at h
  by_cases c : fld x = 2047
  · have : frc x = 0 := by
      rcases Decidable.em (frc x = 0) with e | e
      · exact e
      · exact absurd (by unfold cls; rw [if_pos c, if_neg e]) h
    omega
  · omega
theorem plc_fin {x : Int} (h0 : 0 ≤ x) (h1 : x ≤ 18446744073709551615) (h : (cls x == 5) = false) : -9218868437227405312 ≤ plc x ∧ plc x ≤ 9218868437227405312 := by
  have a := mag_fin h0 h1 h
  have b := mag_bd x
  unfold plc; split <;> omega
/-- the word at a place -/
def wordAt (p : Int) : Int := if p < 0 then 9223372036854775808 + -p else p
def cmpI (a b : Int) : Int := if a < b then -1 else if b < a then 1 else 0
end Go.Bw
namespace Go.Proofs.YtcdbjlmegkcaiaaGreatDoor
open Go.RowKit Go.Bw
set_option linter.unusedVariables false

theorem plc_y {x : Int} (h : decide (9223372036854775808 ≤ x) = true) : -mag x = plc x := by
  simp at h; unfold plc; rw [if_pos h]
theorem plc_n {x : Int} (h : decide (9223372036854775808 ≤ x) = false) : mag x = plc x := by
  simp at h; unfold plc; rw [if_neg (by omega)]

theorem steps_eq {a b : Int} (ha : -9223372036854775807 ≤ a) (ha' : a ≤ 9223372036854775807) (hb : -9223372036854775807 ≤ b) (hb' : b ≤ 9223372036854775807) :
    IntKind.u64.wrap (IntKind.u64.wrap (max a b) - IntKind.u64.wrap (min a b)) = max a b - min a b := by
  simp only [IntKind.wrap_u64]; omega

end Go.Proofs.YtcdbjlmegkcaiaaGreatDoor
namespace Go.Proofs.YtcdbjlmegkcaiaaGreatDoor
open Go.RowKit Go.Bw
set_option linter.unusedVariables false

def logI (x : Int) : Int := pexp x + bl (pman x) - 1

theorem parts_yes {x : Int} (h0 : 0 ≤ x) (h1 : x ≤ 18446744073709551615) (hc : cls x ≤ 3) (w : World) :
    Calls Tryz.prog 50 #[.int .u64 x] w fun e' w' => e' = .returned (.tuple #[partsV (pneg x) (pman x) (pexp x), .int .i64 0]) ∧ Below w.heap.size w w' :=
  (parts_any x h0 h1 w).mono fun e' w' h => ⟨by rw [h.1]; simp [partsR, hc], h.2⟩
theorem parts_no {x : Int} (h0 : 0 ≤ x) (h1 : x ≤ 18446744073709551615) (hc : ¬ cls x ≤ 3) (w : World) :
    Calls Tryz.prog 50 #[.int .u64 x] w fun e' w' => e' = .returned (.tuple #[partsV false 0 0, .int .i64 2]) ∧ Below w.heap.size w w' :=
  (parts_any x h0 h1 w).mono fun e' w' h => ⟨by rw [h.1]; simp [partsR, hc], h.2⟩

theorem pman_zero {x : Int} (hc : cls x ≤ 3) : pman x = 0 ↔ cls x = 1 := by
  have hf := frc_bd x
  have hb := cls_bd x
  constructor
  · intro h
    by_cases c3 : cls x = 3
    · unfold pman at h; rw [if_pos c3] at h; omega
    · unfold pman at h; rw [if_neg c3] at h
      by_cases c1 : cls x = 1
      · exact c1
      · exfalso
        have c2 : cls x = 2 := by omega
        unfold cls at c2
        repeat' split at c2
        all_goals omega
  · intro h
    unfold pman; rw [if_neg (by omega)]; exact cls_frc0 h

def logV (x : Int) : Value := .tuple (if cls x = 2 ∨ cls x = 3 then #[.int .i64 (logI x), .int .i64 0] else #[.int .i64 0, .int .i64 2])
/-! ### the reference's: halved till 1 -/
theorem bl_half' (m : Int) (h : 1 < m) (h1 : m ≤ 18446744073709551615) : bl m = bl (m / 2) + 1 := by
  unfold bl
  have := Lib.bitLen_half m.toNat (by omega) (by omega)
  rw [this, show (m / 2).toNat = m.toNat / 2 by omega]
  omega

end Go.Proofs.YtcdbjlmegkcaiaaGreatDoor
