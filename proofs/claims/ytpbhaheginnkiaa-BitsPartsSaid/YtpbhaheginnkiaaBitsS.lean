/-
  Numbers that are just a float's, in plain numbers.
-/
import Derived.Test.YtpbhaheginnkiaaBitsC
namespace Go.Bw
open Go
set_option linter.unusedVariables false
set_option linter.unusedSectionVars false

/-! ### an odd number times a power of two is told by both -/
theorem odd_pow_eq {a b i j : Nat} (ha : a % 2 = 1) (hb : b % 2 = 1) (h : a * 2 ^ i = b * 2 ^ j) : a = b ∧ i = j := by
  have key : ∀ (i j a b : Nat), a % 2 = 1 → b % 2 = 1 → i ≤ j → a * 2 ^ i = b * 2 ^ j → a = b ∧ i = j := by
    intro i j a b ha hb hij h
    obtain ⟨k, rfl⟩ : ∃ k, j = i + k := ⟨j - i, by omega⟩
    rw [Nat.pow_add, Nat.mul_comm (2 ^ i), ← Nat.mul_assoc] at h
    have h' := Nat.eq_of_mul_eq_mul_right (Nat.two_pow_pos i) h
    cases k with
    | zero => exact ⟨by simpa using h', rfl⟩
    | succ k =>
      exfalso
      rw [Nat.pow_succ, ← Nat.mul_assoc] at h'
      omega
  rcases Nat.le_total i j with c | c
  · exact key i j a b ha hb c h
  · have := key j i b a hb ha c h.symm
    exact ⟨this.1.symm, this.2.symm⟩

/-! ### the word's size, and its parts -/
theorem fld_signW (neg : Bool) (m : Int) (h0 : 0 ≤ m) (h1 : m ≤ inf) : fld (signW neg m) = m / 4503599627370496 := by
  unfold inf at h1; unfold fld signW; split <;> omega
theorem frc_signW (neg : Bool) (m : Int) (h0 : 0 ≤ m) (h1 : m ≤ inf) : frc (signW neg m) = m % 4503599627370496 := by
  unfold inf at h1; unfold frc signW; split <;> omega
theorem cls_signW (neg : Bool) (m : Int) (h0 : 0 ≤ m) (h1 : m ≤ inf) : cls (signW neg m) = if m = inf then 4 else if m = 0 then 1 else if m < 4503599627370496 then 2 else 3 := by
  unfold cls
  rw [fld_signW neg m h0 h1, frc_signW neg m h0 h1]
  unfold inf at *
  repeat' split
  all_goals omega

/-- parts of a word that was put together -/
theorem pman_join (neg : Bool) (W E : Int) (h0 : 0 < W) (h1 : W ≤ 9007199254740991) (hE : -1074 ≤ E) (hl : W < 4503599627370496 → E = -1074) (hf : joinM W E < inf) :
    pman (signW neg (joinM W E)) = W ∧ pexp (signW neg (joinM W E)) = E := by
  have hj : joinM W E = (E + 1074) * 4503599627370496 + W := by unfold joinM at *; unfold inf at *; omega
  have j0 : 0 ≤ joinM W E := by omega
  have hc := cls_signW neg _ j0 (Int.le_of_lt hf)
  have e1 := fld_signW neg _ j0 (Int.le_of_lt hf)
  have e2 := frc_signW neg _ j0 (Int.le_of_lt hf)
  rw [hj] at hc e1 e2
  rw [hj]
  generalize hw : signW neg ((E + 1074) * 4503599627370496 + W) = w at hc e1 e2 ⊢
  rw [hj] at hf
  unfold inf at *
  unfold pman pexp
  by_cases c : W < 4503599627370496
  · have := hl c
    have hc2 : cls w = 2 := by rw [hc, if_neg (by omega), if_neg (by omega), if_pos (by omega)]
    rw [if_neg (by omega), if_neg (by omega), if_pos hc2]
    omega
  · have hc3 : cls w = 3 := by rw [hc, if_neg (by omega), if_neg (by omega), if_neg (by omega)]
    rw [if_pos hc3, if_neg (by omega), if_neg (by omega)]
    omega
theorem pexp_join (neg : Bool) (W E : Int) (h0 : 0 < W) (h1 : W ≤ 9007199254740992) (hE : -1074 ≤ E) (hl : W < 4503599627370496 → E = -1074) (hf : joinM W E < inf) :
    E ≤ pexp (signW neg (joinM W E)) := by
  by_cases c : W ≤ 9007199254740991
  · rw [(pman_join neg W E h0 c hE hl hf).2]; exact Int.le_refl _
  · have hW : W = 9007199254740992 := by omega
    have hj : joinM W E = (E + 1074) * 4503599627370496 + W := by unfold joinM at *; unfold inf at *; omega
    have j0 : 0 ≤ joinM W E := by omega
    have hc := cls_signW neg _ j0 (Int.le_of_lt hf)
    have e1 := fld_signW neg _ j0 (Int.le_of_lt hf)
    rw [hj] at hc e1
    rw [hj]
    generalize hw : signW neg ((E + 1074) * 4503599627370496 + W) = w at hc e1 ⊢
    rw [hj] at hf
    unfold inf at *
    have hc3 : cls w = 3 := by rw [hc, if_neg (by omega), if_neg (by omega), if_neg (by omega)]
    unfold pexp
    rw [if_neg (by omega), if_neg (by omega)]
    omega

/-! ### the cut's numbers -/
theorem sW_52 (man exp : Int) (h0 : 0 < man) (h1 : man ≤ 18446744073709551615) (h : sW man exp < 4503599627370496) : sE man exp = -1074 := by
  have hb := bl_bd man h0 h1
  rcases Decidable.em (sE man exp = -1074) with e | e
  · exact e
  · exfalso
    have hE : sE man exp = sF exp + bl man - 53 := by
      unfold sE at e ⊢; rw [if_neg (by omega)] at e ⊢; omega
    have hd : sD man exp = bl man - 53 := by unfold sD; omega
    obtain ⟨m, rfl⟩ := Int.eq_ofNat_of_zero_le (Int.le_of_lt h0)
    have hm : m < 18446744073709551616 := by omega
    have hbl : bl (m : Int) = (Lib.bitLen m : Int) := by unfold bl; rw [Int.toNat_natCast]
    unfold sW at h
    rw [if_neg (by omega)] at h
    by_cases c : sD (m : Int) exp ≤ 0
    · rw [if_pos c] at h
      have s := ((bl_spec m hm).2 (by omega)).2
      have hk : (-sD (m : Int) exp).toNat = 53 - Lib.bitLen m := by omega
      rw [hk] at h
      have e2 : (2 : Nat) ^ 52 ≤ m * 2 ^ (53 - Lib.bitLen m) := by
        have := Nat.mul_le_mul_right (2 ^ (53 - Lib.bitLen m)) s
        rw [← Nat.pow_add, show Lib.bitLen m - 1 + (53 - Lib.bitLen m) = 52 by omega] at this
        exact this
      have e3 : ((m : Int) * 2 ^ (53 - Lib.bitLen m)) = ((m * 2 ^ (53 - Lib.bitLen m) : Nat) : Int) := by simp
      rw [e3] at h
      omega
    · rw [if_neg c, if_pos (by omega)] at h
      have hk : (sD (m : Int) exp).toNat = Lib.bitLen m - 53 := by omega
      rw [hk] at h
      have s := (div_ge_52 m (Lib.bitLen m - 53) hm).2 (by omega)
      have e3 : ((m : Int) / 2 ^ (Lib.bitLen m - 53)) = ((m / 2 ^ (Lib.bitLen m - 53) : Nat) : Int) := by simp
      rw [e3] at h
      omega

theorem man_lt_pow (o t : Nat) (ho : 0 < o) (h : o * 2 ^ t < 18446744073709551616) : t < 64 := by
  rcases Nat.lt_or_ge t 64 with c | c
  · exact c
  · exfalso
    have := Nat.pow_le_pow_right (show 0 < 2 by decide) c
    have := Nat.le_mul_of_pos_left (2 ^ t) ho
    omega

/-- where nothing was lost, what stands above the cut is the number -/
theorem cut_exact (o t : Nat) (exp : Int) (ho : o % 2 = 1) (h1 : o * 2 ^ t < 18446744073709551616) (x0 : -2048 ≤ exp) (x1 : exp ≤ 2048) (hR : sR ((o * 2 ^ t : Nat) : Int) exp = 0) :
    ∃ u : Nat, sW ((o * 2 ^ t : Nat) : Int) exp = ((o * 2 ^ u : Nat) : Int) ∧ sE ((o * 2 ^ t : Nat) : Int) exp + u = exp + t := by
  have hp := Nat.two_pow_pos t
  have hm0 : 0 < o * 2 ^ t := Nat.mul_pos (by omega) hp
  generalize hM : o * 2 ^ t = M at *
  have hf : sF exp = exp := by unfold sF; omega
  have hd : sE (M : Int) exp = exp + sD (M : Int) exp := by unfold sD; omega
  unfold sR at hR
  rw [if_neg (by omega)] at hR
  unfold sW
  rw [if_neg (by omega)]
  by_cases c : sD (M : Int) exp ≤ 0
  · rw [if_pos c]
    refine ⟨t + (-sD (M : Int) exp).toNat, ?_, by omega⟩
    rw [← hM, Nat.pow_add]
    simp [Int.mul_assoc]
  · rw [if_neg c] at hR ⊢
    by_cases c2 : sD (M : Int) exp ≤ 64
    · rw [if_pos c2] at hR ⊢
      have hE : max (sF exp + bl (M : Int) - 52 - 1) (-1074) = sE (M : Int) exp := by unfold sE; rw [if_neg (by omega)]
      rw [cut_rest (M : Int) exp (sF exp) (bl M) (sE M exp) (sD M exp) (by omega) (by omega) rfl rfl hE rfl (by omega) c2] at hR
      have hz : (M : Int) % 2 ^ (sD (M : Int) exp).toNat = 0 := by
        rcases Int.mul_eq_zero.1 hR with h | h
        · exact h
        · exact absurd h (Int.ne_of_gt (pow_pos_int _))
      obtain ⟨D, hD⟩ : ∃ D : Nat, (sD (M : Int) exp).toNat = D := ⟨_, rfl⟩
      rw [hD] at hz ⊢
      have hz' : M % 2 ^ D = 0 := by exact_mod_cast hz
      have hq : M = M / 2 ^ D * 2 ^ D := by
        have := Nat.div_add_mod M (2 ^ D)
        rw [hz', Nat.add_zero, Nat.mul_comm] at this
        exact this.symm
      have hDt : D ≤ t := by
        rcases Nat.lt_or_ge t D with g | g
        · exfalso
          obtain ⟨k, rfl⟩ : ∃ k, D = t + (k + 1) := ⟨D - t - 1, by omega⟩
          rw [← hM] at hz'
          rw [Nat.pow_add, Nat.mul_comm o, Nat.mul_mod_mul_left] at hz'
          have h2 : 2 ^ t = 0 ∨ o % 2 ^ (k + 1) = 0 := Nat.mul_eq_zero.1 hz'
          rcases h2 with h2 | h2
          · omega
          · have hdvd : 2 ∣ 2 ^ (k + 1) := ⟨2 ^ k, by rw [Nat.pow_succ, Nat.mul_comm]⟩
            have := Nat.mod_mod_of_dvd o hdvd
            rw [h2] at this
            omega
        · exact g
      refine ⟨t - D, ?_, by omega⟩
      have e : M / 2 ^ D = o * 2 ^ (t - D) := by
        rw [← hM, show t = (t - D) + D by omega, Nat.pow_add, ← Nat.mul_assoc, Nat.mul_div_cancel _ (Nat.two_pow_pos D)]
        simp
      have e3 : ((M : Int) / 2 ^ D) = ((M / 2 ^ D : Nat) : Int) := by simp
      rw [e3, e]
    · rw [if_neg c2] at hR
      exact absurd hR (by decide)

/-- where something was lost, the number's last bit lies below the cut -/
theorem cut_lost (o t : Nat) (exp : Int) (ho : o % 2 = 1) (h1 : o * 2 ^ t < 18446744073709551616) (x1 : exp ≤ 2048) (hR : sR ((o * 2 ^ t : Nat) : Int) exp ≠ 0) :
    exp + t < sE ((o * 2 ^ t : Nat) : Int) exp := by
  have hp := Nat.two_pow_pos t
  have hm0 : 0 < o * 2 ^ t := Nat.mul_pos (by omega) hp
  have ht := man_lt_pow o t (by omega) h1
  generalize hM : o * 2 ^ t = M at *
  have eb := sE_bd (M : Int) exp (by omega) (by omega)
  by_cases x0 : exp < -2048
  · omega
  · have hf : sF exp = exp := by unfold sF; omega
    have hd : sE (M : Int) exp = exp + sD (M : Int) exp := by unfold sD; omega
    unfold sR at hR
    rw [if_neg (by omega)] at hR
    by_cases c : sD (M : Int) exp ≤ 0
    · rw [if_pos c] at hR; exact absurd rfl hR
    · rw [if_neg c] at hR
      by_cases c2 : sD (M : Int) exp ≤ 64
      · rw [if_pos c2] at hR
        rcases Decidable.em (exp + t < sE (M : Int) exp) with g | g
        · exact g
        · exfalso
          apply hR
          have hE : max (sF exp + bl (M : Int) - 52 - 1) (-1074) = sE (M : Int) exp := by unfold sE; rw [if_neg (by omega)]
          rw [cut_rest (M : Int) exp (sF exp) (bl M) (sE M exp) (sD M exp) (by omega) (by omega) rfl rfl hE rfl (by omega) c2]
          obtain ⟨D, hD⟩ : ∃ D : Nat, (sD (M : Int) exp).toNat = D := ⟨_, rfl⟩
          rw [hD]
          have hz : M % 2 ^ D = 0 := by
            rw [← hM, show t = (t - D) + D by omega, Nat.pow_add, ← Nat.mul_assoc, Nat.mul_mod_left]
          have e : ((M : Int) % 2 ^ D) = ((M % 2 ^ D : Nat) : Int) := by simp
          rw [e, hz]; simp
      · omega

/-! ### the same number, told with a shorter mantissa, is rounded to the same word -/
theorem rUp_shift (o t k : Nat) : rUp ((o * 2 ^ t : Nat) : Int) ((t + k : Nat) : Int) false = rUp (o : Int) (k : Int) false := by
  have hp := Nat.two_pow_pos t
  rw [rUp_nat, rUp_nat]
  have e1 : o * 2 ^ t % 2 ^ (t + k) = o % 2 ^ k * 2 ^ t := by
    rw [Nat.pow_add, Nat.mul_comm o, Nat.mul_mod_mul_left, Nat.mul_comm]
  have e2 : o * 2 ^ t / 2 ^ (t + k) = o / 2 ^ k := by
    rw [Nat.pow_add, Nat.mul_comm o, Nat.mul_div_mul_left _ _ hp]
  have e3 : 2 ^ (t + k) = 2 ^ k * 2 ^ t := by rw [Nat.pow_add, Nat.mul_comm]
  rw [e1, e2, e3]
  have a1 : (2 ^ k * 2 ^ t < 2 * (o % 2 ^ k * 2 ^ t)) ↔ (2 ^ k < 2 * (o % 2 ^ k)) := by
    rw [← Nat.mul_assoc]
    exact Nat.mul_lt_mul_right hp
  have a2 : (2 * (o % 2 ^ k * 2 ^ t) = 2 ^ k * 2 ^ t) ↔ (2 * (o % 2 ^ k) = 2 ^ k) := by
    rw [← Nat.mul_assoc]
    exact Nat.mul_left_inj (Nat.pos_iff_ne_zero.1 hp)
  simp only [a1, a2]

theorem rW_le (man d : Int) (more : Bool) (h : d ≤ 0) : rW man d more = man * 2 ^ (-d).toNat := by unfold rW; rw [if_pos h]
theorem rW_gt (man d : Int) (more : Bool) (h : ¬ d ≤ 0) : rW man d more = man / 2 ^ d.toNat + (if rUp man d more then 1 else 0) := by unfold rW; rw [if_neg h]
theorem rW_shift (o t : Nat) (d : Int) : rW ((o * 2 ^ t : Nat) : Int) d false = rW (o : Int) (d - t) false := by
  have hp := Nat.two_pow_pos t
  by_cases c : d ≤ 0
  · rw [rW_le _ _ _ c, rW_le _ _ _ (by omega), show (-(d - (t : Int))).toNat = t + (-d).toNat by omega, Int.pow_add]
    simp [Int.mul_assoc]
  · rw [rW_gt _ _ _ c]
    by_cases c2 : d ≤ t
    · rw [rW_le _ _ _ (by omega)]
      obtain ⟨D, rfl⟩ := Int.eq_ofNat_of_zero_le (show 0 ≤ d by omega)
      have hD : D ≤ t := by omega
      have e : o * 2 ^ t = o * 2 ^ (t - D) * 2 ^ D := by
        rw [Nat.mul_assoc, ← Nat.pow_add, Nat.sub_add_cancel hD]
      have u : rUp ((o * 2 ^ t : Nat) : Int) (D : Int) false = false := by
        rw [rUp_nat, e, Nat.mul_mod_left]
        have h2 := Nat.two_pow_pos D
        have n1 : ¬ (2 ^ D < 2 * 0) := by omega
        have n2 : ¬ (2 * 0 = 2 ^ D) := by omega
        rw [decide_eq_false n1, decide_eq_false n2]; rfl
      rw [u, Int.toNat_natCast, show (-((D : Int) - (t : Int))).toNat = t - D by omega]
      have q : o * 2 ^ t / 2 ^ D = o * 2 ^ (t - D) := by rw [e, Nat.mul_div_cancel _ (Nat.two_pow_pos D)]
      have e3 : (((o * 2 ^ t : Nat) : Int) / 2 ^ D) = ((o * 2 ^ t / 2 ^ D : Nat) : Int) := by simp
      rw [e3, q]
      simp
    · obtain ⟨k, hk⟩ : ∃ k : Nat, d = ((t + k : Nat) : Int) := ⟨(d - t).toNat, by omega⟩
      subst hk
      rw [rUp_shift, Int.toNat_natCast, show ((t + k : Nat) : Int) - (t : Int) = (k : Int) by omega, rW_gt _ _ _ (by omega), Int.toNat_natCast]
      have e3 : (((o * 2 ^ t : Nat) : Int) / 2 ^ (t + k)) = ((o * 2 ^ t / 2 ^ (t + k) : Nat) : Int) := by simp
      have e2 : o * 2 ^ t / 2 ^ (t + k) = o / 2 ^ k := by
        rw [Nat.pow_add, Nat.mul_comm o, Nat.mul_div_mul_left _ _ hp]
      rw [e3, e2]
      simp

theorem rnd_shift (o t : Nat) (exp : Int) (ho : 0 < o) (h1 : o * 2 ^ t < 18446744073709551616) : rnd (o : Int) (exp + t) false = rnd ((o * 2 ^ t : Nat) : Int) exp false := by
  have hm0 : 0 < o * 2 ^ t := Nat.mul_pos ho (Nat.two_pow_pos t)
  have hb : bl ((o * 2 ^ t : Nat) : Int) = bl (o : Int) + t := by
    unfold bl
    rw [Int.toNat_natCast, Int.toNat_natCast, bl_shift o t (by omega) h1]
    omega
  have hE : rE (o : Int) (exp + t) = rE ((o * 2 ^ t : Nat) : Int) exp := by unfold rE; omega
  unfold rnd
  rw [if_neg (by omega), if_neg (by omega), hE, rW_shift, show rE ((o * 2 ^ t : Nat) : Int) exp - (exp + (t : Int)) = rE ((o * 2 ^ t : Nat) : Int) exp - exp - t by omega]

/-! ### is the number a float's? -/
def exIs (neg : Bool) (man exp : Int) : Bool := decide (sR man exp = 0) && !(cls (signW neg (joinM (sW man exp) (sE man exp))) == 4)

theorem joinM_bd' (W E : Int) (h0 : 0 ≤ W) (e0 : -1074 ≤ E) : 0 ≤ joinM W E ∧ joinM W E ≤ inf := by
  unfold joinM inf; omega
theorem cls_fin (neg : Bool) (m : Int) (h0 : 0 ≤ m) (h1 : m ≤ inf) : cls (signW neg m) ≤ 3 ↔ m < inf := by
  rw [cls_signW neg m h0 h1]
  unfold inf at *
  repeat' split
  all_goals omega
theorem cls_inf (neg : Bool) (m : Int) (h0 : 0 ≤ m) (h1 : m ≤ inf) : cls (signW neg m) = 4 ↔ m = inf := by
  rw [cls_signW neg m h0 h1]
  unfold inf at *
  repeat' split
  all_goals omega

theorem sD_up (man exp : Int) (h0 : 0 < man) (h1 : man ≤ 18446744073709551615) (hx : 2048 < exp) (W : Int) (hW : 0 ≤ W) : joinM W (sE man exp) = inf := by
  have hb := bl_bd man h0 h1
  have : 1900 ≤ sE man exp := by unfold sE sF; rw [if_neg (by omega)]; omega
  unfold joinM inf; omega

section
variable (neg : Bool) (o t : Nat) (exp : Int) (ho : o % 2 = 1) (h1 : o * 2 ^ t < 18446744073709551616)
include ho h1

/-- an infinity is never just a number's -/
theorem ex_inf (hw : ¬ cls (signW neg (rnd (o : Int) (exp + t) false)) ≤ 3) : exIs neg ((o * 2 ^ t : Nat) : Int) exp = false := by
  have hm0 : 0 < o * 2 ^ t := Nat.mul_pos (by omega) (Nat.two_pow_pos t)
  rw [rnd_shift o t exp (by omega) h1] at hw
  generalize hM : o * 2 ^ t = M at *
  have wb := sW_bd (M : Int) exp (by omega) (by omega)
  have eb := sE_bd (M : Int) exp (by omega) (by omega)
  have rb := rnd_bd (M : Int) exp false (by omega) (by omega)
  rw [cls_fin neg _ rb.1 rb.2] at hw
  have hc := cut_rnd (M : Int) exp false (by omega) (by omega)
  unfold exIs
  by_cases hR : sR (M : Int) exp = 0
  · have hu : sUp (sW (M : Int) exp) (sR (M : Int) exp) false = false := by rw [hR]; simp [sUp]
    rw [hu] at hc
    have jb := joinM_bd' (sW (M : Int) exp) (sE (M : Int) exp) wb.1 eb.1
    have hj : joinM (sW (M : Int) exp) (sE (M : Int) exp) = inf := by
      have : joinM (sW (M : Int) exp) (sE (M : Int) exp) = rnd (M : Int) exp false := by rw [← hc]; simp
      omega
    have := (cls_inf neg _ jb.1 jb.2).2 hj
    rw [this]; simp
  · simp [hR]

/-- of a finite word: its parts, halved till odd, are the number's just if it is that number's -/
theorem ex_iff (q u : Nat) (hw : cls (signW neg (rnd (o : Int) (exp + t) false)) ≤ 3) (hq : pman (signW neg (rnd (o : Int) (exp + t) false)) = ((q * 2 ^ u : Nat) : Int)) (hodd : q = 0 ∨ q % 2 = 1) :
    ((q = o ∧ pexp (signW neg (rnd (o : Int) (exp + t) false)) + u = exp + t) ↔ exIs neg ((o * 2 ^ t : Nat) : Int) exp = true) ∧
    (exIs neg ((o * 2 ^ t : Nat) : Int) exp = true → signW neg (joinM (sW ((o * 2 ^ t : Nat) : Int) exp) (sE ((o * 2 ^ t : Nat) : Int) exp)) = signW neg (rnd (o : Int) (exp + t) false)) := by
  have hm0 : 0 < o * 2 ^ t := Nat.mul_pos (by omega) (Nat.two_pow_pos t)
  have ht := man_lt_pow o t (by omega) h1
  have cl := cut_lost o t exp ho h1
  have ce := cut_exact o t exp ho h1
  rw [rnd_shift o t exp (by omega) h1] at hw hq ⊢
  generalize hM : o * 2 ^ t = M at *
  have wb := sW_bd (M : Int) exp (by omega) (by omega)
  have eb := sE_bd (M : Int) exp (by omega) (by omega)
  have rb := rnd_bd (M : Int) exp false (by omega) (by omega)
  have hfin := (cls_fin neg _ rb.1 rb.2).1 hw
  have hc := cut_rnd (M : Int) exp false (by omega) (by omega)
  have x1 : exp ≤ 2048 := by
    rcases Decidable.em (exp ≤ 2048) with g | g
    · exact g
    · exfalso
      have := sD_up (M : Int) exp (by omega) (by omega) (by omega) (sW (M : Int) exp + if sUp (sW (M : Int) exp) (sR (M : Int) exp) false then 1 else 0) (by split <;> omega)
      omega
  have s52 := sW_52 (M : Int) exp (by omega) (by omega)
  by_cases hR : sR (M : Int) exp = 0
  · have hu : sUp (sW (M : Int) exp) (sR (M : Int) exp) false = false := by rw [hR]; simp [sUp]
    rw [hu] at hc
    have hj : joinM (sW (M : Int) exp) (sE (M : Int) exp) = rnd (M : Int) exp false := by rw [← hc]; simp
    have hok : exIs neg (M : Int) exp = true := by
      unfold exIs
      rw [hR, hj]
      have : ¬ cls (signW neg (rnd (M : Int) exp false)) = 4 := by
        rw [cls_inf neg _ rb.1 rb.2]; omega
      simp [this]
    have x0 : -2048 ≤ exp := by
      rcases Decidable.em (-2048 ≤ exp) with g | g
      · exact g
      · exfalso
        have hb := bl_bd (M : Int) (by omega) (by omega)
        have hD : 64 < sD (M : Int) exp := by unfold sD sE sF; rw [if_neg (by omega)]; omega
        unfold sR at hR
        rw [if_neg (by omega), if_neg (by omega), if_neg (by omega)] at hR
        omega
    obtain ⟨v, hv1, hv2⟩ := ce x0 x1 hR
    have hv0 : 0 < o * 2 ^ v := Nat.mul_pos (by omega) (Nat.two_pow_pos v)
    have pj := pman_join neg (sW (M : Int) exp) (sE (M : Int) exp) (by omega) wb.2 eb.1 s52 (by omega)
    rw [hj] at pj
    rw [pj.1, hv1] at hq
    have hq' : q * 2 ^ u = o * 2 ^ v := by
      have : ((o * 2 ^ v : Nat) : Int) = ((q * 2 ^ u : Nat) : Int) := hq
      omega
    have hq1 : q % 2 = 1 := by
      rcases hodd with h | h
      · subst h; omega
      · exact h
    have hu := odd_pow_eq hq1 ho hq'
    refine ⟨⟨fun _ => hok, fun _ => ⟨hu.1, ?_⟩⟩, fun _ => by rw [hj]⟩
    rw [pj.2, hu.2]; exact hv2
  · have hno : exIs neg (M : Int) exp = false := by unfold exIs; simp [hR]
    have hlost := cl x1 hR
    rw [hno]
    refine ⟨⟨fun h => ?_, fun h => by cases h⟩, fun h => by cases h⟩
    exfalso
    obtain ⟨hqo, hqe⟩ := h
    have hv0 : 0 < q * 2 ^ u := Nat.mul_pos (by omega) (Nat.two_pow_pos u)
    have hpos : 0 < sW (M : Int) exp + if sUp (sW (M : Int) exp) (sR (M : Int) exp) false then 1 else 0 := by
      rcases Decidable.em (0 < sW (M : Int) exp + if sUp (sW (M : Int) exp) (sR (M : Int) exp) false then 1 else 0) with g | g
      · exact g
      · exfalso
        have hz : sW (M : Int) exp + (if sUp (sW (M : Int) exp) (sR (M : Int) exp) false then 1 else 0) = 0 := by
          have : (0 : Int) ≤ (if sUp (sW (M : Int) exp) (sR (M : Int) exp) false then 1 else 0) := by split <;> omega
          omega
        have hW0 : sW (M : Int) exp = 0 := by
          have : (0 : Int) ≤ (if sUp (sW (M : Int) exp) (sR (M : Int) exp) false then 1 else 0) := by split <;> omega
          omega
        have hE := s52 (by omega)
        rw [hz, hE] at hc
        have hr0 : rnd (M : Int) exp false = 0 := by rw [← hc]; decide
        rw [hr0] at hq
        have : pman (signW neg 0) = 0 := by cases neg <;> decide
        omega
    have hlow : sW (M : Int) exp + (if sUp (sW (M : Int) exp) (sR (M : Int) exp) false then 1 else 0) < 4503599627370496 → sE (M : Int) exp = -1074 := by
      intro h
      have : (0 : Int) ≤ (if sUp (sW (M : Int) exp) (sR (M : Int) exp) false then 1 else 0) := by split <;> omega
      exact s52 (by omega)
    have := pexp_join neg _ (sE (M : Int) exp) hpos (by split <;> omega) eb.1 hlow (by rw [hc]; exact hfin)
    rw [hc] at this
    omega
end
end Go.Bw
