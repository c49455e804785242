/-
  Words for floats: sizes, order.
-/
import Derived.Test.YtcdbjlmegkcaiaaGreatDoorZNB1
import Derived.Lib.BitFns
import Ieee.Arith
namespace Go.Bw
open Go
set_option linter.unusedVariables false

theorem Gaux_zero (f : Nat) : Lib.bitLenAux f 0 = 0 := by cases f <;> simp [Lib.bitLenAux]
theorem Gaux_spec : ∀ (f x : Nat), x < 2 ^ f → x < 2 ^ Lib.bitLenAux f x ∧ (x ≠ 0 → 1 ≤ Lib.bitLenAux f x ∧ 2 ^ (Lib.bitLenAux f x - 1) ≤ x)
  | 0, x, h => by
    have : x = 0 := by simpa using h
    subst this
    simp [Lib.bitLenAux]
  | f + 1, x, h => by
    by_cases h0 : x = 0
    · subst h0; simp [Lib.bitLenAux]
    · have ih := Gaux_spec f (x / 2) (by rw [Nat.pow_succ] at h; omega)
      have e : Lib.bitLenAux (f + 1) x = 1 + Lib.bitLenAux f (x / 2) := by rw [Lib.bitLenAux, if_neg h0]
      have hz : x / 2 = 0 → Lib.bitLenAux f (x / 2) = 0 := fun h => by rw [h]; exact Gaux_zero f
      rw [e]
      generalize Lib.bitLenAux f (x / 2) = b at ih hz
      refine ⟨?_, fun _ => ⟨by omega, ?_⟩⟩
      · rw [Nat.add_comm, Nat.pow_succ]; omega
      · rw [Nat.add_comm, Nat.add_sub_cancel]
        by_cases hx : x / 2 = 0
        · rw [hz hx]; omega
        · have := (ih.2 hx).2
          have h1 := (ih.2 hx).1
          have e3 : 2 ^ b = 2 ^ (b - 1) * 2 := by rw [← Nat.pow_succ]; congr 1; omega
          rw [e3]; omega
theorem Gbl_spec (n : Nat) (h : n < 18446744073709551616) : n < 2 ^ Lib.bitLen n ∧ (n ≠ 0 → 1 ≤ Lib.bitLen n ∧ 2 ^ (Lib.bitLen n - 1) ≤ n) := Gaux_spec 64 n h
theorem Gbl_le (n : Nat) (h : n < 18446744073709551616) : Lib.bitLen n ≤ 64 := Lib.bitLen_le n 64 (by decide) h

/-- the number of bits is told by two powers -/
theorem Gbl_uniq (n L : Nat) (h : n < 18446744073709551616) (a : n < 2 ^ L) (b : 2 ^ L ≤ 2 * n) : Lib.bitLen n = L := by
  have hp := Nat.two_pow_pos L
  have s := Gbl_spec n h
  have s2 := s.2 (by omega)
  generalize Lib.bitLen n = B at s s2
  rcases Nat.lt_trichotomy B L with c | c | c
  · exfalso
    have := Nat.pow_le_pow_right (show 0 < 2 by decide) (show B + 1 ≤ L from c)
    rw [Nat.pow_succ] at this
    omega
  · exact c
  · exfalso
    have := Nat.pow_le_pow_right (show 0 < 2 by decide) (show L ≤ B - 1 by omega)
    omega


def fin (x : Int) : Bool := decide (mag x < 9218868437227405312)
def inr (x : Int) : Bool := decide (mag x = 0 ∨ 2805742567851819008 ≤ mag x ∧ mag x ≤ 6408622269748215808)
def sgb (x : Int) : Int := if 9223372036854775808 ≤ x then 9223372036854775808 else 0
theorem Gmag_bd (x : Int) : 0 ≤ mag x ∧ mag x ≤ 9223372036854775807 := by unfold mag; omega
theorem sgb_mag (x : Int) (h0 : 0 ≤ x) (h1 : x ≤ 18446744073709551615) : sgb x + mag x = x := by
  unfold sgb mag; split <;> omega
theorem sgb_or (x : Int) : sgb x = 0 ∨ sgb x = 9223372036854775808 := by unfold sgb; split <;> simp
theorem fin_fld (x : Int) (h0 : 0 ≤ x) (h1 : x ≤ 18446744073709551615) : (x / 4503599627370496 % 2048 != 2047) = fin x := by
  unfold fin mag
  by_cases h : x % 9223372036854775808 < 9218868437227405312
  · rw [decide_eq_true h]; simp; omega
  · rw [decide_eq_false h]; simp; omega
theorem inr_fin {x : Int} (h : inr x = true) : fin x = true := by
  unfold inr at h; unfold fin; simp at h ⊢; omega

/-- the digits and the place of a finite word -/
def pm (x : Int) : Int := if fld x = 0 then frc x else 4503599627370496 + frc x
def px (x : Int) : Int := if fld x = 0 then -1074 else fld x - 1075
theorem pm_bd (x : Int) : 0 ≤ pm x ∧ pm x ≤ 9007199254740991 := by
  have := frc_bd x; unfold pm; split <;> omega
theorem pm_pos {x : Int} (h0 : 0 ≤ x) (h1 : x ≤ 18446744073709551615) (h : mag x ≠ 0) : 0 < pm x := by
  have a := mag_eq x h0 h1
  have b := frc_bd x
  have c := fld_bd x
  unfold pm; split
  · rename_i h2; rw [h2] at a; omega
  · omega
theorem px_bd {x : Int} (h0 : 0 ≤ x) (h1 : x ≤ 18446744073709551615) (h : fin x = true) : -1074 ≤ px x ∧ px x ≤ 971 := by
  have a := mag_eq x h0 h1
  have b := frc_bd x
  have c := fld_bd x
  unfold fin at h; simp at h
  unfold px; split <;> omega
/-- by how much the digits are moved up -/
def upw (x : Int) : Nat := 53 - Lib.bitLen (pm x).toNat
def nM (x : Int) : Int := pm x * 2 ^ upw x
def nE (x : Int) : Int := px x - upw x
/-- to the nearest whole number, ties to the even one -/
def rne (M : Int) (n : Nat) : Int := M / 2 ^ n + if (2 : Int) ^ n < 2 * (M % 2 ^ n) ∨ ((2 : Int) ^ n = 2 * (M % 2 ^ n) ∧ M / 2 ^ n % 2 = 1) then 1 else 0
def rsz (M e : Int) : Int := if e < -1074 then rne M (-1074 - e).toNat else if 971 < e then 9218868437227405312 else (e + 1074) * 4503599627370496 + M
/-- a word times 2^p -/
def tw (x p : Int) : Int := if fin x = false ∨ mag x = 0 then x else sgb x + rsz (nM x) (nE x + p)

theorem pow_cast (n : Nat) : ((2 ^ n : Nat) : Int) = (2 : Int) ^ n := by push_cast; rfl
theorem bl_fit {m : Nat} (h0 : 0 < m) (h1 : m ≤ 9007199254740991) : 1 ≤ Lib.bitLen m ∧ Lib.bitLen m ≤ 53 ∧ 4503599627370496 ≤ m * 2 ^ (53 - Lib.bitLen m) ∧ m * 2 ^ (53 - Lib.bitLen m) < 9007199254740992 := by
  obtain ⟨a, b⟩ := Gbl_spec m (by omega)
  obtain ⟨c, d⟩ := b (by omega)
  have hle : Lib.bitLen m ≤ 53 := by
    rcases Nat.lt_or_ge 53 (Lib.bitLen m) with g | g
    · exfalso
      have := Nat.pow_le_pow_right (show 0 < 2 by decide) (show 53 ≤ Lib.bitLen m - 1 by omega)
      omega
    · exact g
  generalize Lib.bitLen m = L at *
  have hp := Nat.two_pow_pos (53 - L)
  have e1 : 2 ^ (L - 1) * 2 ^ (53 - L) = 2 ^ 52 := by rw [← Nat.pow_add]; congr 1; omega
  have e2 : 2 ^ L * 2 ^ (53 - L) = 2 ^ 53 := by rw [← Nat.pow_add]; congr 1; omega
  have f1 := Nat.mul_le_mul_right (2 ^ (53 - L)) d
  have f2 := Nat.mul_lt_mul_of_pos_right a hp
  rw [e1] at f1
  rw [e2] at f2
  exact ⟨c, hle, by omega, by omega⟩
theorem nM_cast (x : Int) : nM x = (((pm x).toNat * 2 ^ upw x : Nat) : Int) := by
  have := pm_bd x
  unfold nM
  push_cast
  rw [Int.toNat_of_nonneg this.1]
theorem nM_bd {x : Int} (h0 : 0 ≤ x) (h1 : x ≤ 18446744073709551615) (h : mag x ≠ 0) : 4503599627370496 ≤ nM x ∧ nM x ≤ 9007199254740991 ∧ upw x ≤ 52 := by
  have a := pm_bd x
  have b := pm_pos h0 h1 h
  obtain ⟨c, d, e, f⟩ := bl_fit (m := (pm x).toNat) (by omega) (by omega)
  rw [nM_cast]
  unfold upw
  exact ⟨by omega, by omega, by omega⟩
theorem nE_bd {x : Int} (h0 : 0 ≤ x) (h1 : x ≤ 18446744073709551615) (hf : fin x = true) (h : mag x ≠ 0) : -1126 ≤ nE x ∧ nE x ≤ 971 := by
  have a := px_bd h0 h1 hf
  have b := (nM_bd h0 h1 h).2.2
  unfold nE; omega
theorem bl_lead {m : Nat} (h0 : 4503599627370496 ≤ m) (h1 : m ≤ 9007199254740991) : Lib.bitLen m = 53 := Gbl_uniq m 53 (by omega) (by omega) (by omega)
theorem up_normal {x : Int} (h : fld x ≠ 0) : upw x = 0 ∧ nM x = pm x ∧ nE x = px x := by
  have a := frc_bd x
  have e : upw x = 0 := by
    unfold upw pm
    rw [if_neg h, bl_lead (by omega) (by omega)]
  unfold nM nE
  rw [e]
  exact ⟨rfl, by simp, by simp⟩
theorem up_sub {x : Int} (h0 : 0 ≤ x) (h1 : x ≤ 18446744073709551615) (h : fld x = 0) (hm : mag x ≠ 0) : 1 ≤ upw x := by
  have a := frc_bd x
  have b := nM_bd h0 h1 hm
  rcases Nat.eq_zero_or_pos (upw x) with e | e
  · exfalso
    unfold nM pm at b
    rw [e, if_pos h] at b
    simp at b
    omega
  · exact e
theorem rne_exact (k : Int) (n : Nat) : rne (k * 2 ^ n) n = k := by
  have hp : (0 : Int) < 2 ^ n := Int.pow_pos (by decide)
  unfold rne
  rw [Int.mul_ediv_cancel _ (by omega), Int.mul_emod_left, if_neg (by omega)]
  omega
theorem pow_big {n : Nat} (h : 54 ≤ n) : (18014398509481984 : Int) ≤ 2 ^ n := by
  have := Nat.pow_le_pow_right (show 0 < 2 by decide) h
  have e := pow_cast n
  omega
theorem rne_far {M : Int} {n : Nat} (h0 : 0 ≤ M) (h1 : M ≤ 9007199254740991) (h : 54 ≤ n) : rne M n = 0 := by
  have hp := pow_big h
  unfold rne
  rw [Int.ediv_eq_zero_of_lt h0 (by omega), Int.emod_eq_of_lt h0 (by omega), if_neg (by omega)]
  rfl
/-- what a word is, by its normal digits -/
theorem rsz_self {x : Int} (h0 : 0 ≤ x) (h1 : x ≤ 18446744073709551615) (hf : fin x = true) (h : mag x ≠ 0) : rsz (nM x) (nE x) = mag x := by
  have a := mag_eq x h0 h1
  have b := frc_bd x
  have c := fld_bd x
  have d := px_bd h0 h1 hf
  by_cases hz : fld x = 0
  · have u := up_sub h0 h1 hz h
    have e : nE x = -1074 - upw x := by unfold nE px; rw [if_pos hz]
    unfold rsz
    rw [if_pos (by omega), show (-1074 - nE x).toNat = upw x by omega]
    unfold nM
    rw [rne_exact]
    unfold pm
    rw [if_pos hz, a, hz]
    omega
  · obtain ⟨u, v, w⟩ := up_normal hz
    rw [v, w]
    unfold rsz
    rw [if_neg (by omega), if_neg (by omega)]
    unfold px pm
    rw [if_neg hz, if_neg hz, a]
    omega
theorem tw_zero (x : Int) (h0 : 0 ≤ x) (h1 : x ≤ 18446744073709551615) : tw x 0 = x := by
  unfold tw
  by_cases c : fin x = false ∨ mag x = 0
  · rw [if_pos c]
  · rw [if_neg c, Int.add_zero]
    have hf : fin x = true := by
      cases hb : fin x
      · exact absurd (.inl hb) c
      · rfl
    rw [rsz_self h0 h1 hf (fun h => c (.inr h)), sgb_mag x h0 h1]
/-- beyond some power it is all the same -/
theorem rsz_clamp {M e p c : Int} (h0 : 0 ≤ M) (h1 : M ≤ 9007199254740991) (e0 : -1126 ≤ e) (e1 : e ≤ 971) (hc : 2200 ≤ c) : rsz M (e + max (-c) (min p c)) = rsz M (e + p) := by
  by_cases a : p < -c
  · rw [show max (-c) (min p c) = -c by omega]
    unfold rsz
    rw [if_pos (by omega), if_pos (by omega), rne_far h0 h1 (by omega), rne_far h0 h1 (by omega)]
  · by_cases b : c < p
    · rw [show max (-c) (min p c) = c by omega]
      unfold rsz
      rw [if_neg (by omega), if_pos (by omega), if_neg (by omega), if_pos (by omega)]
    · rw [show max (-c) (min p c) = p by omega]
theorem rne_bd {M : Int} {n : Nat} (h0 : 0 ≤ M) (h1 : M ≤ 9007199254740991) (hn : 1 ≤ n) : 0 ≤ rne M n ∧ rne M n ≤ 4503599627370496 := by
  have hp : (2 : Int) ≤ 2 ^ n := by
    have := Nat.pow_le_pow_right (show 0 < 2 by decide) hn
    have e := pow_cast n
    omega
  have q0 : 0 ≤ M / 2 ^ n := Int.ediv_nonneg h0 (by omega)
  have q1 : M / 2 ^ n ≤ M / 2 := by
    generalize (2 : Int) ^ n = P at *
    have := Int.ediv_mul_le M (show P ≠ 0 by omega)
    have h2 : (M / P) * 2 ≤ (M / P) * P := Int.mul_le_mul_of_nonneg_left hp q0
    omega
  unfold rne
  split <;> omega
theorem rsz_bd {M e : Int} (h0 : 4503599627370496 ≤ M) (h1 : M ≤ 9007199254740991) : 0 ≤ rsz M e ∧ rsz M e ≤ 9218868437227405312 := by
  unfold rsz
  split
  · have := rne_bd (M := M) (n := (-1074 - e).toNat) (by omega) h1 (by omega)
    omega
  · split <;> omega
theorem tw_bd (x p : Int) (h0 : 0 ≤ x) (h1 : x ≤ 18446744073709551615) : 0 ≤ tw x p ∧ tw x p ≤ 18446744073709551615 := by
  unfold tw
  by_cases c : fin x = false ∨ mag x = 0
  · rw [if_pos c]; exact ⟨h0, h1⟩
  · rw [if_neg c]
    have b := nM_bd h0 h1 (fun h => c (.inr h))
    have d := rsz_bd (e := nE x + p) b.1 b.2.1
    have := sgb_or x
    omega
/-- half up, and down where it is even: by one shift -/
theorem shr_rne {M : Int} {n : Nat} (h0 : 0 ≤ M) (hn : 1 ≤ n) : (M + 2 ^ (n - 1) - 1 + M / 2 ^ n % 2) / 2 ^ n = rne M n := by
  obtain ⟨k, rfl⟩ : ∃ k, n = k + 1 := ⟨n - 1, by omega⟩
  have hp : (0 : Int) < 2 ^ k := Int.pow_pos (by decide)
  unfold rne
  rw [show k + 1 - 1 = k from rfl, Int.pow_succ]
  generalize (2 : Int) ^ k = H at *
  have e := Int.emod_add_mul_ediv M (H * 2)
  have r0 := Int.emod_nonneg M (show H * 2 ≠ 0 by omega)
  have r1 := Int.emod_lt_of_pos M (show 0 < H * 2 by omega)
  generalize M % (H * 2) = r at *
  generalize M / (H * 2) = q at *
  have em : M + H - 1 + q % 2 = (r + H - 1 + q % 2) + H * 2 * q := by omega
  rw [em, Int.add_mul_ediv_left _ _ (show H * 2 ≠ 0 by omega)]
  by_cases c : H * 2 < 2 * r ∨ (H * 2 = 2 * r ∧ q % 2 = 1)
  · rw [if_pos c]
    have : (r + H - 1 + q % 2) / (H * 2) = 1 := by
      rw [Int.ediv_eq_iff_of_pos (by omega)]
      omega
    omega
  · rw [if_neg c, Int.ediv_eq_zero_of_lt (by omega) (by omega)]
    omega
end Go.Bw
namespace Go.Bw
open Go
set_option linter.unusedVariables false
set_option linter.unusedSimpArgs false

def GsignW (neg : Bool) (m : Int) : Int := if neg then 9223372036854775808 + m else m
theorem Gcut_even (neg : Bool) (n drop : Nat) : Ieee.Toward.even.cut neg n drop = n / 2 ^ drop + (if 2 ^ drop < 2 * (n % 2 ^ drop) ∨ (2 ^ drop = 2 * (n % 2 ^ drop) ∧ n / 2 ^ drop % 2 = 1) then 1 else 0) := by
  unfold Ieee.Toward.cut
  simp only [Nat.one_shiftLeft]
  have tb : ∀ (P : Prop) [Decidable P], (decide P).toNat = if P then 1 else 0 := by intro P _; by_cases h : P <;> simp [h]
  by_cases h : drop ≤ n.log2 + 2
  · rw [Nat.min_eq_left h]
    congr 1
    by_cases a : 2 ^ drop < 2 * (n % 2 ^ drop)
    · simp [a]
    · by_cases b : 2 ^ drop = 2 * (n % 2 ^ drop)
      · by_cases c : n / 2 ^ drop % 2 = 1
        · have e1 : (2 ^ drop == 2 * (n % 2 ^ drop)) = true := by simpa using b
          have e2 : (n / 2 ^ drop % 2 == 1) = true := by simpa using c
          rw [e1, e2, if_pos (.inr ⟨b, c⟩)]
          simp [a]
        · have e2 : (n / 2 ^ drop % 2 == 1) = false := by simpa using c
          rw [e2, if_neg (by rintro (h | h); exact a h; exact c h.2)]
          simp [a]
      · have e1 : (2 ^ drop == 2 * (n % 2 ^ drop)) = false := by simpa using b
        rw [e1, if_neg (by rintro (h | h); exact a h; exact b h.1)]
        simp [a]
  · rw [Nat.min_eq_right (by omega)]
    have hn : n < 2 ^ (n.log2 + 1) := Nat.lt_log2_self
    have h1 : 2 ^ (n.log2 + 2) = 2 * 2 ^ (n.log2 + 1) := by rw [Nat.pow_succ _ (n.log2 + 1)]; omega
    have h2 : 2 ^ (n.log2 + 2) ≤ 2 ^ drop := Nat.pow_le_pow_right (by decide) (by omega)
    rw [Nat.div_eq_of_lt (show n < 2 ^ (n.log2 + 2) by omega), Nat.mod_eq_of_lt (show n < 2 ^ (n.log2 + 2) by omega), Nat.div_eq_of_lt (show n < 2 ^ drop by omega), Nat.mod_eq_of_lt (show n < 2 ^ drop by omega)]
    rw [if_neg (by rintro (h | h); omega; omega)]
    have e1 : (2 ^ (n.log2 + 2) == 2 * n) = false := by simp; omega
    rw [e1]
    have e2 : ¬ 2 ^ (n.log2 + 2) < 2 * n := by omega
    simp [e2]

theorem Gdouble_word (neg : Bool) (r : Nat) : Ieee.double.word neg r = if neg then 9223372036854775808 + r else r := rfl
theorem Gdouble_least : Ieee.double.leastPlace = -1074 := by decide
theorem Gdouble_inf : Ieee.double.infRung = 9218868437227405312 := by decide
theorem Gdouble_binade : Ieee.double.binade = 4503599627370496 := by decide

/-- the machine's rounding, in powers -/
theorem Gnearest_is (neg : Bool) (M : Nat) (e : Int) (hM : M ≠ 0) :
    (Ieee.double.nearest neg M e : Int) = GsignW neg (min ((max (e + M.log2 - 52) (-1074) + 1074) * 4503599627370496 +
      (if max (e + M.log2 - 52) (-1074) - e ≤ 0 then (M : Int) * 2 ^ (-(max (e + M.log2 - 52) (-1074) - e)).toNat
       else ((M / 2 ^ (max (e + M.log2 - 52) (-1074) - e).toNat : Nat) : Int) + (if 2 ^ (max (e + M.log2 - 52) (-1074) - e).toNat < 2 * (M % 2 ^ (max (e + M.log2 - 52) (-1074) - e).toNat) ∨
         (2 ^ (max (e + M.log2 - 52) (-1074) - e).toNat = 2 * (M % 2 ^ (max (e + M.log2 - 52) (-1074) - e).toNat) ∧ M / 2 ^ (max (e + M.log2 - 52) (-1074) - e).toNat % 2 = 1) then 1 else 0))) inf) := by
  unfold Ieee.Format.nearest
  rw [if_neg hM]
  simp only [Gdouble_word, Gdouble_least, Gdouble_inf, Gdouble_binade, show (Ieee.double.fractionBits : Int) = 52 from rfl]
  have hl : -1074 ≤ max (e + (M.log2 : Int) - 52) (-1074) := Int.le_max_right _ _
  generalize max (e + (M.log2 : Int) - 52) (-1074) = L at *
  rw [Gcut_even]
  have key : ((min ((L - -1074).toNat * 4503599627370496 + (M <<< (e - L).toNat / 2 ^ (L - e).toNat + (if 2 ^ (L - e).toNat < 2 * (M <<< (e - L).toNat % 2 ^ (L - e).toNat) ∨ 2 ^ (L - e).toNat = 2 * (M <<< (e - L).toNat % 2 ^ (L - e).toNat) ∧ M <<< (e - L).toNat / 2 ^ (L - e).toNat % 2 = 1 then 1 else 0))) 9218868437227405312 : Nat) : Int) =
      min ((L + 1074) * 4503599627370496 + (if L - e ≤ 0 then (M : Int) * 2 ^ (-(L - e)).toNat else ((M / 2 ^ (L - e).toNat : Nat) : Int) + (if 2 ^ (L - e).toNat < 2 * (M % 2 ^ (L - e).toNat) ∨ (2 ^ (L - e).toNat = 2 * (M % 2 ^ (L - e).toNat) ∧ M / 2 ^ (L - e).toNat % 2 = 1) then 1 else 0))) inf := by
    by_cases c : L - e ≤ 0
    · rw [if_pos c, show (L - e).toNat = 0 by omega, Nat.pow_zero, Nat.div_one, Nat.mod_one, if_neg (by omega), Nat.shiftLeft_eq, Nat.add_zero, show (-(L - e)).toNat = (e - L).toNat by omega]
      have hk : ((M * 2 ^ (e - L).toNat : Nat) : Int) = (M : Int) * 2 ^ (e - L).toNat := by push_cast; rfl
      rw [← hk]
      generalize M * 2 ^ (e - L).toNat = K at *
      unfold inf
      omega
    · rw [if_neg c, show (e - L).toNat = 0 by omega, Nat.shiftLeft_zero]
      split
      · generalize M / 2 ^ (L - e).toNat = K at *
        unfold inf
        omega
      · generalize M / 2 ^ (L - e).toNat = K at *
        unfold inf
        omega
  unfold GsignW
  cases neg
  · simpa using key
  · simp only [if_true]
    rw [← key]
    rfl

theorem log2_shift (M k : Nat) (h : M ≠ 0) : (M * 2 ^ k).log2 = M.log2 + k := by
  have hp := Nat.two_pow_pos k
  have h2 : M * 2 ^ k ≠ 0 := Nat.mul_ne_zero h (by omega)
  rw [Nat.log2_eq_iff h2]
  have a1 : 2 ^ M.log2 ≤ M := Nat.log2_self_le h
  have a2 : M < 2 ^ (M.log2 + 1) := Nat.lt_log2_self
  constructor
  · rw [Nat.pow_add]
    exact Nat.mul_le_mul_right _ a1
  · rw [show M.log2 + k + 1 = M.log2 + 1 + k by omega, Nat.pow_add 2 (M.log2 + 1) k]
    exact Nat.mul_lt_mul_of_pos_right a2 hp
/-- the machine's rounding looks at the number alone -/
theorem nearest_shift (neg : Bool) (M k : Nat) (e : Int) (hM : M ≠ 0) : Ieee.double.nearest neg (M * 2 ^ k) (e - k) = Ieee.double.nearest neg M e := by
  have hp := Nat.two_pow_pos k
  have h2 : M * 2 ^ k ≠ 0 := Nat.mul_ne_zero hM (by omega)
  apply Int.ofNat_inj.1
  rw [Gnearest_is neg _ _ h2, Gnearest_is neg _ _ hM, log2_shift M k hM]
  rw [show e - (k : Int) + ((M.log2 + k : Nat) : Int) - 52 = e + (M.log2 : Int) - 52 by omega]
  generalize max (e + (M.log2 : Int) - 52) (-1074) = L
  congr 3
  by_cases c1 : L - (e - (k : Int)) ≤ 0
  · rw [if_pos c1, if_pos (show L - e ≤ 0 by omega)]
    rw [show (-(L - e)).toNat = k + (-(L - (e - (k : Int)))).toNat by omega, Int.pow_add]
    push_cast
    rw [Int.mul_assoc]
  · rw [if_neg c1]
    by_cases c2 : L - e ≤ 0
    · rw [if_pos c2]
      obtain ⟨d, hd⟩ : ∃ d : Nat, (L - (e - (k : Int))).toNat = d := ⟨_, rfl⟩
      obtain ⟨j, hj⟩ : ∃ j : Nat, (-(L - e)).toNat = j := ⟨_, rfl⟩
      have hk : k = j + d := by omega
      have hpd := Nat.two_pow_pos d
      rw [hd, hj, hk, Nat.pow_add, ← Nat.mul_assoc, Nat.mul_div_cancel _ hpd, Nat.mul_mod_left]
      rw [if_neg (by rintro (h | h); omega; omega)]
      push_cast
      omega
    · rw [if_neg c2]
      obtain ⟨d, hd⟩ : ∃ d : Nat, (L - e).toNat = d := ⟨_, rfl⟩
      rw [hd, show (L - (e - (k : Int))).toNat = d + k by omega, Nat.pow_add, Nat.mul_div_mul_right _ _ hp, Nat.mul_mod_mul_right]
      congr 1
      generalize M % 2 ^ d = r
      generalize M / 2 ^ d = v
      generalize 2 ^ d = P
      generalize 2 ^ k = K at *
      have e1 : (P * K < 2 * (r * K)) ↔ (P < 2 * r) := by
        rw [← Nat.mul_assoc]
        exact ⟨fun h => Nat.lt_of_mul_lt_mul_right h, fun h => Nat.mul_lt_mul_of_pos_right h hp⟩
      have e2 : (P * K = 2 * (r * K)) ↔ (P = 2 * r) := by
        rw [← Nat.mul_assoc]
        exact ⟨fun h => Nat.eq_of_mul_eq_mul_right hp h, fun h => by rw [h]⟩
      simp only [e1, e2]

/-- what stands for a word without its sign: the digits, and the place above the least -/
def dg (r : Nat) : Nat := if r < 4503599627370496 then r else 4503599627370496 + r % 4503599627370496
def pl (r : Nat) : Nat := if r < 4503599627370496 then 0 else r / 4503599627370496 - 1
theorem read_word (y : Nat) (hf : y % 9223372036854775808 < 9218868437227405312) : Ieee.double.read y = .number (y / 9223372036854775808 % 2 == 1) (dg (y % 9223372036854775808)) (-1074 + (pl (y % 9223372036854775808) : Nat)) := by
  have e : Ieee.double.signWeight = 9223372036854775808 ∧ Ieee.double.binade = 4503599627370496 ∧ Ieee.double.infRung = 9218868437227405312 := by decide
  obtain ⟨e1, e2, e3⟩ := e
  unfold Ieee.Format.read
  simp only [e1, e2, e3, Gdouble_least]
  unfold dg pl
  by_cases a : y % 9223372036854775808 < 4503599627370496
  · rw [if_pos a, if_pos a, if_pos a]; rfl
  · rw [if_neg a, if_pos hf, if_neg a, if_neg a]
/-- the number, in least floats -/
def vl (r : Nat) : Nat := dg r * 2 ^ pl r
theorem vl_mono {r s : Nat} (h : r < s) : vl r < vl s := by
  unfold vl dg pl
  by_cases a : s < 4503599627370496
  · rw [if_pos a, if_pos a, if_pos (by omega), if_pos (by omega)]; simpa using h
  · rw [if_neg a, if_neg a]
    have hs := Nat.two_pow_pos (s / 4503599627370496 - 1)
    by_cases b : r < 4503599627370496
    · rw [if_pos b, if_pos b]
      have : 4503599627370496 * 1 ≤ (4503599627370496 + s % 4503599627370496) * 2 ^ (s / 4503599627370496 - 1) := Nat.mul_le_mul (by omega) hs
      simpa using (by omega : r < _)
    · rw [if_neg b, if_neg b]
      by_cases c : r / 4503599627370496 = s / 4503599627370496
      · rw [c]
        exact Nat.mul_lt_mul_of_pos_right (by omega) hs
      · obtain ⟨k, hk⟩ : ∃ k, s / 4503599627370496 - 1 = (r / 4503599627370496 - 1) + 1 + k := ⟨s / 4503599627370496 - 1 - (r / 4503599627370496 - 1) - 1, by omega⟩
        have hr := Nat.two_pow_pos (r / 4503599627370496 - 1)
        have hkp := Nat.two_pow_pos k
        rw [hk, Nat.pow_add, Nat.pow_succ]
        calc (4503599627370496 + r % 4503599627370496) * 2 ^ (r / 4503599627370496 - 1) < 9007199254740992 * 2 ^ (r / 4503599627370496 - 1) := Nat.mul_lt_mul_of_pos_right (by omega) hr
          _ = 4503599627370496 * (2 ^ (r / 4503599627370496 - 1) * 2 * 1) := by omega
          _ ≤ (4503599627370496 + s % 4503599627370496) * (2 ^ (r / 4503599627370496 - 1) * 2 * 2 ^ k) := Nat.mul_le_mul (by omega) (Nat.mul_le_mul_left _ hkp)
theorem vl_le {r s : Nat} : vl r ≤ vl s ↔ r ≤ s := by
  constructor
  · intro h
    rcases Nat.lt_or_ge s r with g | g
    · have := vl_mono g; omega
    · exact g
  · intro h
    rcases Nat.lt_or_ge r s with g | g
    · exact Nat.le_of_lt (vl_mono g)
    · obtain rfl : r = s := by omega
      exact Nat.le_refl _
/-- a word as a number's rank: below 0 with the sign -/
def sm (x : Int) : Int := if 9223372036854775808 ≤ x then -mag x else mag x
/-- what it is worth, in least floats -/
def sv (y : Nat) : Int := if y / 9223372036854775808 % 2 == 1 then -(vl (y % 9223372036854775808) : Int) else vl (y % 9223372036854775808)
theorem vl_zero : vl 0 = 0 := by decide
theorem sv_cases (y : Nat) (hy : y ≤ 18446744073709551615) : (sv y = -(vl (y % 9223372036854775808) : Int) ∧ sm (y : Int) = -((y % 9223372036854775808 : Nat) : Int)) ∨ (sv y = (vl (y % 9223372036854775808) : Int) ∧ sm (y : Int) = ((y % 9223372036854775808 : Nat) : Int)) := by
  unfold sv sm mag
  by_cases c : 9223372036854775808 ≤ y
  · have e : (y / 9223372036854775808 % 2 == 1) = true := by simp; omega
    left
    rw [if_pos e, if_pos (show (9223372036854775808 : Int) ≤ (y : Int) by omega)]
    exact ⟨rfl, by omega⟩
  · have e : ¬ (y / 9223372036854775808 % 2 == 1) = true := by simp; omega
    right
    rw [if_neg e, if_neg (show ¬ (9223372036854775808 : Int) ≤ (y : Int) by omega)]
    exact ⟨rfl, by omega⟩
theorem sv_lt {y z : Nat} (hy : y ≤ 18446744073709551615) (hz : z ≤ 18446744073709551615) : sv y < sv z ↔ sm (y : Int) < sm (z : Int) := by
  have m : ∀ r s : Nat, (vl r < vl s ↔ r < s) := fun r s => by have := @vl_le s r; omega
  have z0 := vl_zero
  have h1 := m (y % 9223372036854775808) (z % 9223372036854775808)
  have h2 := m (z % 9223372036854775808) (y % 9223372036854775808)
  have h3 := m 0 (y % 9223372036854775808)
  have h4 := m 0 (z % 9223372036854775808)
  rw [z0] at h3 h4
  rcases sv_cases y hy with ⟨a1, a2⟩ | ⟨a1, a2⟩ <;> rcases sv_cases z hz with ⟨b1, b2⟩ | ⟨b1, b2⟩ <;> rw [a1, a2, b1, b2] <;> generalize vl (y % 9223372036854775808) = a at * <;> generalize vl (z % 9223372036854775808) = b at * <;> omega
theorem signed_is (s : Bool) (m k : Nat) : Ieee.signed s m k = (if s then -((m * 2 ^ k : Nat) : Int) else ((m * 2 ^ k : Nat) : Int)) := by
  unfold Ieee.signed
  rw [Nat.shiftLeft_eq]
theorem cmp_scale {a b : Int} {P : Int} (hP : 0 < P) : compare (a * P) (b * P) = compare a b := by
  have l : a * P < b * P ↔ a < b := ⟨fun h => Int.lt_of_mul_lt_mul_right h (Int.le_of_lt hP), fun h => Int.mul_lt_mul_of_pos_right h hP⟩
  have e : a * P = b * P ↔ a = b := ⟨fun h => Int.eq_of_mul_eq_mul_right (Int.ne_of_gt hP) h, fun h => by rw [h]⟩
  simp only [compare, compareOfLessAndEq, l, e]
theorem order_sv (y z : Nat) (hf : y % 9223372036854775808 < 9218868437227405312) (hg : z % 9223372036854775808 < 9218868437227405312) : Ieee.double.order y z = some (compare (sv y) (sv z)) := by
  unfold Ieee.Format.order
  rw [read_word y hf, read_word z hg]
  unfold Ieee.Datum.order
  dsimp only
  congr 1
  obtain ⟨i, hi⟩ : ∃ i, pl (y % 9223372036854775808) = i := ⟨_, rfl⟩
  obtain ⟨j, hj⟩ : ∃ j, pl (z % 9223372036854775808) = j := ⟨_, rfl⟩
  obtain ⟨b, hb⟩ : ∃ b : Nat, min i j = b := ⟨_, rfl⟩
  have e1 : (-1074 + (i : Int) - min (-1074 + (i : Int)) (-1074 + (j : Int))).toNat = i - b := by omega
  have e2 : (-1074 + (j : Int) - min (-1074 + (i : Int)) (-1074 + (j : Int))).toNat = j - b := by omega
  rw [hi, hj, e1, e2, signed_is, signed_is]
  have hP : (0 : Int) < 2 ^ b := Int.pow_pos (by decide)
  rw [← cmp_scale hP]
  unfold sv vl
  rw [hi, hj]
  have f : ∀ (d k : Nat), b ≤ k → ((d * 2 ^ (k - b) : Nat) : Int) * 2 ^ b = ((d * 2 ^ k : Nat) : Int) := fun d k hk => by
    rw [← pow_cast b, ← Int.natCast_mul, Nat.mul_assoc, ← Nat.pow_add, Nat.sub_add_cancel hk]
  have f1 := f (dg (y % 9223372036854775808)) i (by omega)
  have f2 := f (dg (z % 9223372036854775808)) j (by omega)
  congr 1
  · split
    · rw [Int.neg_mul, f1]
    · exact f1
  · split
    · rw [Int.neg_mul, f2]
    · exact f2
theorem order_lt (y z : Nat) (hy : y ≤ 18446744073709551615) (hz : z ≤ 18446744073709551615) (hf : fin (y : Int) = true) (hg : fin (z : Int) = true) :
    (FloatKind.f64.format.order y z == some .lt) = decide (sm (y : Int) < sm (z : Int)) ∧ (FloatKind.f64.format.order y z == some .gt) = decide (sm (z : Int) < sm (y : Int)) ∧ (FloatKind.f64.format.order y z == some .eq) = decide (sm (y : Int) = sm (z : Int)) := by
  unfold fin mag at hf hg
  simp at hf hg
  have h : FloatKind.f64.format.order y z = some (compare (sv y) (sv z)) := order_sv y z (by omega) (by omega)
  rw [h]
  have a := sv_lt hy hz
  have b := sv_lt hz hy
  simp only [compare, compareOfLessAndEq]
  by_cases c : sv y < sv z
  · have c2 := a.1 c
    rw [if_pos c]
    refine ⟨by simp; omega, by simp; omega, by simp; omega⟩
  · have c2 : ¬ sm (y : Int) < sm (z : Int) := fun h => c (a.2 h)
    rw [if_neg c]
    by_cases d : sv y = sv z
    · have d2 : ¬ sm (z : Int) < sm (y : Int) := fun h => by have := b.2 h; omega
      rw [if_pos d]
      refine ⟨by simp; omega, by simp; omega, by simp; omega⟩
    · have d2 : sm (z : Int) < sm (y : Int) := b.1 (by omega)
      rw [if_neg d]
      refine ⟨by simp; omega, by simp; omega, by simp; omega⟩
end Go.Bw
