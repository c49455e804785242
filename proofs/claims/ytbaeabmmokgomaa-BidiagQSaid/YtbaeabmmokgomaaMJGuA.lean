/-
  Layer 5, plain mathematics: a word that is finite, in range; a word's number, normal; a word times a power of 2.
-/
import Derived.Test.YtbaeabmmokgomaaMJBitsA
import Derived.Lib.BitFns
namespace Go.Bw
open Go
set_option linter.unusedVariables false

theorem aux_zero (f : Nat) : Lib.bitLenAux f 0 = 0 := by cases f <;> simp [Lib.bitLenAux]
theorem aux_spec : ∀ (f x : Nat), x < 2 ^ f → x < 2 ^ Lib.bitLenAux f x ∧ (x ≠ 0 → 1 ≤ Lib.bitLenAux f x ∧ 2 ^ (Lib.bitLenAux f x - 1) ≤ x)
  | 0, x, h => by
    have : x = 0 := by simpa using h
    subst this
    simp [Lib.bitLenAux]
  | f + 1, x, h => by
    by_cases h0 : x = 0
    · subst h0; simp [Lib.bitLenAux]
    · have ih := aux_spec f (x / 2) (by rw [Nat.pow_succ] at h; omega)
      have e : Lib.bitLenAux (f + 1) x = 1 + Lib.bitLenAux f (x / 2) := by rw [Lib.bitLenAux, if_neg h0]
      have hz : x / 2 = 0 → Lib.bitLenAux f (x / 2) = 0 := fun h => by rw [h]; exact aux_zero f
      rw [e]
      generalize Lib.bitLenAux f (x / 2) = b at ih hz
      refine ⟨?_, fun _ => ⟨by omega, ?_⟩⟩
      · rw [Nat.add_comm, Nat.pow_succ]; omega
      · rw [Nat.add_comm, Nat.add_sub_cancel]
        by_cases hx : x / 2 = 0
        · rw [hz hx]; omega
        · have := (ih.2 hx).2
          have h1 := (ih.2 hx).1
          have e3 : 2 ^ b = 2 ^ (b - 1) * 2 := by rw [← Nat.pow_succ]; congr 1; omega
          rw [e3]; omega
theorem bl_spec (n : Nat) (h : n < 18446744073709551616) : n < 2 ^ Lib.bitLen n ∧ (n ≠ 0 → 1 ≤ Lib.bitLen n ∧ 2 ^ (Lib.bitLen n - 1) ≤ n) := aux_spec 64 n h
theorem bl_le (n : Nat) (h : n < 18446744073709551616) : Lib.bitLen n ≤ 64 := Lib.bitLen_le n 64 (by decide) h

/-- the number of bits is told by two powers -/
theorem bl_uniq (n L : Nat) (h : n < 18446744073709551616) (a : n < 2 ^ L) (b : 2 ^ L ≤ 2 * n) : Lib.bitLen n = L := by
  have hp := Nat.two_pow_pos L
  have s := bl_spec n h
  have s2 := s.2 (by omega)
  generalize Lib.bitLen n = B at s s2
  rcases Nat.lt_trichotomy B L with c | c | c
  · exfalso
    have := Nat.pow_le_pow_right (show 0 < 2 by decide) (show B + 1 ≤ L from c)
    rw [Nat.pow_succ] at this
    omega
  · exact c
  · exfalso
    have := Nat.pow_le_pow_right (show 0 < 2 by decide) (show L ≤ B - 1 by omega)
    omega


def fin (x : Int) : Bool := decide (mag x < 9218868437227405312)
def inr (x : Int) : Bool := decide (mag x = 0 ∨ 2805742567851819008 ≤ mag x ∧ mag x ≤ 6408622269748215808)
def sgb (x : Int) : Int := if 9223372036854775808 ≤ x then 9223372036854775808 else 0
theorem mag_bd (x : Int) : 0 ≤ mag x ∧ mag x ≤ 9223372036854775807 := by unfold mag; omega
theorem sgb_mag (x : Int) (h0 : 0 ≤ x) (h1 : x ≤ 18446744073709551615) : sgb x + mag x = x := by
  unfold sgb mag; split <;> omega
theorem sgb_or (x : Int) : sgb x = 0 ∨ sgb x = 9223372036854775808 := by unfold sgb; split <;> simp
theorem fin_fld (x : Int) (h0 : 0 ≤ x) (h1 : x ≤ 18446744073709551615) : (x / 4503599627370496 % 2048 != 2047) = fin x := by
  unfold fin mag
  by_cases h : x % 9223372036854775808 < 9218868437227405312
  · rw [decide_eq_true h]; simp; omega
  · rw [decide_eq_false h]; simp; omega
theorem inr_fin {x : Int} (h : inr x = true) : fin x = true := by
  unfold inr at h; unfold fin; simp at h ⊢; omega

/-- the digits and the place of a finite word -/
def pm (x : Int) : Int := if fld x = 0 then frc x else 4503599627370496 + frc x
def px (x : Int) : Int := if fld x = 0 then -1074 else fld x - 1075
theorem pm_bd (x : Int) : 0 ≤ pm x ∧ pm x ≤ 9007199254740991 := by
  have := frc_bd x; unfold pm; split <;> omega
theorem pm_pos {x : Int} (h0 : 0 ≤ x) (h1 : x ≤ 18446744073709551615) (h : mag x ≠ 0) : 0 < pm x := by
  have a := mag_eq x h0 h1
  have b := frc_bd x
  have c := fld_bd x
  unfold pm; split
  · rename_i h2; rw [h2] at a; omega
  · omega
theorem px_bd {x : Int} (h0 : 0 ≤ x) (h1 : x ≤ 18446744073709551615) (h : fin x = true) : -1074 ≤ px x ∧ px x ≤ 971 := by
  have a := mag_eq x h0 h1
  have b := frc_bd x
  have c := fld_bd x
  unfold fin at h; simp at h
  unfold px; split <;> omega
/-- by how much the digits are moved up -/
def upw (x : Int) : Nat := 53 - Lib.bitLen (pm x).toNat
def nM (x : Int) : Int := pm x * 2 ^ upw x
def nE (x : Int) : Int := px x - upw x
/-- to the nearest whole number, ties to the even one -/
def rne (M : Int) (n : Nat) : Int := M / 2 ^ n + if (2 : Int) ^ n < 2 * (M % 2 ^ n) ∨ ((2 : Int) ^ n = 2 * (M % 2 ^ n) ∧ M / 2 ^ n % 2 = 1) then 1 else 0
def rsz (M e : Int) : Int := if e < -1074 then rne M (-1074 - e).toNat else if 971 < e then 9218868437227405312 else (e + 1074) * 4503599627370496 + M
/-- a word times 2^p -/
def tw (x p : Int) : Int := if fin x = false ∨ mag x = 0 then x else sgb x + rsz (nM x) (nE x + p)

theorem pow_cast (n : Nat) : ((2 ^ n : Nat) : Int) = (2 : Int) ^ n := by push_cast; rfl
theorem bl_fit {m : Nat} (h0 : 0 < m) (h1 : m ≤ 9007199254740991) : 1 ≤ Lib.bitLen m ∧ Lib.bitLen m ≤ 53 ∧ 4503599627370496 ≤ m * 2 ^ (53 - Lib.bitLen m) ∧ m * 2 ^ (53 - Lib.bitLen m) < 9007199254740992 := by
  obtain ⟨a, b⟩ := bl_spec m (by omega)
  obtain ⟨c, d⟩ := b (by omega)
  have hle : Lib.bitLen m ≤ 53 := by
    rcases Nat.lt_or_ge 53 (Lib.bitLen m) with g | g
    · exfalso
      have := Nat.pow_le_pow_right (show 0 < 2 by decide) (show 53 ≤ Lib.bitLen m - 1 by omega)
      omega
    · exact g
  generalize Lib.bitLen m = L at *
  have hp := Nat.two_pow_pos (53 - L)
  have e1 : 2 ^ (L - 1) * 2 ^ (53 - L) = 2 ^ 52 := by rw [← Nat.pow_add]; congr 1; omega
  have e2 : 2 ^ L * 2 ^ (53 - L) = 2 ^ 53 := by rw [← Nat.pow_add]; congr 1; omega
  have f1 := Nat.mul_le_mul_right (2 ^ (53 - L)) d
  have f2 := Nat.mul_lt_mul_of_pos_right a hp
  rw [e1] at f1
  rw [e2] at f2
  exact ⟨c, hle, by omega, by omega⟩
theorem nM_cast (x : Int) : nM x = (((pm x).toNat * 2 ^ upw x : Nat) : Int) := by
  have := pm_bd x
  unfold nM
  push_cast
  rw [Int.toNat_of_nonneg this.1]
theorem nM_bd {x : Int} (h0 : 0 ≤ x) (h1 : x ≤ 18446744073709551615) (h : mag x ≠ 0) : 4503599627370496 ≤ nM x ∧ nM x ≤ 9007199254740991 ∧ upw x ≤ 52 := by
  have a := pm_bd x
  have b := pm_pos h0 h1 h
  obtain ⟨c, d, e, f⟩ := bl_fit (m := (pm x).toNat) (by omega) (by omega)
  rw [nM_cast]
  unfold upw
  exact ⟨by omega, by omega, by omega⟩
theorem nE_bd {x : Int} (h0 : 0 ≤ x) (h1 : x ≤ 18446744073709551615) (hf : fin x = true) (h : mag x ≠ 0) : -1126 ≤ nE x ∧ nE x ≤ 971 := by
  have a := px_bd h0 h1 hf
  have b := (nM_bd h0 h1 h).2.2
  unfold nE; omega
theorem bl_lead {m : Nat} (h0 : 4503599627370496 ≤ m) (h1 : m ≤ 9007199254740991) : Lib.bitLen m = 53 := bl_uniq m 53 (by omega) (by omega) (by omega)
theorem up_normal {x : Int} (h : fld x ≠ 0) : upw x = 0 ∧ nM x = pm x ∧ nE x = px x := by
  have a := frc_bd x
  have e : upw x = 0 := by
    unfold upw pm
    rw [if_neg h, bl_lead (by omega) (by omega)]
  unfold nM nE
  rw [e]
  exact ⟨rfl, by simp, by simp⟩
theorem up_sub {x : Int} (h0 : 0 ≤ x) (h1 : x ≤ 18446744073709551615) (h : fld x = 0) (hm : mag x ≠ 0) : 1 ≤ upw x := by
  have a := frc_bd x
  have b := nM_bd h0 h1 hm
  rcases Nat.eq_zero_or_pos (upw x) with e | e
  · exfalso
    unfold nM pm at b
    rw [e, if_pos h] at b
    simp at b
    omega
  · exact e
theorem rne_exact (k : Int) (n : Nat) : rne (k * 2 ^ n) n = k := by
  have hp : (0 : Int) < 2 ^ n := Int.pow_pos (by decide)
  unfold rne
  rw [Int.mul_ediv_cancel _ (by omega), Int.mul_emod_left, if_neg (by omega)]
  omega
theorem pow_big {n : Nat} (h : 54 ≤ n) : (18014398509481984 : Int) ≤ 2 ^ n := by
  have := Nat.pow_le_pow_right (show 0 < 2 by decide) h
  have e := pow_cast n
  omega
theorem rne_far {M : Int} {n : Nat} (h0 : 0 ≤ M) (h1 : M ≤ 9007199254740991) (h : 54 ≤ n) : rne M n = 0 := by
  have hp := pow_big h
  unfold rne
  rw [Int.ediv_eq_zero_of_lt h0 (by omega), Int.emod_eq_of_lt h0 (by omega), if_neg (by omega)]
  rfl
/-- what a word is, by its normal digits -/
theorem rsz_self {x : Int} (h0 : 0 ≤ x) (h1 : x ≤ 18446744073709551615) (hf : fin x = true) (h : mag x ≠ 0) : rsz (nM x) (nE x) = mag x := by
  have a := mag_eq x h0 h1
  have b := frc_bd x
  have c := fld_bd x
  have d := px_bd h0 h1 hf
  by_cases hz : fld x = 0
  · have u := up_sub h0 h1 hz h
    have e : nE x = -1074 - upw x := by unfold nE px; rw [if_pos hz]
    unfold rsz
    rw [if_pos (by omega), show (-1074 - nE x).toNat = upw x by omega]
    unfold nM
    rw [rne_exact]
    unfold pm
    rw [if_pos hz, a, hz]
    omega
  · obtain ⟨u, v, w⟩ := up_normal hz
    rw [v, w]
    unfold rsz
    rw [if_neg (by omega), if_neg (by omega)]
    unfold px pm
    rw [if_neg hz, if_neg hz, a]
    omega
theorem tw_zero (x : Int) (h0 : 0 ≤ x) (h1 : x ≤ 18446744073709551615) : tw x 0 = x := by
  unfold tw
  by_cases c : fin x = false ∨ mag x = 0
  · rw [if_pos c]
  · rw [if_neg c, Int.add_zero]
    have hf : fin x = true := by
      cases hb : fin x
      · exact absurd (.inl hb) c
      · rfl
    rw [rsz_self h0 h1 hf (fun h => c (.inr h)), sgb_mag x h0 h1]
/-- beyond some power it is all the same -/
theorem rsz_clamp {M e p c : Int} (h0 : 0 ≤ M) (h1 : M ≤ 9007199254740991) (e0 : -1126 ≤ e) (e1 : e ≤ 971) (hc : 2200 ≤ c) : rsz M (e + max (-c) (min p c)) = rsz M (e + p) := by
  by_cases a : p < -c
  · rw [show max (-c) (min p c) = -c by omega]
    unfold rsz
    rw [if_pos (by omega), if_pos (by omega), rne_far h0 h1 (by omega), rne_far h0 h1 (by omega)]
  · by_cases b : c < p
    · rw [show max (-c) (min p c) = c by omega]
      unfold rsz
      rw [if_neg (by omega), if_pos (by omega), if_neg (by omega), if_pos (by omega)]
    · rw [show max (-c) (min p c) = p by omega]
theorem rne_bd {M : Int} {n : Nat} (h0 : 0 ≤ M) (h1 : M ≤ 9007199254740991) (hn : 1 ≤ n) : 0 ≤ rne M n ∧ rne M n ≤ 4503599627370496 := by
  have hp : (2 : Int) ≤ 2 ^ n := by
    have := Nat.pow_le_pow_right (show 0 < 2 by decide) hn
    have e := pow_cast n
    omega
  have q0 : 0 ≤ M / 2 ^ n := Int.ediv_nonneg h0 (by omega)
  have q1 : M / 2 ^ n ≤ M / 2 := by
    generalize (2 : Int) ^ n = P at *
    have := Int.ediv_mul_le M (show P ≠ 0 by omega)
    have h2 : (M / P) * 2 ≤ (M / P) * P := Int.mul_le_mul_of_nonneg_left hp q0
    omega
  unfold rne
  split <;> omega
theorem rsz_bd {M e : Int} (h0 : 4503599627370496 ≤ M) (h1 : M ≤ 9007199254740991) : 0 ≤ rsz M e ∧ rsz M e ≤ 9218868437227405312 := by
  unfold rsz
  split
  · have := rne_bd (M := M) (n := (-1074 - e).toNat) (by omega) h1 (by omega)
    omega
  · split <;> omega
theorem tw_bd (x p : Int) (h0 : 0 ≤ x) (h1 : x ≤ 18446744073709551615) : 0 ≤ tw x p ∧ tw x p ≤ 18446744073709551615 := by
  unfold tw
  by_cases c : fin x = false ∨ mag x = 0
  · rw [if_pos c]; exact ⟨h0, h1⟩
  · rw [if_neg c]
    have b := nM_bd h0 h1 (fun h => c (.inr h))
    have d := rsz_bd (e := nE x + p) b.1 b.2.1
    have := sgb_or x
    omega
/-- half up, and down where it is even: by one shift -/
theorem shr_rne {M : Int} {n : Nat} (h0 : 0 ≤ M) (hn : 1 ≤ n) : (M + 2 ^ (n - 1) - 1 + M / 2 ^ n % 2) / 2 ^ n = rne M n := by
  obtain ⟨k, rfl⟩ : ∃ k, n = k + 1 := ⟨n - 1, by omega⟩
  have hp : (0 : Int) < 2 ^ k := Int.pow_pos (by decide)
  unfold rne
  rw [show k + 1 - 1 = k from rfl, Int.pow_succ]
  generalize (2 : Int) ^ k = H at *
  have e := Int.emod_add_mul_ediv M (H * 2)
  have r0 := Int.emod_nonneg M (show H * 2 ≠ 0 by omega)
  have r1 := Int.emod_lt_of_pos M (show 0 < H * 2 by omega)
  generalize M % (H * 2) = r at *
  generalize M / (H * 2) = q at *
  have em : M + H - 1 + q % 2 = (r + H - 1 + q % 2) + H * 2 * q := by omega
  rw [em, Int.add_mul_ediv_left _ _ (show H * 2 ≠ 0 by omega)]
  by_cases c : H * 2 < 2 * r ∨ (H * 2 = 2 * r ∧ q % 2 = 1)
  · rw [if_pos c]
    have : (r + H - 1 + q % 2) / (H * 2) = 1 := by
      rw [Int.ediv_eq_iff_of_pos (by omega)]
      omega
    omega
  · rw [if_neg c, Int.ediv_eq_zero_of_lt (by omega) (by omega)]
    omega
end Go.Bw
