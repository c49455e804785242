/-
  Layer 2, joined (wip/tools/merge.py): BitsK BitsL BitsM BitsX BitsP.
  Walks of layer 1, part nine: the chapter's rows ('known').
  Walks of layer 1, part ten: the laws on classes, floats, powers, the order, logarithms.
  Walks of layer 1, part eleven: the laws on floats, and on the order.
  Walks of layer 1, part thirteen: the law on words of just a number.
  Walks of layer 1, part fourteen: the law on parts of words.
-/
import Derived.Test.YtcdbjlmegkcaiaaGreatDoorZNB2
import Derived.Laws.StructEq
import Derived.Test.YtcdbjlmegkcaiaaGreatDoorZNB1
import Derived.Lib.QuietBelow
namespace Go.Proofs.YtcdbjlmegkcaiaaGreatDoor
open Go.RowKit Go.Bw
set_option linter.unusedVariables false

/-! ### closed answers -/
theorem k_of1 (w : World) : Calls Tryz.prog 51 #[.float .f64 4607182418800017408] w fun e w' => e = .returned (.int .u64 4607182418800017408) ∧ w = w' :=
  (ofBany 4607182418800017408 (by decide) w).mono fun e w' h => ⟨by rw [h.1]; exact rtB_int (by decide), h.2⟩
theorem k_of3 (w : World) : Calls Tryz.prog 51 #[.float .f64 4613937818241073152] w fun e w' => e = .returned (.int .u64 4613937818241073152) ∧ w = w' :=
  (ofBany 4613937818241073152 (by decide) w).mono fun e w' h => ⟨by rw [h.1]; exact rtB_int (by decide), h.2⟩
theorem partsV_eq {a b : Bool} {m m' x x' : Int} (h1 : a = b) (h2 : m = m') (h3 : x = x') : Ending.returned (.tuple #[partsV a m x, .int .i64 0]) = .returned (.tuple #[partsV b m' x', .int .i64 0]) := by rw [h1, h2, h3]
theorem k_parts1 (w : World) : Calls Tryz.prog 50 #[.int .u64 4607182418800017408] w fun e w' => e = .returned (.tuple #[partsV false 4503599627370496 (-52), .int .i64 0]) ∧ Below w.heap.size w w' :=
  (parts_yes (x := 4607182418800017408) (by decide) (by decide) (by decide) w).mono fun e w' h => ⟨by rw [h.1]; exact partsV_eq (by decide) (by decide) (by decide), h.2⟩
theorem k_parts2 (w : World) : Calls Tryz.prog 50 #[.int .u64 1] w fun e w' => e = .returned (.tuple #[partsV false 1 (-1074), .int .i64 0]) ∧ Below w.heap.size w w' :=
  (parts_yes (x := 1) (by decide) (by decide) (by decide) w).mono fun e w' h => ⟨by rw [h.1]; exact partsV_eq (by decide) (by decide) (by decide), h.2⟩
/-- the two boxed parts stand, whatever else is made -/
structure KeptCells (W : World) (a b : Nat) (w : World) : Prop where
  c1 : w.cell? ⟨a, 0, none⟩ = some (.bool false)
  c2 : w.cell? ⟨a, 1, none⟩ = some (.int .u64 4503599627370496)
  c3 : w.cell? ⟨a, 2, none⟩ = some (.int .i64 (-52))
  c4 : w.cell? ⟨b, 0, none⟩ = some (.bool false)
  c5 : w.cell? ⟨b, 1, none⟩ = some (.int .u64 1)
  c6 : w.cell? ⟨b, 2, none⟩ = some (.int .i64 (-1074))
  la : a < w.heap.size
  lb : b < w.heap.size
  below : Below W.heap.size W w
theorem KeptCells.keep {W : World} {a b : Nat} {w w' : World} (h : KeptCells W a b w) (hb : Below w.heap.size w w') : KeptCells W a b w' := by
  have ha := h.la
  have hb' := h.lb
  have hs := hb.size
  have hw := h.below.size
  exact ⟨(hb.cell (p := ⟨a, 0, none⟩) ha).trans h.c1, (hb.cell (p := ⟨a, 1, none⟩) ha).trans h.c2, (hb.cell (p := ⟨a, 2, none⟩) ha).trans h.c3,
    (hb.cell (p := ⟨b, 0, none⟩) hb').trans h.c4, (hb.cell (p := ⟨b, 1, none⟩) hb').trans h.c5, (hb.cell (p := ⟨b, 2, none⟩) hb').trans h.c6,
    Nat.lt_of_lt_of_le ha hs, Nat.lt_of_lt_of_le hb' hs, h.below.trans (hb.mono hw)⟩
theorem cell_new {w : World} {cs : Array Value} {T : TypeId} (j : Nat) : (w.alloc (.cells cs T)).cell? ⟨w.heap.size, j, none⟩ = cs[j]? :=
  Lib.cell_of_heap (heap_alloc_new w _) j
theorem KeptCells.start {W w1 w2 : World} {T : TypeId} (h1 : Below W.heap.size W w1) (h2 : Below (w1.alloc (.cells #[.bool false, .int .u64 4503599627370496, .int .i64 (-52)] T)).heap.size (w1.alloc (.cells #[.bool false, .int .u64 4503599627370496, .int .i64 (-52)] T)) w2) :
    KeptCells W w1.heap.size w2.heap.size (w2.alloc (.cells #[.bool false, .int .u64 1, .int .i64 (-1074)] T)) := by
  have s1 := h1.size
  have s2 := h2.size
  simp at s2
  have old : ∀ j, (w2.alloc (.cells #[.bool false, .int .u64 1, .int .i64 (-1074)] T)).cell? ⟨w1.heap.size, j, none⟩ = (w1.alloc (.cells #[.bool false, .int .u64 4503599627370496, .int .i64 (-52)] T)).cell? ⟨w1.heap.size, j, none⟩ := fun j =>
    (((Below.refl w2.heap.size w2).alloc (Nat.le_refl _) _).cell (p := ⟨w1.heap.size, j, none⟩) (by simp; omega)).trans (h2.cell (p := ⟨w1.heap.size, j, none⟩) (by simp))
  exact ⟨(old 0).trans (cell_new 0), (old 1).trans (cell_new 1), (old 2).trans (cell_new 2), cell_new 0, cell_new 1, cell_new 2, by simp; omega, by simp,
    (h1.alloc (by omega) _).trans ((h2.mono (by simp; omega)).trans (((Below.refl _ _).alloc (Nat.le_refl _) _).mono (by omega)))⟩

end Go.Proofs.YtcdbjlmegkcaiaaGreatDoor
namespace Go.Proofs.YtcdbjlmegkcaiaaGreatDoor
open Go.RowKit Go.Bw
set_option linter.unusedVariables false

/-! ### Scale -/
/-- far exponents are all one -/
theorem rnd_far (man e k : Int) (h0 : 0 ≤ man) (h1 : man ≤ 18446744073709551615) (e0 : -1075 ≤ e) (e1 : e ≤ 972) :
    rnd man (e + max (-5000) (min 5000 k)) false = rnd man (e + min (max k (-4096)) 4096) false := by
  by_cases hm : man = 0
  · subst hm; simp [rnd]
  · by_cases a : k < -4096
    · rw [rnd_low man _ false h0 h1 (by omega), rnd_low man _ false h0 h1 (by omega)]
    · by_cases b : 4096 < k
      · rw [rnd_high man _ false (by omega) h1 (by omega), rnd_high man _ false (by omega) h1 (by omega)]
      · rw [show max (-5000) (min 5000 k) = min (max k (-4096)) 4096 by omega]

/-! ### Log -/
end Go.Proofs.YtcdbjlmegkcaiaaGreatDoor
namespace Go.Proofs.YtcdbjlmegkcaiaaGreatDoor
open Go.RowKit Go.Bw
set_option linter.unusedVariables false

/-! ### a float held against itself -/
theorem cls_nan_iff (x : Int) (h0 : 0 ≤ x) (h1 : x ≤ 18446744073709551615) : cls x = 5 ↔ 9218868437227405312 < mag x := by
  rw [mag_eq x h0 h1]
  have hf := fld_bd x
  have hr := frc_bd x
  unfold cls
  repeat' split
  all_goals omega

theorem read_rungs : Ieee.double.signWeight = 9223372036854775808 ∧ Ieee.double.binade = 4503599627370496 ∧ Ieee.double.infRung = 9218868437227405312 := by decide
theorem order_self (n : Nat) : (Ieee.double.order n n != some .eq) = decide (9218868437227405312 < n % 9223372036854775808) := by
  obtain ⟨e1, e2, e3⟩ := read_rungs
  unfold Ieee.Format.order Ieee.Format.read
  rw [e1, e2, e3]
  generalize n % 9223372036854775808 = r
  generalize (n / 9223372036854775808 % 2 == 1) = s
  by_cases a : r < 4503599627370496
  · have : ¬ 9218868437227405312 < r := by omega
    simp [a, this, Ieee.Datum.order]
  · by_cases b : r < 9218868437227405312
    · have : ¬ 9218868437227405312 < r := by omega
      simp [a, b, this, Ieee.Datum.order]
    · by_cases c : r = 9218868437227405312
      · subst c; simp [Ieee.Datum.order]
      · have : 9218868437227405312 < r := by omega
        simp [a, b, c, this, Ieee.Datum.order]

theorem float_nan (x : Int) (h0 : 0 ≤ x) (h1 : x ≤ 18446744073709551615) : (FloatKind.f64.format.order x.toNat x.toNat != some .eq) = (cls x == 5) := by
  have h := order_self x.toNat
  rw [show FloatKind.f64.format = Ieee.double from rfl, h]
  have k := cls_nan_iff x h0 h1
  rw [Bool.eq_iff_iff]
  simp only [decide_eq_true_eq, beq_iff_eq]
  rw [k]
  unfold mag
  omega

theorem of_word (x : Int) (h0 : 0 ≤ x) (h1 : x ≤ 18446744073709551615) (w : World) :
    Calls Tryz.prog 51 #[.float .f64 x.toNat] w fun e w' => e = .returned (.int .u64 (one x)) ∧ w = w' := by
  have := ofBany x.toNat (by omega) w
  rwa [Int.toNat_of_nonneg h0] at this
theorem run_bits_back (x : Int) (h0 : 0 ≤ x) (w : World) : (callFunc 40 #[.float .f64 x.toNat]).run Tryz.prog w = .ok (.value (.int .u64 x)) w := by
  have := run_float64bits x.toNat w
  rwa [Int.toNat_of_nonneg h0] at this

/-! ### the order -/
/-- the reference's place -/
def rplc (x : Int) : Int := if 9223372036854775808 ≤ x then 9218868437227405312 - (x - 9223372036854775808) else 9218868437227405312 + x
theorem rplc_eq {x : Int} (h0 : 0 ≤ x) (h1 : x ≤ 18446744073709551615) : rplc x = 9218868437227405312 + plc x := by
  unfold rplc plc mag
  split <;> omega

theorem rsteps_a {a b : Int} (h : a < b) : (9218868437227405312 + b) - (9218868437227405312 + a) = max a b - min a b := by omega
theorem rsteps_b {a b : Int} (h : ¬ a < b) : (9218868437227405312 + a) - (9218868437227405312 + b) = max a b - min a b := by omega
end Go.Proofs.YtcdbjlmegkcaiaaGreatDoor
namespace Go.Proofs.YtcdbjlmegkcaiaaGreatDoor
open Go.RowKit Go.Bw
set_option linter.unusedVariables false

/-- stripped of t noughts -/
def Stripped (man exp m e : Int) : Prop := ∃ t : Nat, man = m * 2 ^ t ∧ e = exp + t
theorem Stripped.start (man exp : Int) : Stripped man exp man exp := ⟨0, by simp, by simp⟩
theorem Stripped.step {man exp m e : Int} (h : Stripped man exp m e) (c : m % 2 = 0) : Stripped man exp (m / 2) (e + 1) := by
  obtain ⟨t, h1, h2⟩ := h
  refine ⟨t + 1, ?_, by omega⟩
  rw [Int.pow_succ, Int.mul_comm (2 ^ t), ← Int.mul_assoc, show m / 2 * 2 = m by omega]; exact h1
theorem Stripped.bd {man exp m e : Int} (h : Stripped man exp m e) (h0 : 1 ≤ m) (h1 : man ≤ 18446744073709551615) : exp ≤ e ∧ e ≤ exp + 64 := by
  obtain ⟨t, h2, h3⟩ := h
  obtain ⟨n, rfl⟩ := Int.eq_ofNat_of_zero_le (show 0 ≤ m by omega)
  have e : (n : Int) * 2 ^ t = ((n * 2 ^ t : Nat) : Int) := by simp
  rw [e] at h2
  have := man_lt_pow n t (by omega) (by omega)
  omega

/-- what the reference answers of a finite word -/
theorem rexact_tell {neg : Bool} {man exp o e q qe wd : Int} (hm1 : man ≤ 18446744073709551615) (h1 : Stripped man exp o e) (ho0 : 1 ≤ o) (ho : o % 2 = 1) (hwd : signW neg (rnd o e false) = wd) (hc : cls wd ≤ 3)
    (h2 : Stripped (pman wd) (pexp wd) q qe) (hq0 : 0 ≤ q) (hq : q = 0 ∨ q % 2 = 1) :
    ((q = o ∧ qe = e) ↔ exOk neg man exp = true) ∧ (exOk neg man exp = true → signW neg (joinM (sW man exp) (sE man exp)) = wd) := by
  obtain ⟨t, a1, rfl⟩ := h1
  obtain ⟨u, b1, rfl⟩ := h2
  obtain ⟨n, rfl⟩ := Int.eq_ofNat_of_zero_le (show 0 ≤ o by omega)
  obtain ⟨k, rfl⟩ := Int.eq_ofNat_of_zero_le hq0
  have ea : (n : Int) * 2 ^ t = ((n * 2 ^ t : Nat) : Int) := by simp
  have eb : (k : Int) * 2 ^ u = ((k * 2 ^ u : Nat) : Int) := by simp
  rw [ea] at a1
  rw [eb] at b1
  subst hwd
  subst a1
  have r := ex_iff neg n t exp (by omega) (by omega) k u hc b1 (by omega)
  refine ⟨?_, r.2⟩
  have r1 : _ ↔ exOk neg ((n * 2 ^ t : Nat) : Int) exp = true := r.1
  rw [← r1]
  constructor
  · intro h; exact ⟨by omega, h.2⟩
  · intro h; exact ⟨by omega, h.2⟩
theorem rexact_inf {neg : Bool} {man exp o e wd : Int} (hm1 : man ≤ 18446744073709551615) (h1 : Stripped man exp o e) (ho0 : 1 ≤ o) (ho : o % 2 = 1) (hwd : signW neg (rnd o e false) = wd) (hc : ¬ cls wd ≤ 3) : exOk neg man exp = false := by
  obtain ⟨t, a1, rfl⟩ := h1
  obtain ⟨n, rfl⟩ := Int.eq_ofNat_of_zero_le (show 0 ≤ o by omega)
  have ea : (n : Int) * 2 ^ t = ((n * 2 ^ t : Nat) : Int) := by simp
  rw [ea] at a1
  subst hwd
  subst a1
  exact ex_inf neg n t exp (by omega) (by omega) hc

def rexactV (neg : Bool) (man exp : Int) : Value :=
  .tuple (if exOk neg man exp then #[.int .u64 (signW neg (joinM (sW man exp) (sE man exp))), .bool true] else #[.int .u64 0, .bool false])
theorem rexactV_y {neg : Bool} {man exp s : Int} (h : exOk neg man exp = true) (hs : signW neg (joinM (sW man exp) (sE man exp)) = s) : Value.tuple #[.int .u64 s, .bool true] = rexactV neg man exp := by
  unfold rexactV; rw [if_pos h, hs]
theorem rexactV_n {neg : Bool} {man exp : Int} (h : exOk neg man exp = false) : Value.tuple #[.int .u64 0, .bool false] = rexactV neg man exp := by
  unfold rexactV; rw [h]; rfl

theorem exOk_zero (neg : Bool) (exp : Int) : exOk neg 0 exp = true ∧ signW neg (joinM (sW 0 exp) (sE 0 exp)) = signW neg 0 := by
  have e1 : sW 0 exp = 0 := by unfold sW; rw [if_pos rfl]
  have e2 : sR 0 exp = 0 := by unfold sR; rw [if_pos rfl]
  have e3 : sE 0 exp = -1074 := by unfold sE; rw [if_pos rfl]
  unfold exOk
  rw [e1, e2, e3]
  cases neg <;> decide
theorem exOk_out (neg : Bool) (man exp : Int) (h0 : 1 ≤ man) (h1 : man ≤ 18446744073709551615) (hx : exp < -3000 ∨ 3000 < exp) : exOk neg man exp = false := by
  have hb := bl_bd man (by omega) h1
  unfold exOk
  rcases hx with h | h
  · have hr : sR man exp = 1 := by
      have hD : 64 < sD man exp := by unfold sD sE sF; rw [if_neg (by omega)]; omega
      unfold sR; rw [if_neg (by omega), if_neg (by omega), if_neg (by omega)]
    rw [hr]; rfl
  · have hj := sD_up man exp (by omega) h1 (by omega) (sW man exp) (sW_bd man exp (by omega) h1).1
    rw [hj]
    have : cls (signW neg inf) = 4 := by cases neg <;> decide
    rw [this]; simp

/-! ### the law -/
end Go.Proofs.YtcdbjlmegkcaiaaGreatDoor
namespace Go.Proofs.YtcdbjlmegkcaiaaGreatDoor
open Go.RowKit Go.Bw Go.Sort
set_option linter.unusedVariables false

theorem exOk_zeroP (neg : Bool) (exp : Int) : exOk neg 0 exp = true ∧ signW neg (joinM (sW 0 exp) (sE 0 exp)) = signW neg 0 := by
  have e1 : sW 0 exp = 0 := by unfold sW; rw [if_pos rfl]
  have e2 : sR 0 exp = 0 := by unfold sR; rw [if_pos rfl]
  have e3 : sE 0 exp = -1074 := by unfold sE; rw [if_pos rfl]
  unfold exOk
  rw [e1, e2, e3]
  cases neg <;> decide

theorem mixeB : Tryz.prog.follows .mixedOrders = true := by kernel_rfl

/-! ### a word's parts come back to it -/
theorem word_sign (x : Int) (h0 : 0 ≤ x) (h1 : x ≤ 18446744073709551615) : signW (pneg x) (mag x) = x := by
  unfold signW pneg mag
  by_cases c : 9223372036854775808 ≤ x
  · rw [if_pos (by simpa using c)]; omega
  · rw [if_neg (by simpa using c)]; omega

theorem cls_3_fld {x : Int} (h : cls x = 3) : 1 ≤ fld x ∧ fld x ≤ 2046 := by
  have hf := fld_bd x
  unfold cls at h
  repeat' split at h
  all_goals omega
theorem cls_12_fld {x : Int} (h : cls x = 1 ∨ cls x = 2) : fld x = 0 ∧ (cls x = 2 → frc x ≠ 0) := by
  have hf := fld_bd x
  unfold cls at *
  repeat' split at h
  all_goals (first | omega | (refine ⟨by assumption, fun g => ?_⟩; assumption) | (refine ⟨by assumption, fun g => ?_⟩; repeat' split at g; all_goals omega))

/-- the place of a finite word's last bit is just its parts' -/
theorem parts_place (x : Int) (hc : cls x ≤ 3) (hz : cls x ≠ 1) : 0 < pman x ∧ max (pexp x + bl (pman x) - 53) (-1074) = pexp x ∧ (pexp x + 1074) * 4503599627370496 + pman x = fld x * 4503599627370496 + frc x := by
  have hb := cls_bd x
  have hf := frc_bd x
  by_cases c3 : cls x = 3
  · have hd := cls_3_fld c3
    have hm : pman x = 4503599627370496 + frc x := by unfold pman; rw [if_pos c3]
    have he : pexp x = fld x - 1075 := by unfold pexp; rw [if_neg (by omega), if_neg (by omega)]
    have hbl : bl (pman x) = 53 := by
      unfold bl
      rw [hm]
      have : Lib.bitLen (4503599627370496 + frc x).toNat = 53 := bl_uniq _ 53 (by omega) (by omega) (by omega)
      rw [this]; rfl
    rw [hbl, he, hm]; omega
  · have c2 : cls x = 2 := by omega
    have hd := cls_12_fld (Or.inr c2)
    have hm : pman x = frc x := by unfold pman; rw [if_neg c3]
    have he : pexp x = -1074 := by unfold pexp; rw [if_neg hz, if_pos c2]
    have hbl : bl (pman x) ≤ 52 := by
      unfold bl
      rw [hm]
      have := Lib.bitLen_le (frc x).toNat 52 (by decide) (by omega)
      omega
    have := hd.2 c2
    rw [he, hm] at *
    omega

theorem mag_lt_inf (x : Int) (h0 : 0 ≤ x) (h1 : x ≤ 18446744073709551615) (hc : cls x ≤ 3) : mag x < inf := by
  rw [mag_eq x h0 h1]
  have hf := frc_bd x
  have hd := fld_bd x
  unfold inf
  by_cases c : fld x = 2047
  · exfalso
    unfold cls at hc; rw [if_pos c] at hc
    split at hc <;> omega
  · omega

theorem parts_rnd (x : Int) (h0 : 0 ≤ x) (h1 : x ≤ 18446744073709551615) (hc : cls x ≤ 3) : rnd (pman x) (pexp x) false = mag x := by
  have hl := mag_lt_inf x h0 h1 hc
  by_cases hz : cls x = 1
  · have hm : pman x = 0 := (pman_zero hc).2 hz
    have hf := cls_frc0 hz
    have hd := cls_12_fld (Or.inl hz)
    rw [hm, mag_eq x h0 h1, hf, hd.1]
    unfold rnd; rw [if_pos rfl]; rfl
  · obtain ⟨a, b, c⟩ := parts_place x hc hz
    rw [mag_eq x h0 h1] at *
    unfold rnd
    rw [if_neg (by omega)]
    have hE : rE (pman x) (pexp x) = pexp x := by unfold rE; exact b
    rw [hE, rW_le _ _ _ (by omega)]
    have : (-(pexp x - pexp x)).toNat = 0 := by omega
    rw [this]
    unfold inf at *
    omega

theorem parts_exact (x : Int) (h0 : 0 ≤ x) (h1 : x ≤ 18446744073709551615) (hc : cls x ≤ 3) : exOk (pneg x) (pman x) (pexp x) = true ∧ signW (pneg x) (joinM (sW (pman x) (pexp x)) (sE (pman x) (pexp x))) = x := by
  have hl := mag_lt_inf x h0 h1 hc
  have hx := word_sign x h0 h1
  by_cases hz : cls x = 1
  · have hm : pman x = 0 := (pman_zero hc).2 hz
    have hf := cls_frc0 hz
    have hd := cls_12_fld (Or.inl hz)
    have hmag : mag x = 0 := by rw [mag_eq x h0 h1, hf, hd.1]; rfl
    rw [hmag] at hx
    rw [hm]
    have k := exOk_zeroP (pneg x) (pexp x)
    exact ⟨k.1, k.2.trans hx⟩
  · obtain ⟨a, b, c⟩ := parts_place x hc hz
    have mb := pman_bd x
    have eb := pexp_bd x
    have hF : sF (pexp x) = pexp x := by unfold sF; omega
    have hE : sE (pman x) (pexp x) = pexp x := by unfold sE; rw [if_neg (by omega), hF]; omega
    have hD : sD (pman x) (pexp x) = 0 := by unfold sD; rw [hE, hF]; omega
    have hR : sR (pman x) (pexp x) = 0 := by unfold sR; rw [if_neg (by omega), if_pos (by omega)]
    have hW : sW (pman x) (pexp x) = pman x := by unfold sW; rw [if_neg (by omega), if_pos (by omega), hD]; simp
    have hJ : joinM (pman x) (pexp x) = mag x := by
      rw [mag_eq x h0 h1] at *
      unfold joinM inf at *
      omega
    rw [hW, hE, hJ, hx]
    refine ⟨?_, rfl⟩
    unfold exOk
    rw [hR, hW, hE, hJ, hx]
    have : ¬ cls x = 4 := by omega
    simp [this]

end Go.Proofs.YtcdbjlmegkcaiaaGreatDoor
