/-
  Layer 2, joined (wip/tools/merge.py): BitsK BitsL BitsM BitsX BitsP.
  Walks of layer 1, part nine: the chapter's rows ('known').
  Walks of layer 1, part ten: the laws on classes, floats, powers, the order, logarithms.
  Walks of layer 1, part eleven: the laws on floats, and on the order.
  Walks of layer 1, part thirteen: the law on words of just a number.
  Walks of layer 1, part fourteen: the law on parts of words.
-/
import Derived.Test.YtfjellhbcjnjkaaGreatDoorSNB2
import Derived.Laws.StructEq
import Derived.Test.YtfjellhbcjnjkaaGreatDoorSNB1
import Derived.Lib.QuietBelow
namespace Go.Proofs.YtfjellhbcjnjkaaGreatDoor
open Go.RowKit Go.Bw
set_option linter.unusedVariables false

/-! ### closed answers -/
/-- the two boxed parts stand, whatever else is made -/
structure KeptCells (W : World) (a b : Nat) (w : World) : Prop where
  c1 : w.cell? ⟨a, 0, none⟩ = some (.bool false)
  c2 : w.cell? ⟨a, 1, none⟩ = some (.int .u64 4503599627370496)
  c3 : w.cell? ⟨a, 2, none⟩ = some (.int .i64 (-52))
  c4 : w.cell? ⟨b, 0, none⟩ = some (.bool false)
  c5 : w.cell? ⟨b, 1, none⟩ = some (.int .u64 1)
  c6 : w.cell? ⟨b, 2, none⟩ = some (.int .i64 (-1074))
  la : a < w.heap.size
  lb : b < w.heap.size
  below : Below W.heap.size W w
theorem KeptCells.keep {W : World} {a b : Nat} {w w' : World} (h : KeptCells W a b w) (hb : Below w.heap.size w w') : KeptCells W a b w' := by
  have ha := h.la
  have hb' := h.lb
  have hs := hb.size
  have hw := h.below.size
  exact ⟨(hb.cell (p := ⟨a, 0, none⟩) ha).trans h.c1, (hb.cell (p := ⟨a, 1, none⟩) ha).trans h.c2, (hb.cell (p := ⟨a, 2, none⟩) ha).trans h.c3,
    (hb.cell (p := ⟨b, 0, none⟩) hb').trans h.c4, (hb.cell (p := ⟨b, 1, none⟩) hb').trans h.c5, (hb.cell (p := ⟨b, 2, none⟩) hb').trans h.c6,
    Nat.lt_of_lt_of_le ha hs, Nat.lt_of_lt_of_le hb' hs, h.below.trans (hb.mono hw)⟩
theorem cell_new {w : World} {cs : Array Value} {T : TypeId} (j : Nat) : (w.alloc (.cells cs T)).cell? ⟨w.heap.size, j, none⟩ = cs[j]? :=
  Lib.cell_of_heap (heap_alloc_new w _) j
theorem KeptCells.start {W w1 w2 : World} {T : TypeId} (h1 : Below W.heap.size W w1) (h2 : Below (w1.alloc (.cells #[.bool false, .int .u64 4503599627370496, .int .i64 (-52)] T)).heap.size (w1.alloc (.cells #[.bool false, .int .u64 4503599627370496, .int .i64 (-52)] T)) w2) :
    KeptCells W w1.heap.size w2.heap.size (w2.alloc (.cells #[.bool false, .int .u64 1, .int .i64 (-1074)] T)) := by
  have s1 := h1.size
  have s2 := h2.size
  simp at s2
  have old : ∀ j, (w2.alloc (.cells #[.bool false, .int .u64 1, .int .i64 (-1074)] T)).cell? ⟨w1.heap.size, j, none⟩ = (w1.alloc (.cells #[.bool false, .int .u64 4503599627370496, .int .i64 (-52)] T)).cell? ⟨w1.heap.size, j, none⟩ := fun j =>
    (((Below.refl w2.heap.size w2).alloc (Nat.le_refl _) _).cell (p := ⟨w1.heap.size, j, none⟩) (by simp; omega)).trans (h2.cell (p := ⟨w1.heap.size, j, none⟩) (by simp))
  exact ⟨(old 0).trans (cell_new 0), (old 1).trans (cell_new 1), (old 2).trans (cell_new 2), cell_new 0, cell_new 1, cell_new 2, by simp; omega, by simp,
    (h1.alloc (by omega) _).trans ((h2.mono (by simp; omega)).trans (((Below.refl _ _).alloc (Nat.le_refl _) _).mono (by omega)))⟩

end Go.Proofs.YtfjellhbcjnjkaaGreatDoor
namespace Go.Proofs.YtfjellhbcjnjkaaGreatDoor
open Go.RowKit Go.Bw
set_option linter.unusedVariables false

/-! ### Scale -/
/-! ### Log -/
end Go.Proofs.YtfjellhbcjnjkaaGreatDoor
namespace Go.Proofs.YtfjellhbcjnjkaaGreatDoor
open Go.RowKit Go.Bw
set_option linter.unusedVariables false

/-! ### a float held against itself -/
theorem cls_nan_iff (x : Int) (h0 : 0 ≤ x) (h1 : x ≤ 18446744073709551615) : cls x = 5 ↔ 9218868437227405312 < mag x := by
  rw [mag_eq x h0 h1]
  have hf := fld_bd x
  have hr := frc_bd x
  unfold cls
  repeat' split
  all_goals omega

theorem read_rungs : Ieee.double.signWeight = 9223372036854775808 ∧ Ieee.double.binade = 4503599627370496 ∧ Ieee.double.infRung = 9218868437227405312 := by decide
/-! ### the order -/
end Go.Proofs.YtfjellhbcjnjkaaGreatDoor
namespace Go.Proofs.YtfjellhbcjnjkaaGreatDoor
open Go.RowKit Go.Bw
set_option linter.unusedVariables false

/-- stripped of t noughts -/
def Stripped (man exp m e : Int) : Prop := ∃ t : Nat, man = m * 2 ^ t ∧ e = exp + t
theorem Stripped.start (man exp : Int) : Stripped man exp man exp := ⟨0, by simp, by simp⟩
theorem Stripped.step {man exp m e : Int} (h : Stripped man exp m e) (c : m % 2 = 0) : Stripped man exp (m / 2) (e + 1) := by
  obtain ⟨t, h1, h2⟩ := h
  refine ⟨t + 1, ?_, by omega⟩
  rw [Int.pow_succ, Int.mul_comm (2 ^ t), ← Int.mul_assoc, show m / 2 * 2 = m by omega]; exact h1
theorem Stripped.bd {man exp m e : Int} (h : Stripped man exp m e) (h0 : 1 ≤ m) (h1 : man ≤ 18446744073709551615) : exp ≤ e ∧ e ≤ exp + 64 := by
  obtain ⟨t, h2, h3⟩ := h
  obtain ⟨n, rfl⟩ := Int.eq_ofNat_of_zero_le (show 0 ≤ m by omega)
  have e : (n : Int) * 2 ^ t = ((n * 2 ^ t : Nat) : Int) := by simp
  rw [e] at h2
  have := man_lt_pow n t (by omega) (by omega)
  omega

/-! ### the law -/
end Go.Proofs.YtfjellhbcjnjkaaGreatDoor
namespace Go.Proofs.YtfjellhbcjnjkaaGreatDoor
open Go.RowKit Go.Bw Go.Sort
set_option linter.unusedVariables false

/-! ### a word's parts come back to it -/
theorem word_sign (x : Int) (h0 : 0 ≤ x) (h1 : x ≤ 18446744073709551615) : signW (pneg x) (mag x) = x := by
  unfold signW pneg mag
  by_cases c : 9223372036854775808 ≤ x
  · rw [if_pos (by simpa using c)]; omega
  · rw [if_neg (by simpa using c)]; omega

theorem cls_3_fld {x : Int} (h : cls x = 3) : 1 ≤ fld x ∧ fld x ≤ 2046 := by
  have hf := fld_bd x
  unfold cls at h
  repeat' split at h
  all_goals omega
theorem cls_12_fld {x : Int} (h : cls x = 1 ∨ cls x = 2) : fld x = 0 ∧ (cls x = 2 → frc x ≠ 0) := by
  have hf := fld_bd x
  unfold cls at *
  repeat' split at h
  all_goals (first | omega | (refine ⟨by assumption, fun g => ?_⟩; assumption) | (refine ⟨by assumption, fun g => ?_⟩; repeat' split at g; all_goals omega))

/-- the place of a finite word's last bit is just its parts' -/
theorem parts_place (x : Int) (hc : cls x ≤ 3) (hz : cls x ≠ 1) : 0 < pman x ∧ max (pexp x + bl (pman x) - 53) (-1074) = pexp x ∧ (pexp x + 1074) * 4503599627370496 + pman x = fld x * 4503599627370496 + frc x := by
  have hb := cls_bd x
  have hf := frc_bd x
  by_cases c3 : cls x = 3
  · have hd := cls_3_fld c3
    have hm : pman x = 4503599627370496 + frc x := by unfold pman; rw [if_pos c3]
    have he : pexp x = fld x - 1075 := by unfold pexp; rw [if_neg (by omega), if_neg (by omega)]
    have hbl : bl (pman x) = 53 := by
      unfold bl
      rw [hm]
      have : Lib.bitLen (4503599627370496 + frc x).toNat = 53 := bl_uniq _ 53 (by omega) (by omega) (by omega)
      rw [this]; rfl
    rw [hbl, he, hm]; omega
  · have c2 : cls x = 2 := by omega
    have hd := cls_12_fld (Or.inr c2)
    have hm : pman x = frc x := by unfold pman; rw [if_neg c3]
    have he : pexp x = -1074 := by unfold pexp; rw [if_neg hz, if_pos c2]
    have hbl : bl (pman x) ≤ 52 := by
      unfold bl
      rw [hm]
      have := Lib.bitLen_le (frc x).toNat 52 (by decide) (by omega)
      omega
    have := hd.2 c2
    rw [he, hm] at *
    omega

theorem mag_lt_inf (x : Int) (h0 : 0 ≤ x) (h1 : x ≤ 18446744073709551615) (hc : cls x ≤ 3) : mag x < inf := by
  rw [mag_eq x h0 h1]
  have hf := frc_bd x
  have hd := fld_bd x
  unfold inf
  by_cases c : fld x = 2047
  · exfalso
    unfold cls at hc; rw [if_pos c] at hc
    split at hc <;> omega
  · omega

theorem parts_rnd (x : Int) (h0 : 0 ≤ x) (h1 : x ≤ 18446744073709551615) (hc : cls x ≤ 3) : rnd (pman x) (pexp x) false = mag x := by
  have hl := mag_lt_inf x h0 h1 hc
  by_cases hz : cls x = 1
  · have hm : pman x = 0 := (pman_zero hc).2 hz
    have hf := cls_frc0 hz
    have hd := cls_12_fld (Or.inl hz)
    rw [hm, mag_eq x h0 h1, hf, hd.1]
    unfold rnd; rw [if_pos rfl]; rfl
  · obtain ⟨a, b, c⟩ := parts_place x hc hz
    rw [mag_eq x h0 h1] at *
    unfold rnd
    rw [if_neg (by omega)]
    have hE : rE (pman x) (pexp x) = pexp x := by unfold rE; exact b
    rw [hE, rW_le _ _ _ (by omega)]
    have : (-(pexp x - pexp x)).toNat = 0 := by omega
    rw [this]
    unfold inf at *
    omega

end Go.Proofs.YtfjellhbcjnjkaaGreatDoor
