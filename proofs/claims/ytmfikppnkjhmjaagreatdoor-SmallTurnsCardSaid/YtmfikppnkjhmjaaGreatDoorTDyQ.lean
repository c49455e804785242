/-
  Layer 3, walks, part thirteen: floats. (Written by wip/tools/gen_dyq.py.)
-/
import Derived.Test.YtmfikppnkjhmjaaGreatDoorTDyI
import Derived.Test.YtmfikppnkjhmjaaGreatDoorTNB2
import Derived.Test.YtmfikppnkjhmjaaGreatDoorTDyF
namespace Go.Proofs.YtmfikppnkjhmjaaGreatDoor
open Go.RowKit Go.Bw
set_option linter.unusedVariables false
set_option linter.unusedSimpArgs false

/-- the float that is nearest -/
def fw (d : Nf) : Nat := Ieee.double.nearest d.neg d.man d.exp
theorem fw_zero : fw zeroN = 0 := by decide
theorem fw_rnd {d : Nf} (h0 : d.man ≠ 0) (k : Nat) (hT : d.man / 2 ^ k < 18446744073709551616) (hk : k = 0 ∨ 9223372036854775808 ≤ d.man / 2 ^ k) :
    (fw d : Int) = signW d.neg (rnd ((d.man / 2 ^ k : Nat) : Int) (d.exp + k) (decide (d.man % 2 ^ k ≠ 0))) := nearest_rnd d.neg d.man k d.exp h0 hT hk
section
variable {b : Bool} {A : Option Addr} {n c : Nat} {x : Int} {l : List Int} {w : World}
theorem Shr_at (h : Lv w A n c l) (hn : n ≤ 4096) (hT : Tab w) (j : Nat) (i : Int) (hi : i = (j : Int)) (hj : j ≤ 262144) (L : Bool) (hL : lostB (val 18446744073709551616 l) j = L) : Calls Tryz.prog 59 #[.slice A n c, .int .i64 i] w fun e w' =>
    ∃ s A c, e = .returned (.tuple #[.slice A s.length c, .bool L, .int .i64 0]) ∧ Normal s ∧ Hid (val 18446744073709551616 s = val 18446744073709551616 l / 2 ^ j) ∧ Lv w' A s.length c s ∧ Below w.heap.size w w' := by subst hi; exact Shr_lv h hn hT j (by omega) L hL
/-- one limb -/
theorem one_limb {s : List Int} {T : Int} (h : Lim 18446744073709551616 s) (hn : Normal s) (hv : val 18446744073709551616 s = T) (h0 : 0 < T) (h1 : T < 18446744073709551616) : s = [T] := by
  have : Lim 18446744073709551616 [T] := fun y hy => by simp at hy; omega
  exact normal_unique (b := 18446744073709551616) (by omega) h this hn (.inr (by simp [D]; omega)) (by rw [hv, val_cons, val_nil]; omega)
theorem top_facts {v : Int} {k j : Nat} (hv : 0 < v) (hk : IsBits v k) (hj : j = k - 64) : 0 < v / 2 ^ j ∧ v / 2 ^ j < 18446744073709551616 ∧ (j = 0 ∨ 9223372036854775808 ≤ v / 2 ^ j) := by
  have hp := Int.pow_pos (n := (2 : Int)) (m := j) (by omega)
  have hk0 : 0 < k := by
    rcases Nat.eq_zero_or_pos k with g | g
    · subst g; have := hk.2.1; simp at this; omega
    · exact g
  have h2 := hk.2.2 hk0
  have h1 := hk.2.1
  have a1 : v / 2 ^ j < 18446744073709551616 := by
    rw [Int.ediv_lt_iff_lt_mul hp, show (18446744073709551616 : Int) = 2 ^ 64 from rfl, ← Int.pow_add]
    exact Int.lt_of_lt_of_le h1 (pw_mono (by omega))
  have a2 : j = 0 ∨ 9223372036854775808 ≤ v / 2 ^ j := by
    rcases Nat.eq_zero_or_pos j with g | g
    · exact .inl g
    · right
      rw [Int.le_ediv_iff_mul_le hp, show (9223372036854775808 : Int) = 2 ^ 63 from rfl, ← Int.pow_add]
      exact Int.le_trans (pw_mono (by omega)) h2
  refine ⟨?_, a1, a2⟩
  rcases a2 with g | g
  · subst g; simpa using hv
  · omega

theorem exists_bitsQ (v : Int) (h : 0 ≤ v) : ∃ k, IsBits v k := by
  obtain ⟨n, rfl⟩ := Int.eq_ofNat_of_zero_le h
  by_cases h0 : n = 0
  · subst h0; exact ⟨0, by unfold IsBits; decide⟩
  · refine ⟨n.log2 + 1, by omega, ?_, fun _ => ?_⟩
    · have := @Nat.lt_log2_self n
      exact_mod_cast this
    · rw [Nat.add_sub_cancel]
      have := Nat.log2_self_le h0
      exact_mod_cast this
end
end Go.Proofs.YtmfikppnkjhmjaaGreatDoor
