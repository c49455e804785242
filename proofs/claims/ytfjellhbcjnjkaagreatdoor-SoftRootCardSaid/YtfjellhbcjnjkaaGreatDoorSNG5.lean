/-
  Layer 2, joined (wip/tools/merge.py): NatAC NatAD NatAE.
  Layer 2, plain mathematics of decimal texts.
  Layer 2, walks, part twenty-three: texts that may be; a block of digits.
  Layer 2, walks, part twenty-four: a block of digits behind a number; texts that are read.
-/
import Derived.Test.YtfjellhbcjnjkaaGreatDoorSNG2
import Derived.RegionTactic
namespace Go.Proofs.YtfjellhbcjnjkaaGreatDoor
set_option linter.unusedVariables false

def IsDig (c : UInt8) : Prop := 48 ≤ c.toNat ∧ c.toNat ≤ 57
/-- a text that may be: digits, as many as may be, no nought ahead of others -/
def OkText (l : List UInt8) : Prop := l ≠ [] ∧ l.length ≤ 78914 ∧ (1 < l.length → l.head? ≠ some 48) ∧ ∀ c ∈ l, IsDig c

/-- the decimal digits of a number, the lowest first -/
def digs (v : Nat) : List Int := if h : v = 0 then [] else ((v % 10 : Nat) : Int) :: digs (v / 10)
termination_by v
decreasing_by omega
theorem digs_zero : digs 0 = [] := by rw [digs]; simp
theorem digs_pos {v : Nat} (h : v ≠ 0) : digs v = ((v % 10 : Nat) : Int) :: digs (v / 10) := by rw [digs]; simp [h]
theorem digs_nil {v : Nat} (h : digs v = []) : v = 0 := by
  rcases Nat.eq_zero_or_pos v with k | k
  · exact k
  · rw [digs_pos (by omega)] at h; cases h
theorem digs_spec (v : Nat) : Lim 10 (digs v) ∧ Normal (digs v) ∧ val 10 (digs v) = v := by
  induction v using Nat.strongRecOn with
  | _ v ih =>
    rcases Nat.eq_zero_or_pos v with k | k
    · subst k; rw [digs_zero]; exact ⟨Lim.nil _, Normal.nil, rfl⟩
    · obtain ⟨a, b, c⟩ := ih (v / 10) (by omega)
      rw [digs_pos (by omega)]
      refine ⟨?_, ?_, ?_⟩
      · intro x hx
        rcases List.mem_cons.1 hx with rfl | hx
        · omega
        · exact a x hx
      · right
        rcases hd : digs (v / 10) with _ | ⟨y, m⟩
        · have := digs_nil hd
          simp only [List.length_cons, List.length_nil, Nat.zero_add, Nat.sub_self, D_cons_zero]
          omega
        · rw [hd] at b
          rcases b with b | b
          · cases b
          · simpa [D] using b
      · rw [val_cons, c]; omega
/-- of a number there is one normal list of decimal digits -/
theorem digs_unique {ds : List Int} {v : Nat} (h1 : Lim 10 ds) (h2 : Normal ds) (h3 : val 10 ds = v) : ds = digs v := by
  obtain ⟨a, b, c⟩ := digs_spec v
  exact normal_unique (by omega) h1 a h2 b (by rw [h3, c])

/-- a digit's byte -/
def chr (d : Int) : UInt8 := UInt8.ofNat (48 + d.toNat)
theorem chr_toNat {d : Int} (h0 : 0 ≤ d) (h1 : d < 10) : ((chr d).toNat : Int) = 48 + d := by
  unfold chr
  rw [UInt8.toNat_ofNat']
  omega
/-- a number's text -/
def txt (v : Nat) : List UInt8 := if v = 0 then [48] else ((digs v).map chr).reverse
theorem digs_len {v n : Nat} (h : v < 10 ^ n) : (digs v).length ≤ n := by
  obtain ⟨a, b, c⟩ := digs_spec v
  refine length_le_of_lt (b := 10) (by omega) a b ?_
  rw [c]
  exact_mod_cast h
theorem txt_ok {v : Nat} (h : v < 10 ^ 78914) : OkText (txt v) := by
  unfold txt
  split
  · exact ⟨by simp, by simp, by simp, fun c hc => by simp at hc; subst hc; exact ⟨by decide, by decide⟩⟩
  · rename_i h0
    obtain ⟨a, b, c⟩ := digs_spec v
    have hn : digs v ≠ [] := fun e => h0 (digs_nil e)
    refine ⟨by simpa using hn, by simpa using digs_len h, fun _ => ?_, fun x hx => ?_⟩
    · rw [List.head?_reverse, List.getLast?_map]
      rcases b with b | b
      · exact absurd b hn
      · intro e
        have hl : (digs v).getLast? = some (D (digs v) ((digs v).length - 1)) := by
          have hp := List.length_pos_iff.2 hn
          rw [List.getLast?_eq_getElem?, List.getElem?_eq_getElem (by omega), D_in (by omega)]
        rw [hl] at e
        simp only [Option.map_some, Option.some.injEq] at e
        have h2 := D_lim (b := 10) (by omega) a ((digs v).length - 1)
        have h3 := chr_toNat h2.1 h2.2
        rw [e] at h3
        have : ((48 : UInt8).toNat : Int) = 48 := by decide
        omega
    · simp only [List.mem_reverse, List.mem_map] at hx
      obtain ⟨d, hd, rfl⟩ := hx
      have h1 := a d hd
      have h2 := chr_toNat h1.1 h1.2
      unfold IsDig
      omega
end Go.Proofs.YtfjellhbcjnjkaaGreatDoor
namespace Go.Proofs.YtfjellhbcjnjkaaGreatDoor
open Go.RowKit
set_option linter.unusedVariables false

end Go.Proofs.YtfjellhbcjnjkaaGreatDoor
namespace Go.Proofs.YtfjellhbcjnjkaaGreatDoor
open Go.RowKit
set_option linter.unusedVariables false

/-! ### texts that are read -/
end Go.Proofs.YtfjellhbcjnjkaaGreatDoor
