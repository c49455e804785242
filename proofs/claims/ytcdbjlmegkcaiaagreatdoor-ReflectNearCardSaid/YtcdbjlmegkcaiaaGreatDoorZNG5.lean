/-
  Layer 2, joined (wip/tools/merge.py): NatAC NatAD NatAE.
  Layer 2, plain mathematics of decimal texts.
  Layer 2, walks, part twenty-three: texts that may be; a block of digits.
  Layer 2, walks, part twenty-four: a block of digits behind a number; texts that are read.
-/
import Derived.Test.YtcdbjlmegkcaiaaGreatDoorZNG2
import Derived.RegionTactic
namespace Go.Proofs.YtcdbjlmegkcaiaaGreatDoor
set_option linter.unusedVariables false

/-- a decimal digit's number -/
def dig (c : UInt8) : Int := (c.toNat : Int) - 48
/-- the number of decimal digits, the highest first -/
def dval (l : List UInt8) : Int := l.foldl (fun a c => a * 10 + dig c) 0
theorem dval_nil : dval [] = 0 := rfl
theorem dval_snoc (l : List UInt8) (c : UInt8) : dval (l ++ [c]) = dval l * 10 + dig c := by simp [dval, List.foldl_append]
theorem rev_ind {P : List UInt8 → Prop} (h0 : P []) (h1 : ∀ l c, P l → P (l ++ [c])) (l : List UInt8) : P l := by
  have h : ∀ m : List UInt8, P m.reverse := by
    intro m
    induction m with
    | nil => exact h0
    | cons c m ih => rw [List.reverse_cons]; exact h1 _ _ ih
  have := h l.reverse
  rwa [List.reverse_reverse] at this
theorem dval_append (l : List UInt8) : ∀ m : List UInt8, dval (l ++ m) = dval l * 10 ^ m.length + dval m := by
  refine rev_ind ?_ ?_
  · simp [dval_nil]
  · intro m c ih
    rw [← List.append_assoc, dval_snoc, ih, dval_snoc, List.length_append, List.length_singleton, Int.pow_succ]
    grind
def IsDig (c : UInt8) : Prop := 48 ≤ c.toNat ∧ c.toNat ≤ 57
theorem dig_bd {c : UInt8} (h : IsDig c) : 0 ≤ dig c ∧ dig c ≤ 9 := by obtain ⟨a, b⟩ := h; unfold dig; omega
theorem dval_bd (l : List UInt8) : (∀ c ∈ l, IsDig c) → 0 ≤ dval l ∧ dval l < 10 ^ l.length := by
  revert l
  refine rev_ind ?_ ?_
  · intro _; simp [dval_nil]
  · intro l c ih h
    have a := ih (fun c hc => h c (by simp [hc]))
    have b := dig_bd (h c (by simp))
    rw [dval_snoc, List.length_append, List.length_singleton, Int.pow_succ]
    omega

/-- a text that may be: digits, as many as may be, no nought ahead of others -/
def OkText (l : List UInt8) : Prop := l ≠ [] ∧ l.length ≤ 78914 ∧ (1 < l.length → l.head? ≠ some 48) ∧ ∀ c ∈ l, IsDig c

/-- the decimal digits of a number, the lowest first -/
def digs (v : Nat) : List Int := if h : v = 0 then [] else ((v % 10 : Nat) : Int) :: digs (v / 10)
termination_by v
decreasing_by omega
theorem digs_zero : digs 0 = [] := by rw [digs]; simp
theorem digs_pos {v : Nat} (h : v ≠ 0) : digs v = ((v % 10 : Nat) : Int) :: digs (v / 10) := by rw [digs]; simp [h]
theorem digs_nil {v : Nat} (h : digs v = []) : v = 0 := by
  rcases Nat.eq_zero_or_pos v with k | k
  · exact k
  · rw [digs_pos (by omega)] at h; cases h
theorem digs_spec (v : Nat) : Lim 10 (digs v) ∧ Normal (digs v) ∧ val 10 (digs v) = v := by
  induction v using Nat.strongRecOn with
  | _ v ih =>
    rcases Nat.eq_zero_or_pos v with k | k
    · subst k; rw [digs_zero]; exact ⟨Lim.nil _, Normal.nil, rfl⟩
    · obtain ⟨a, b, c⟩ := ih (v / 10) (by omega)
      rw [digs_pos (by omega)]
      refine ⟨?_, ?_, ?_⟩
      · intro x hx
        rcases List.mem_cons.1 hx with rfl | hx
        · omega
        · exact a x hx
      · right
        rcases hd : digs (v / 10) with _ | ⟨y, m⟩
        · have := digs_nil hd
          simp only [List.length_cons, List.length_nil, Nat.zero_add, Nat.sub_self, D_cons_zero]
          omega
        · rw [hd] at b
          rcases b with b | b
          · cases b
          · simpa [D] using b
      · rw [val_cons, c]; omega
/-- of a number there is one normal list of decimal digits -/
theorem digs_unique {ds : List Int} {v : Nat} (h1 : Lim 10 ds) (h2 : Normal ds) (h3 : val 10 ds = v) : ds = digs v := by
  obtain ⟨a, b, c⟩ := digs_spec v
  exact normal_unique (by omega) h1 a h2 b (by rw [h3, c])

/-- a digit's byte -/
def chr (d : Int) : UInt8 := UInt8.ofNat (48 + d.toNat)
theorem chr_toNat {d : Int} (h0 : 0 ≤ d) (h1 : d < 10) : ((chr d).toNat : Int) = 48 + d := by
  unfold chr
  rw [UInt8.toNat_ofNat']
  omega
/-- a number's text -/
def txt (v : Nat) : List UInt8 := if v = 0 then [48] else ((digs v).map chr).reverse
theorem dval_digits {ds : List Int} (h : Lim 10 ds) : dval ((ds.map chr).reverse) = val 10 ds := by
  induction ds with
  | nil => rfl
  | cons d ds ih =>
    obtain ⟨a, b⟩ := h.cons
    rw [List.map_cons, List.reverse_cons, dval_snoc, ih b, val_cons]
    unfold dig
    rw [chr_toNat a.1 a.2]
    omega
theorem dval_txt (v : Nat) : dval (txt v) = v := by
  unfold txt
  split
  · rename_i h; subst h; rfl
  · obtain ⟨a, b, c⟩ := digs_spec v
    rw [dval_digits a, c]
theorem digs_len {v n : Nat} (h : v < 10 ^ n) : (digs v).length ≤ n := by
  obtain ⟨a, b, c⟩ := digs_spec v
  refine length_le_of_lt (b := 10) (by omega) a b ?_
  rw [c]
  exact_mod_cast h
theorem txt_ok {v : Nat} (h : v < 10 ^ 78914) : OkText (txt v) := by
  unfold txt
  split
  · exact ⟨by simp, by simp, by simp, fun c hc => by simp at hc; subst hc; exact ⟨by decide, by decide⟩⟩
  · rename_i h0
    obtain ⟨a, b, c⟩ := digs_spec v
    have hn : digs v ≠ [] := fun e => h0 (digs_nil e)
    refine ⟨by simpa using hn, by simpa using digs_len h, fun _ => ?_, fun x hx => ?_⟩
    · rw [List.head?_reverse, List.getLast?_map]
      rcases b with b | b
      · exact absurd b hn
      · intro e
        have hl : (digs v).getLast? = some (D (digs v) ((digs v).length - 1)) := by
          have hp := List.length_pos_iff.2 hn
          rw [List.getLast?_eq_getElem?, List.getElem?_eq_getElem (by omega), D_in (by omega)]
        rw [hl] at e
        simp only [Option.map_some, Option.some.injEq] at e
        have h2 := D_lim (b := 10) (by omega) a ((digs v).length - 1)
        have h3 := chr_toNat h2.1 h2.2
        rw [e] at h3
        have : ((48 : UInt8).toNat : Int) = 48 := by decide
        omega
    · simp only [List.mem_reverse, List.mem_map] at hx
      obtain ⟨d, hd, rfl⟩ := hx
      have h1 := a d hd
      have h2 := chr_toNat h1.1 h1.2
      unfold IsDig
      omega
end Go.Proofs.YtcdbjlmegkcaiaaGreatDoor
namespace Go.Proofs.YtcdbjlmegkcaiaaGreatDoor
open Go.RowKit
set_option linter.unusedVariables false

theorem byte_at (s : ByteArray) (k : Nat) (h : k < s.size) : s.data.toList[k]'(by simpa using h) = s[k] := by rw [Array.getElem_toList]; rfl
theorem size_nil {s : ByteArray} (h : s.data.toList = []) : s.size = 0 := by
  have h1 : s.data.toList.length = s.size := by rw [Array.length_toList]; rfl
  rw [h] at h1; exact h1.symm
theorem mem_at (s : ByteArray) (k : Nat) (h : k < s.size) : s[k] ∈ s.data.toList := by rw [← byte_at s k h]; exact List.getElem_mem _
theorem ok_digit {s : ByteArray} (h : OkText s.data.toList) {k : Nat} (hk : k < s.size) : 48 ≤ s[k].toNat ∧ s[k].toNat ≤ 57 := h.2.2.2 _ (mem_at s k hk)

end Go.Proofs.YtcdbjlmegkcaiaaGreatDoor
namespace Go.Proofs.YtcdbjlmegkcaiaaGreatDoor
open Go.RowKit
set_option linter.unusedVariables false

/-- a step of a number times a block -/
def BlockStep (x c : Int) (b : Nat) (w : World) (e : Ending) (w' : World) : Prop :=
  ∃ z d : Int, e = .returned (.int .u64 z) ∧ 0 ≤ z ∧ z < 18446744073709551616 ∧ 0 ≤ d ∧ d < 18446744073709551616 ∧ Hid (x * 10000000000000000000 + c = z + d * 18446744073709551616) ∧ w.setCell ⟨b, 0, none⟩ (.int .u64 d) = w'

/-- a number, with a block of digits behind it -/
def BlockPost (v : Int) (B : Nat) (w : World) (e : Ending) (w' : World) : Prop :=
  ∃ A c l, e = .returned (.slice A l.length c) ∧ Own w' B A c l ∧ Lim 18446744073709551616 l ∧ Normal l ∧ Hid (val 18446744073709551616 l = v) ∧ Below B w w'

theorem dval_take (s : ByteArray) (k : Nat) (hk : k < s.size) : dval (s.data.toList.take (k + 1)) = dval (s.data.toList.take k) * 10 + dig s[k] := by
  rw [List.take_succ_eq_append_getElem (by simpa using hk), dval_snoc, byte_at s k hk]

/-! ### texts that are read -/
theorem pow_base {a b : Int} (ha : 0 < a) (h : a ≤ b) (n : Nat) : a ^ n ≤ b ^ n := by
  induction n with
  | zero => simp
  | succ n ih =>
    rw [Int.pow_succ, Int.pow_succ]
    exact Int.mul_le_mul ih h (by omega) (Int.le_of_lt (pow_pos' (by omega) n))
theorem len_dec {l : List Int} {n : Nat} (hl : Lim 18446744073709551616 l) (nl : Normal l) (h : val 18446744073709551616 l < 10 ^ n) : l.length ≤ n :=
  length_le_of_lt (b := 18446744073709551616) (by omega) hl nl (Int.lt_of_lt_of_le h (pow_base (by omega) (by omega) n))

def strLen : Value → Nat | .string r => r.size | _ => 0
/-- what is read, so far -/
def ReadInv (s : ByteArray) (w0 : World) (rem : ByteArray) (sl : Value) (w : World) : Prop :=
  ∃ (p : Nat) (A : Option Addr) (c : Nat) (l : List Int), sl = .slice A l.length c ∧ rem.data.toList = s.data.toList.drop p ∧ rem.size + p = s.size ∧ (p = 0 ∨ rem.size % 19 = 0) ∧ Own w w0.heap.size A c l ∧ Lim 18446744073709551616 l ∧ Normal l ∧
    val 18446744073709551616 l = dval (s.data.toList.take p) ∧ Below w0.heap.size w0 w

theorem read_value {s rem : ByteArray} {p f : Nat} {v : Int} (h1 : rem.data.toList = s.data.toList.drop p) (h2 : rem.size + p = s.size) (hf : f ≤ rem.size) (hv : v = dval (s.data.toList.take p)) (h : p = 0 ∨ f = 19) :
    v * 10000000000000000000 + dval (rem.data.toList.take f) = dval (s.data.toList.take (p + f)) := by
  have e : s.data.toList.take (p + f) = s.data.toList.take p ++ rem.data.toList.take f := by rw [h1, List.take_add]
  have hl : (rem.data.toList.take f).length = f := by rw [List.length_take, Array.length_toList]; show min f rem.size = f; omega
  rw [e, dval_append, ← hv, hl]
  rcases h with h | h
  · subst h
    rw [List.take_zero, dval_nil] at hv
    subst hv; omega
  · subst h
    rw [show (10 : Int) ^ 19 = 10000000000000000000 from by decide]

end Go.Proofs.YtcdbjlmegkcaiaaGreatDoor
