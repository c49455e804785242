/-
  Layer 2, joined (wip/tools/merge.py): NatAU NatAV.
  Layer 2, the laws, part nine: NatSubs, NatMuls, NatDivs, NatRoots (written by wip/tools/gen_mid.py).
  Layer 2, the laws, part ten: the reference's Pow2, Shl; Shr; NatLeft, NatRight.
-/
import Derived.Test.YtmfikppnkjhmjaaGreatDoorTNR2
namespace Go.Proofs.YtmfikppnkjhmjaaGreatDoor
open Go.RowKit
set_option linter.unusedVariables false

section
variable {A A2 : Option Addr} {n m c c2 : Nat} {l s : List Int} {w : World} (h : Lv w A n c l) (h2 : Lv w A2 m c2 s)
include h
include h2
end
theorem len_val {l : List Int} {k : Nat} {v : Int} (h : Lim 18446744073709551616 l) (hn : Normal l) (hv : val 18446744073709551616 l = v) (hk : v < 18446744073709551616 ^ k) : l.length ≤ k :=
  length_le_of_lt (b := 18446744073709551616) (by omega) h hn (by rw [hv]; exact hk)
theorem norm_self {l : List Int} (h : Lim 18446744073709551616 l) (hn : Normal l) : norm l = l := norm_of_normal (b := 18446744073709551616) (by omega) h hn
theorem lim_one : Lim 18446744073709551616 [1] := by intro x hx; simp at hx; omega
theorem div_facts {a q b r P : Int} (q0 : 0 ≤ q) (b0 : 0 < b) (r0 : 0 ≤ r) (h : a = q * b + r) (ha : a < P) : q < P ∧ r < P ∧ q * b < P := by
  have h1 : 0 ≤ q * (b - 1) := Int.mul_nonneg q0 (by omega)
  have h2 : q * (b - 1) = q * b - q := by grind
  exact ⟨by omega, by omega, by omega⟩
theorem root_facts {a s r P : Int} (h : IsRoot a s r) (ha : a < P) (h1 : 1 < P) : s < P ∧ r < P ∧ s * s < P ∧ s + 1 < 2 * P ∧ (s + 1) * (s + 1) < 4 * P ∧ a < (s + 1) * (s + 1) := by
  obtain ⟨e, s0, r0, hr⟩ := h
  have h2 : (s + 1) * (s + 1) = s * s + 2 * s + 1 := by grind
  have h3 : 0 ≤ s * (s - 1) ∨ s = 0 := by
    rcases (show s = 0 ∨ 1 ≤ s by omega) with h | h
    · exact .inr h
    · exact .inl (Int.mul_nonneg s0 (by omega))
  have h4 : s * (s - 1) = s * s - s := by grind
  rw [h2]
  rcases h3 with h3 | h3
  · refine ⟨by omega, by omega, by omega, by omega, by omega, by omega⟩
  · subst h3
    simp at *
    omega

end Go.Proofs.YtmfikppnkjhmjaaGreatDoor
namespace Go.Proofs.YtmfikppnkjhmjaaGreatDoor
open Go.RowKit
set_option linter.unusedVariables false

theorem val_set (b : Int) : ∀ (l : List Int) (i : Nat) (v : Int), i < l.length → val b (l.set i v) = val b l + (v - D l i) * b ^ i
  | [], i, v, h => by simp at h
  | x :: l, 0, v, h => by
    rw [List.set_cons_zero, val_cons, val_cons, D_cons_zero]
    simp
    omega
  | x :: l, i + 1, v, h => by
    rw [List.set_cons_succ, val_cons, val_cons, D_cons_succ, val_set b l i v (by simpa using h), Int.pow_succ]
    grind

theorem pow_word {r : Nat} (hr : r < 64) : (2 : Int) ^ r ≤ 9223372036854775808 := by
  have := pow_le' (b := 2) (by omega) (show r ≤ 63 by omega)
  have e : (2 : Int) ^ 63 = 9223372036854775808 := by decide
  omega

theorem L_set (l : List Int) (q : Nat) (p : Int) : L (l.set q p) = (L l).set q (.int .u64 p) := by simp [L, List.map_set]

/-! ### shifted down, bit by bit -/
theorem mod_step {v : Int} (h0 : 0 ≤ v) (t : Nat) : v % 2 ^ (t + 1) = v % 2 ^ t + 2 ^ t * (v / 2 ^ t % 2) := by
  have hp := two_pos t
  have h1 := Int.mul_ediv_add_emod v (2 ^ t)
  have h2 := Int.emod_nonneg v (Int.ne_of_gt hp)
  have h3 := Int.emod_lt_of_pos v hp
  have h4 := Int.mul_ediv_add_emod (v / 2 ^ t) 2
  generalize v % 2 ^ t = R at *
  generalize v / 2 ^ t = Q at *
  have hq : Q % 2 = 0 ∨ Q % 2 = 1 := by omega
  rw [Int.pow_succ]
  refine emod_of (q := Q / 2) (by omega) ?_ ?_ ?_
  · rw [← h1]
    generalize (2 : Int) ^ t = P at *
    generalize Q / 2 = Z at *
    generalize Q % 2 = Y at *
    rw [← h4]
    grind
  · rcases hq with h | h <;> rw [h] <;> omega
  · rcases hq with h | h <;> rw [h] <;> omega
theorem lost_step {v : Int} (h0 : 0 ≤ v) (t : Nat) : lostB v (t + 1) = (lostB v t || decide (v / 2 ^ t % 2 = 1)) := by
  have hp := two_pos t
  have h2 := Int.emod_nonneg v (Int.ne_of_gt hp)
  have hs := mod_step h0 t
  have hq : v / 2 ^ t % 2 = 0 ∨ v / 2 ^ t % 2 = 1 := by omega
  unfold lostB
  rw [hs]
  rcases hq with h | h
  · rw [h]; simp
  · rw [h]
    have : v % 2 ^ t + 2 ^ t * 1 ≠ 0 := by omega
    simp
    omega
/-- the digit in which the next bit is set has room for it -/
theorem bit_room {l : List Int} {q r : Nat} (hl : Lim 18446744073709551616 l) (hv : val 18446744073709551616 l < 2 ^ (64 * q + r)) : D l q < 2 ^ r := by
  have h1 := S_of_bound (b := 18446744073709551616) (by omega) hl q
  have h2 : S 18446744073709551616 (D l) (q + 1) ≤ val 18446744073709551616 l := S_le_val (by omega) hl (q + 1)
  rw [S_succ] at h2
  rw [pow_limbs] at hv
  have hp := pow_pos' (b := 18446744073709551616) (by omega) q
  generalize (18446744073709551616 : Int) ^ q = P at *
  generalize (2 : Int) ^ r = R at *
  generalize D l q = x at *
  rcases (show x < R ∨ R ≤ x by omega) with h | h
  · exact h
  · have := Int.mul_le_mul_of_nonneg_left h (Int.le_of_lt hp)
    have e : P * x = x * P := Int.mul_comm _ _
    omega
def DownInv (v : Int) (j n t : Nat) (C : List Int) : Prop := C.length = n ∧ Lim 18446744073709551616 C ∧ val 18446744073709551616 C = v % 2 ^ t / 2 ^ j
theorem pow_parts {j t : Nat} (h : j ≤ t) : (2 : Int) ^ t = 2 ^ j * 2 ^ (t - j) := by rw [← Int.pow_add]; congr 1; omega
theorem shr_bit {v : Int} {j t : Nat} (h0 : 0 ≤ v) (hjt : j ≤ t) (hb : v / 2 ^ t % 2 = 1) : v % 2 ^ (t + 1) / 2 ^ j = v % 2 ^ t / 2 ^ j + 2 ^ (t - j) := by
  rw [mod_step h0, hb, Int.mul_one, pow_parts hjt, Int.add_mul_ediv_left _ _ (Int.ne_of_gt (two_pos j))]
theorem shr_small {v : Int} {j t : Nat} (h0 : 0 ≤ v) (hjt : j ≤ t) : v % 2 ^ t / 2 ^ j < 2 ^ (t - j) := by
  refine Int.ediv_lt_of_lt_mul (two_pos j) ?_
  rw [Int.mul_comm, ← pow_parts hjt]
  exact Int.emod_lt_of_pos v (two_pos t)
theorem DownInv.step0 {v : Int} {j n t : Nat} {C : List Int} (h : DownInv v j n t C) (h0 : 0 ≤ v) (hb : v / 2 ^ t % 2 ≠ 1) : DownInv v j n (t + 1) C := by
  obtain ⟨h1, h2, h3⟩ := h
  have : v / 2 ^ t % 2 = 0 := by omega
  exact ⟨h1, h2, by rw [h3, mod_step h0, this]; simp⟩
theorem DownInv.step1 {v : Int} {j n t q r : Nat} {C : List Int} (h : DownInv v j n t C) (h0 : 0 ≤ v) (hjt : j ≤ t) (hb : v / 2 ^ t % 2 = 1) (hq : t - j = 64 * q + r) (hr : r < 64) (hqn : q < n) :
    0 ≤ D C q ∧ D C q + 2 ^ r < 18446744073709551616 ∧ DownInv v j n (t + 1) (C.set q (D C q + 2 ^ r)) := by
  obtain ⟨h1, h2, h3⟩ := h
  have hsm := shr_small (v := v) h0 hjt
  rw [hq] at hsm
  have hroom := bit_room h2 (by rw [h3]; exact hsm)
  have hw := pow_word hr
  have hp := two_pos r
  have hd := D_lim (b := 18446744073709551616) (by omega) h2 q
  refine ⟨hd.1, by omega, by simp [h1], h2.set _ (by omega) (by omega), ?_⟩
  rw [val_set _ _ _ _ (by omega), shr_bit h0 hjt hb, h3, hq, pow_limbs]
  grind
theorem DownInv.start {v : Int} {j n : Nat} (h0 : 0 ≤ v) : DownInv v j n j (List.replicate n 0) := by
  refine ⟨by simp, Lim.zeros (by omega) _, ?_⟩
  rw [val_replicate, Int.ediv_eq_zero_of_lt (Int.emod_nonneg v (Int.ne_of_gt (two_pos j))) (Int.emod_lt_of_pos v (two_pos j))]
theorem lost_all {v : Int} {b j : Nat} (hb : IsBits v b) (hj : b ≤ j) : lostB v b = lostB v j ∧ v / 2 ^ j = 0 := by
  have h1 := pow_le' (b := 2) (by omega) hj
  have h2 := hb.2.1
  unfold lostB
  rw [Int.emod_eq_of_lt hb.1 h2, Int.emod_eq_of_lt hb.1 (by omega)]
  exact ⟨rfl, Int.ediv_eq_zero_of_lt hb.1 (by omega)⟩

def RShrPost (v : Int) (j : Nat) (w : World) (e : Ending) (w' : World) : Prop :=
  ∃ l A c, e = .returned (.tuple #[.slice A l.length c, .bool (lostB v j)]) ∧ Normal l ∧ Hid (val 18446744073709551616 l = v / 2 ^ j) ∧ Lv w' A l.length c l ∧ Below w.heap.size w w'
theorem RShrPost.nil {v : Int} {b j : Nat} {w w' : World} (hb : IsBits v b) (hj : b ≤ j) (h : Below w.heap.size w w') (x : Bool) (hx : lostB v b = x) : RShrPost v j w (.returned (.tuple #[.slice none 0 0, .bool x])) w' := by
  have := lost_all hb hj
  exact ⟨[], none, 0, by rw [← hx, this.1]; rfl, Normal.nil, by show _ = _; rw [this.2, val_nil], lv_nil w', h⟩

/-! ### NatLeft, NatRight (the walks are written by wip/tools/gen_shift.py) -/
theorem left_bound {v : Int} (h0 : 0 ≤ v) (h1 : v < 18446744073709551616 ^ 60) {j : Nat} (hj : j ≤ 5000) : v * 2 ^ j < 18446744073709551616 ^ 4096 ∧ (2 : Int) ^ j < 18446744073709551616 ^ 4096 := by
  have h2 := pow_le' (b := 2) (by omega) hj
  have hp := two_pos j
  have e1 : (18446744073709551616 : Int) ^ 139 ≤ 18446744073709551616 ^ 4096 := pow_le' (by omega) (by omega)
  have e2 : (2 : Int) ^ 5000 ≤ 18446744073709551616 ^ 79 := by rw [pow64]; exact pow_le' (by omega) (by omega)
  have e3 : (18446744073709551616 : Int) ^ 139 = 18446744073709551616 ^ 60 * 18446744073709551616 ^ 79 := by rw [← Int.pow_add]
  have hq : (2 : Int) ≤ 18446744073709551616 ^ 60 := by decide
  generalize (18446744073709551616 : Int) ^ 4096 = K at *
  generalize (18446744073709551616 : Int) ^ 139 = Q at *
  generalize (18446744073709551616 : Int) ^ 60 = P at *
  generalize (18446744073709551616 : Int) ^ 79 = R at *
  generalize (2 : Int) ^ 5000 = T at *
  generalize (2 : Int) ^ j = X at *
  have h4 : v * X ≤ (P - 1) * R := Int.mul_le_mul (by omega) (by omega) (by omega) (by omega)
  have h5 : (P - 1) * R = P * R - R := by grind
  have h6 : 2 * R ≤ P * R := Int.mul_le_mul_of_nonneg_right hq (by omega)
  generalize P * R = Z at *
  generalize v * X = Y at *
  exact ⟨by omega, by omega⟩
section
variable {A : Option Addr} {n c : Nat} {l : List Int} {w : World} (h : Lv w A n c l)
include h
theorem Shl_neg_lv (hn : n ≤ 4096) (k : Int) (hk : k < 0) : Calls Tryz.prog 90 #[.slice A n c, .int .i64 k] w (Fails 2 w) := by
  have := Shl_neg A c l w h.2.1 h.2.2 (norm_le h.1 hn) k hk
  rw [h.1] at this
  exact this
theorem Shl_val (hn : n ≤ 60) (j : Nat) (hj : j ≤ 5000) : Calls Tryz.prog 90 #[.slice A n c, .int .i64 j] w (GoodV (val 18446744073709551616 l * 2 ^ j) w) := by
  have hb := (left_bound h.nonneg (h.less hn) hj).1
  by_cases h0 : val 18446744073709551616 l = 0
  · have := Shl_zero A c l w h.2.1 h.2.2 (norm_le h.1 (by omega)) (j : Int) (by omega) h0
    rw [h.1] at this
    rw [h0, Int.zero_mul] at hb ⊢
    exact this.mono fun e w' q => q.goodV hb
  · have := Shl_any A c l w h.2.1 h.2.2 (norm_le h.1 (by omega)) j h0 (by rw [show (262144 : Nat) = 64 * 4096 from rfl, ← pow64]; exact hb)
    rw [h.1] at this
    exact this.mono fun e w' q => q.goodV hb
theorem Shr_neg_lv (hn : n ≤ 4096) (k : Int) (hk : k < 0) : Calls Tryz.prog 59 #[.slice A n c, .int .i64 k] w fun e w' => e = .returned (.tuple #[.slice none 0 0, .bool false, .int .i64 2]) ∧ w = w' := by
  have := Shr_neg A c l w h.2.1 h.2.2 (norm_le h.1 hn) k hk
  rw [h.1] at this
  exact this
theorem Shr_lv (hn : n ≤ 4096) (hT : Tab w) (j : Nat) (hj : (j : Int) ≤ 9223372036854775807) (L : Bool) (hL : lostB (val 18446744073709551616 l) j = L) : Calls Tryz.prog 59 #[.slice A n c, .int .i64 j] w fun e w' =>
    ∃ s A c, e = .returned (.tuple #[.slice A s.length c, .bool L, .int .i64 0]) ∧ Normal s ∧ Hid (val 18446744073709551616 s = val 18446744073709551616 l / 2 ^ j) ∧ Lv w' A s.length c s ∧ Below w.heap.size w w' := by
  have := Shr_any A c l w h.2.1 h.2.2 (norm_le h.1 hn) hT j (by omega)
  rw [h.1] at this
  refine this.mono ?_
  rintro e w' ⟨s, A1, c1, rfl, h1, h2, h3, h4, h5⟩
  exact ⟨s, A1, c1, by rw [hL], h2, h3, ⟨rfl, h4.nums, h1⟩, h5⟩
end
end Go.Proofs.YtmfikppnkjhmjaaGreatDoor
