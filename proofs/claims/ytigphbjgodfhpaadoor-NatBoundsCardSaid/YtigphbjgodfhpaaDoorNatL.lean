/-
  Layer 2, walks, part eleven: the program's shifts, bits and noughts, as they are handed out.
-/
import Derived.Test.YtigphbjgodfhpaaDoorNatK
namespace Go.Proofs.YtigphbjgodfhpaaDoor
open Go.RowKit
set_option linter.unusedVariables false

theorem val_pos_len {l : List Int} (h : val 18446744073709551616 l ≠ 0) : 0 < l.length := by
  rcases Nat.eq_zero_or_pos l.length with k | k
  · have : l = [] := List.eq_nil_of_length_eq_zero k
    subst this; exact absurd rfl h
  · exact k

section
variable (A : Option Addr) (c : Nat) (l : List Int) (w : World) (h : Nums w w.heap.size A c l) (hl : Lim 18446744073709551616 l) (hlen : (norm l).length ≤ 4096)
include h hl hlen

set_option maxHeartbeats 1000000 in
theorem Shl_neg (j : Int) (hj : j < 0) : Calls Tryd.prog 31 #[.slice A l.length c, .int .i64 j] w (Fails 2 w) := by
  go_enter Tryd.func31, Tryd.ntmps31
  go_wp2_with (go_at_call 51; ((with_reducible refine (taken_any A c l _ _ h hl hlen).mono ?_); rintro e w' ⟨A', c', rfl, ht, rfl⟩))
  go_ret2
  exact ⟨rfl, Below.refl _ _⟩

set_option maxHeartbeats 1000000 in
theorem Shl_any (j : Nat) (hv0 : val 18446744073709551616 l ≠ 0) (hv : val 18446744073709551616 l * 2 ^ j < 2 ^ 262144) :
    Calls Tryd.prog 31 #[.slice A l.length c, .int .i64 j] w (Made2 (val 18446744073709551616 l * 2 ^ j) w) := by
  have e1 := norm_val 18446744073709551616 l
  rw [← e1] at hv hv0
  rw [← e1]
  have hpos := val_pos_len hv0
  have hb0 := (val_bound (b := 18446744073709551616) (by omega) (norm_lim hl)).1
  have hbits : ∀ n, IsBits (val 18446744073709551616 (norm l)) n → n + j ≤ 262144 := by
    rintro n ⟨a, b, d⟩
    rcases Nat.eq_zero_or_pos n with k | k
    · subst k; simp at b; omega
    · rcases Nat.lt_or_ge 262144 (n + j) with g | g
      · have h1 := pow_le' (b := 2) (by omega) (show 262144 ≤ n - 1 + j by omega)
        rw [Int.pow_add] at h1
        have h2 := Int.mul_le_mul_of_nonneg_right (d k) (Int.le_of_lt (two_pos j))
        generalize (2 : Int) ^ 262144 = Z at *
        omega
      · exact g
  have HB := Lib.hid hbits
  clear e1 hbits hv hv0
  go_enter Tryd.func31, Tryd.ntmps31
  go_wp2_with (first
    | (go_at_call 51; ((with_reducible refine (taken_any A c l _ _ h hl hlen).mono ?_); rintro e w' ⟨A', c', rfl, ht, rfl⟩))
    | (go_at_call 62; ((with_reducible refine (bitsOf_any A' c' (norm l) _ _ (ht.nums h) (norm_lim hl) (norm_normal l) (by omega)).mono ?_); rintro e w' ⟨n, rfl, hn, rfl⟩; have hnj := HB.out n hn))
    | (go_at_call 63; ((with_reducible refine (shiftedUp_any A' c' (norm l) j _ (ht.nums h) (norm_lim hl) (by omega) (by omega) hpos).mono ?_); rintro e w' ⟨s, A3, c3, rfl, hs1, hs2, hs3, hs4, hs5⟩; have HS3 := Lib.hid hs3; clear hs3)))
  go_ret2
  exact ⟨s, A3, c3, rfl, hs1, hs2, HS3.out, hs4, hs5⟩

set_option maxHeartbeats 1000000 in
theorem Shl_long (j : Nat) (hj : j ≤ 9223372036854775807) (hv0 : val 18446744073709551616 l ≠ 0) (hv : 2 ^ 262144 ≤ val 18446744073709551616 l * 2 ^ j) :
    Calls Tryd.prog 31 #[.slice A l.length c, .int .i64 j] w (Fails 3 w) := by
  have e1 := norm_val 18446744073709551616 l
  rw [← e1] at hv hv0
  have hpos := val_pos_len hv0
  have hb := val_bound (b := 18446744073709551616) (by omega) (norm_lim hl)
  rw [pow64] at hb
  have hbits : ∀ n, IsBits (val 18446744073709551616 (norm l)) n → 262144 < n + j ∧ n ≤ 262144 := by
    rintro n ⟨a, b, d⟩
    constructor
    · rcases Nat.lt_or_ge 262144 (n + j) with g | g
      · exact g
      · have h1 := pow_le' (b := 2) (by omega) (show n + j ≤ 262144 by omega)
        rw [Int.pow_add] at h1
        have h2 := Int.mul_lt_mul_of_pos_right b (two_pos j)
        generalize (2 : Int) ^ 262144 = Z at *
        omega
    · rcases Nat.lt_or_ge 262144 n with g | g
      · have h1 := pow_le' (b := 2) (by omega) (show 64 * (norm l).length ≤ n - 1 by omega)
        have := d (by omega)
        omega
      · exact g
  have HB := Lib.hid hbits
  clear e1 hbits hv hv0 hb
  go_enter Tryd.func31, Tryd.ntmps31
  go_wp2_with (first
    | (go_at_call 51; ((with_reducible refine (taken_any A c l _ _ h hl hlen).mono ?_); rintro e w' ⟨A', c', rfl, ht, rfl⟩))
    | (go_at_call 62; ((with_reducible refine (bitsOf_any A' c' (norm l) _ _ (ht.nums h) (norm_lim hl) (norm_normal l) (by omega)).mono ?_); rintro e w' ⟨n, rfl, hn, rfl⟩; have hnj := (HB.out n hn).1; have hnj2 := (HB.out n hn).2)))
  go_ret2
  exact ⟨rfl, Below.refl _ _⟩

set_option maxHeartbeats 1000000 in
theorem Shl_zero (j : Int) (hj : 0 ≤ j) (hv0 : val 18446744073709551616 l = 0) :
    Calls Tryd.prog 31 #[.slice A l.length c, .int .i64 j] w (Made2 0 w) := by
  have e1 := norm_val 18446744073709551616 l
  have hn : norm l = [] := val_eq_zero (b := 18446744073709551616) (by omega) (norm_lim hl) (norm_normal l) (by rw [e1, hv0])
  have htk := taken_any A c l w _ h hl hlen
  unfold TakenPost at htk
  rw [hn] at htk
  have HT := Lib.hid htk
  clear htk e1 hn
  go_enter Tryd.func31, Tryd.ntmps31
  go_wp2_with (first
    | (go_at_call 51; ((with_reducible refine HT.out.mono ?_); rintro e w' ⟨A', c', rfl, ht, rfl⟩))
    | (go_at_call 63; ((with_reducible refine (shiftedUp_nil A' c' j _).mono ?_); rintro e w' ⟨s, A3, c3, rfl, hs1, hs2, hs3, hs4, hs5⟩; have HS3 := Lib.hid hs3; clear hs3)))
  go_ret2
  exact ⟨s, A3, c3, rfl, hs1, hs2, HS3.out, hs4, hs5⟩

set_option maxHeartbeats 1000000 in
theorem Bits_any : Calls Tryd.prog 37 #[.slice A l.length c] w fun e w' => ∃ n : Nat, e = .returned (.tuple #[.int .i64 n, .int .i64 0]) ∧ IsBits (val 18446744073709551616 l) n ∧ w = w' := by
  have e1 := norm_val 18446744073709551616 l
  rw [← e1]
  clear e1
  go_enter Tryd.func37, Tryd.ntmps37
  go_wp2_with (first
    | (go_at_call 51; ((with_reducible refine (taken_any A c l _ _ h hl hlen).mono ?_); rintro e w' ⟨A', c', rfl, ht, rfl⟩))
    | (go_at_call 62; ((with_reducible refine (bitsOf_any A' c' (norm l) _ _ (ht.nums h) (norm_lim hl) (norm_normal l) (by omega)).mono ?_); rintro e w' ⟨n, rfl, hn, rfl⟩)))
  go_ret2
  exact ⟨n, rfl, hn, rfl⟩

set_option maxHeartbeats 1000000 in
theorem Zeros_any (hT : Tab w) : Calls Tryd.prog 38 #[.slice A l.length c] w fun e w' => ∃ n : Nat, e = .returned (.tuple #[.int .i64 n, .int .i64 0]) ∧ (val 18446744073709551616 l = 0 → n = 0) ∧ (val 18446744073709551616 l ≠ 0 → IsZeros (val 18446744073709551616 l) n) ∧ w = w' := by
  have e1 := norm_val 18446744073709551616 l
  rw [← e1]
  have HT := Lib.hid hT
  clear e1 hT
  go_enter Tryd.func38, Tryd.ntmps38
  go_wp2_with (first
    | (go_at_call 51; ((with_reducible refine (taken_any A c l _ _ h hl hlen).mono ?_); rintro e w' ⟨A', c', rfl, ht, rfl⟩))
    | (go_at_call 65; ((with_reducible refine (zeros_any A' c' (norm l) _ _ (ht.nums h) (norm_lim hl) (by omega) HT.out).mono ?_); rintro e w' ⟨n, rfl, hn1, hn2, hn3, rfl⟩; have H2 := Lib.hid hn2; have H3 := Lib.hid hn3; clear hn2 hn3)))
  go_ret2
  exact ⟨n, rfl, H2.out, H3.out, rfl⟩

set_option maxHeartbeats 1000000 in
theorem Shr_neg (j : Int) (hj : j < 0) : Calls Tryd.prog 35 #[.slice A l.length c, .int .i64 j] w fun e w' => e = .returned (.tuple #[.slice none 0 0, .bool false, .int .i64 2]) ∧ w = w' := by
  go_enter Tryd.func35, Tryd.ntmps35
  go_wp2_with (go_at_call 51; ((with_reducible refine (taken_any A c l _ _ h hl hlen).mono ?_); rintro e w' ⟨A', c', rfl, ht, rfl⟩))
  go_ret3
  exact ⟨rfl, rfl⟩
end

/-- is the rest of a division by 2^j something? -/
def lostB (v : Int) (j : Nat) : Bool := decide (v % 2 ^ j ≠ 0)
theorem lost_of {v : Int} {j n : Nat} (hz : IsZeros v n) : lostB v j = decide (n < j) := by
  obtain ⟨m, hm, e⟩ := hz
  unfold lostB
  rcases Nat.lt_or_ge n j with g | g
  · rw [decide_eq_true g]
    have h1 : v % 2 ^ j ≠ 0 := by
      intro h0
      obtain ⟨q, hq⟩ := Int.dvd_of_emod_eq_zero h0
      obtain ⟨d, rfl⟩ : ∃ d, j = n + 1 + d := ⟨j - (n + 1), by omega⟩
      rw [Int.pow_add, Int.pow_succ] at hq
      have hp := two_pos n
      rw [e] at hq
      generalize (2 : Int) ^ d = Z at *
      have h2 : 2 * m + 1 = 2 * Z * q := by
        apply Int.eq_of_mul_eq_mul_left (Int.ne_of_gt hp)
        generalize (2 : Int) ^ n = P at *
        grind
      have : 2 * Z * q = 2 * (Z * q) := by grind
      omega
    exact decide_eq_true h1
  · rw [decide_eq_false (show ¬ n < j by omega)]
    have h1 : v % 2 ^ j = 0 := by
      obtain ⟨d, rfl⟩ : ∃ d, n = j + d := ⟨n - j, by omega⟩
      rw [e, Int.pow_add]
      have e2 : (2 : Int) ^ j * 2 ^ d * (2 * m + 1) = 2 ^ j * (2 ^ d * (2 * m + 1)) := by grind
      rw [e2, Int.mul_emod_right]
    simp [h1]

def ShrPost (v : Int) (j : Nat) (w : World) (e : Ending) (w' : World) : Prop :=
  ∃ s A c, e = .returned (.tuple #[.slice A s.length c, .bool (lostB v j), .int .i64 0]) ∧ Lim 18446744073709551616 s ∧ Normal s ∧ val 18446744073709551616 s = v / 2 ^ j ∧ Own w' w.heap.size A c s ∧ Below w.heap.size w w'

set_option maxHeartbeats 2000000 in
theorem Shr_any (A : Option Addr) (c : Nat) (l : List Int) (w : World) (h : Nums w w.heap.size A c l) (hl : Lim 18446744073709551616 l) (hlen : (norm l).length ≤ 4096) (hT : Tab w) (j : Nat) (hj : j ≤ 9223372036854775807) :
    Calls Tryd.prog 35 #[.slice A l.length c, .int .i64 j] w (ShrPost (val 18446744073709551616 l) j w) := by
  have e1 := norm_val 18446744073709551616 l
  have hlt := hT.lt
  have HT := Lib.hid hT
  clear hT
  rcases Nat.eq_zero_or_pos (norm l).length with hp | hp
  · have hn : norm l = [] := List.eq_nil_of_length_eq_zero hp
    have hv0 : val 18446744073709551616 l = 0 := by rw [← e1, hn]; rfl
    have hlost : lostB 0 j = false := by simp [lostB]
    have htk := taken_any A c l w _ h hl hlen
    unfold TakenPost at htk
    rw [hn] at htk
    have HK := Lib.hid htk
    have hsd := fun A' c' (hc : c' ≤ maxLen) W => shiftedDown_any A' c' [] j W (Nums.empty W _ A' hc) (Lim.nil _) (by simp) hj
    have HD := Lib.hid hsd
    rw [hv0]
    have HB := Lib.hid hlost
    have hmax := h.max
    clear htk e1 hn hsd hlost hv0
    go_enter Tryd.func35, Tryd.ntmps35
    go_wp2_with (first
      | (go_at_call 51; ((with_reducible refine HK.out.mono ?_); rintro e w' ⟨A', c', rfl, ht, rfl⟩; have hc' : c' ≤ maxLen := by rcases ht with ⟨_, h1, _⟩ | ⟨_, h1, _⟩ <;> subst h1 <;> first | exact hmax | (unfold maxLen; omega)))
      | (go_at_call 64; (refine (HD.out A' c' hc' _).mono ?_; rintro e w' ⟨s, A3, c3, rfl, hs1, hs2, hs3, hs4, hs5⟩; have HS3 := Lib.hid hs3; clear hs3)))
    go_ret3
    exact ⟨s, A3, c3, by rw [HB.out]; rfl, hs1, hs2, by rw [HS3.out, val_nil], hs4, hs5⟩
  · rw [← e1]
    have hv0 : val 18446744073709551616 (norm l) ≠ 0 := fun h0 => by
      have := val_eq_zero (b := 18446744073709551616) (by omega) (norm_lim hl) (norm_normal l) h0
      rw [this] at hp; simp at hp
    have HV := Lib.hid hv0
    have hsz : w.heap.size ≤ w.heap.size := Nat.le_refl _
    clear e1 hv0
    go_enter Tryd.func35, Tryd.ntmps35
    go_wp2_with (first
      | (go_at_call 51; ((with_reducible refine (taken_any A c l _ _ h hl hlen).mono ?_); rintro e w' ⟨A', c', rfl, ht, rfl⟩))
      | (go_at_call 64; ((with_reducible refine (shiftedDown_any A' c' (norm l) j _ (ht.nums h) (norm_lim hl) (by omega) hj).mono ?_); rintro e w' ⟨s, A3, c3, rfl, hs1, hs2, hs3, hs4, hs5⟩; have HS3 := Lib.hid hs3; clear hs3))
      | (go_at_call 65; ((with_reducible refine (zeros_any A' c' (norm l) _ _ ((ht.nums h).below hs5) (norm_lim hl) (by omega) (HT.out.below hs5 hlt)).mono ?_); rintro e w2 ⟨n, rfl, hn1, hn2, hn3, rfl⟩; have H3 := Lib.hid (hn3 HV.out); clear hn2 hn3)))
    all_goals
      go_ret3
      exact ⟨s, A3, c3, by rw [lost_of H3.out]; simp, hs1, hs2, HS3.out, hs4, hs5⟩
end Go.Proofs.YtigphbjgodfhpaaDoor
