/-
  Layer 2, walks, part ten: how many bits; noughts at the lower end; each bit; what is shifted, as it is handed out.
-/
import Derived.Test.YtigphbjgodfhpaaDoorNatJ
import Derived.Lib.ItoaNum
import Derived.Shelf.Spec.TrailingZeros
namespace Go.Proofs.YtigphbjgodfhpaaDoor
open Go.RowKit
set_option linter.unusedVariables false

/-- n is the least number of bits that v fits in -/
def IsBits (v : Int) (n : Nat) : Prop := 0 ≤ v ∧ v < 2 ^ n ∧ (0 < n → 2 ^ (n - 1) ≤ v)
theorem IsBits.unique {v : Int} {m n : Nat} (h : IsBits v m) (k : IsBits v n) : m = n := by
  obtain ⟨a0, a1, a2⟩ := h
  obtain ⟨b0, b1, b2⟩ := k
  rcases Nat.lt_trichotomy m n with g | g | g
  · have := pow_le' (b := 2) (by omega) (show m ≤ n - 1 by omega)
    have := b2 (by omega)
    omega
  · exact g
  · have := pow_le' (b := 2) (by omega) (show n ≤ m - 1 by omega)
    have := a2 (by omega)
    omega
theorem pow64 (n : Nat) : (18446744073709551616 : Int) ^ n = 2 ^ (64 * n) := by have := pow_limbs n 0; simp at this; exact this.symm

theorem top_bits (x : Int) (h0 : 0 < x) (h1 : x < 18446744073709551616) : 1 ≤ Lib.bitLen x.toNat ∧ Lib.bitLen x.toNat ≤ 64 ∧ (2 : Int) ^ (Lib.bitLen x.toNat - 1) ≤ x ∧ x < 2 ^ Lib.bitLen x.toNat := by
  obtain ⟨x, rfl⟩ := Int.eq_ofNat_of_zero_le (Int.le_of_lt h0)
  obtain ⟨a, b, c⟩ := Lib.bitLenAux_bounds 64 x (by omega) (by omega)
  have d := Lib.bitLen_le x 64 (by omega) (by omega)
  have e1 : ((2 ^ (Lib.bitLenAux 64 x - 1) : Nat) : Int) = 2 ^ (Lib.bitLenAux 64 x - 1) := by push_cast; rfl
  have e2 : ((2 ^ (Lib.bitLenAux 64 x) : Nat) : Int) = 2 ^ (Lib.bitLenAux 64 x) := by push_cast; rfl
  simp only [Int.toNat_natCast]
  unfold Lib.bitLen at *
  exact ⟨a, d, by omega, by omega⟩

theorem isBits_of_top {l : List Int} {t : Nat} (hl : Lim 18446744073709551616 l) (hn : 0 < l.length) (ht : 1 ≤ t) (h1 : (2 : Int) ^ (t - 1) ≤ D l (l.length - 1)) (h2 : D l (l.length - 1) < 2 ^ t) :
    IsBits (val 18446744073709551616 l) (64 * (l.length - 1) + t) := by
  have b := val_bound (b := 18446744073709551616) (by omega) hl
  have hs := S_of_bound (b := 18446744073709551616) (by omega) hl (l.length - 1)
  have e : val 18446744073709551616 l = S 18446744073709551616 (D l) (l.length - 1) + D l (l.length - 1) * 18446744073709551616 ^ (l.length - 1) := by
    unfold val; rw [← S_succ]; congr 1; omega
  have hp := pow_pos' (b := 18446744073709551616) (by omega) (l.length - 1)
  refine ⟨b.1, ?_, fun _ => ?_⟩
  · rw [pow_limbs, e]
    have : 0 ≤ 18446744073709551616 ^ (l.length - 1) * (2 ^ t - 1 - D l (l.length - 1)) := Int.mul_nonneg (by omega) (by omega)
    generalize (18446744073709551616 : Int) ^ (l.length - 1) = P at *
    generalize (2 : Int) ^ t = Q at *
    generalize D l (l.length - 1) = x at *
    have e2 : P * (Q - 1 - x) = P * Q - P - x * P := by grind
    omega
  · rw [show 64 * (l.length - 1) + t - 1 = 64 * (l.length - 1) + (t - 1) from by omega, pow_limbs, e]
    have : 0 ≤ 18446744073709551616 ^ (l.length - 1) * (D l (l.length - 1) - 2 ^ (t - 1)) := Int.mul_nonneg (by omega) (by omega)
    generalize (18446744073709551616 : Int) ^ (l.length - 1) = P at *
    generalize (2 : Int) ^ (t - 1) = Q at *
    generalize D l (l.length - 1) = x at *
    have e2 : P * (x - Q) = x * P - P * Q := by grind
    omega

def BitsPost (v : Int) (w : World) (e : Ending) (w' : World) : Prop := ∃ n : Nat, e = .returned (.int .i64 n) ∧ IsBits v n ∧ w = w'

theorem bitsOf_nil (A : Option Addr) (c : Nat) (w : World) : Calls Tryd.prog 62 #[.slice A 0 c] w (BitsPost 0 w) := by
  go_enter Tryd.func62, Tryd.ntmps62
  go_wp2_with fail
  go_ret
  exact ⟨0, rfl, ⟨by omega, by simp, fun h => absurd h (by omega)⟩, rfl⟩

set_option maxHeartbeats 1000000 in
theorem bitsOf_any (A : Option Addr) (c : Nat) (l : List Int) (w : World) (B : Nat) (h : Nums w B A c l) (hl : Lim 18446744073709551616 l) (nl : Normal l) (hb1 : l.length ≤ 1000000) :
    Calls Tryd.prog 62 #[.slice A l.length c] w (BitsPost (val 18446744073709551616 l) w) := by
  rcases Nat.eq_zero_or_pos l.length with h0 | h0
  · have hn : l = [] := List.eq_nil_of_length_eq_zero h0
    subst hn
    exact bitsOf_nil A c w
  · have hl0 : ((l.length : Int) == 0) = false := beq_eq_false_iff_ne.2 (by omega)
    have hk : l.length - 1 < l.length := by omega
    obtain ⟨ad, rfl, hadb, c1⟩ := h.at_ hk
    have hx := D_lim (b := 18446744073709551616) (by omega) hl (l.length - 1)
    have hx0 : D l (l.length - 1) ≠ 0 := by
      rcases nl with h1 | h1
      · rw [h1] at h0; simp at h0
      · exact h1
    obtain ⟨t1, t2, t3, t4⟩ := top_bits (D l (l.length - 1)) (by omega) hx.2
    have hb := isBits_of_top hl h0 t1 t3 t4
    obtain ⟨t, ht⟩ : ∃ t, Lib.bitLen (D l (l.length - 1)).toNat = t := ⟨_, rfl⟩
    have hlz := Tryd.bits_LeadingZeros64 (D l (l.length - 1)) w hx.1 (by omega)
    rw [ht] at hb t1 t2 hlz
    have HZ := Lib.hid hlz
    have h1 : (1 : Int) ≤ l.length := by omega
    clear hlz ht t3 t4 hx0
    go_enter Tryd.func62, Tryd.ntmps62
    go_wp2_with (go_at_call 81; ((with_reducible refine HZ.out.mono ?_); rintro e w' ⟨rfl, rfl⟩))
    go_ret
    exact ⟨64 * (l.length - 1) + t, ret_int (by omega), hb, rfl⟩

/-! ### noughts at the lower end -/
/-- the library's table, as it is laid -/
def Tab (w : World) : Prop := TabAt 0 Lib.deBruijn64tab w
theorem Tab.lt {w : World} (h : Tab w) : 0 < w.heap.size := by
  have h0 := h 0 (by decide)
  rcases Nat.lt_or_ge 0 w.heap.size with g | g
  · exact g
  · simp [World.cell?, Array.getElem?_eq_none g] at h0
theorem Tab.below {w w' : World} {B : Nat} (h : Tab w) (hb : Below B w w') (hB : 0 < B) : Tab w' := fun j hj => by
  rw [hb.cell hB]; exact h j hj

/-- v is an odd number times 2^k -/
def IsZeros (v : Int) (k : Nat) : Prop := ∃ m : Int, 0 ≤ m ∧ v = 2 ^ k * (2 * m + 1)

set_option maxHeartbeats 1000000 in
theorem tz_core (x k idx : Nat) (w : World) (hx0 : ((x : Int) == 0) = false)
    (key : IntKind.u64.wrap (bits BinOp.and IntKind.u64 (x : Int) (IntKind.u64.wrap (-(x : Int))) * 285870213051353865) / 288230376151711744 = (idx : Int))
    (hi : idx < 64) (hk : k < 64) (hcell : w.cell? ⟨0, idx, none⟩ = some (.int .u8 k)) :
    Calls Tryd.prog 86 #[.int .u64 x] w fun e w' => e = .returned (.int .i64 k) ∧ w = w' := by
  go_enter Tryd.func86, Tryd.ntmps86
  go_wp2_with (simp only [key])
  go_ret
  exact ⟨rfl, rfl⟩

theorem tz_any (x : Int) (w : World) (h0 : 0 < x) (h1 : x < 18446744073709551616) (hT : Tab w) :
    ∃ k : Nat, k < 64 ∧ IsZeros x k ∧ Calls Tryd.prog 86 #[.int .u64 x] w fun e w' => e = .returned (.int .i64 k) ∧ w = w' := by
  obtain ⟨x, rfl⟩ := Int.eq_ofNat_of_zero_le (Int.le_of_lt h0)
  have hx0 : x ≠ 0 := by omega
  have hx : x < 18446744073709551616 := by omega
  obtain ⟨hlow, hk⟩ := Lib.lowest_bit 64 x hx0 hx
  obtain ⟨hi, htab⟩ := Lib.deBruijn64_at _ hk
  have hcell := hT _ hi
  rw [htab] at hcell
  have key := tz64_key x _ hx hx0 hlow
  refine ⟨Lib.ctz 64 x, hk, ?_, tz_core x _ _ w (beq_eq_false_iff_ne.2 (by omega)) key hi hk hcell⟩
  obtain ⟨m, hm, _⟩ := Lib.ctzFrom_spec 64 x (Nat.pos_of_ne_zero hx0) hx
  refine ⟨m, Int.natCast_nonneg m, ?_⟩
  have e : Lib.ctz 64 x = Lib.ctzFrom 64 x := by unfold Lib.ctz; rw [if_neg hx0]
  rw [e]
  generalize Lib.ctzFrom 64 x = t at *
  rw [hm]
  push_cast
  rfl

/-- how often 2 divides v (0 of 0) -/
def ZerosPost (v : Int) (w : World) (e : Ending) (w' : World) : Prop := ∃ n : Nat, e = .returned (.int .i64 n) ∧ n ≤ 64000000 ∧ (v = 0 → n = 0) ∧ (v ≠ 0 → IsZeros v n) ∧ w = w'

theorem isZeros_at {l : List Int} {i k : Nat} (hl : Lim 18446744073709551616 l) (hi : i < l.length) (hz : ∀ j, j < i → D l j = 0) (hk : IsZeros (D l i) k) (hk2 : k < 64) : IsZeros (val 18446744073709551616 l) (64 * i + k) := by
  obtain ⟨m, hm, e⟩ := hk
  have h1 := val_take_drop 18446744073709551616 l (i + 1) (by omega)
  rw [S_succ, S_nil hz, Int.pow_succ] at h1
  have hP := pow_split (s := k + 1) (by omega)
  have b := val_bound (b := 18446744073709551616) (by omega) (hl.drop (i + 1))
  have hq := two_pos (64 - (k + 1))
  refine ⟨m + 2 ^ (64 - (k + 1)) * val 18446744073709551616 (l.drop (i + 1)), by have := Int.mul_nonneg (Int.le_of_lt hq) b.1; omega, ?_⟩
  rw [pow_limbs, h1, e]
  rw [Int.pow_succ] at hP
  generalize (2 : Int) ^ (64 - (k + 1)) = Z at *
  generalize (2 : Int) ^ k = P at *
  generalize (18446744073709551616 : Int) ^ i = Q at *
  generalize val 18446744073709551616 (l.drop (i + 1)) = T at *
  rw [← hP]
  grind

set_option maxHeartbeats 2000000 in
theorem zeros_any (A : Option Addr) (c : Nat) (l : List Int) (w : World) (B : Nat) (h : Nums w B A c l) (hl : Lim 18446744073709551616 l) (hb1 : l.length ≤ 1000000) (hT : Tab w) :
    Calls Tryd.prog 65 #[.slice A l.length c] w (ZerosPost (val 18446744073709551616 l) w) := by
  have HT := Lib.hid hT
  clear hT
  go_enter Tryd.func65, Tryd.ntmps65
  go_wp2_with fail
  go_loop [6] (fun i => ∃ k : Nat, k ≤ l.length ∧ i = .int .i64 k ∧ ∀ j, j < k → D l j = 0) (fun i => l.length - (intOf i).toNat)
  case atStart => exact ⟨0, by omega, rfl, fun j hj => absurd hj (by omega)⟩
  case round =>
    obtain ⟨k, hk, rfl, hz⟩ := hrel
    have HZ := Lib.hid hz
    clear hz
    by_cases hkl : k < l.length
    · obtain ⟨ad, rfl, hadb, c1⟩ := h.at_ hkl
      have hx := D_lim (b := 18446744073709551616) (by omega) hl k
      have i0 : (0 : Int) ≤ k := by omega
      have i1 : (k : Int) < l.length := by omega
      by_cases hd : D l k = 0
      · have hd' : (D l k != 0) = false := by simpa using hd
        have HD := Lib.hid hd
        clear hd
        go_wp2_with fail
        go_round
        case rel =>
          refine ⟨k + 1, by omega, by go_num, fun j hj => ?_⟩
          rcases Nat.lt_or_ge j k with h3 | h3
          · exact HZ.out j h3
          · obtain rfl : j = k := by omega
            exact HD.out
        case measure => simp [intOf]; omega
      · have hd' : (D l k != 0) = true := by simpa using hd
        obtain ⟨t, ht1, ht2, ht3⟩ := tz_any (D l k) w (by omega) hx.2 HT.out
        have H3 := Lib.hid ht3
        have hz2 := isZeros_at hl hkl HZ.out ht2 ht1
        have HZ2 := Lib.hid hz2
        clear ht3 hz2 hd
        go_wp2_with (go_at_call 86; ((with_reducible refine H3.out.mono ?_); rintro e w' ⟨rfl, rfl⟩))
        go_ret
        refine ⟨64 * k + t, ret_int (by omega), by omega, fun h4 => ?_, fun _ => HZ2.out, rfl⟩
        obtain ⟨m, hm, e⟩ := HZ2.out
        have := two_pos (64 * k + t)
        rw [h4] at e
        rcases Int.mul_eq_zero.1 e.symm with h5 | h5 <;> omega
    · obtain rfl : k = l.length := by omega
      go_wp2_with fail
      go_ret
      have hv : val 18446744073709551616 l = 0 := S_nil (fun i hi => HZ.out i hi)
      exact ⟨0, rfl, by omega, fun _ => rfl, fun h4 => absurd hv h4, rfl⟩
end Go.Proofs.YtigphbjgodfhpaaDoor
