/-
  Layer 2, joined (wip/tools/merge.py): NatAR NatAS NatAT.
  Layer 2, the laws, part six: the reference's Bits, Bit, Zeros; NatBits.
  Layer 2, the laws, part seven: the reference's halves, and its sums; NatAdds.
  Layer 2, the laws, part eight: the reference's differences and products.
-/
import Derived.Test.YtfjellhbcjnjkaaGreatDoorSNR1
import Derived.Deep.RegionHeld3
import Derived.BigQuiet
namespace Go.Proofs.YtfjellhbcjnjkaaGreatDoor
open Go.RowKit
set_option linter.unusedVariables false

/-! ### plain facts on bits -/
def bitB (l : List Int) (j : Nat) : Bool := decide (D l (j / 64) / 2 ^ (j % 64) % 2 = 1)

theorem ediv_of {a b q r : Int} (hb : 0 < b) (h : a = r + b * q) (r0 : 0 ≤ r) (r1 : r < b) : a / b = q := by
  rw [h, Int.add_mul_ediv_left _ _ (Int.ne_of_gt hb), Int.ediv_eq_zero_of_lt r0 r1, Int.zero_add]
theorem emod_of {a b q r : Int} (hb : 0 < b) (h : a = r + b * q) (r0 : 0 ≤ r) (r1 : r < b) : a % b = r := by
  rw [h, Int.add_mul_emod_self_left, Int.emod_eq_of_lt r0 r1]

/-- the number behind the lower limbs -/
theorem val_cut {l : List Int} (hl : Lim 18446744073709551616 l) (q : Nat) : val 18446744073709551616 l / 18446744073709551616 ^ q = val 18446744073709551616 (l.drop q) := by
  rcases Nat.lt_or_ge l.length q with h | h
  · have b := val_bound (b := 18446744073709551616) (by omega) hl
    have := pow_le' (b := 18446744073709551616) (by omega) (show l.length ≤ q by omega)
    rw [List.drop_of_length_le (by omega), val_nil]
    exact Int.ediv_eq_zero_of_lt b.1 (by omega)
  · have h1 := val_take_drop 18446744073709551616 l q h
    have h2 := S_of_bound (b := 18446744073709551616) (by omega) hl q
    exact ediv_of (pow_pos' (by omega) q) h1 h2.1 h2.2
theorem drop_head {l : List Int} (q : Nat) : ∃ T : Int, val 18446744073709551616 (l.drop q) = D l q + 18446744073709551616 * T := by
  rcases hd : l.drop q with _ | ⟨x, m⟩
  · have : D l q = 0 := by
      have h := D_drop l q 0
      rw [hd, D_nil] at h
      simpa using h.symm
    exact ⟨0, by rw [this, val_nil]; rfl⟩
  · have h := D_drop l q 0
    rw [hd, D_cons_zero] at h
    refine ⟨val 18446744073709551616 m, ?_⟩
    rw [val_cons, h]
    rfl
theorem bit_val {l : List Int} (hl : Lim 18446744073709551616 l) (j : Nat) : D l (j / 64) / 2 ^ (j % 64) % 2 = val 18446744073709551616 l / 2 ^ j % 2 := by
  obtain ⟨q, hq⟩ : ∃ q, j / 64 = q := ⟨_, rfl⟩
  obtain ⟨r, hr⟩ : ∃ r, j % 64 = r := ⟨_, rfl⟩
  have hj : j = 64 * q + r := by omega
  have hr64 : r < 64 := by omega
  rw [hq, hr, hj, pow_limbs, ← Int.ediv_ediv_of_nonneg (Int.le_of_lt (pow_pos' (by omega) q)), val_cut hl q]
  obtain ⟨T, hT⟩ := drop_head (l := l) q
  rw [hT]
  have hs := pow_split (s := r) (by omega)
  have he : (2 : Int) ^ (64 - r) = 2 ^ (63 - r) * 2 := by rw [← Int.pow_succ]; congr 1; omega
  have h2 : D l q + 18446744073709551616 * T = D l q + 2 ^ r * (2 * (2 ^ (63 - r) * T)) := by
    rw [← hs, he]
    grind
  rw [h2, Int.add_mul_ediv_left _ _ (Int.ne_of_gt (two_pos r)), Int.add_mul_emod_self_left]
theorem bitB_val {l : List Int} (hl : Lim 18446744073709551616 l) (j : Nat) : bitB l j = decide (val 18446744073709551616 l / 2 ^ j % 2 = 1) := by
  unfold bitB
  rw [bit_val hl]

/-- v's lower j bits are noughts, and so is the next one, or it is the lowest -/
theorem low_step {v : Int} {j : Nat} (hz : v % 2 ^ j = 0) (hb : v / 2 ^ j % 2 ≠ 1) : v % 2 ^ (j + 1) = 0 := by
  have hp := two_pos j
  have e := Int.mul_ediv_add_emod v (2 ^ j)
  rw [hz] at e
  have h2 : v / 2 ^ j % 2 = 0 := by omega
  obtain ⟨q, hq⟩ := Int.dvd_of_emod_eq_zero h2
  rw [← e, hq, Int.pow_succ]
  have : (2 : Int) ^ j * (2 * q) + 0 = 2 ^ j * 2 * q := by grind
  rw [this, Int.mul_emod_right]
theorem low_is {v : Int} {j : Nat} (h0 : 0 ≤ v) (hz : v % 2 ^ j = 0) (hb : v / 2 ^ j % 2 = 1) : v ≠ 0 ∧ IsZeros v j := by
  have hp := two_pos j
  have e := Int.mul_ediv_add_emod v (2 ^ j)
  rw [hz] at e
  have h1 : 0 ≤ v / 2 ^ j := Int.ediv_nonneg h0 (Int.le_of_lt hp)
  refine ⟨fun h => ?_, v / 2 ^ j / 2, by omega, ?_⟩
  · rw [h, Int.zero_ediv] at hb; cases hb
  · have : v / 2 ^ j = 2 * (v / 2 ^ j / 2) + 1 := by omega
    rw [← this]; omega
theorem IsZeros.unique {v : Int} {m n : Nat} (h : IsZeros v m) (k : IsZeros v n) : m = n := by
  have h1 := lost_of (j := m + 1) h
  have h2 := lost_of (j := m) h
  rw [lost_of k] at h1 h2
  simp at h1 h2
  omega

/-! ### the walks -/
theorem refBit_neg (A : Option Addr) (n c : Nat) (j : Int) (hj : j < 0) (w : World) :
    Calls Tryz.prog 94 #[.slice A n c, .int .i64 j] w fun e w' => e = .returned (.bool false) ∧ w = w' := by
  go_enter Tryz.func94, Tryz.ntmps94
  go_wp2_with fail
  go_ret
  exact ⟨rfl, rfl⟩

set_option maxRecDepth 20000 in
set_option maxHeartbeats 1000000 in
theorem refBit_any {A : Option Addr} {n c : Nat} {l : List Int} {w : World} (h : Lv w A n c l) (j : Nat) (hj : (j : Int) ≤ 9223372036854775807) :
    Calls Tryz.prog 94 #[.slice A n c, .int .i64 j] w fun e w' => e = .returned (.bool (bitB l j)) ∧ w = w' := by
  obtain ⟨q, hq⟩ : ∃ q, j / 64 = q := ⟨_, rfl⟩
  obtain ⟨r, hr⟩ : ∃ r, j % 64 = r := ⟨_, rfl⟩
  have hqi : (j : Int) / 64 = q := by omega
  have hri : (j : Int) % 64 = r := by omega
  have hr64 : r < 64 := by omega
  have j0 : (0 : Int) ≤ j := by omega
  unfold bitB
  rw [hq, hr]
  have hm : (n : Int) ≤ 9223372036854775807 := by have := h.2.1.length; have := h.1; omega
  by_cases hlt : q < n
  · obtain ⟨ad, rfl, hb, hc⟩ := h.2.1.at_ (k := q) (by rw [h.1]; exact hlt)
    have hd := D_lim (b := 18446744073709551616) (by omega) h.2.2 q
    obtain ⟨x, hx⟩ : ∃ x, D l q = x := ⟨_, rfl⟩
    rw [hx] at hc hd ⊢
    have i1 : (q : Int) < n := by omega
    have i0 : (0 : Int) ≤ q := by omega
    have H := Lib.hid h
    clear hq hr h
    go_enter Tryz.func94, Tryz.ntmps94
    go_wp2_with fail
    go_ret
    have hx0 : 0 ≤ x / 2 ^ r := Int.ediv_nonneg hd.1 (Int.le_of_lt (two_pos r))
    refine ⟨ret_bool ?_, rfl⟩
    rw [Int.tmod_eq_emod_of_nonneg hx0]
    rfl
  · have hd : D l q = 0 := D_out (by have := h.1; omega)
    have i1 : (n : Int) ≤ q := by omega
    have i0 : (0 : Int) ≤ q := by omega
    have i2 : (q : Int) ≤ 9223372036854775807 := by omega
    rw [hd, Int.zero_ediv]
    clear hq hr h hd hlt hri hr64 hm
    go_enter Tryz.func94, Tryz.ntmps94
    go_wp2_with fail
    go_ret
    exact ⟨rfl, rfl⟩

/-- what the reference's Bits leaves -/
def RBitsPost (v : Int) (w : World) (e : Ending) (w' : World) : Prop := ∃ k : Nat, e = .returned (.int .i64 k) ∧ IsBits v k ∧ Below w.heap.size w w'

set_option maxHeartbeats 2000000 in
theorem refBits_any {A : Option Addr} {n c : Nat} {l : List Int} {w : World} (h : Lv w A n c l) (hn : n ≤ 4096) :
    Calls Tryz.prog 55 #[.slice A n c] w (RBitsPost (val 18446744073709551616 l) w) := by
  have k1 := refNorm_lv h hn
  have hlim := norm_lim h.2.2
  have hnn := norm_normal l
  have hln := norm_length l
  have hlen := h.1
  rw [← norm_val 18446744073709551616 l]
  obtain ⟨x, hx⟩ : ∃ x, norm l = x := ⟨_, rfl⟩
  rw [hx] at k1 hlim hnn hln ⊢
  clear hx h
  by_cases h0 : x = []
  · subst h0
    go_enter Tryz.func55, Tryz.ntmps55
    go_wp2_with fail
    with_reducible refine k1.mono ?_
    rintro e w1 ⟨A2, c2, rfl, m_x, hb⟩
    go_wp2_with fail
    go_ret
    exact ⟨0, rfl, ⟨by rw [val_nil]; omega, by rw [val_nil]; decide, fun h => absurd h (by omega)⟩, hb⟩
  · have hp : 0 < x.length := List.length_pos_iff.2 h0
    have hT := D_lim (b := 18446744073709551616) (by omega) hlim (x.length - 1)
    have hT0 : D x (x.length - 1) ≠ 0 := by
      rcases hnn with h | h
      · exact absurd h h0
      · exact h
    have htop := fun t ht h1 h2 => isBits_of_top (t := t) hlim hp ht h1 h2
    have HTOP := Lib.hid htop
    have HP := Lib.hid hp
    obtain ⟨T, hTe⟩ : ∃ T, D x (x.length - 1) = T := ⟨_, rfl⟩
    obtain ⟨N, hN⟩ : ∃ N : Int, 64 * ((x.length : Int) - 1) = N := ⟨_, rfl⟩
    rw [hTe] at hT hT0
    have hxl : x.length ≤ 4096 := by omega
    have hlp : (1 : Int) ≤ x.length := by omega
    have hN0 : 0 ≤ N := by omega
    have hN1 : N ≤ 300000 := by omega
    have hl1 : ((x.length : Int) - 1).toNat = x.length - 1 := by omega
    clear h0 htop hnn hlen
    go_enter Tryz.func55, Tryz.ntmps55
    go_wp2_with fail
    with_reducible refine k1.mono ?_
    rintro e w1 ⟨A2, c2, rfl, m_x, hb⟩
    obtain ⟨ad, rfl, hadb, hc⟩ := m_x.2.1.at_ (k := x.length - 1) (by have := HP.out; omega)
    rw [hTe] at hc
    clear k1 m_x hadb
    go_wp2_with fail
    go_loop [3, 4] (fun s t => ∃ k : Nat, k ≤ 64 ∧ s = .int .i64 (N + k) ∧ t = .int .u64 (T / 2 ^ k) ∧ (0 < k → 2 ^ (k - 1) ≤ T)) (fun _ t => (intOf t).toNat)
    case atStart => exact ⟨0, by omega, by go_num, by simp, fun h => absurd h (by omega)⟩
    case round =>
      obtain ⟨k, hk, rfl, rfl, hlow⟩ := hrel
      obtain ⟨q, hq⟩ : ∃ q, T / 2 ^ k = q := ⟨_, rfl⟩
      rw [hq]
      have hp2 := two_pos k
      have q0 : 0 ≤ q := by rw [← hq]; exact Int.ediv_nonneg hT.1 (Int.le_of_lt hp2)
      have q1 : q ≤ T := by rw [← hq]; exact Int.ediv_le_self _ hT.1
      by_cases hz : q = 0
      · have h1 : T < 2 ^ k := by
          rw [hz] at hq
          have h2 := Int.mul_ediv_add_emod T (2 ^ k)
          have h3 := Int.emod_lt_of_pos T hp2
          rw [hq] at h2; omega
        have hk1 : 1 ≤ k := by
          rcases Nat.eq_zero_or_pos k with h4 | h4
          · subst h4; simp at h1; omega
          · exact h4
        have hfin := HTOP.out k hk1 (by rw [hTe]; exact hlow hk1) (by rw [hTe]; exact h1)
        have HF := Lib.hid hfin
        have hNk : N + (k : Int) = ((64 * (x.length - 1) + k : Nat) : Int) := by have := HP.out; omega
        have HNK := Lib.hid hNk
        subst hz
        clear hlow hfin hNk h1 hq
        go_wp2_with fail
        go_ret
        exact ⟨_, ret_int HNK.out, HF.out, hb⟩
      · have h1 : (2 : Int) ^ k ≤ T := by
          have h2 := Int.mul_ediv_add_emod T (2 ^ k)
          have h3 := Int.emod_nonneg T (Int.ne_of_gt hp2)
          rw [hq] at h2
          have := Int.mul_le_mul_of_nonneg_left (show 1 ≤ q by omega) (Int.le_of_lt hp2)
          omega
        have hk64 : k < 64 := by
          rcases Nat.lt_or_ge k 64 with h4 | h4
          · exact h4
          · have := pow_le' (b := 2) (by omega) h4
            have e : (2 : Int) ^ 64 = 18446744073709551616 := by decide
            omega
        have hq2 : q / 2 = T / 2 ^ (k + 1) := by rw [← hq, Int.ediv_ediv_of_nonneg (Int.le_of_lt hp2), Int.pow_succ]
        have hqp : 0 < q := by omega
        have H1 := Lib.hid h1
        have HQ := Lib.hid hq2
        have hm : (q / 2).toNat < q.toNat := by omega
        clear h1 hq2 hq hz hlow hp2
        go_wp2_with fail
        go_round
        case rel => exact ⟨k + 1, by omega, by go_num, by rw [HQ.out], fun _ => H1.out⟩
        case measure => simp [intOf]; omega

def RZerosPost (v : Int) (w : World) (e : Ending) (w' : World) : Prop := ∃ k : Nat, e = .returned (.int .i64 k) ∧ (v = 0 → k = 0) ∧ (v ≠ 0 → IsZeros v k) ∧ Below w.heap.size w w'

set_option maxHeartbeats 2000000 in
theorem refZeros_any {A : Option Addr} {n c : Nat} {l : List Int} {w : World} (h : Lv w A n c l) (hn : n ≤ 4096) :
    Calls Tryz.prog 92 #[.slice A n c] w (RZerosPost (val 18446744073709551616 l) w) := by
  have k1 := refBits_any h hn
  have hv0 := h.nonneg
  have hbd : ∀ k, IsBits (val 18446744073709551616 l) k → k ≤ 300000 := fun k hk => by
    have := bits_le (h.less (Nat.le_refl n)) hk
    omega
  have hbits := bitB_val h.2.2
  obtain ⟨v, hv⟩ : ∃ v, val 18446744073709551616 l = v := ⟨_, rfl⟩
  rw [hv] at k1 hv0 hbd hbits ⊢
  have HB := Lib.hid hbits
  clear hbits
  go_enter Tryz.func92, Tryz.ntmps92
  go_wp2_with fail
  with_reducible refine k1.mono ?_
  rintro e w1 ⟨b, rfl, hb1, hb⟩
  have hb2 := hbd b hb1
  have HBB := Lib.hid hb1
  replace h := h.on hb
  clear k1 hbd hb1
  go_wp2_with fail
  go_loop [4] (fun i => ∃ k : Nat, k ≤ b ∧ i = .int .i64 k ∧ v % 2 ^ k = 0) (fun i => b - (intOf i).toNat)
  case atStart => exact ⟨0, by omega, rfl, by simp [Int.emod_one]⟩
  case round =>
    obtain ⟨k, hk, rfl, hz⟩ := hrel
    have HZ := Lib.hid hz
    clear hz
    have p1 := refBit_any h k (by omega)
    by_cases hkb : k < b
    · by_cases hbit : v / 2 ^ k % 2 = 1
      · have e1 : bitB l k = true := by rw [HB.out, decide_eq_true hbit]
        rw [e1] at p1
        have hr := low_is hv0 HZ.out hbit
        have HR := Lib.hid hr
        clear hr hbit e1
        go_wp2_with (go_at_call 94; ((with_reducible refine p1.mono ?_); rintro e w2 ⟨rfl, rfl⟩))
        go_ret
        exact ⟨k, rfl, fun h9 => absurd h9 HR.out.1, fun _ => HR.out.2, hb⟩
      · have e1 : bitB l k = false := by rw [HB.out, decide_eq_false hbit]
        rw [e1] at p1
        have hr := low_step HZ.out hbit
        have HR := Lib.hid hr
        clear hr hbit e1
        go_wp2_with (go_at_call 94; ((with_reducible refine p1.mono ?_); rintro e w2 ⟨rfl, rfl⟩))
        go_round
        case rel => exact ⟨k + 1, by omega, by go_num, HR.out⟩
        case measure => simp [intOf]; omega
    · obtain rfl : k = b := by omega
      have hv1 : v = 0 := by
        have h1 := HBB.out
        have h2 := Int.emod_eq_of_lt h1.1 h1.2.1
        rw [HZ.out] at h2
        exact h2.symm
      have HV := Lib.hid hv1
      clear hv1 p1
      go_wp2_with fail
      go_ret
      exact ⟨0, rfl, fun _ => rfl, fun h9 => absurd HV.out h9, hb⟩
/-! ### NatBits (written by wip/tools/gen_bits.py) -/
end Go.Proofs.YtfjellhbcjnjkaaGreatDoor
namespace Go.Proofs.YtfjellhbcjnjkaaGreatDoor
open Go.RowKit
set_option linter.unusedVariables false

/-! ### plain facts on halves -/
def cutL : List Int → List Int
  | [] => []
  | x :: l => x % 4294967296 :: x / 4294967296 :: cutL l
theorem cutL_append (l m : List Int) : cutL (l ++ m) = cutL l ++ cutL m := by
  induction l with
  | nil => rfl
  | cons x l ih => simp [cutL, ih]
theorem cutL_length (l : List Int) : (cutL l).length = 2 * l.length := by
  induction l with
  | nil => rfl
  | cons x l ih => simp only [cutL, List.length_cons, ih]; omega
theorem cutL_lim {l : List Int} (h : Lim 18446744073709551616 l) : Lim 4294967296 (cutL l) := by
  induction l with
  | nil => exact Lim.nil _
  | cons x l ih =>
    obtain ⟨hx, h2⟩ := h.cons
    intro y hy
    simp only [cutL, List.mem_cons] at hy
    rcases hy with rfl | rfl | hy
    · omega
    · omega
    · exact ih h2 y hy
theorem cutL_val (l : List Int) : val 4294967296 (cutL l) = val 18446744073709551616 l := by
  induction l with
  | nil => rfl
  | cons x l ih =>
    simp only [cutL]
    rw [val_cons, val_cons, val_cons, ih]
    omega
theorem cutL_take {l : List Int} {k : Nat} (hk : k < l.length) : cutL (l.take (k + 1)) = cutL (l.take k) ++ [D l k % 4294967296, D l k / 4294967296] := by
  rw [List.take_add_one, cutL_append, List.getElem?_eq_getElem hk, D_in hk]
  rfl
theorem lim_half {l : List Int} (h : Lim 4294967296 l) : Lim 18446744073709551616 l := fun x hx => by have := h x hx; omega

set_option maxHeartbeats 2000000 in
theorem cut_any (A : Option Addr) (c : Nat) (l : List Int) (w : World) (h : Nums w w.heap.size A c l) (hl : Lim 18446744073709551616 l) (hlen : l.length ≤ 1000000) :
    Calls Tryz.prog 99 #[.slice A l.length c] w (NewPost (cutL l) w) := by
  have hm := h.length
  go_enter Tryz.func99, Tryz.ntmps99
  go_wp2_with fail
  go_loopw [3, 4] (fun s i wr => ∃ (k : Nat) (A2 : Option Addr) (c2 : Nat), k ≤ l.length ∧ i = .int .i64 k ∧ s = .slice A2 (cutL (l.take k)).length c2 ∧ Own wr w.heap.size A2 c2 (cutL (l.take k)) ∧ Below w.heap.size w wr) (fun _ i _ => l.length - (intOf i).toNat)
  case atStart => exact ⟨0, none, 0, Nat.zero_le _, rfl, rfl, Own.nil w _, Below.refl _ _⟩
  case round =>
    obtain ⟨k, A2, c2, hk, rfl, rfl, ho, hb⟩ := hrel
    have hsz := hb.size
    by_cases hkl : k < l.length
    · have hT := Lib.hid (cutL_take hkl)
      have hlenk : (cutL (l.take k)).length ≤ 2000000 := by rw [cutL_length, List.length_take]; omega
      obtain ⟨C, hC⟩ : ∃ C, cutL (l.take k) = C := ⟨_, rfl⟩
      rw [hC] at ho hlenk ⊢
      rw [hC] at hT
      have hx := D_lim (b := 18446744073709551616) (by omega) hl k
      have hn2 := h.below hb
      obtain ⟨ad, rfl, hadb, hc⟩ := hn2.at_ hkl
      have i0 : (0 : Int) ≤ k := by omega
      have i1 : (k : Int) < l.length := by omega
      obtain ⟨x, hxe⟩ : ∃ x, D l k = x := ⟨_, rfl⟩
      rw [hxe] at hx hc hT
      obtain ⟨p, hp⟩ : ∃ p, x % 4294967296 = p := ⟨_, rfl⟩
      obtain ⟨q, hq⟩ : ∃ q, x / 4294967296 = q := ⟨_, rfl⟩
      rw [hp, hq] at hT
      have e1 : x.tmod 4294967296 = p := by rw [Int.tmod_eq_emod_of_nonneg hx.1, hp]
      have e2 : IntKind.u64.wrap (x.tdiv 4294967296) = q := by rw [Int.tdiv_eq_ediv_of_nonneg hx.1, hq, IntKind.wrap_u64]; omega
      obtain ⟨o, hoe⟩ : ∃ o, Obj.cells #[.int .u64 p, .int .u64 q] 22 = o := ⟨_, rfl⟩
      have hsrc : Nums (wr.alloc o).drew (wr.heap.size + 1) (some ⟨wr.heap.size, 0, none⟩) 2 [p, q] := by
        have := (Row.new wr [p, q]).nums (B := wr.heap.size + 1) (c := 2) 0 2 (by simp) (by omega) (by unfold maxLen; omega) (by omega)
        rw [← hoe]
        have h9 : Nums (wr.alloc (Obj.cells #[Value.int IntKind.u64 p, Value.int IntKind.u64 q] 22)) (wr.heap.size + 1) (some ⟨wr.heap.size, 0, none⟩) 2 [p, q] := by simpa [L] using this
        exact h9.drew
      have hown1 : Own (wr.alloc o).drew w.heap.size A2 c2 C := ho.alloc_ o
      have hkeep : ∀ w4, (wr.alloc o).drew.grownBy w4 (Value.slice A2 C.length c2).ownBlock → w4.cell? (ad.add k) = some (.int .u64 x) := fun w4 hg => by
        have h1 : Nums (wr.alloc o).drew w.heap.size (some ad) c l := hn2.alloc (by omega) o
        have h2 := h1.grown hg (by simp; omega) (fun g hk => (World.ownsRow.lt hown1 g hk).1)
        rw [h2.at_some hkl, hxe]
      have hbel : ∀ w4, (wr.alloc o).drew.grownBy w4 (Value.slice A2 C.length c2).ownBlock → Below w.heap.size w w4 := fun w4 hg => below_app (hb.alloc hsz o).drew hown1 hg (by simp; omega)
      have HK := Lib.hid hkeep
      have HB := Lib.hid hbel
      subst hoe
      clear hC hxe hp hq hkeep hbel
      go_wp2_with fail
      go_region_held3 (fun w' => w'.cell? (ad.add k) = some (.int .u64 x)) (first | go_keep | exact HK.out _ hg) ((refine step_app _ rfl _ _ (by rfl) w.heap.size A2 c2 C (by rfl) hown1 _ (some ⟨wr.heap.size, 0, none⟩) 2 [p, q] (by rfl) hsrc (by simp; omega) (by simp; omega) ?_; intro A4 c4 w4 hown4 hg hat))
      all_goals
        go_wp2_with fail
        go_roundw
        case rel => exact ⟨k + 1, A4, c4, by omega, by go_num, by rw [hT.out, List.length_append]; rfl, by rw [hT.out]; exact hown4, HB.out _ hg⟩
        case measure => simp [intOf]; omega
    · obtain rfl : k = l.length := by omega
      rw [List.take_length] at ho ⊢
      go_wp2_with fail
      go_ret
      exact ⟨A2, c2, rfl, ho, hb⟩

/-! ### put together -/
theorem half_pow (k : Nat) : (4294967296 : Int) ^ (2 * k) = 18446744073709551616 ^ k := by
  rw [Int.pow_mul]
  rfl
theorem half_pow1 (k : Nat) : (4294967296 : Int) ^ (2 * k + 1) = 18446744073709551616 ^ k * 4294967296 := by
  rw [Int.pow_succ, half_pow]

/-- the list put together so far -/
def Joins (l : List Int) (k : Nat) (C : List Int) : Prop :=
  C.length = k ∧ Lim 18446744073709551616 C ∧ val 18446744073709551616 C = S 4294967296 (D l) (2 * k)
theorem Joins.step {l C : List Int} {k : Nat} (h : Joins l k C) (hl : Lim 4294967296 l) : Joins l (k + 1) (C ++ [D l (2 * k) + D l (2 * k + 1) * 4294967296]) := by
  obtain ⟨h1, h2, h3⟩ := h
  have a := D_lim (b := 4294967296) (by omega) hl (2 * k)
  have b := D_lim (b := 4294967296) (by omega) hl (2 * k + 1)
  refine ⟨by simp [h1], h2.snoc (by omega) (by omega), ?_⟩
  rw [val_append, val_cons, val_nil, h3, h1, show 2 * (k + 1) = 2 * k + 1 + 1 from by omega, S_succ, S_succ, half_pow1, half_pow]
  grind

set_option maxHeartbeats 2000000 in
theorem join_any (A : Option Addr) (c : Nat) (l : List Int) (w : World) (h : Nums w w.heap.size A c l) (hl : Lim 4294967296 l) (hlen : l.length ≤ 1000000) :
    Calls Tryz.prog 101 #[.slice A l.length c] w (Made (val 4294967296 l) w) := by
  have hm := h.length
  go_enter Tryz.func101, Tryz.ntmps101
  go_wp2_with fail
  go_loopw [3, 4] (fun s i wr => ∃ (k : Nat) (C : List Int) (A2 : Option Addr) (c2 : Nat), 2 * k ≤ l.length + 1 ∧ i = .int .i64 (2 * k) ∧ s = .slice A2 C.length c2 ∧ Hid (Joins l k C) ∧ Own wr w.heap.size A2 c2 C ∧ Below w.heap.size w wr) (fun _ i _ => l.length + 1 - (intOf i).toNat)
  case atStart => exact ⟨0, [], none, 0, by omega, rfl, rfl, ⟨rfl, Lim.nil _, rfl⟩, Own.nil w _, Below.refl _ _⟩
  case round =>
    obtain ⟨k, C, A2, c2, hk, rfl, rfl, hj, ho, hb⟩ := hrel
    have hsz := hb.size
    obtain rfl : C.length = k := hj.out.1
    have hCl : C.length ≤ 2000000 := by omega
    by_cases hkl : 2 * C.length < l.length
    · have hstep := hj.out.step hl
      have a := D_lim (b := 4294967296) (by omega) hl (2 * C.length)
      have b := D_lim (b := 4294967296) (by omega) hl (2 * C.length + 1)
      have hn2 := h.below hb
      obtain ⟨ad, rfl, hadb, hc⟩ := hn2.at_ hkl
      have hc2 : 2 * C.length + 1 < l.length → wr.cell? (ad.add (2 * C.length + 1)) = some (.int .u64 (D l (2 * C.length + 1))) := fun h => hn2.at_some h
      have h0 : ¬ 2 * C.length + 1 < l.length → D l (2 * C.length + 1) = 0 := fun h => D_out (by omega)
      have e1 : ((2 * (C.length : Int))).toNat = 2 * C.length := by omega
      have e2 : ((2 * (C.length : Int)) + 1).toNat = 2 * C.length + 1 := by omega
      obtain ⟨x, hx⟩ : ∃ x, D l (2 * C.length) = x := ⟨_, rfl⟩
      obtain ⟨y, hy⟩ : ∃ y, D l (2 * C.length + 1) = y := ⟨_, rfl⟩
      obtain ⟨n, hn⟩ : ∃ n, x + y * 4294967296 = n := ⟨_, rfl⟩
      rw [hx, hy, hn] at hstep
      rw [hx] at a hc
      rw [hy] at b hc2 h0
      have HS := Lib.hid hstep
      have i0 : (0 : Int) ≤ 2 * C.length := by omega
      have i1 : 2 * (C.length : Int) < l.length := by omega
      have n0 : 0 ≤ n := by omega
      have n1 : n < 18446744073709551616 := by omega
      have hsrc : ∀ W : World, Nums (W.alloc (.cells #[.int .u64 n] 22)) (W.heap.size + 1) (some ⟨W.heap.size, 0, none⟩) 1 [n] := fun W => by
        have := (Row.one W n).nums (B := W.heap.size + 1) (c := 1) 0 1 (by simp) (by omega) (by unfold maxLen; omega) (by omega)
        simpa using this
      clear hstep hx hy hn2
      by_cases hk2 : 2 * C.length + 1 < l.length
      · replace hc2 := hc2 hk2
        obtain ⟨j, hj2⟩ : ∃ j, 2 * C.length + 1 = j := ⟨_, rfl⟩
        have he : 2 * (C.length : Int) + 1 = j := by omega
        rw [hj2] at hc2
        have i2 : (j : Int) < l.length := by omega
        have i3 : (0 : Int) ≤ j := by omega
        have w1 : IntKind.u64.wrap (y * 4294967296) = y * 4294967296 := by rw [IntKind.wrap_u64]; omega
        have w2 : IntKind.u64.wrap (x + y * 4294967296) = n := by rw [IntKind.wrap_u64]; omega
        clear h0 hn hj2 e2 hk2
        go_wp2_with (at_builtin; refine wpList_app _ rfl _ _ rfl w.heap.size A2 c2 C rfl (ho.alloc_ _) _ (some ⟨wr.heap.size, 0, none⟩) 1 [n] rfl (hsrc _) (by simp; omega) (by simp; omega) ?_; intro A4 c4 w4 hown4 hg hat)
        have hbl := below_app (hb.alloc hsz _) (ho.alloc_ _) hg (by simp; omega)
        go_roundw
        case rel => exact ⟨C.length + 1, C ++ [_], A4, c4, by omega, by go_num, by rw [List.length_append]; rfl, HS, hown4, hbl⟩
        case measure => simp [intOf]; omega
      · replace h0 := h0 hk2
        have i2 : (l.length : Int) ≤ 2 * (C.length : Int) + 1 := by omega
        subst h0
        obtain rfl : x = n := by omega
        clear hc2 hn
        go_wp2_with (at_builtin; refine wpList_app _ rfl _ _ rfl w.heap.size A2 c2 C rfl (ho.alloc_ _) _ (some ⟨wr.heap.size, 0, none⟩) 1 [x] rfl (hsrc _) (by simp; omega) (by simp; omega) ?_; intro A4 c4 w4 hown4 hg hat)
        have hbl := below_app (hb.alloc hsz _) (ho.alloc_ _) hg (by simp; omega)
        go_roundw
        case rel => exact ⟨C.length + 1, C ++ [_], A4, c4, by omega, by go_num, by rw [List.length_append]; rfl, HS, hown4, hbl⟩
        case measure => simp [intOf]; omega
    · have hfin : val 18446744073709551616 C = val 4294967296 l := by
        rw [hj.out.2.2, S_val (by omega)]
      have hCL := hj.out.2.1
      have HF := Lib.hid hfin
      have hnm := ho.nums
      have hnl : (l.length : Int) ≤ 2 * C.length := by omega
      have p := refNorm_any A2 c2 C wr hnm hCL (by omega)
      unfold NormPost at p
      clear hj hfin hk hkl
      go_wp2_with fail
      with_reducible refine p.mono ?_
      rintro e w2 ⟨A3, c3, rfl, o3, b3⟩
      go_wp2_with fail
      go_ret
      exact ⟨norm C, A3, c3, rfl, norm_lim hCL, norm_normal C, by rw [norm_val, HF.out], o3.less hsz, hb.trans (b3.mono hsz)⟩

/-! ### digits, sums -/
set_option maxHeartbeats 400000 in
theorem digit_any (A : Option Addr) (c : Nat) (l : List Int) (k : Nat) (hk : (k : Int) ≤ 9223372036854775807) (w : World) (B : Nat) (h : Nums w B A c l) :
    Calls Tryz.prog 100 #[.slice A l.length c, .int .i64 k] w fun e w' => e = .returned (.int .u64 (D l k)) ∧ w = w' := by
  have hm : (l.length : Int) ≤ 9223372036854775807 := by have := h.length; omega
  rcases Nat.lt_or_ge k l.length with hk | hk
  · obtain ⟨ad, rfl, hb, hc⟩ := h.at_ hk
    have i0 : (0 : Int) ≤ k := by omega
    have i1 : (k : Int) < l.length := by omega
    clear h
    go_enter Tryz.func100, Tryz.ntmps100
    go_wp2
    go_ret
    exact ⟨rfl, rfl⟩
  · rw [D_out hk]
    have i1 : (l.length : Int) ≤ k := by omega
    clear h
    go_enter Tryz.func100, Tryz.ntmps100
    go_wp2
    go_ret
    exact ⟨rfl, rfl⟩

def AddInv (x y C : List Int) (d : Int) (k : Nat) : Prop :=
  C.length = k ∧ Lim 4294967296 C ∧ 0 ≤ d ∧ d ≤ 1 ∧ val 4294967296 C + d * 4294967296 ^ k = S 4294967296 (D x) k + S 4294967296 (D y) k
theorem AddInv.step {x y C : List Int} {d n : Int} {k : Nat} (h : AddInv x y C d k) (hx : Lim 4294967296 x) (hy : Lim 4294967296 y) (hn : D x k + D y k + d = n) : AddInv x y (C ++ [n % 4294967296]) (n / 4294967296) (k + 1) := by
  obtain ⟨rfl, h2, h3, h4, h5⟩ := h
  have a := D_lim (b := 4294967296) (by omega) hx C.length
  have b := D_lim (b := 4294967296) (by omega) hy C.length
  refine ⟨by simp, h2.snoc (by omega) (by omega), by omega, by omega, ?_⟩
  have e : n = n % 4294967296 + n / 4294967296 * 4294967296 := by omega
  rw [val_append, val_cons, val_nil, S_succ, S_succ, Int.pow_succ]
  generalize n % 4294967296 = r at *
  generalize n / 4294967296 = q at *
  grind
theorem AddInv.fin {x y C : List Int} {d : Int} {k : Nat} (h : AddInv x y C d k) (hx : x.length ≤ k) (hy : y.length ≤ k) : val 4294967296 (C ++ [d]) = val 4294967296 x + val 4294967296 y := by
  obtain ⟨rfl, h2, h3, h4, h5⟩ := h
  rw [S_val hx, S_val hy] at h5
  rw [val_append, val_cons, val_nil, ← h5]
  grind

set_option maxHeartbeats 4000000 in
theorem refAdd_any (A : Option Addr) (c : Nat) (l : List Int) (A2 : Option Addr) (c2 : Nat) (m : List Int) (w : World) (h : Nums w w.heap.size A c l) (hl : Lim 18446744073709551616 l)
    (h2 : Nums w w.heap.size A2 c2 m) (hl2 : Lim 18446744073709551616 m) (hb1 : l.length ≤ 100000) (hb2 : m.length ≤ 100000) :
    Calls Tryz.prog 60 #[.slice A l.length c, .slice A2 m.length c2] w (Made (val 18446744073709551616 l + val 18446744073709551616 m) w) := by
  have p1 := cut_any A c l w h hl (by omega)
  have x1 := cutL_lim hl
  have x2 := cutL_length l
  have x3 := cutL_val l
  have y1 := cutL_lim hl2
  have y2 := cutL_length m
  have y3 := cutL_val m
  have p2 := fun w' (hb : Below w.heap.size w w') => cut_any A2 c2 m w' (h2.on hb (Nat.le_refl _)) hl2 (by omega)
  obtain ⟨x, hx⟩ : ∃ x, cutL l = x := ⟨_, rfl⟩
  obtain ⟨y, hy⟩ : ∃ y, cutL m = y := ⟨_, rfl⟩
  unfold NewPost at p1 p2
  rw [hx] at p1 x1 x2 x3
  rw [hy] at p2 y1 y2 y3
  rw [← x3, ← y3]
  have hxl : x.length ≤ 200000 := by omega
  have hyl : y.length ≤ 200000 := by omega
  have P2 := Lib.hid p2
  clear h h2 hl hl2 hb1 hb2 x2 x3 y2 y3 hx hy p2
  go_enter Tryz.func60, Tryz.ntmps60
  go_wp2_with fail
  with_reducible refine p1.mono ?_
  rintro e w1 ⟨A3, c3, rfl, o1, b1⟩
  clear p1
  have p2 := P2.out w1 b1
  clear P2
  go_wp2_with fail
  with_reducible refine p2.mono ?_
  rintro e w2 ⟨A4, c4, rfl, o2, b2⟩
  clear p2
  have n1 := o1.nums.on b2 (Nat.le_refl _)
  have n2 := o2.nums
  have bw := bel_then b1 b2
  clear b1 b2 o1 o2
  go_wp2_with fail
  go_loopw [7, 8, 9] (fun s d i wr => ∃ (k : Nat) (C : List Int) (d' : Int) (A5 : Option Addr) (c5 : Nat), k ≤ 200000 ∧ i = .int .i64 k ∧ d = .int .u64 d' ∧ s = .slice A5 C.length c5 ∧ Hid (AddInv x y C d' k) ∧ Own wr w2.heap.size A5 c5 C ∧ Below w2.heap.size w2 wr) (fun _ _ i _ => 200001 - (intOf i).toNat)
  case atStart => exact ⟨0, [], 0, none, 0, by omega, rfl, rfl, rfl, ⟨rfl, Lim.nil _, by omega, by omega, rfl⟩, Own.nil w2 _, Below.refl _ _⟩
  case round =>
    obtain ⟨k, C, d, A5, c5, hk, rfl, rfl, rfl, hj, ho, hb⟩ := hrel
    have hsz := hb.size
    have hd0 := hj.out.2.2.1
    have hd1 := hj.out.2.2.2.1
    obtain rfl : C.length = k := hj.out.1
    have a := D_lim (b := 4294967296) (by omega) x1 C.length
    have b := D_lim (b := 4294967296) (by omega) y1 C.length
    have q1 := fun W (hW : Below w2.heap.size w2 W) => digit_any A3 c3 x C.length (by omega) W _ (n1.below hW)
    have q2 := fun W (hW : Below w2.heap.size w2 W) => digit_any A4 c4 y C.length (by omega) W _ (n2.below hW)
    have hstep := fun n hn => hj.out.step (n := n) x1 y1 hn
    obtain ⟨u, hu⟩ : ∃ u, D x C.length = u := ⟨_, rfl⟩
    obtain ⟨v, hv⟩ : ∃ v, D y C.length = v := ⟨_, rfl⟩
    rw [hu] at a q1 hstep
    rw [hv] at b q2 hstep
    have HS := Lib.hid (hstep _ rfl)
    have Q1 := Lib.hid q1
    have Q2 := Lib.hid q2
    obtain ⟨n, hn⟩ : ∃ n, u + v + d = n := ⟨_, rfl⟩
    rw [hn] at HS
    have e1 : IntKind.u64.wrap (u + v) = u + v := by rw [IntKind.wrap_u64]; omega
    have e2 : IntKind.u64.wrap (u + v + d) = n := by rw [IntKind.wrap_u64]; omega
    have n0 : 0 ≤ n := by omega
    have e3 : n.tmod 4294967296 = n % 4294967296 := Int.tmod_eq_emod_of_nonneg n0
    have e4 : IntKind.u64.wrap (n.tdiv 4294967296) = n / 4294967296 := by rw [Int.tdiv_eq_ediv_of_nonneg n0, IntKind.wrap_u64]; omega
    obtain ⟨r, hr⟩ : ∃ r, n % 4294967296 = r := ⟨_, rfl⟩
    obtain ⟨q, hq⟩ : ∃ q, n / 4294967296 = q := ⟨_, rfl⟩
    rw [hr] at e3 HS
    rw [hq] at e4 HS
    have hsrc : ∀ (W : World) (z : Int), Nums (W.alloc (.cells #[.int .u64 z] 22)) (W.heap.size + 1) (some ⟨W.heap.size, 0, none⟩) 1 [z] := fun W z => by
      have := (Row.one W z).nums (B := W.heap.size + 1) (c := 1) 0 1 (by simp) (by omega) (by unfold maxLen; omega) (by omega)
      simpa using this
    clear hstep q1 q2 hn hr hq hu hv
    by_cases hdone : x.length ≤ C.length ∧ y.length ≤ C.length
    · have hfin := hj.out.fin hdone.1 hdone.2
      have i1 : (x.length : Int) ≤ C.length := by omega
      have i2 : (y.length : Int) ≤ C.length := by omega
      have HF := Lib.hid hfin
      have hlim : Lim 4294967296 (C ++ [d]) := hj.out.2.1.snoc hd0 (by omega)
      have HL := Lib.hid hlim
      clear hfin hdone hlim Q1 Q2
      go_wp2_with (at_builtin; refine wpList_app _ rfl _ _ rfl w2.heap.size A5 c5 C rfl (ho.alloc_ _) _ (some ⟨wr.heap.size, 0, none⟩) 1 [d] rfl (hsrc _ _) (by simp; omega) (by simp; omega) ?_; intro A6 c6 w4 hown4 hg hat)
      have hbl := below_app (hb.alloc hsz _) (ho.alloc_ _) hg (by simp; omega)
      have p3 := join_any A6 c6 (C ++ [d]) w4 hown4.nums HL.out (by simp; omega)
      rw [HF.out, show (C ++ [d]).length = C.length + 1 by simp] at p3
      with_reducible refine p3.mono ?_
      rintro e w5 ⟨s, A7, c7, rfl, s1, s2, s3, s4, s5⟩
      have hsz4 := hbl.size
      have hszw := bw.size
      go_wp2_with fail
      go_ret
      exact ⟨s, A7, c7, rfl, s1, s2, s3, s4.less (by omega), (bel_then bw hbl).trans (s5.mono (by omega))⟩
    · have hlt : C.length < 200000 := by omega
      have hside : (C.length : Int) < x.length ∨ ((x.length : Int) ≤ C.length ∧ (C.length : Int) < y.length) := by omega
      clear hdone
      rcases hside with i1 | ⟨i1, i2⟩
      all_goals
        go_wp2_with (first
          | (go_at_call 100; ((with_reducible refine (Q1.out _ hb).mono ?_); rintro e w' ⟨rfl, rfl⟩))
          | (go_at_call 100; ((with_reducible refine (Q2.out _ hb).mono ?_); rintro e w' ⟨rfl, rfl⟩))
          | (at_builtin; refine wpList_app _ rfl _ _ rfl w2.heap.size A5 c5 C rfl (ho.alloc_ _) _ (some ⟨wr.heap.size, 0, none⟩) 1 [r] rfl (hsrc _ _) (by simp; omega) (by simp; omega) ?_; intro A6 c6 w4 hown4 hg hat))
        have hbl := below_app (hb.alloc hsz _) (ho.alloc_ _) hg (by simp; omega)
        go_roundw
        case rel => exact ⟨C.length + 1, C ++ [r], q, A6, c6, by omega, by go_num, rfl, by rw [List.length_append]; rfl, HS, hown4, hbl⟩
        case measure => simp [intOf]; omega
/-! ### NatAdds (the walk is written by wip/tools/gen_adds.py) -/
/-- a new number of this value -/
def NewV (v : Int) (w : World) (e : Ending) (w' : World) : Prop :=
  ∃ l A c, e = .returned (.slice A l.length c) ∧ Normal l ∧ Hid (val 18446744073709551616 l = v) ∧ Lv w' A l.length c l ∧ Below w.heap.size w w'
theorem Made.newV {v : Int} {w w' : World} {e : Ending} (h : Made v w e w') : NewV v w e w' := by
  obtain ⟨s, A, c, h1, h2, h3, h4, h5, h6⟩ := h
  exact ⟨s, A, c, h1, h3, h4, ⟨rfl, h5.nums, h2⟩, h6⟩
theorem refAdd_lv {A A2 : Option Addr} {n m c c2 : Nat} {l s : List Int} {w : World} (h : Lv w A n c l) (h2 : Lv w A2 m c2 s) (hn : n ≤ 10000) (hm : m ≤ 10000) :
    Calls Tryz.prog 60 #[.slice A n c, .slice A2 m c2] w (NewV (val 18446744073709551616 l + val 18446744073709551616 s) w) := by
  have := refAdd_any A c l A2 c2 s w h.2.1 h.2.2 h2.2.1 h2.2.2 (by rw [h.1]; omega) (by rw [h2.1]; omega)
  rw [h.1, h2.1] at this
  exact this.mono fun e w' q => q.newV
theorem bd60 {a b : Int} (a0 : 0 ≤ a) (b0 : 0 ≤ b) (a1 : a < 18446744073709551616 ^ 60) (b1 : b < 18446744073709551616 ^ 60) :
    a + b < 18446744073709551616 ^ 4096 ∧ a * b < 18446744073709551616 ^ 4096 := by
  have e : (18446744073709551616 : Int) ^ 121 ≤ 18446744073709551616 ^ 4096 := pow_le' (by omega) (by omega)
  have e2 : (18446744073709551616 : Int) ^ 121 = 18446744073709551616 ^ 60 * 18446744073709551616 ^ 60 * 18446744073709551616 := by rw [← Int.pow_add, ← Int.pow_succ]
  have hp : (1 : Int) ≤ 18446744073709551616 ^ 60 := Int.pow_pos (by omega)
  generalize (18446744073709551616 : Int) ^ 4096 = K at *
  generalize (18446744073709551616 : Int) ^ 121 = Q at *
  generalize (18446744073709551616 : Int) ^ 60 = P at *
  have h1 : a * b ≤ P * P := Int.mul_le_mul (by omega) (by omega) (by omega) (by omega)
  have h4 : 1 * P ≤ P * P := Int.mul_le_mul_of_nonneg_right hp (by omega)
  generalize P * P = R at *
  generalize a * b = X at *
  exact ⟨by omega, by omega⟩

end Go.Proofs.YtfjellhbcjnjkaaGreatDoor
namespace Go.Proofs.YtfjellhbcjnjkaaGreatDoor
open Go.RowKit
set_option linter.unusedVariables false

/-! ### differences -/
def SubInv (x y C : List Int) (d : Int) (k : Nat) : Prop :=
  C.length = k ∧ Lim 4294967296 C ∧ 0 ≤ d ∧ d ≤ 1 ∧ val 4294967296 C + S 4294967296 (D y) k = S 4294967296 (D x) k + d * 4294967296 ^ k
theorem SubInv.step {x y C : List Int} {d n : Int} {k : Nat} (h : SubInv x y C d k) (hx : Lim 4294967296 x) (hy : Lim 4294967296 y) (hn : 4294967296 + D x k - D y k - d = n) : SubInv x y (C ++ [n % 4294967296]) (1 - n / 4294967296) (k + 1) := by
  obtain ⟨rfl, h2, h3, h4, h5⟩ := h
  have a := D_lim (b := 4294967296) (by omega) hx C.length
  have b := D_lim (b := 4294967296) (by omega) hy C.length
  refine ⟨by simp, h2.snoc (by omega) (by omega), by omega, by omega, ?_⟩
  have e : n = n % 4294967296 + n / 4294967296 * 4294967296 := by omega
  rw [val_append, val_cons, val_nil, S_succ, S_succ, Int.pow_succ]
  generalize n % 4294967296 = r at *
  generalize n / 4294967296 = q at *
  grind
theorem S_le_val {b : Int} {l : List Int} (hb : 0 < b) (h : Lim b l) (k : Nat) : S b (D l) k ≤ val b l := by
  rcases Nat.lt_or_ge l.length k with g | g
  · rw [S_val (by omega)]; omega
  · have h1 := val_take_drop b l k g
    have h2 := (val_bound hb (h.drop k)).1
    have := Int.mul_nonneg (Int.le_of_lt (pow_pos' hb k)) h2
    omega
theorem S_eq_val {b : Int} {l : List Int} (hb : 0 < b) (h : Lim b l) {k : Nat} (hlt : val b l < b ^ k) : S b (D l) k = val b l := by
  rcases Nat.lt_or_ge l.length k with g | g
  · rw [S_val (by omega)]
  · have h1 := val_take_drop b l k g
    have h2 := (val_bound hb (h.drop k)).1
    have h3 := (S_of_bound hb h k).1
    have hp := pow_pos' hb k
    generalize val b (l.drop k) = T at *
    have : T = 0 := by
      rcases Int.lt_trichotomy T 0 with g2 | g2 | g2
      · omega
      · exact g2
      · have := Int.mul_le_mul_of_nonneg_left (show 1 ≤ T by omega) (Int.le_of_lt hp)
        omega
    rw [this] at h1
    omega
theorem SubInv.fin {x y C : List Int} {d : Int} {k : Nat} (h : SubInv x y C d k) (hx : Lim 4294967296 x) (hy : Lim 4294967296 y) (hk : x.length = k) (hle : val 4294967296 y ≤ val 4294967296 x) : val 4294967296 C = val 4294967296 x - val 4294967296 y := by
  obtain ⟨rfl, h2, h3, h4, h5⟩ := h
  have a := val_bound (b := 4294967296) (by omega) hx
  have b := S_le_val (b := 4294967296) (by omega) hy C.length
  have c := val_bound (b := 4294967296) (by omega) h2
  rw [hk] at a
  rw [S_eq_val (by omega) hy (by omega), S_val (by omega)] at h5
  have : d = 0 := by
    rcases (show d = 0 ∨ d = 1 by omega) with g | g
    · exact g
    · rw [g] at h5; omega
  rw [this] at h5
  omega

set_option maxHeartbeats 4000000 in
theorem refSub_any (A : Option Addr) (c : Nat) (l : List Int) (A2 : Option Addr) (c2 : Nat) (m : List Int) (w : World) (h : Nums w w.heap.size A c l) (hl : Lim 18446744073709551616 l)
    (h2 : Nums w w.heap.size A2 c2 m) (hl2 : Lim 18446744073709551616 m) (hb1 : l.length ≤ 100000) (hb2 : m.length ≤ 100000) (hle : val 18446744073709551616 m ≤ val 18446744073709551616 l) :
    Calls Tryz.prog 95 #[.slice A l.length c, .slice A2 m.length c2] w (Made (val 18446744073709551616 l - val 18446744073709551616 m) w) := by
  have p1 := cut_any A c l w h hl (by omega)
  have x1 := cutL_lim hl
  have x2 := cutL_length l
  have x3 := cutL_val l
  have y1 := cutL_lim hl2
  have y2 := cutL_length m
  have y3 := cutL_val m
  have p2 := fun w' (hb : Below w.heap.size w w') => cut_any A2 c2 m w' (h2.on hb (Nat.le_refl _)) hl2 (by omega)
  obtain ⟨x, hx⟩ : ∃ x, cutL l = x := ⟨_, rfl⟩
  obtain ⟨y, hy⟩ : ∃ y, cutL m = y := ⟨_, rfl⟩
  unfold NewPost at p1 p2
  rw [hx] at p1 x1 x2 x3
  rw [hy] at p2 y1 y2 y3
  rw [← x3, ← y3] at hle ⊢
  have HLE := Lib.hid hle
  have hxl : x.length ≤ 200000 := by omega
  have hyl : y.length ≤ 200000 := by omega
  have P2 := Lib.hid p2
  clear h h2 hl hl2 hb1 hb2 x2 x3 y2 y3 hx hy p2 hle
  go_enter Tryz.func95, Tryz.ntmps95
  go_wp2_with fail
  with_reducible refine p1.mono ?_
  rintro e w1 ⟨A3, c3, rfl, o1, b1⟩
  clear p1
  have p2 := P2.out w1 b1
  clear P2
  go_wp2_with fail
  with_reducible refine p2.mono ?_
  rintro e w2 ⟨A4, c4, rfl, o2, b2⟩
  clear p2
  have n1 := o1.nums.on b2 (Nat.le_refl _)
  have n2 := o2.nums
  have bw := bel_then b1 b2
  clear b1 b2 o1 o2
  go_wp2_with fail
  go_loopw [7, 8, 9] (fun s d i wr => ∃ (k : Nat) (C : List Int) (d' : Int) (A5 : Option Addr) (c5 : Nat), k ≤ x.length ∧ i = .int .i64 k ∧ d = .int .u64 d' ∧ s = .slice A5 C.length c5 ∧ Hid (SubInv x y C d' k) ∧ Own wr w2.heap.size A5 c5 C ∧ Below w2.heap.size w2 wr) (fun _ _ i _ => x.length - (intOf i).toNat)
  case atStart => exact ⟨0, [], 0, none, 0, by omega, rfl, rfl, rfl, ⟨rfl, Lim.nil _, by omega, by omega, rfl⟩, Own.nil w2 _, Below.refl _ _⟩
  case round =>
    obtain ⟨k, C, d, A5, c5, hk, rfl, rfl, rfl, hj, ho, hb⟩ := hrel
    have hsz := hb.size
    have hd0 := hj.out.2.2.1
    have hd1 := hj.out.2.2.2.1
    obtain rfl : C.length = k := hj.out.1
    by_cases hlt : C.length < x.length
    · have a := D_lim (b := 4294967296) (by omega) x1 C.length
      have b := D_lim (b := 4294967296) (by omega) y1 C.length
      have q2 : ∀ n, Calls Tryz.prog 100 #[.slice A4 y.length c4, .int .i64 C.length] (wr.drewN n) (fun e w' => e = .returned (.int .u64 (D y C.length)) ∧ w' = wr.drewN n) :=
        fun n => (digit_any A4 c4 y C.length (by omega) (wr.drewN n) _ (n2.below (below_drewN hb n))).mono fun _ _ ⟨a, b⟩ => ⟨a, b.symm⟩
      have hstep := fun n hn => hj.out.step (n := n) x1 y1 hn
      obtain ⟨ad, rfl, hadb, hc⟩ := (n1.below hb).at_ hlt
      obtain ⟨u, hu⟩ : ∃ u, D x C.length = u := ⟨_, rfl⟩
      obtain ⟨v, hv⟩ : ∃ v, D y C.length = v := ⟨_, rfl⟩
      rw [hu] at a hc hstep
      rw [hv] at b q2 hstep
      have HS := Lib.hid (hstep _ rfl)
      have Q2 := Lib.hid q2
      obtain ⟨n, hn⟩ : ∃ n, 4294967296 + u - v - d = n := ⟨_, rfl⟩
      rw [hn] at HS
      have e0 : IntKind.u64.wrap (4294967296 + u) = 4294967296 + u := by rw [IntKind.wrap_u64]; omega
      have e1 : IntKind.u64.wrap (4294967296 + u - v) = 4294967296 + u - v := by rw [IntKind.wrap_u64]; omega
      have e2 : IntKind.u64.wrap (4294967296 + u - v - d) = n := by rw [IntKind.wrap_u64]; omega
      have n0 : 0 ≤ n := by omega
      have e3 : n.tmod 4294967296 = n % 4294967296 := Int.tmod_eq_emod_of_nonneg n0
      have e4 : IntKind.u64.wrap (n.tdiv 4294967296) = n / 4294967296 := by rw [Int.tdiv_eq_ediv_of_nonneg n0, IntKind.wrap_u64]; omega
      have e5 : IntKind.u64.wrap (1 - n / 4294967296) = 1 - n / 4294967296 := by rw [IntKind.wrap_u64]; omega
      obtain ⟨r, hr⟩ : ∃ r, n % 4294967296 = r := ⟨_, rfl⟩
      obtain ⟨q, hq⟩ : ∃ q, n / 4294967296 = q := ⟨_, rfl⟩
      rw [hr] at e3 HS
      rw [hq] at e4 e5 HS
      have hsrc : ∀ (W : World) (z : Int), Nums (W.alloc (.cells #[.int .u64 z] 22)) (W.heap.size + 1) (some ⟨W.heap.size, 0, none⟩) 1 [z] := fun W z => by
        have := (Row.one W z).nums (B := W.heap.size + 1) (c := 1) 0 1 (by simp) (by omega) (by unfold maxLen; omega) (by omega)
        simpa using this
      have hoN : ∀ n, Own (wr.drewN n) w2.heap.size A5 c5 C := fun n => ho
      have hbN : ∀ n, Below w2.heap.size w2 (wr.drewN n) := fun n => below_drewN hb n
      have hszN : ∀ n, (wr.drewN n).heap.size = wr.heap.size := fun n => rfl
      have HN := Lib.hid (And.intro hoN (And.intro hbN hszN))
      have i0 : (0 : Int) ≤ C.length := by omega
      have i1 : (C.length : Int) < x.length := by omega
      clear hstep q2 hn hr hq hu hv hoN hbN hszN
      go_wp2_with fail
      go_quiet ((go_at_call 100; first | exact quiet_add_same (Q2.out _) | exact Calls.quiet_of_same (Q2.out _)))
      go_wp2_with (at_builtin; refine wpList_app _ rfl _ _ rfl w2.heap.size A5 c5 C rfl ((HN.out.1 _).alloc_ _) _ (some ⟨wr.heap.size, 0, none⟩) 1 [r] rfl (hsrc _ _) (by simp; omega) (by simp; omega) ?_; intro A6 c6 w4 hown4 hg hat)
      have hbl := below_app ((HN.out.2.1 _).alloc hsz _) ((HN.out.1 _).alloc_ _) hg (by simp; omega)
      go_roundw
      case rel => exact ⟨C.length + 1, C ++ [r], 1 - q, A6, c6, by omega, by go_num, rfl, by rw [List.length_append]; rfl, HS, hown4, hbl⟩
      case measure => simp [intOf]; omega
    · have hfin := hj.out.fin x1 y1 (by omega) HLE.out
      have i1 : (x.length : Int) ≤ C.length := by omega
      have HF := Lib.hid hfin
      have hlim := hj.out.2.1
      clear hfin
      have p3 := join_any A5 c5 C wr (ho.nums) hlim (by omega)
      rw [HF.out] at p3
      go_wp2_with fail
      with_reducible refine p3.mono ?_
      rintro e w5 ⟨s, A7, c7, rfl, s1, s2, s3, s4, s5⟩
      have hszw := bw.size
      go_wp2_with fail
      go_ret
      exact ⟨s, A7, c7, rfl, s1, s2, s3, s4.less (by omega), (bel_then bw hb).trans (s5.mono (by omega))⟩

/-! ### products -/
/-- within a row -/
def RowInv (C0 C y : List Int) (f d : Int) (o k : Nat) : Prop :=
  C.length = C0.length ∧ Lim 4294967296 C ∧ 0 ≤ d ∧ d < 4294967296 ∧ (∀ i, (i < o ∨ o + k ≤ i) → D C i = D C0 i) ∧
    S 4294967296 (fun i => D C (o + i)) k + d * 4294967296 ^ k = S 4294967296 (fun i => D C0 (o + i)) k + S 4294967296 (D y) k * f
theorem half_mul {a b : Int} (a0 : 0 ≤ a) (a1 : a < 4294967296) (b0 : 0 ≤ b) (b1 : b < 4294967296) : 0 ≤ a * b ∧ a * b ≤ 18446744065119617025 := by
  refine ⟨Int.mul_nonneg a0 b0, ?_⟩
  have : a * b ≤ 4294967295 * 4294967295 := Int.mul_le_mul (by omega) (by omega) (by omega) (by omega)
  omega
theorem RowInv.step {C0 C y : List Int} {f d n : Int} {o k j : Nat} (h : RowInv C0 C y f d o k) (hy : Lim 4294967296 y) (f0 : 0 ≤ f) (f1 : f < 4294967296) (hj : o + k = j) (hk : j < C0.length) (hn : D C j + f * D y k + d = n) :
    RowInv C0 (C.set j (n % 4294967296)) y f (n / 4294967296) o (k + 1) := by
  obtain ⟨h1, h2, h3, h4, h5, h6⟩ := h
  have a := D_lim (b := 4294967296) (by omega) h2 j
  have b := D_lim (b := 4294967296) (by omega) hy k
  have c := half_mul f0 f1 b.1 b.2
  refine ⟨by simp [h1], h2.set _ (by omega) (by omega), by omega, by omega, fun i hi => ?_, ?_⟩
  · rw [D_set _ i (by omega), if_neg (by omega)]; exact h5 i (by omega)
  · have e : n = n % 4294967296 + n / 4294967296 * 4294967296 := by omega
    have e2 := h5 j (by omega)
    rw [S_succ, S_succ, S_succ, S_congr (g := fun i => D C (o + i)) (fun i hi => by rw [D_set _ (o + i) (by omega), if_neg (by omega)]), D_set _ (o + k) (by omega), if_pos hj, Int.pow_succ, hj]
    rw [e2] at hn
    generalize n % 4294967296 = r at *
    generalize n / 4294967296 = q at *
    grind
/-- ahead of a row -/
def OutInv (x y C : List Int) (k : Nat) : Prop :=
  C.length = x.length + y.length + 1 ∧ Lim 4294967296 C ∧ (∀ i, k + y.length ≤ i → D C i = 0) ∧ S 4294967296 (D C) (k + y.length) = S 4294967296 (D x) k * val 4294967296 y
theorem OutInv.start (x y : List Int) : OutInv x y (List.replicate (x.length + y.length + 1) 0) 0 :=
  ⟨by simp, Lim.zeros (by omega) _, fun i _ => D_replicate _ i, by rw [S_nil (fun i _ => D_replicate _ i)]; simp [S]⟩
theorem OutInv.row {x y C : List Int} {k : Nat} (h : OutInv x y C k) : RowInv C C y (D x k) 0 k 0 :=
  ⟨rfl, h.2.1, by omega, by omega, fun _ _ => rfl, by simp [S]⟩
theorem OutInv.step {x y C C' : List Int} {d : Int} {k j : Nat} (h : OutInv x y C k) (hr : RowInv C C' y (D x k) d k y.length) (hk : k < x.length) (hj : k + y.length = j) : OutInv x y (C'.set j d) (k + 1) := by
  obtain ⟨h1, h2, h3, h4⟩ := h
  obtain ⟨r1, r2, r3, r4, r5, r6⟩ := hr
  subst hj
  refine ⟨by simp [r1, h1], r2.set _ r3 r4, fun i hi => ?_, ?_⟩
  · rw [D_set d i (by omega), if_neg (by omega), r5 i (by omega)]; exact h3 i (by omega)
  · rw [show k + 1 + y.length = k + y.length + 1 from by omega, S_succ, S_succ, D_set d _ (by omega), if_pos rfl]
    rw [S_congr (g := D C') (fun i hi => by rw [D_set d i (by omega), if_neg (by omega)]), S_split, S_congr (g := D C) (k := k) (fun i hi => r5 i (by omega))]
    rw [S_split] at h4
    rw [S_val (Nat.le_refl _)] at r6
    rw [Int.pow_add]
    grind
theorem OutInv.fin {x y C : List Int} (h : OutInv x y C x.length) : val 4294967296 C = val 4294967296 x * val 4294967296 y := by
  obtain ⟨h1, h2, h3, h4⟩ := h
  rw [S_val (Nat.le_refl _)] at h4
  rw [← h4]
  unfold val
  rw [h1]
  exact S_more (by omega) (fun i hi _ => h3 i hi)

set_option maxHeartbeats 8000000 in
theorem refMul_any (A : Option Addr) (c : Nat) (l : List Int) (A2 : Option Addr) (c2 : Nat) (m : List Int) (w : World) (h : Nums w w.heap.size A c l) (hl : Lim 18446744073709551616 l)
    (h2 : Nums w w.heap.size A2 c2 m) (hl2 : Lim 18446744073709551616 m) (hb1 : l.length ≤ 100000) (hb2 : m.length ≤ 100000) :
    Calls Tryz.prog 63 #[.slice A l.length c, .slice A2 m.length c2] w (Made (val 18446744073709551616 l * val 18446744073709551616 m) w) := by
  have p1 := cut_any A c l w h hl (by omega)
  have x1 := cutL_lim hl
  have x2 := cutL_length l
  have x3 := cutL_val l
  have y1 := cutL_lim hl2
  have y2 := cutL_length m
  have y3 := cutL_val m
  have p2 := fun w' (hb : Below w.heap.size w w') => cut_any A2 c2 m w' (h2.on hb (Nat.le_refl _)) hl2 (by omega)
  obtain ⟨x, hx⟩ : ∃ x, cutL l = x := ⟨_, rfl⟩
  obtain ⟨y, hy⟩ : ∃ y, cutL m = y := ⟨_, rfl⟩
  unfold NewPost at p1 p2
  rw [hx] at p1 x1 x2 x3
  rw [hy] at p2 y1 y2 y3
  rw [← x3, ← y3]
  have hxl : x.length ≤ 200000 := by omega
  have hyl : y.length ≤ 200000 := by omega
  have P2 := Lib.hid p2
  obtain ⟨N, hN⟩ : ∃ N, x.length + y.length + 1 = N := ⟨_, rfl⟩
  have hNi : (x.length : Int) + y.length + 1 = (N : Int) := by omega
  have hmk := fun W => run_make N (by omega) W
  have HNN := Lib.hid hN
  have hN4 : N ≤ 500000 := by omega
  clear h h2 hl hl2 hb1 hb2 x2 x3 y2 y3 hx hy p2 hN
  go_enter Tryz.func63, Tryz.ntmps63
  go_wp2_with fail
  with_reducible refine p1.mono ?_
  rintro e w1 ⟨A3, c3, rfl, o1, b1⟩
  clear p1
  have p2 := P2.out w1 b1
  clear P2
  go_wp2_with fail
  with_reducible refine p2.mono ?_
  rintro e w2 ⟨A4, c4, rfl, o2, b2⟩
  clear p2
  have n1 := o1.nums.on b2 (Nat.le_refl _)
  have n2 := o2.nums
  have bw := bel_then b1 b2
  clear b1 b2 o1 o2
  go_wp2_with fail
  go_loopw [8] (fun i wr => ∃ (k : Nat) (C : List Int), k ≤ x.length ∧ i = .int .i64 k ∧ Hid (OutInv x y C k) ∧ Row wr w2.heap.size C ∧ Below w2.heap.size w2 wr) (fun i _ => x.length - (intOf i).toNat)
  case atStart =>
    refine ⟨0, List.replicate N 0, by omega, rfl, ?_, Row.new _ _, (Below.refl _ w2).alloc (Nat.le_refl _) _⟩
    have := OutInv.start x y
    rw [HNN.out] at this
    exact this
  case round =>
    obtain ⟨k, C0, hk, rfl, hO, hr0, hb0⟩ := hrel
    by_cases hkn : k < x.length
    · have hf := D_lim (b := 4294967296) (by omega) x1 k
      have hrow0 := Lib.hid hO.out.row
      obtain ⟨ad, rfl, hadb, hcx⟩ := n1.at_ hkn
      obtain ⟨f, hfe⟩ : ∃ f, D x k = f := ⟨_, rfl⟩
      rw [hfe] at hf hrow0
      have hcx' : ∀ W, Below w2.heap.size w2 W → W.cell? (ad.add k) = some (.int .u64 f) := fun W hW => by rw [hW.cell (by rw [add_block]; exact hadb), hcx, hfe]
      have HX := Lib.hid hcx'
      have HFE := Lib.hid hfe
      have k0 : (0 : Int) ≤ k := by omega
      have k1 : (k : Int) < x.length := by omega
      have hC0 : C0.length = N := by have := hO.out.1; have := HNN.out; omega
      have HC0 := Lib.hid hC0
      have hky : k + y.length < N := by have := HNN.out; omega
      clear hcx' hcx hfe hC0
      go_wp2_with fail
      go_loopw [9, 10] (fun dd kk wq => ∃ (t : Nat) (C : List Int) (d : Int), t ≤ y.length ∧ kk = .int .i64 t ∧ dd = .int .u64 d ∧ Hid (RowInv C0 C y f d k t) ∧ Row wq w2.heap.size C ∧ Below w2.heap.size w2 wq) (fun _ kk _ => y.length - (intOf kk).toNat)
      case atStart => exact ⟨0, C0, 0, by omega, rfl, rfl, hrow0, hr0, hb0⟩
      case round =>
        obtain ⟨t, C, d, ht, rfl, rfl, hR, hr, hb⟩ := hrel
        have hsz := hb.size
        have hd0 := hR.out.2.2.1
        have hd1 := hR.out.2.2.2.1
        have hCl := hR.out.2.1
        have hCN : C.length = N := by have := hR.out.1; have := HC0.out; omega
        by_cases hlt : t < y.length
        · obtain ⟨j, hj⟩ : ∃ j, k + t = j := ⟨_, rfl⟩
          have hji : (k : Int) + t = j := by omega
          have hjN : j < C.length := by omega
          have a := D_lim (b := 4294967296) (by omega) hCl j
          have b := D_lim (b := 4294967296) (by omega) y1 t
          have c0 := hr.cell (k := j) hjN
          have cx := HX.out wr hb
          obtain ⟨ad2, rfl, hadb2, hcy⟩ := (n2.below hb).at_ hlt
          have hfr := hr.frozen j
          have hstep := fun n hn => hR.out.step (n := n) y1 hf.1 hf.2 hj (by have := HC0.out; omega) hn
          have hp := half_mul hf.1 hf.2 b.1 b.2
          obtain ⟨u, hu⟩ : ∃ u, D C j = u := ⟨_, rfl⟩
          obtain ⟨v, hv⟩ : ∃ v, D y t = v := ⟨_, rfl⟩
          rw [hu] at a c0 hstep
          rw [hv] at b hcy hstep hp
          have HS := Lib.hid (hstep _ rfl)
          obtain ⟨p, hpe⟩ : ∃ p, f * v = p := ⟨_, rfl⟩
          rw [hpe] at hp HS
          obtain ⟨n, hn⟩ : ∃ n, u + p + d = n := ⟨_, rfl⟩
          rw [hn] at HS
          have e0 : IntKind.u64.wrap (f * v) = p := by rw [hpe, IntKind.wrap_u64]; omega
          have e1 : IntKind.u64.wrap (u + p) = u + p := by rw [IntKind.wrap_u64]; omega
          have e2 : IntKind.u64.wrap (u + p + d) = n := by rw [IntKind.wrap_u64]; omega
          have n0 : 0 ≤ n := by omega
          have e3 : n.tmod 4294967296 = n % 4294967296 := Int.tmod_eq_emod_of_nonneg n0
          have e4 : IntKind.u64.wrap (n.tdiv 4294967296) = n / 4294967296 := by rw [Int.tdiv_eq_ediv_of_nonneg n0, IntKind.wrap_u64]; omega
          obtain ⟨r, hre⟩ : ∃ r, n % 4294967296 = r := ⟨_, rfl⟩
          obtain ⟨q, hqe⟩ : ∃ q, n / 4294967296 = q := ⟨_, rfl⟩
          rw [hre] at e3 HS
          rw [hqe] at e4 HS
          have i0 : (0 : Int) ≤ t := by omega
          have i1 : (t : Int) < y.length := by omega
          have i2 : (0 : Int) ≤ j := by omega
          have i3 : (j : Int) < N := by omega
          clear hstep hn hre hqe hu hv hpe hj hlt
          go_wp2_with fail
          go_quiet (fail)
          go_wp2_with fail
          go_roundw
          case rel => exact ⟨t + 1, C.set j r, q, by omega, by go_num, rfl, HS, (hr.drewN _).set_ j r, (below_drewN hb _).setCell (p := ⟨w2.heap.size, j, none⟩) (Nat.le_refl _) _⟩
          case measure => simp [intOf]; omega
        · obtain rfl : t = y.length := by omega
          obtain ⟨j, hj⟩ : ∃ j, k + y.length = j := ⟨_, rfl⟩
          have hji : (k : Int) + y.length = j := by omega
          have hjN : j < C.length := by omega
          have hR2 := hR.out
          rw [← HFE.out] at hR2
          have hO2 := hO.out.step hR2 hkn hj
          have HO := Lib.hid hO2
          have c0 := hr.cell (k := j) hjN
          have hfr := hr.frozen j
          have i2 : (0 : Int) ≤ j := by omega
          have i3 : (j : Int) < N := by omega
          clear hR2 hO2 hj
          go_wp2_with fail
          go_roundw
          case rel => exact ⟨k + 1, C.set j d, by omega, by go_num, HO, hr.set_ j d, hb.setCell (p := ⟨w2.heap.size, j, none⟩) (Nat.le_refl _) _⟩
          case measure => simp [intOf]; omega
    · obtain rfl : k = x.length := by omega
      have hfin := hO.out.fin
      have HF := Lib.hid hfin
      have hlim := hO.out.2.1
      have hCN : C0.length = N := by have := hO.out.1; have := HNN.out; omega
      have hgl := hr0.lt
      have hnum := hr0.nums (B := wr.heap.size) (c := N) 0 N (by omega) (by omega) (by unfold maxLen; omega) hgl
      rw [List.drop_zero, List.take_of_length_le (by omega)] at hnum
      have p3 := join_any (some ⟨w2.heap.size, 0, none⟩) N C0 wr hnum hlim (by omega)
      rw [HF.out, hCN] at p3
      clear hfin hnum hO
      go_wp2_with fail
      with_reducible refine p3.mono ?_
      rintro e w5 ⟨s, A7, c7, rfl, s1, s2, s3, s4, s5⟩
      have hszw := bw.size
      have hsz0 := hb0.size
      go_wp2_with fail
      go_ret
      exact ⟨s, A7, c7, rfl, s1, s2, s3, s4.less (by omega), (bel_then bw hb0).trans (s5.mono (by omega))⟩
end Go.Proofs.YtfjellhbcjnjkaaGreatDoor
