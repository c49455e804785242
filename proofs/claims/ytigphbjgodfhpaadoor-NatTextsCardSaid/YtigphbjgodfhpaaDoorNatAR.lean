/-
  Layer 2, the laws, part six: the reference's Bits, Bit, Zeros; NatBits.
-/
import Derived.Test.YtigphbjgodfhpaaDoorNatAQ
namespace Go.Proofs.YtigphbjgodfhpaaDoor
open Go.RowKit
set_option linter.unusedVariables false

/-! ### plain facts on bits -/
def bitB (l : List Int) (j : Nat) : Bool := decide (D l (j / 64) / 2 ^ (j % 64) % 2 = 1)

theorem ediv_of {a b q r : Int} (hb : 0 < b) (h : a = r + b * q) (r0 : 0 ≤ r) (r1 : r < b) : a / b = q := by
  rw [h, Int.add_mul_ediv_left _ _ (Int.ne_of_gt hb), Int.ediv_eq_zero_of_lt r0 r1, Int.zero_add]
theorem emod_of {a b q r : Int} (hb : 0 < b) (h : a = r + b * q) (r0 : 0 ≤ r) (r1 : r < b) : a % b = r := by
  rw [h, Int.add_mul_emod_self_left, Int.emod_eq_of_lt r0 r1]

/-- the number behind the lower limbs -/
theorem val_cut {l : List Int} (hl : Lim 18446744073709551616 l) (q : Nat) : val 18446744073709551616 l / 18446744073709551616 ^ q = val 18446744073709551616 (l.drop q) := by
  rcases Nat.lt_or_ge l.length q with h | h
  · have b := val_bound (b := 18446744073709551616) (by omega) hl
    have := pow_le' (b := 18446744073709551616) (by omega) (show l.length ≤ q by omega)
    rw [List.drop_of_length_le (by omega), val_nil]
    exact Int.ediv_eq_zero_of_lt b.1 (by omega)
  · have h1 := val_take_drop 18446744073709551616 l q h
    have h2 := S_of_bound (b := 18446744073709551616) (by omega) hl q
    exact ediv_of (pow_pos' (by omega) q) h1 h2.1 h2.2
theorem drop_head {l : List Int} (q : Nat) : ∃ T : Int, val 18446744073709551616 (l.drop q) = D l q + 18446744073709551616 * T := by
  rcases hd : l.drop q with _ | ⟨x, m⟩
  · have : D l q = 0 := by
      have h := D_drop l q 0
      rw [hd, D_nil] at h
      simpa using h.symm
    exact ⟨0, by rw [this, val_nil]; rfl⟩
  · have h := D_drop l q 0
    rw [hd, D_cons_zero] at h
    refine ⟨val 18446744073709551616 m, ?_⟩
    rw [val_cons, h]
    rfl
theorem bit_val {l : List Int} (hl : Lim 18446744073709551616 l) (j : Nat) : D l (j / 64) / 2 ^ (j % 64) % 2 = val 18446744073709551616 l / 2 ^ j % 2 := by
  obtain ⟨q, hq⟩ : ∃ q, j / 64 = q := ⟨_, rfl⟩
  obtain ⟨r, hr⟩ : ∃ r, j % 64 = r := ⟨_, rfl⟩
  have hj : j = 64 * q + r := by omega
  have hr64 : r < 64 := by omega
  rw [hq, hr, hj, pow_limbs, ← Int.ediv_ediv_of_nonneg (Int.le_of_lt (pow_pos' (by omega) q)), val_cut hl q]
  obtain ⟨T, hT⟩ := drop_head (l := l) q
  rw [hT]
  have hs := pow_split (s := r) (by omega)
  have he : (2 : Int) ^ (64 - r) = 2 ^ (63 - r) * 2 := by rw [← Int.pow_succ]; congr 1; omega
  have h2 : D l q + 18446744073709551616 * T = D l q + 2 ^ r * (2 * (2 ^ (63 - r) * T)) := by
    rw [← hs, he]
    grind
  rw [h2, Int.add_mul_ediv_left _ _ (Int.ne_of_gt (two_pos r)), Int.add_mul_emod_self_left]
theorem bitB_val {l : List Int} (hl : Lim 18446744073709551616 l) (j : Nat) : bitB l j = decide (val 18446744073709551616 l / 2 ^ j % 2 = 1) := by
  unfold bitB
  rw [bit_val hl]

/-- v's lower j bits are noughts, and so is the next one, or it is the lowest -/
theorem low_step {v : Int} {j : Nat} (hz : v % 2 ^ j = 0) (hb : v / 2 ^ j % 2 ≠ 1) : v % 2 ^ (j + 1) = 0 := by
  have hp := two_pos j
  have e := Int.mul_ediv_add_emod v (2 ^ j)
  rw [hz] at e
  have h2 : v / 2 ^ j % 2 = 0 := by omega
  obtain ⟨q, hq⟩ := Int.dvd_of_emod_eq_zero h2
  rw [← e, hq, Int.pow_succ]
  have : (2 : Int) ^ j * (2 * q) + 0 = 2 ^ j * 2 * q := by grind
  rw [this, Int.mul_emod_right]
theorem low_is {v : Int} {j : Nat} (h0 : 0 ≤ v) (hz : v % 2 ^ j = 0) (hb : v / 2 ^ j % 2 = 1) : v ≠ 0 ∧ IsZeros v j := by
  have hp := two_pos j
  have e := Int.mul_ediv_add_emod v (2 ^ j)
  rw [hz] at e
  have h1 : 0 ≤ v / 2 ^ j := Int.ediv_nonneg h0 (Int.le_of_lt hp)
  refine ⟨fun h => ?_, v / 2 ^ j / 2, by omega, ?_⟩
  · rw [h, Int.zero_ediv] at hb; cases hb
  · have : v / 2 ^ j = 2 * (v / 2 ^ j / 2) + 1 := by omega
    rw [← this]; omega
theorem IsZeros.unique {v : Int} {m n : Nat} (h : IsZeros v m) (k : IsZeros v n) : m = n := by
  have h1 := lost_of (j := m + 1) h
  have h2 := lost_of (j := m) h
  rw [lost_of k] at h1 h2
  simp at h1 h2
  omega

/-! ### the walks -/
theorem refBit_neg (A : Option Addr) (n c : Nat) (j : Int) (hj : j < 0) (w : World) :
    Calls Tryd.prog 42 #[.slice A n c, .int .i64 j] w fun e w' => e = .returned (.bool false) ∧ w = w' := by
  go_enter Tryd.func42, Tryd.ntmps42
  go_wp2_with fail
  go_ret
  exact ⟨rfl, rfl⟩

set_option maxRecDepth 20000 in
set_option maxHeartbeats 1000000 in
theorem refBit_any {A : Option Addr} {n c : Nat} {l : List Int} {w : World} (h : Lv w A n c l) (j : Nat) (hj : (j : Int) ≤ 9223372036854775807) :
    Calls Tryd.prog 42 #[.slice A n c, .int .i64 j] w fun e w' => e = .returned (.bool (bitB l j)) ∧ w = w' := by
  obtain ⟨q, hq⟩ : ∃ q, j / 64 = q := ⟨_, rfl⟩
  obtain ⟨r, hr⟩ : ∃ r, j % 64 = r := ⟨_, rfl⟩
  have hqi : (j : Int) / 64 = q := by omega
  have hri : (j : Int) % 64 = r := by omega
  have hr64 : r < 64 := by omega
  have j0 : (0 : Int) ≤ j := by omega
  unfold bitB
  rw [hq, hr]
  have hm : (n : Int) ≤ 9223372036854775807 := by have := h.2.1.length; have := h.1; omega
  by_cases hlt : q < n
  · obtain ⟨ad, rfl, hb, hc⟩ := h.2.1.at_ (k := q) (by rw [h.1]; exact hlt)
    have hd := D_lim (b := 18446744073709551616) (by omega) h.2.2 q
    obtain ⟨x, hx⟩ : ∃ x, D l q = x := ⟨_, rfl⟩
    rw [hx] at hc hd ⊢
    have i1 : (q : Int) < n := by omega
    have i0 : (0 : Int) ≤ q := by omega
    have H := Lib.hid h
    clear hq hr h
    go_enter Tryd.func42, Tryd.ntmps42
    go_wp2_with fail
    go_ret
    have hx0 : 0 ≤ x / 2 ^ r := Int.ediv_nonneg hd.1 (Int.le_of_lt (two_pos r))
    refine ⟨ret_bool ?_, rfl⟩
    rw [Int.tmod_eq_emod_of_nonneg hx0]
    rfl
  · have hd : D l q = 0 := D_out (by have := h.1; omega)
    have i1 : (n : Int) ≤ q := by omega
    have i0 : (0 : Int) ≤ q := by omega
    have i2 : (q : Int) ≤ 9223372036854775807 := by omega
    rw [hd, Int.zero_ediv]
    clear hq hr h hd hlt hri hr64 hm
    go_enter Tryd.func42, Tryd.ntmps42
    go_wp2_with fail
    go_ret
    exact ⟨rfl, rfl⟩

/-- what the reference's Bits leaves -/
def RBitsPost (v : Int) (w : World) (e : Ending) (w' : World) : Prop := ∃ k : Nat, e = .returned (.int .i64 k) ∧ IsBits v k ∧ Below w.heap.size w w'

set_option maxHeartbeats 2000000 in
theorem refBits_any {A : Option Addr} {n c : Nat} {l : List Int} {w : World} (h : Lv w A n c l) (hn : n ≤ 4096) :
    Calls Tryd.prog 39 #[.slice A n c] w (RBitsPost (val 18446744073709551616 l) w) := by
  have k1 := refNorm_lv h hn
  have hlim := norm_lim h.2.2
  have hnn := norm_normal l
  have hln := norm_length l
  have hlen := h.1
  rw [← norm_val 18446744073709551616 l]
  obtain ⟨x, hx⟩ : ∃ x, norm l = x := ⟨_, rfl⟩
  rw [hx] at k1 hlim hnn hln ⊢
  clear hx h
  by_cases h0 : x = []
  · subst h0
    go_enter Tryd.func39, Tryd.ntmps39
    go_wp2_with fail
    with_reducible refine k1.mono ?_
    rintro e w1 ⟨A2, c2, rfl, m_x, hb⟩
    go_wp2_with fail
    go_ret
    exact ⟨0, rfl, ⟨by rw [val_nil]; omega, by rw [val_nil]; decide, fun h => absurd h (by omega)⟩, hb⟩
  · have hp : 0 < x.length := List.length_pos_iff.2 h0
    have hT := D_lim (b := 18446744073709551616) (by omega) hlim (x.length - 1)
    have hT0 : D x (x.length - 1) ≠ 0 := by
      rcases hnn with h | h
      · exact absurd h h0
      · exact h
    have htop := fun t ht h1 h2 => isBits_of_top (t := t) hlim hp ht h1 h2
    have HTOP := Lib.hid htop
    have HP := Lib.hid hp
    obtain ⟨T, hTe⟩ : ∃ T, D x (x.length - 1) = T := ⟨_, rfl⟩
    obtain ⟨N, hN⟩ : ∃ N : Int, 64 * ((x.length : Int) - 1) = N := ⟨_, rfl⟩
    rw [hTe] at hT hT0
    have hxl : x.length ≤ 4096 := by omega
    have hlp : (1 : Int) ≤ x.length := by omega
    have hN0 : 0 ≤ N := by omega
    have hN1 : N ≤ 300000 := by omega
    have hl1 : ((x.length : Int) - 1).toNat = x.length - 1 := by omega
    clear h0 htop hnn hlen
    go_enter Tryd.func39, Tryd.ntmps39
    go_wp2_with fail
    with_reducible refine k1.mono ?_
    rintro e w1 ⟨A2, c2, rfl, m_x, hb⟩
    obtain ⟨ad, rfl, hadb, hc⟩ := m_x.2.1.at_ (k := x.length - 1) (by have := HP.out; omega)
    rw [hTe] at hc
    clear k1 m_x hadb
    go_wp2_with fail
    go_loop [3, 4] (fun s t => ∃ k : Nat, k ≤ 64 ∧ s = .int .i64 (N + k) ∧ t = .int .u64 (T / 2 ^ k) ∧ (0 < k → 2 ^ (k - 1) ≤ T)) (fun _ t => (intOf t).toNat)
    case atStart => exact ⟨0, by omega, by go_num, by simp, fun h => absurd h (by omega)⟩
    case round =>
      obtain ⟨k, hk, rfl, rfl, hlow⟩ := hrel
      obtain ⟨q, hq⟩ : ∃ q, T / 2 ^ k = q := ⟨_, rfl⟩
      rw [hq]
      have hp2 := two_pos k
      have q0 : 0 ≤ q := by rw [← hq]; exact Int.ediv_nonneg hT.1 (Int.le_of_lt hp2)
      have q1 : q ≤ T := by rw [← hq]; exact Int.ediv_le_self _ hT.1
      by_cases hz : q = 0
      · have h1 : T < 2 ^ k := by
          rw [hz] at hq
          have h2 := Int.mul_ediv_add_emod T (2 ^ k)
          have h3 := Int.emod_lt_of_pos T hp2
          rw [hq] at h2; omega
        have hk1 : 1 ≤ k := by
          rcases Nat.eq_zero_or_pos k with h4 | h4
          · subst h4; simp at h1; omega
          · exact h4
        have hfin := HTOP.out k hk1 (by rw [hTe]; exact hlow hk1) (by rw [hTe]; exact h1)
        have HF := Lib.hid hfin
        have hNk : N + (k : Int) = ((64 * (x.length - 1) + k : Nat) : Int) := by have := HP.out; omega
        have HNK := Lib.hid hNk
        subst hz
        clear hlow hfin hNk h1 hq
        go_wp2_with fail
        go_ret
        exact ⟨_, ret_int HNK.out, HF.out, hb⟩
      · have h1 : (2 : Int) ^ k ≤ T := by
          have h2 := Int.mul_ediv_add_emod T (2 ^ k)
          have h3 := Int.emod_nonneg T (Int.ne_of_gt hp2)
          rw [hq] at h2
          have := Int.mul_le_mul_of_nonneg_left (show 1 ≤ q by omega) (Int.le_of_lt hp2)
          omega
        have hk64 : k < 64 := by
          rcases Nat.lt_or_ge k 64 with h4 | h4
          · exact h4
          · have := pow_le' (b := 2) (by omega) h4
            have e : (2 : Int) ^ 64 = 18446744073709551616 := by decide
            omega
        have hq2 : q / 2 = T / 2 ^ (k + 1) := by rw [← hq, Int.ediv_ediv_of_nonneg (Int.le_of_lt hp2), Int.pow_succ]
        have hqp : 0 < q := by omega
        have H1 := Lib.hid h1
        have HQ := Lib.hid hq2
        have hm : (q / 2).toNat < q.toNat := by omega
        clear h1 hq2 hq hz hlow hp2
        go_wp2_with fail
        go_round
        case rel => exact ⟨k + 1, by omega, by go_num, by rw [HQ.out], fun _ => H1.out⟩
        case measure => simp [intOf]; omega

def RZerosPost (v : Int) (w : World) (e : Ending) (w' : World) : Prop := ∃ k : Nat, e = .returned (.int .i64 k) ∧ (v = 0 → k = 0) ∧ (v ≠ 0 → IsZeros v k) ∧ Below w.heap.size w w'

set_option maxHeartbeats 2000000 in
theorem refZeros_any {A : Option Addr} {n c : Nat} {l : List Int} {w : World} (h : Lv w A n c l) (hn : n ≤ 4096) :
    Calls Tryd.prog 40 #[.slice A n c] w (RZerosPost (val 18446744073709551616 l) w) := by
  have k1 := refBits_any h hn
  have hv0 := h.nonneg
  have hbd : ∀ k, IsBits (val 18446744073709551616 l) k → k ≤ 300000 := fun k hk => by
    have := bits_le (h.less (Nat.le_refl n)) hk
    omega
  have hbits := bitB_val h.2.2
  obtain ⟨v, hv⟩ : ∃ v, val 18446744073709551616 l = v := ⟨_, rfl⟩
  rw [hv] at k1 hv0 hbd hbits ⊢
  have HB := Lib.hid hbits
  clear hbits
  go_enter Tryd.func40, Tryd.ntmps40
  go_wp2_with fail
  with_reducible refine k1.mono ?_
  rintro e w1 ⟨b, rfl, hb1, hb⟩
  have hb2 := hbd b hb1
  have HBB := Lib.hid hb1
  replace h := h.on hb
  clear k1 hbd hb1
  go_wp2_with fail
  go_loop [4] (fun i => ∃ k : Nat, k ≤ b ∧ i = .int .i64 k ∧ v % 2 ^ k = 0) (fun i => b - (intOf i).toNat)
  case atStart => exact ⟨0, by omega, rfl, by simp [Int.emod_one]⟩
  case round =>
    obtain ⟨k, hk, rfl, hz⟩ := hrel
    have HZ := Lib.hid hz
    clear hz
    have p1 := refBit_any h k (by omega)
    by_cases hkb : k < b
    · by_cases hbit : v / 2 ^ k % 2 = 1
      · have e1 : bitB l k = true := by rw [HB.out, decide_eq_true hbit]
        rw [e1] at p1
        have hr := low_is hv0 HZ.out hbit
        have HR := Lib.hid hr
        clear hr hbit e1
        go_wp2_with (go_at_call 42; ((with_reducible refine p1.mono ?_); rintro e w2 ⟨rfl, rfl⟩))
        go_ret
        exact ⟨k, rfl, fun h9 => absurd h9 HR.out.1, fun _ => HR.out.2, hb⟩
      · have e1 : bitB l k = false := by rw [HB.out, decide_eq_false hbit]
        rw [e1] at p1
        have hr := low_step HZ.out hbit
        have HR := Lib.hid hr
        clear hr hbit e1
        go_wp2_with (go_at_call 42; ((with_reducible refine p1.mono ?_); rintro e w2 ⟨rfl, rfl⟩))
        go_round
        case rel => exact ⟨k + 1, by omega, by go_num, HR.out⟩
        case measure => simp [intOf]; omega
    · obtain rfl : k = b := by omega
      have hv1 : v = 0 := by
        have h1 := HBB.out
        have h2 := Int.emod_eq_of_lt h1.1 h1.2.1
        rw [HZ.out] at h2
        exact h2.symm
      have HV := Lib.hid hv1
      clear hv1 p1
      go_wp2_with fail
      go_ret
      exact ⟨0, rfl, fun _ => rfl, fun h9 => absurd HV.out h9, hb⟩
/-! ### NatBits (written by wip/tools/gen_bits.py) -/
set_option maxRecDepth 100000 in
set_option maxHeartbeats 4000000 in
theorem natBits_lv {A_a : Option Addr} {n_a c_a : Nat} {l_a : List Int} (i : Int) (bb : Bool) (pBit : ∀ {W : World}, Lv W A_a n_a c_a l_a → Calls Tryd.prog 41 #[.slice A_a n_a c_a, .int .i64 i] W fun e w' => e = .returned (.bool bb) ∧ W = w') (rBit : ∀ {W : World}, Lv W A_a n_a c_a l_a → Calls Tryd.prog 42 #[.slice A_a n_a c_a, .int .i64 i] W fun e w' => e = .returned (.bool bb) ∧ W = w') {w : World} (m_a : Lv w A_a n_a c_a l_a) (hT : Tab w) :
    Calls Tryd.prog 11 #[.slice A_a n_a c_a, .int .i64 i] w fun e w' => e = .returned (.bool true) ∧ Below w.heap.size w w' := by
  have q1 := long_lv m_a
  by_cases k1 : 60 < n_a
  · have k1' : decide (60 < n_a) = true := by simp [k1]
    rw [k1'] at q1
    clear k1
    go_enter Tryd.func11, Tryd.ntmps11
    go_wp2_with (first | (go_at_call 15; ((with_reducible refine (q1 _).mono ?_); rintro e w1 ⟨rfl, rfl⟩)) | (go_at_call 16; ((with_reducible refine (known_any _ hT).mono ?_); rintro e w1 ⟨rfl, hb⟩)))
    go_ret
    exact ⟨rfl, hb⟩
  have k1' : decide (60 < n_a) = false := by simp [k1]
  rw [k1'] at q1
  have h_a : n_a ≤ 60 := by omega
  clear k1 k1'
  have bw : Below w.heap.size w w := Below.refl _ w
  go_enter Tryd.func11, Tryd.ntmps11
  go_wp2_with (first | (go_at_call 15; ((with_reducible refine (q1 _).mono ?_); rintro e w1 ⟨rfl, rfl⟩)))
  have pb := Bits_any A_a c_a l_a w m_a.2.1 m_a.2.2 (norm_le m_a.1 (by omega))
  rw [m_a.1] at pb
  with_reducible refine pb.mono ?_
  rintro e w1 ⟨kb, rfl, ib, rfl⟩
  clear pb
  have IB := Lib.hid ib
  clear ib
  go_wp2_with fail
  have pz := Zeros_any A_a c_a l_a w m_a.2.1 m_a.2.2 (norm_le m_a.1 (by omega)) hT
  rw [m_a.1] at pz
  with_reducible refine pz.mono ?_
  rintro e w2 ⟨kz, rfl, iz0, iz1, rfl⟩
  clear pz
  have IZ := Lib.hid (And.intro iz0 iz1)
  clear iz0 iz1
  go_wp2_with fail
  have p3 := refBits_any m_a (by omega)
  with_reducible refine p3.mono ?_
  rintro e w3 ⟨kb2, rfl, ib2, hb⟩
  clear p3
  replace m_a := m_a.on hb
  replace hT := hT.on hb
  replace bw := bel_then bw hb
  clear hb
  obtain rfl := IB.out.unique ib2
  clear ib2
  go_wp2_with fail
  have p4 := refZeros_any m_a (by omega)
  with_reducible refine p4.mono ?_
  rintro e w4 ⟨kz2, rfl, iz2, iz3, hb⟩
  clear p4
  replace m_a := m_a.on hb
  replace hT := hT.on hb
  replace bw := bel_then bw hb
  clear hb
  obtain rfl : kz = kz2 := by
    by_cases h0 : val 18446744073709551616 l_a = 0
    · rw [IZ.out.1 h0, iz2 h0]
    · exact (IZ.out.2 h0).unique (iz3 h0)
  clear iz2 iz3
  go_wp2_with fail
  with_reducible refine (num_any 0 _).mono ?_
  rintro e w5 ⟨rfl, rfl⟩
  go_wp2_with fail
  with_reducible refine (num_any 0 _).mono ?_
  rintro e w6 ⟨rfl, rfl⟩
  go_wp2_with fail
  have pp := pBit m_a
  have pq := rBit m_a
  with_reducible refine pp.mono ?_
  rintro e w7 ⟨rfl, rfl⟩
  go_wp2_with fail
  with_reducible refine pq.mono ?_
  rintro e w8 ⟨rfl, rfl⟩
  go_wp2_with fail
  with_reducible refine (known_any _ hT).mono ?_
  rintro e w7 ⟨rfl, hb⟩
  replace bw := bel_then bw hb
  go_wp2_with fail
  go_ret
  exact ⟨rfl, bw⟩

theorem bits_law (a0 : Option Addr) (len0 cap0 : Nat) (z0 : List Int) (i : Int) (w : World) (w0 : IsRow .u64 w a0 len0 cap0 z0) (hi : (Lit.int .i64 i).wf = true) (hT : Tab w) :
    Calls Tryd.prog 11 #[.slice a0 len0 cap0, .int .i64 i] w fun e w' => e = .returned (.bool true) ∧ Below w.heap.size w w' := by
  obtain ⟨l, h⟩ := w0.lv
  have hb := bounds_i64 hi
  by_cases hneg : i < 0
  · exact natBits_lv i false (fun m => Bit_neg a0 len0 cap0 i hneg _) (fun m => refBit_neg a0 len0 cap0 i hneg _) h hT
  · obtain ⟨j, rfl⟩ := Int.eq_ofNat_of_zero_le (show 0 ≤ i by omega)
    refine natBits_lv (j : Int) (bitB l j) (fun m => ?_) (fun m => refBit_any m j (by omega)) h hT
    have := Bit_any a0 cap0 l j (by omega) _ _ m.2.1 m.2.2
    rw [m.1] at this
    exact this
end Go.Proofs.YtigphbjgodfhpaaDoor
