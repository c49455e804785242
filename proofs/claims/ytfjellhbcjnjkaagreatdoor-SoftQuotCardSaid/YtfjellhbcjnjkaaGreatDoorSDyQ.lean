/-
  Layer 3, walks, part thirteen: floats. (Written by wip/tools/gen_dyq.py.)
-/
import Derived.Test.YtfjellhbcjnjkaaGreatDoorSDyI
import Derived.Test.YtfjellhbcjnjkaaGreatDoorSNB2
import Derived.Test.YtfjellhbcjnjkaaGreatDoorSDyF
namespace Go.Proofs.YtfjellhbcjnjkaaGreatDoor
open Go.RowKit Go.Bw
set_option linter.unusedVariables false
set_option linter.unusedSimpArgs false

/-- the float that is nearest -/
def fw (d : Nf) : Nat := Ieee.double.nearest d.neg d.man d.exp
theorem fw_zero : fw zeroN = 0 := by decide
theorem fw_rnd {d : Nf} (h0 : d.man ≠ 0) (k : Nat) (hT : d.man / 2 ^ k < 18446744073709551616) (hk : k = 0 ∨ 9223372036854775808 ≤ d.man / 2 ^ k) :
    (fw d : Int) = signW d.neg (rnd ((d.man / 2 ^ k : Nat) : Int) (d.exp + k) (decide (d.man % 2 ^ k ≠ 0))) := nearest_rnd d.neg d.man k d.exp h0 hT hk
section
variable {b : Bool} {A : Option Addr} {n c : Nat} {x : Int} {l : List Int} {w : World}
theorem Shr_at (h : Lv w A n c l) (hn : n ≤ 4096) (hT : Tab w) (j : Nat) (i : Int) (hi : i = (j : Int)) (hj : j ≤ 262144) (L : Bool) (hL : lostB (val 18446744073709551616 l) j = L) : Calls Tryz.prog 85 #[.slice A n c, .int .i64 i] w fun e w' =>
    ∃ s A c, e = .returned (.tuple #[.slice A s.length c, .bool L, .int .i64 0]) ∧ Normal s ∧ Hid (val 18446744073709551616 s = val 18446744073709551616 l / 2 ^ j) ∧ Lv w' A s.length c s ∧ Below w.heap.size w w' := by subst hi; exact Shr_lv h hn hT j (by omega) L hL
/-- one limb -/
theorem one_limb {s : List Int} {T : Int} (h : Lim 18446744073709551616 s) (hn : Normal s) (hv : val 18446744073709551616 s = T) (h0 : 0 < T) (h1 : T < 18446744073709551616) : s = [T] := by
  have : Lim 18446744073709551616 [T] := fun y hy => by simp at hy; omega
  exact normal_unique (b := 18446744073709551616) (by omega) h this hn (.inr (by simp [D]; omega)) (by rw [hv, val_cons, val_nil]; omega)
theorem top_facts {v : Int} {k j : Nat} (hv : 0 < v) (hk : IsBits v k) (hj : j = k - 64) : 0 < v / 2 ^ j ∧ v / 2 ^ j < 18446744073709551616 ∧ (j = 0 ∨ 9223372036854775808 ≤ v / 2 ^ j) := by
  have hp := Int.pow_pos (n := (2 : Int)) (m := j) (by omega)
  have hk0 : 0 < k := by
    rcases Nat.eq_zero_or_pos k with g | g
    · subst g; have := hk.2.1; simp at this; omega
    · exact g
  have h2 := hk.2.2 hk0
  have h1 := hk.2.1
  have a1 : v / 2 ^ j < 18446744073709551616 := by
    rw [Int.ediv_lt_iff_lt_mul hp, show (18446744073709551616 : Int) = 2 ^ 64 from rfl, ← Int.pow_add]
    exact Int.lt_of_lt_of_le h1 (pw_mono (by omega))
  have a2 : j = 0 ∨ 9223372036854775808 ≤ v / 2 ^ j := by
    rcases Nat.eq_zero_or_pos j with g | g
    · exact .inl g
    · right
      rw [Int.le_ediv_iff_mul_le hp, show (9223372036854775808 : Int) = 2 ^ 63 from rfl, ← Int.pow_add]
      exact Int.le_trans (pw_mono (by omega)) h2
  refine ⟨?_, a1, a2⟩
  rcases a2 with g | g
  · subst g; simpa using hv
  · omega

theorem exists_bitsQ (v : Int) (h : 0 ≤ v) : ∃ k, IsBits v k := by
  obtain ⟨n, rfl⟩ := Int.eq_ofNat_of_zero_le h
  by_cases h0 : n = 0
  · subst h0; exact ⟨0, by unfold IsBits; decide⟩
  · refine ⟨n.log2 + 1, by omega, ?_, fun _ => ?_⟩
    · have := @Nat.lt_log2_self n
      exact_mod_cast this
    · rw [Nat.add_sub_cancel]
      have := Nat.log2_self_le h0
      exact_mod_cast this
theorem round_yes (neg : Bool) (man exp : Int) (more : Bool) (h0 : 0 ≤ man) (h1 : man ≤ 18446744073709551615) (hm : roundMay man exp more = true) (w : World) :
    Calls Tryz.prog 89 #[partsV neg man exp, .bool more] w fun e w' => e = .returned (.tuple #[.int .u64 (signW neg (rnd man exp more)), .int .i64 0]) ∧ Below w.heap.size w w' := by
  refine (round_any neg man exp more h0 h1 w).mono ?_
  rintro e w' ⟨rfl, hb⟩
  refine ⟨?_, hb⟩
  unfold roundV
  rw [if_pos hm]
set_option maxRecDepth 100000 in
set_option maxHeartbeats 4000000 in
theorem rounded_zero (h : Lv w A n c []) (hn : n ≤ 4096) (hT : Tab w) (x0 : -1048576 ≤ x) (x1 : x ≤ 1048576) (HW : Hid ((signW b (rnd 0 x false)).toNat = 0)) :
    Calls Tryz.prog 114 #[.bool b, .slice A n c, .int .i64 x] w fun e w' => e = .returned (.tuple #[.float .f64 0, .int .i64 0]) ∧ Below w.heap.size w w' := by
  have HK : Hid (IsBits (val 18446744073709551616 []) 0) := bits_nil
  have hj1 : 0 ≤ 262144 := by omega
  have HL : Hid (lostB (val 18446744073709551616 []) 0 = false) := by unfold Hid; decide
  have e64 : max (-64 : Int) 0 = 0 := by decide
  have HM : Hid (roundMay 0 x false = true) := by unfold Hid roundMay; simp
  have bw : Below w.heap.size w w := Below.refl _ _
  go_enter Tryz.func114, Tryz.ntmps114
  go_wp2_with fail
  with_reducible refine (Bits_is (h.on (by go_grown)) hn HK.out).mono ?_
  rintro e w1 ⟨rfl, rfl⟩
  go_wp2_with fail
  with_reducible refine (Shr_at (h.on (by go_grown)) hn (hT.onD (by go_grown)) 0 0 rfl hj1 false HL.out).mono ?_
  rintro e w1 ⟨s2, A2, c2, rfl, n2, v2, m2, hb⟩
  have hs1 := hb.size
  try simp only [World.size_alloc, World.size_setCell] at hs1
  replace bw : Below w.heap.size w w1 := dy_end (by go_grown) hb
  clear hb
  have hs0 : s2 = [] := val_eq_zero (b := 18446744073709551616) (by omega) m2.2.2 n2 (by rw [v2.out]; simp [val_nil])
  subst hs0
  have p3 := fun W => round_yes b 0 x false (by omega) (by omega) HM.out W
  go_wp2_with fail
  with_reducible refine (p3 _).mono ?_
  rintro e w2 ⟨rfl, hb⟩
  have hs2 := hb.size
  try simp only [World.size_alloc, World.size_setCell] at hs2
  replace bw : Below w.heap.size w w2 := dy_end (by go_grown) hb
  clear hb
  go_wp2_with fail
  have p4 := fun W9 => float_any (signW b (rnd 0 x false)) W9
  rw [HW.out] at p4
  with_reducible refine (p4 _).mono ?_
  rintro e w4 ⟨rfl, rfl⟩
  go_wp2_with fail
  go_ret2
  exact ⟨rfl, by go_grown⟩

set_option maxRecDepth 100000 in
set_option maxHeartbeats 4000000 in
theorem rounded_pos (h : Lv w A n c l) (hn : n ≤ 4096) (hT : Tab w) (x0 : -1048576 ≤ x) (x1 : x ≤ 1048576) {k j : Nat} {T : Int} {L9 : Bool} {W : Nat} (HK : Hid (IsBits (val 18446744073709551616 l) k)) (hkk : k ≤ 262144) (hj : max ((k : Int) - 64) 0 = (j : Int)) (hj1 : j ≤ 262144) (HL : Hid (lostB (val 18446744073709551616 l) j = L9)) (HT2 : Hid (val 18446744073709551616 l / 2 ^ j = T)) (t0 : 0 < T) (t1 : T < 18446744073709551616) (HM : Hid (roundMay T (x + (j : Int)) L9 = true)) (HW : Hid ((signW b (rnd T (x + (j : Int)) L9)).toNat = W)) :
    Calls Tryz.prog 114 #[.bool b, .slice A n c, .int .i64 x] w fun e w' => e = .returned (.tuple #[.float .f64 W, .int .i64 0]) ∧ Below w.heap.size w w' := by
  have bw : Below w.heap.size w w := Below.refl _ _
  go_enter Tryz.func114, Tryz.ntmps114
  go_wp2_with fail
  with_reducible refine (Bits_is (h.on (by go_grown)) hn HK.out).mono ?_
  rintro e w1 ⟨rfl, rfl⟩
  go_wp2_with fail
  with_reducible refine (Shr_at (h.on (by go_grown)) hn (hT.onD (by go_grown)) j (j : Int) rfl hj1 L9 HL.out).mono ?_
  rintro e w1 ⟨s2, A2, c2, rfl, n2, v2, m2, hb⟩
  have hs1 := hb.size
  try simp only [World.size_alloc, World.size_setCell] at hs1
  replace bw : Below w.heap.size w w1 := dy_end (by go_grown) hb
  clear hb
  have hs0 : s2 = [T] := one_limb m2.2.2 n2 (v2.out.trans HT2.out) t0 t1
  subst hs0
  obtain ⟨ad, rfl, _, hcell⟩ := m2.2.1.2.2 (by simp)
  have hc0 := hcell 0 (by simp)
  rw [show ad.add 0 = ad by simp [Addr.add], D_cons_zero] at hc0
  have hlt := World.block_lt_of_cell? _ _ hc0
  clear hcell
  have hc1 : (w1.alloc (.cells #[.bool b, .int .u64 0, .int .i64 (x + (j : Int))] 95)).cell? ad = some (.int .u64 T) := (World.cell?_alloc_lt _ _ _ hlt).trans hc0
  have p3 := fun W => round_yes b T (x + (j : Int)) L9 (by omega) (by omega) HM.out W
  go_wp2_with fail
  with_reducible refine (p3 _).mono ?_
  rintro e w2 ⟨rfl, hb⟩
  have hs2 := hb.size
  try simp only [World.size_alloc, World.size_setCell] at hs2
  replace bw : Below w.heap.size w w2 := dy_end (by go_grown) hb
  clear hb
  go_wp2_with fail
  have p4 := fun W9 => float_any (signW b (rnd T (x + (j : Int)) L9)) W9
  rw [HW.out] at p4
  with_reducible refine (p4 _).mono ?_
  rintro e w4 ⟨rfl, rfl⟩
  go_wp2_with fail
  go_ret2
  exact ⟨rfl, by go_grown⟩


theorem rounded_dn {d : Nf} (hd : Dn b l x d) (h : Lv w A n c l) (hT : Tab w) (x0 : -1048576 ≤ x) (x1 : x ≤ 1048576) : Calls Tryz.prog 114 #[.bool b, .slice A n c, .int .i64 x] w fun e w' => e = .returned (.tuple #[.float .f64 (fw d), .int .i64 0]) ∧ Below w.heap.size w w' := by
  have hn : n ≤ 4096 := by rw [← h.1]; exact hd.2.1
  have hm := hd.man h.2.2
  by_cases h0 : d.man = 0
  · have hz := ok_zero hd.2.2.2 h0
    have hl0 : l = [] := nil_of_len ((hd.nil h.2.2).2 h0)
    have hb : b = false := by rw [← hd.neg, hz]; rfl
    subst hl0
    rw [hz, fw_zero]
    exact rounded_zero h hn hT x0 x1 (by unfold Hid rnd; rw [if_pos rfl, hb]; rfl)
  · have hv : 0 < val 18446744073709551616 l := by omega
    obtain ⟨k, hk⟩ := exists_bitsQ _ (Int.le_of_lt hv)
    have hkk : k ≤ 262144 := by
      rcases Nat.eq_zero_or_pos k with g | g
      · omega
      · have := hk.2.2 g
        have := pow_lt_inv (Int.lt_of_le_of_lt this (lv_bound h hn))
        omega
    obtain ⟨t0, t1, t2⟩ := top_facts hv hk (j := k - 64) rfl
    have e1 : (((val 18446744073709551616 l).toNat / 2 ^ (k - 64) : Nat) : Int) = val 18446744073709551616 l / 2 ^ (k - 64) := by
      push_cast
      rw [Int.toNat_of_nonneg (Int.le_of_lt hv)]
    have e2 : (((val 18446744073709551616 l).toNat % 2 ^ (k - 64) : Nat) : Int) = val 18446744073709551616 l % 2 ^ (k - 64) := by
      push_cast
      rw [Int.toNat_of_nonneg (Int.le_of_lt hv)]
    have em : d.man = (val 18446744073709551616 l).toNat := by omega
    have hfw := fw_rnd h0 (k - 64) (by rw [em]; omega) (by rw [em]; omega)
    rw [em, e1, hd.neg, hd.exp] at hfw
    have e3 : decide ((val 18446744073709551616 l).toNat % 2 ^ (k - 64) ≠ 0) = lostB (val 18446744073709551616 l) (k - 64) := by
      unfold lostB
      exact decide_eq_decide.2 (by omega)
    rw [e3] at hfw
    refine rounded_pos h hn hT x0 x1 (k := k) (j := k - 64) (T := val 18446744073709551616 l / 2 ^ (k - 64)) (L9 := lostB (val 18446744073709551616 l) (k - 64)) hk hkk (by omega) (by omega) rfl rfl t0 t1 ?_ ?_
    · unfold Hid roundMay
      rcases t2 with g | g
      · have : lostB (val 18446744073709551616 l) (k - 64) = false := by rw [g]; unfold lostB; simp [Int.emod_one]
        rw [this]; rfl
      · rw [decide_eq_false (by omega)]; simp
    · unfold Hid
      rw [← hfw]
      simp
end
end Go.Proofs.YtfjellhbcjnjkaaGreatDoor
