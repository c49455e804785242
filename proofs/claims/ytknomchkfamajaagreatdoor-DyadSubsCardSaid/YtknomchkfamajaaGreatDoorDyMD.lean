/-
  Layer 3, the laws: sums by the reference. (Written by a script of wip/tools.)
-/
import Derived.Test.YtknomchkfamajaaGreatDoorDyMC
import Derived.Deep.Cut
import Derived.IntWalk
namespace Go.Proofs.YtknomchkfamajaaGreatDoor
open Go.RowKit Go.Sort Go.Bw
set_option linter.unusedVariables false
set_option linter.unusedSimpArgs false

section
variable {b : Bool} {A : Option Addr} {n c : Nat} {x : Int} {l : List Int} {w : World}
variable {b2 : Bool} {A2 : Option Addr} {n2 c2 : Nat} {x2 : Int} {l2 : List Int}

theorem exp_bd3 {b b1 : Bool} {l q : List Int} {x x1 : Int} (h : Lv w A n c l) (hn : n ≤ 4096) (ho : okE x = true) (hd : Dn b1 q x1 (nfl b (val 18446744073709551616 l) x)) : -262144 ≤ x1 ∧ x1 ≤ 524288 := by
  have xb := nfl_place (k := 262144) b (x := x) (lim_val h.2.2) (lv_bound h hn)
  rw [hd.exp] at xb
  have xr := (okE_iff x).1 ho
  omega
theorem Dn.zero_is {d : Nf} (hd : Dn b [] x d) : d = zeroN ∧ x = 0 := by
  have e := (hd.nil (Lim.nil _)).1 rfl
  have e2 := ok_zero hd.2.2.2 e
  refine ⟨e2, ?_⟩
  have := hd.exp
  rw [e2] at this
  exact this.symm
theorem lvl_sum {d d2 : Nf} (hd : Dn b l x d) (hd2 : Dn b2 l2 x2 d2) (hl : Lim 18446744073709551616 l) (hl2 : Lim 18446744073709551616 l2) :
    nf ((if b then -(val 18446744073709551616 l * 2 ^ (x - plc l l2 x x2).toNat) else (val 18446744073709551616 l * 2 ^ (x - plc l l2 x x2).toNat)) + (if b2 then -(val 18446744073709551616 l2 * 2 ^ (x2 - plc l l2 x x2).toNat) else (val 18446744073709551616 l2 * 2 ^ (x2 - plc l l2 x x2).toNat))) (plc l l2 x x2) = sumN d d2 := by
  have s1 := num_dn hd hl
  have s2 := num_dn hd2 hl2
  have e1 := nf_self hd.2.2.2
  have e2 := nf_self hd2.2.2.2
  rw [hd.exp, s1] at e1
  rw [hd2.exp, s2] at e2
  unfold plc
  by_cases z2 : l2 = []
  · subst z2
    obtain ⟨z3, z4⟩ := hd2.zero_is
    rw [if_pos rfl, Int.sub_self, Int.toNat_zero, Int.pow_zero, Int.mul_one, val_nil, Int.zero_mul, z3, sumN_zero_right hd.2.2.2]
    rw [show (if b2 = true then -(0 : Int) else 0) = 0 by cases b2 <;> rfl, Int.add_zero]
    exact e1
  · rw [if_neg z2]
    by_cases z1 : l = []
    · subst z1
      obtain ⟨z3, z4⟩ := hd.zero_is
      rw [if_pos rfl, Int.sub_self, Int.toNat_zero, Int.pow_zero, Int.mul_one, val_nil, Int.zero_mul, z3, sumN_zero_left hd2.2.2.2]
      rw [show (if b = true then -(0 : Int) else 0) = 0 by cases b <;> rfl, Int.zero_add]
      exact e2
    · rw [if_neg z1]
      have h := sumN_of (s := if b then -(val 18446744073709551616 l) else val 18446744073709551616 l) (e := x) (t := if b2 then -(val 18446744073709551616 l2) else val 18446744073709551616 l2) (f := x2) (p := min x x2) (by omega) (by omega)
      rw [e1, e2] at h
      rw [← h]
      congr 1
      cases b <;> cases b2 <;> simp <;> grind
theorem lvl_fit {d d2 : Nf} (h : Lv w A n c l) (hn : n ≤ 4096) (h2 : Lv w A2 n2 c2 l2) (hn2 : n2 ≤ 4096) (hd : Dn b l x d) (hd2 : Dn b2 l2 x2 d2) (hN : Near d d2) : (val 18446744073709551616 l * 2 ^ (x - plc l l2 x x2).toNat) + (val 18446744073709551616 l2 * 2 ^ (x2 - plc l l2 x x2).toNat) < 18446744073709551616 ^ 4096 := by
  have b1 := lv_bound h hn
  have b3 := lv_bound h2 hn2
  have e64 : (18446744073709551616 : Int) ^ 4096 = 2 ^ 262144 := by rw [pow64]
  have e65 : (2 : Int) ^ 262144 = 2 ^ 262143 + 2 ^ 262143 := by rw [show 262144 = 262143 + 1 from rfl, Int.pow_succ]; omega
  rw [e64]
  unfold plc
  by_cases z2 : l2 = []
  · subst z2
    rw [if_pos rfl, Int.sub_self, Int.toNat_zero, Int.pow_zero, Int.mul_one, val_nil, Int.zero_mul, Int.add_zero]
    exact b1
  · rw [if_neg z2]
    by_cases z1 : l = []
    · subst z1
      rw [if_pos rfl, Int.sub_self, Int.toNat_zero, Int.pow_zero, Int.mul_one, val_nil, Int.zero_mul, Int.zero_add]
      exact b3
    · rw [if_neg z1]
      have m0 : d.man ≠ 0 := fun e => z1 (nil_of_len ((hd.nil h.2.2).2 e))
      have m2 : d2.man ≠ 0 := fun e => z2 (nil_of_len ((hd2.nil h2.2.2).2 e))
      obtain ⟨p, q, i1, i2, hpq, hq⟩ := hN
      have hp := near_exp i1 i2 m0 m2
      rw [hd.exp, hd2.exp] at hp
      obtain ⟨p1, p2⟩ : min x x2 ≤ x ∧ min x x2 ≤ x2 := by omega
      obtain ⟨u1, _⟩ := near_one hd h.2.2 m0 i1 hpq hq p1 hp
      obtain ⟨u2, _⟩ := near_one hd2 h2.2.2 m2 i2 hpq hq p2 hp
      rw [e65]
      exact Int.add_lt_add u1 u2
theorem lvl_facts {d d2 : Nf} (h : Lv w A n c l) (h2 : Lv w A2 n2 c2 l2) (hd : Dn b l x d) (hd2 : Dn b2 l2 x2 d2) (hf : farN d d2 = false) (hN : Near d d2) (x0 : -262144 ≤ x) (x1 : x ≤ 524288) (y0 : -262144 ≤ x2) (y1 : x2 ≤ 524288) :
    ∃ p v1 v2 : Int, 0 ≤ v1 ∧ 0 ≤ v2 ∧ v1 + v2 < 18446744073709551616 ^ 4096 ∧ -1048576 ≤ p ∧ p ≤ 1048576 ∧ (b = b2 → nfl b (v1 + v2) p = sumN d d2) ∧ (b ≠ b2 → nfl b (v1 - v2) p = sumN d d2 ∧ nfl b2 (v2 - v1) p = sumN d d2) ∧
      ∀ W : World, Lv W A n c l → Lv W A2 n2 c2 l2 → Calls Tryz.prog 84 #[dyV b A n c x, dyV b2 A2 n2 c2 x2] W (Lvl p v1 v2 W) := by
  have hn : n ≤ 4096 := by rw [← h.1]; exact hd.2.1
  have hn2 : n2 ≤ 4096 := by rw [← h2.1]; exact hd2.2.1
  have hs := lvl_sum hd hd2 h.2.2 h2.2.2
  have hfit := lvl_fit h hn h2 hn2 hd hd2 hN
  have hz : l = [] → x = 0 := fun e => by subst e; exact hd.zero_is.2
  have hz2 : l2 = [] → x2 = 0 := fun e => by subst e; exact hd2.zero_is.2
  have hdf : x - x2 ≤ 600000 ∧ x2 - x ≤ 600000 := by
    by_cases z1 : l = []
    · have := hz z1; omega
    · by_cases z2 : l2 = []
      · have := hz2 z2; omega
      · have m0 : d.man ≠ 0 := fun e => z1 (nil_of_len ((hd.nil h.2.2).2 e))
        have m2 : d2.man ≠ 0 := fun e => z2 (nil_of_len ((hd2.nil h2.2.2).2 e))
        unfold farN farB at hf
        rw [hd.exp, hd2.exp] at hf
        simp [m0, m2] at hf
        omega
  have hl := fun W (m : Lv W A n c l) (m2 : Lv W A2 n2 c2 l2) => rLevel_any (b := b) (b2 := b2) m hn hd.1 m2 hn2 hd2.1 (by omega) (by omega) (by omega) (by omega) hdf hz hz2
  have hp : -1048576 ≤ plc l l2 x x2 ∧ plc l l2 x x2 ≤ 1048576 := by unfold plc; split <;> (try split) <;> omega
  have p1 : 0 ≤ (val 18446744073709551616 l * 2 ^ (x - plc l l2 x x2).toNat) := Int.mul_nonneg (lim_val h.2.2) (Int.le_of_lt (Int.pow_pos (by omega)))
  have p2 : 0 ≤ (val 18446744073709551616 l2 * 2 ^ (x2 - plc l l2 x x2).toNat) := Int.mul_nonneg (lim_val h2.2.2) (Int.le_of_lt (Int.pow_pos (by omega)))
  refine ⟨plc l l2 x x2, (val 18446744073709551616 l * 2 ^ (x - plc l l2 x x2).toNat), (val 18446744073709551616 l2 * 2 ^ (x2 - plc l l2 x x2).toNat), p1, p2, hfit, hp.1, hp.2, ?_, ?_, hl⟩
  · intro e
    rw [← hs]
    unfold nfl
    congr 1
    subst e
    cases b <;> simp <;> grind
  · intro e
    rw [← hs]
    unfold nfl
    cases b <;> cases b2 <;> simp at e ⊢ <;> (constructor <;> congr 1 <;> grind)
set_option maxRecDepth 100000 in
set_option maxHeartbeats 8000000 in
theorem rAdd_na (h : Lv w A n c l) (hn : n ≤ 4096) (h2 : Lv w A2 n2 c2 l2) (hn2 : n2 ≤ 4096) (ho : okE x = false) :
    Calls Tryz.prog 39 #[dyV b A n c x, dyV b2 A2 n2 c2 x2] w (DyK zeroN 2 w) := by
  have PB := Blk.new w [.bool b, .slice A n c, .int .i64 x] 24
  have QB := Blk.new (w.alloc (.cells #[.bool b, .slice A n c, .int .i64 x] 24)) [.bool b2, .slice A2 n2 c2, .int .i64 x2] 24
  simp only [World.size_alloc] at QB
  replace PB := Blk.alloc PB (.cells #[.bool b2, .slice A2 n2 c2, .int .i64 x2] 24)
  have DB := Blk.new ((w.alloc (.cells #[.bool b, .slice A n c, .int .i64 x] 24)).alloc (.cells #[.bool b2, .slice A2 n2 c2, .int .i64 x2] 24)) [.bool false, .slice none 0 0, .int .i64 0] 24
  simp only [World.size_alloc] at DB
  replace PB := Blk.alloc PB (.cells #[.bool false, .slice none 0 0, .int .i64 0] 24)
  replace QB := Blk.alloc QB (.cells #[.bool false, .slice none 0 0, .int .i64 0] 24)
  have bw : Below w.heap.size w (((w.alloc (.cells #[.bool b, .slice A n c, .int .i64 x] 24)).alloc (.cells #[.bool b2, .slice A2 n2 c2, .int .i64 x2] 24)).alloc (.cells #[.bool false, .slice none 0 0, .int .i64 0] 24)) := by go_grown
  obtain ⟨PB_0, PB_1, PB_2, PB_f0, PB_f1, PB_f2⟩ := Dbx.cells PB
  obtain ⟨QB_0, QB_1, QB_2, QB_f0, QB_f1, QB_f2⟩ := Dbx.cells QB
  obtain ⟨DB_0, DB_1, DB_2, DB_f0, DB_f1, DB_f2⟩ := Dbx.cells DB
  go_enter Tryz.func39, Tryz.ntmps39
  go_wp2_with fail
  with_reducible refine (rMay_no (b := b) (x := x) (h.on (by go_grown)) hn ho).mono ?_
  rintro e w1 ⟨rfl, hb⟩
  clear PB_0 PB_1 PB_2 PB_f0 PB_f1 PB_f2
  clear QB_0 QB_1 QB_2 QB_f0 QB_f1 QB_f2
  clear DB_0 DB_1 DB_2 DB_f0 DB_f1 DB_f2
  have hs1 := hb.size
  try simp only [World.size_alloc, World.size_setCell] at hs1
  replace bw : Below w.heap.size w w1 := dy_end (by go_grown) hb
  replace PB := Blk.on PB hb
  replace QB := Blk.on QB hb
  replace DB := Blk.on DB hb
  clear hb
  obtain ⟨PB_0, PB_1, PB_2, PB_f0, PB_f1, PB_f2⟩ := Dbx.cells PB
  obtain ⟨QB_0, QB_1, QB_2, QB_f0, QB_f1, QB_f2⟩ := Dbx.cells QB
  obtain ⟨DB_0, DB_1, DB_2, DB_f0, DB_f1, DB_f2⟩ := Dbx.cells DB
  go_wp2_with fail
  refine bodyPost_ret (v := .tuple #[dyV false none 0 0 0, .int .i64 2]) (by simp [results, Tryz.results39, go_sem, DB_0, DB_1, DB_2, DB_f0, DB_f1, DB_f2]) rfl ?_
  exact ⟨false, [], none, 0, 0, rfl, Dn.zero, lv_nil _, by go_grown⟩

set_option maxRecDepth 100000 in
set_option maxHeartbeats 8000000 in
theorem rAdd_nb (h : Lv w A n c l) (hn : n ≤ 4096) (h2 : Lv w A2 n2 c2 l2) (hn2 : n2 ≤ 4096) (ho : okE x = true) (ho2 : okE x2 = false) :
    Calls Tryz.prog 39 #[dyV b A n c x, dyV b2 A2 n2 c2 x2] w (DyK zeroN 2 w) := by
  have PB := Blk.new w [.bool b, .slice A n c, .int .i64 x] 24
  have QB := Blk.new (w.alloc (.cells #[.bool b, .slice A n c, .int .i64 x] 24)) [.bool b2, .slice A2 n2 c2, .int .i64 x2] 24
  simp only [World.size_alloc] at QB
  replace PB := Blk.alloc PB (.cells #[.bool b2, .slice A2 n2 c2, .int .i64 x2] 24)
  have DB := Blk.new ((w.alloc (.cells #[.bool b, .slice A n c, .int .i64 x] 24)).alloc (.cells #[.bool b2, .slice A2 n2 c2, .int .i64 x2] 24)) [.bool false, .slice none 0 0, .int .i64 0] 24
  simp only [World.size_alloc] at DB
  replace PB := Blk.alloc PB (.cells #[.bool false, .slice none 0 0, .int .i64 0] 24)
  replace QB := Blk.alloc QB (.cells #[.bool false, .slice none 0 0, .int .i64 0] 24)
  have bw : Below w.heap.size w (((w.alloc (.cells #[.bool b, .slice A n c, .int .i64 x] 24)).alloc (.cells #[.bool b2, .slice A2 n2 c2, .int .i64 x2] 24)).alloc (.cells #[.bool false, .slice none 0 0, .int .i64 0] 24)) := by go_grown
  obtain ⟨PB_0, PB_1, PB_2, PB_f0, PB_f1, PB_f2⟩ := Dbx.cells PB
  obtain ⟨QB_0, QB_1, QB_2, QB_f0, QB_f1, QB_f2⟩ := Dbx.cells QB
  obtain ⟨DB_0, DB_1, DB_2, DB_f0, DB_f1, DB_f2⟩ := Dbx.cells DB
  go_enter Tryz.func39, Tryz.ntmps39
  go_wp2_with fail
  with_reducible refine (rMay_yes (b := b) (x := x) (h.on (by go_grown)) hn ho).mono ?_
  rintro e w1 ⟨rfl, hb⟩
  clear PB_0 PB_1 PB_2 PB_f0 PB_f1 PB_f2
  clear QB_0 QB_1 QB_2 QB_f0 QB_f1 QB_f2
  clear DB_0 DB_1 DB_2 DB_f0 DB_f1 DB_f2
  have hs1 := hb.size
  try simp only [World.size_alloc, World.size_setCell] at hs1
  replace bw : Below w.heap.size w w1 := dy_end (by go_grown) hb
  replace PB := Blk.on PB hb
  replace QB := Blk.on QB hb
  replace DB := Blk.on DB hb
  clear hb
  obtain ⟨PB_0, PB_1, PB_2, PB_f0, PB_f1, PB_f2⟩ := Dbx.cells PB
  obtain ⟨QB_0, QB_1, QB_2, QB_f0, QB_f1, QB_f2⟩ := Dbx.cells QB
  obtain ⟨DB_0, DB_1, DB_2, DB_f0, DB_f1, DB_f2⟩ := Dbx.cells DB
  go_wp2_with fail
  with_reducible refine (rMay_no (b := b2) (x := x2) (h2.on (by go_grown)) hn2 ho2).mono ?_
  rintro e w2 ⟨rfl, hb⟩
  clear PB_0 PB_1 PB_2 PB_f0 PB_f1 PB_f2
  clear QB_0 QB_1 QB_2 QB_f0 QB_f1 QB_f2
  clear DB_0 DB_1 DB_2 DB_f0 DB_f1 DB_f2
  have hs2 := hb.size
  try simp only [World.size_alloc, World.size_setCell] at hs2
  replace bw : Below w.heap.size w w2 := dy_end (by go_grown) hb
  replace PB := Blk.on PB hb
  replace QB := Blk.on QB hb
  replace DB := Blk.on DB hb
  clear hb
  obtain ⟨PB_0, PB_1, PB_2, PB_f0, PB_f1, PB_f2⟩ := Dbx.cells PB
  obtain ⟨QB_0, QB_1, QB_2, QB_f0, QB_f1, QB_f2⟩ := Dbx.cells QB
  obtain ⟨DB_0, DB_1, DB_2, DB_f0, DB_f1, DB_f2⟩ := Dbx.cells DB
  go_wp2_with fail
  refine bodyPost_ret (v := .tuple #[dyV false none 0 0 0, .int .i64 2]) (by simp [results, Tryz.results39, go_sem, DB_0, DB_1, DB_2, DB_f0, DB_f1, DB_f2]) rfl ?_
  exact ⟨false, [], none, 0, 0, rfl, Dn.zero, lv_nil _, by go_grown⟩

set_option maxRecDepth 100000 in
set_option maxHeartbeats 8000000 in
theorem rAdd_far (h : Lv w A n c l) (hn : n ≤ 4096) (h2 : Lv w A2 n2 c2 l2) (hn2 : n2 ≤ 4096) (ho : okE x = true) (ho2 : okE x2 = true) (hf : farN (nfl b (val 18446744073709551616 l) x) (nfl b2 (val 18446744073709551616 l2) x2) = true) :
    Calls Tryz.prog 39 #[dyV b A n c x, dyV b2 A2 n2 c2 x2] w (DyK zeroN 3 w) := by
  have hx := (okE_iff x).1 ho
  have hx2 := (okE_iff x2).1 ho2
  have PB := Blk.new w [.bool b, .slice A n c, .int .i64 x] 24
  have QB := Blk.new (w.alloc (.cells #[.bool b, .slice A n c, .int .i64 x] 24)) [.bool b2, .slice A2 n2 c2, .int .i64 x2] 24
  simp only [World.size_alloc] at QB
  replace PB := Blk.alloc PB (.cells #[.bool b2, .slice A2 n2 c2, .int .i64 x2] 24)
  have DB := Blk.new ((w.alloc (.cells #[.bool b, .slice A n c, .int .i64 x] 24)).alloc (.cells #[.bool b2, .slice A2 n2 c2, .int .i64 x2] 24)) [.bool false, .slice none 0 0, .int .i64 0] 24
  simp only [World.size_alloc] at DB
  replace PB := Blk.alloc PB (.cells #[.bool false, .slice none 0 0, .int .i64 0] 24)
  replace QB := Blk.alloc QB (.cells #[.bool false, .slice none 0 0, .int .i64 0] 24)
  have bw : Below w.heap.size w (((w.alloc (.cells #[.bool b, .slice A n c, .int .i64 x] 24)).alloc (.cells #[.bool b2, .slice A2 n2 c2, .int .i64 x2] 24)).alloc (.cells #[.bool false, .slice none 0 0, .int .i64 0] 24)) := by go_grown
  obtain ⟨PB_0, PB_1, PB_2, PB_f0, PB_f1, PB_f2⟩ := Dbx.cells PB
  obtain ⟨QB_0, QB_1, QB_2, QB_f0, QB_f1, QB_f2⟩ := Dbx.cells QB
  obtain ⟨DB_0, DB_1, DB_2, DB_f0, DB_f1, DB_f2⟩ := Dbx.cells DB
  go_enter Tryz.func39, Tryz.ntmps39
  go_wp2_with fail
  with_reducible refine (rMay_yes (b := b) (x := x) (h.on (by go_grown)) hn ho).mono ?_
  rintro e w1 ⟨rfl, hb⟩
  clear PB_0 PB_1 PB_2 PB_f0 PB_f1 PB_f2
  clear QB_0 QB_1 QB_2 QB_f0 QB_f1 QB_f2
  clear DB_0 DB_1 DB_2 DB_f0 DB_f1 DB_f2
  have hs1 := hb.size
  try simp only [World.size_alloc, World.size_setCell] at hs1
  replace bw : Below w.heap.size w w1 := dy_end (by go_grown) hb
  replace PB := Blk.on PB hb
  replace QB := Blk.on QB hb
  replace DB := Blk.on DB hb
  clear hb
  obtain ⟨PB_0, PB_1, PB_2, PB_f0, PB_f1, PB_f2⟩ := Dbx.cells PB
  obtain ⟨QB_0, QB_1, QB_2, QB_f0, QB_f1, QB_f2⟩ := Dbx.cells QB
  obtain ⟨DB_0, DB_1, DB_2, DB_f0, DB_f1, DB_f2⟩ := Dbx.cells DB
  go_wp2_with fail
  with_reducible refine (rMay_yes (b := b2) (x := x2) (h2.on (by go_grown)) hn2 ho2).mono ?_
  rintro e w2 ⟨rfl, hb⟩
  clear PB_0 PB_1 PB_2 PB_f0 PB_f1 PB_f2
  clear QB_0 QB_1 QB_2 QB_f0 QB_f1 QB_f2
  clear DB_0 DB_1 DB_2 DB_f0 DB_f1 DB_f2
  have hs2 := hb.size
  try simp only [World.size_alloc, World.size_setCell] at hs2
  replace bw : Below w.heap.size w w2 := dy_end (by go_grown) hb
  replace PB := Blk.on PB hb
  replace QB := Blk.on QB hb
  replace DB := Blk.on DB hb
  clear hb
  obtain ⟨PB_0, PB_1, PB_2, PB_f0, PB_f1, PB_f2⟩ := Dbx.cells PB
  obtain ⟨QB_0, QB_1, QB_2, QB_f0, QB_f1, QB_f2⟩ := Dbx.cells QB
  obtain ⟨DB_0, DB_1, DB_2, DB_f0, DB_f1, DB_f2⟩ := Dbx.cells DB
  go_upto_region 3 with fail
  go_cut [] from 18 (fun wr => TwoD w (nfl b (val 18446744073709551616 l) x) (nfl b2 (val 18446744073709551616 l2) x2) wr)
  case first =>
    clear PB_0 PB_1 PB_2 PB_f0 PB_f1 PB_f2
    clear QB_0 QB_1 QB_2 QB_f0 QB_f1 QB_f2
    clear DB_0 DB_1 DB_2 DB_f0 DB_f1 DB_f2
    have h9 := h.on bw
    have h29 := h2.on bw
    clear h h2
    have hb : Below w2.heap.size w2 w2.drew := (Below.refl _ _).drew
    replace h9 := Lv.on h9 hb
    replace h29 := Lv.on h29 hb
    replace PB := Blk.on PB hb
    replace QB := Blk.on QB hb
    replace DB := Blk.on DB hb
    replace bw := dy_end bw hb
    clear hb
    obtain ⟨PB_0, PB_1, PB_2, PB_f0, PB_f1, PB_f2⟩ := Dbx.cells PB
    obtain ⟨QB_0, QB_1, QB_2, QB_f0, QB_f1, QB_f2⟩ := Dbx.cells QB
    obtain ⟨DB_0, DB_1, DB_2, DB_f0, DB_f1, DB_f2⟩ := Dbx.cells DB
    refine wp_region_held_drew (S := fun _ => True) (by kernel_rfl) trivial (fun _ => ?_)
    refine wpAnyH_ready (rs := [0, 2]) (by kernel_rfl) (by simp) ?_
    refine (AllReadyH.cons rfl (fun K hK => ?_) (AllReadyH.cons rfl (fun K hK => ?_) AllReadyH.nil))
    · go_simp
      refine hK.out _ _ trivial (fun _ => ?_)
      clear hK K
      try simp only [Act.put, List.setIfInBounds_toArray, List.set_cons_zero, List.set_cons_succ, List.getElem_toArray, List.getElem_cons_zero, List.getElem_cons_succ]
      refine wpAnyH_ready (rs := [1, 2]) (by kernel_rfl) (by simp) ?_
      refine (AllReadyH.cons rfl (fun K hK => ?_) (AllReadyH.cons rfl (fun K hK => ?_) AllReadyH.nil))
      · go_simp
        with_reducible refine (rNorm_any (b := b) (x := x) h9 hn (by omega) (by omega)).mono ?_
        rintro e w102 ⟨b3, q3, A3, c3, x3, rfl, hd3, m3, hb⟩
        clear PB_0 PB_1 PB_2 PB_f0 PB_f1 PB_f2
        clear QB_0 QB_1 QB_2 QB_f0 QB_f1 QB_f2
        clear DB_0 DB_1 DB_2 DB_f0 DB_f1 DB_f2
        replace bw : Below w.heap.size w w102 := dy_end bw hb
        have hs102 := bw.size
        replace h9 := Lv.on h9 hb
        replace h29 := Lv.on h29 hb
        replace PB := Blk.on PB hb
        replace QB := Blk.on QB hb
        replace DB := Blk.on DB hb
        clear hb
        obtain ⟨PB_0, PB_1, PB_2, PB_f0, PB_f1, PB_f2⟩ := Dbx.cells PB
        obtain ⟨QB_0, QB_1, QB_2, QB_f0, QB_f1, QB_f2⟩ := Dbx.cells QB
        obtain ⟨DB_0, DB_1, DB_2, DB_f0, DB_f1, DB_f2⟩ := Dbx.cells DB
        refine hK.out _ _ trivial (fun _ => ?_)
        clear hK K
        try simp only [Act.put, List.setIfInBounds_toArray, List.set_cons_zero, List.set_cons_succ, List.getElem_toArray, List.getElem_cons_zero, List.getElem_cons_succ]
        refine wpAnyH_ready (rs := [2]) (by kernel_rfl) (by simp) ?_
        refine (AllReadyH.cons rfl (fun K hK => ?_) AllReadyH.nil)
        go_simp
        refine hK.out _ _ trivial (fun _ => ?_)
        clear hK K
        try simp only [Act.put, List.setIfInBounds_toArray, List.set_cons_zero, List.set_cons_succ, List.getElem_toArray, List.getElem_cons_zero, List.getElem_cons_succ]
        refine wpAnyH_ready (rs := [3]) (by kernel_rfl) (by simp) ?_
        refine (AllReadyH.cons rfl (fun K hK => ?_) AllReadyH.nil)
        go_simp
        with_reducible refine (rNorm_any (b := b2) (x := x2) h29 hn2 (by omega) (by omega)).mono ?_
        rintro e w202 ⟨b4, q4, A4, c4, x4, rfl, hd4, m4, hb⟩
        clear PB_0 PB_1 PB_2 PB_f0 PB_f1 PB_f2
        clear QB_0 QB_1 QB_2 QB_f0 QB_f1 QB_f2
        clear DB_0 DB_1 DB_2 DB_f0 DB_f1 DB_f2
        replace bw : Below w.heap.size w w202 := dy_end bw hb
        have hs202 := bw.size
        replace h9 := Lv.on h9 hb
        replace h29 := Lv.on h29 hb
        replace m3 := Lv.on m3 hb
        replace PB := Blk.on PB hb
        replace QB := Blk.on QB hb
        replace DB := Blk.on DB hb
        clear hb
        obtain ⟨PB_0, PB_1, PB_2, PB_f0, PB_f1, PB_f2⟩ := Dbx.cells PB
        obtain ⟨QB_0, QB_1, QB_2, QB_f0, QB_f1, QB_f2⟩ := Dbx.cells QB
        obtain ⟨DB_0, DB_1, DB_2, DB_f0, DB_f1, DB_f2⟩ := Dbx.cells DB
        refine hK.out _ _ trivial (fun _ => ?_)
        clear hK K
        try simp only [Act.put, List.setIfInBounds_toArray, List.set_cons_zero, List.set_cons_succ, List.getElem_toArray, List.getElem_cons_zero, List.getElem_cons_succ]
        refine wpAnyH_ready (rs := [4]) (by kernel_rfl) (by simp) ?_
        refine (AllReadyH.cons rfl (fun K hK => ?_) AllReadyH.nil)
        go_simp
        clear PB_0 PB_1 PB_2 PB_f0 PB_f1 PB_f2
        clear QB_0 QB_1 QB_2 QB_f0 QB_f1 QB_f2
        clear DB_0 DB_1 DB_2 DB_f0 DB_f1 DB_f2
        replace h9 := Lv.put h9 PB (b3) (A3) (q3.length) (c3) (x3)
        replace h29 := Lv.put h29 PB (b3) (A3) (q3.length) (c3) (x3)
        replace m3 := Lv.put m3 PB (b3) (A3) (q3.length) (c3) (x3)
        replace m4 := Lv.put m4 PB (b3) (A3) (q3.length) (c3) (x3)
        replace QB := Blk.putO QB (g := w.heap.size) (by omega) (.bool (b3)) (.slice (A3) (q3.length) (c3)) (.int .i64 (x3))
        replace DB := Blk.putO DB (g := w.heap.size) (by omega) (.bool (b3)) (.slice (A3) (q3.length) (c3)) (.int .i64 (x3))
        replace PB := Dbx.put PB (b3) (A3) (q3.length) (c3) (x3)
        obtain ⟨PB_0, PB_1, PB_2, PB_f0, PB_f1, PB_f2⟩ := Dbx.cells PB
        obtain ⟨QB_0, QB_1, QB_2, QB_f0, QB_f1, QB_f2⟩ := Dbx.cells QB
        obtain ⟨DB_0, DB_1, DB_2, DB_f0, DB_f1, DB_f2⟩ := Dbx.cells DB
        refine hK.out _ _ trivial (fun _ => ?_)
        clear hK K
        try simp only [Act.put, List.setIfInBounds_toArray, List.set_cons_zero, List.set_cons_succ, List.getElem_toArray, List.getElem_cons_zero, List.getElem_cons_succ]
        refine wpAnyH_ready (rs := [5]) (by kernel_rfl) (by simp) ?_
        refine (AllReadyH.cons rfl (fun K hK => ?_) AllReadyH.nil)
        go_simp
        clear PB_0 PB_1 PB_2 PB_f0 PB_f1 PB_f2
        clear QB_0 QB_1 QB_2 QB_f0 QB_f1 QB_f2
        clear DB_0 DB_1 DB_2 DB_f0 DB_f1 DB_f2
        replace h9 := Lv.put h9 QB (b4) (A4) (q4.length) (c4) (x4)
        replace h29 := Lv.put h29 QB (b4) (A4) (q4.length) (c4) (x4)
        replace m3 := Lv.put m3 QB (b4) (A4) (q4.length) (c4) (x4)
        replace m4 := Lv.put m4 QB (b4) (A4) (q4.length) (c4) (x4)
        replace PB := Blk.putO PB (g := (w.heap.size + 1)) (by omega) (.bool (b4)) (.slice (A4) (q4.length) (c4)) (.int .i64 (x4))
        replace DB := Blk.putO DB (g := (w.heap.size + 1)) (by omega) (.bool (b4)) (.slice (A4) (q4.length) (c4)) (.int .i64 (x4))
        replace QB := Dbx.put QB (b4) (A4) (q4.length) (c4) (x4)
        obtain ⟨PB_0, PB_1, PB_2, PB_f0, PB_f1, PB_f2⟩ := Dbx.cells PB
        obtain ⟨QB_0, QB_1, QB_2, QB_f0, QB_f1, QB_f2⟩ := Dbx.cells QB
        obtain ⟨DB_0, DB_1, DB_2, DB_f0, DB_f1, DB_f2⟩ := Dbx.cells DB
        refine hK.out _ _ trivial (fun _ => ?_)
        clear hK K
        try simp only [Act.put, List.setIfInBounds_toArray, List.set_cons_zero, List.set_cons_succ, List.getElem_toArray, List.getElem_cons_zero, List.getElem_cons_succ]
        refine wpAnyH_done (by kernel_rfl) ?_ _
        go_wp2_with fail
        go_meet
        case rel => exact ⟨b3, q3, A3, c3, x3, b4, q4, A4, c4, x4, hd3, hd4, m3, m4, PB, QB, DB, by go_grown⟩
      · go_simp
        refine hK.out _ _ trivial (fun _ => ?_)
        clear hK K
        try simp only [Act.put, List.setIfInBounds_toArray, List.set_cons_zero, List.set_cons_succ, List.getElem_toArray, List.getElem_cons_zero, List.getElem_cons_succ]
        refine wpAnyH_ready (rs := [1]) (by kernel_rfl) (by simp) ?_
        refine (AllReadyH.cons rfl (fun K hK => ?_) AllReadyH.nil)
        go_simp
        with_reducible refine (rNorm_any (b := b) (x := x) h9 hn (by omega) (by omega)).mono ?_
        rintro e w302 ⟨b3, q3, A3, c3, x3, rfl, hd3, m3, hb⟩
        clear PB_0 PB_1 PB_2 PB_f0 PB_f1 PB_f2
        clear QB_0 QB_1 QB_2 QB_f0 QB_f1 QB_f2
        clear DB_0 DB_1 DB_2 DB_f0 DB_f1 DB_f2
        replace bw : Below w.heap.size w w302 := dy_end bw hb
        have hs302 := bw.size
        replace h9 := Lv.on h9 hb
        replace h29 := Lv.on h29 hb
        replace PB := Blk.on PB hb
        replace QB := Blk.on QB hb
        replace DB := Blk.on DB hb
        clear hb
        obtain ⟨PB_0, PB_1, PB_2, PB_f0, PB_f1, PB_f2⟩ := Dbx.cells PB
        obtain ⟨QB_0, QB_1, QB_2, QB_f0, QB_f1, QB_f2⟩ := Dbx.cells QB
        obtain ⟨DB_0, DB_1, DB_2, DB_f0, DB_f1, DB_f2⟩ := Dbx.cells DB
        refine hK.out _ _ trivial (fun _ => ?_)
        clear hK K
        try simp only [Act.put, List.setIfInBounds_toArray, List.set_cons_zero, List.set_cons_succ, List.getElem_toArray, List.getElem_cons_zero, List.getElem_cons_succ]
        refine wpAnyH_ready (rs := [3]) (by kernel_rfl) (by simp) ?_
        refine (AllReadyH.cons rfl (fun K hK => ?_) AllReadyH.nil)
        go_simp
        with_reducible refine (rNorm_any (b := b2) (x := x2) h29 hn2 (by omega) (by omega)).mono ?_
        rintro e w402 ⟨b4, q4, A4, c4, x4, rfl, hd4, m4, hb⟩
        clear PB_0 PB_1 PB_2 PB_f0 PB_f1 PB_f2
        clear QB_0 QB_1 QB_2 QB_f0 QB_f1 QB_f2
        clear DB_0 DB_1 DB_2 DB_f0 DB_f1 DB_f2
        replace bw : Below w.heap.size w w402 := dy_end bw hb
        have hs402 := bw.size
        replace h9 := Lv.on h9 hb
        replace h29 := Lv.on h29 hb
        replace m3 := Lv.on m3 hb
        replace PB := Blk.on PB hb
        replace QB := Blk.on QB hb
        replace DB := Blk.on DB hb
        clear hb
        obtain ⟨PB_0, PB_1, PB_2, PB_f0, PB_f1, PB_f2⟩ := Dbx.cells PB
        obtain ⟨QB_0, QB_1, QB_2, QB_f0, QB_f1, QB_f2⟩ := Dbx.cells QB
        obtain ⟨DB_0, DB_1, DB_2, DB_f0, DB_f1, DB_f2⟩ := Dbx.cells DB
        refine hK.out _ _ trivial (fun _ => ?_)
        clear hK K
        try simp only [Act.put, List.setIfInBounds_toArray, List.set_cons_zero, List.set_cons_succ, List.getElem_toArray, List.getElem_cons_zero, List.getElem_cons_succ]
        refine wpAnyH_ready (rs := [4]) (by kernel_rfl) (by simp) ?_
        refine (AllReadyH.cons rfl (fun K hK => ?_) AllReadyH.nil)
        go_simp
        clear PB_0 PB_1 PB_2 PB_f0 PB_f1 PB_f2
        clear QB_0 QB_1 QB_2 QB_f0 QB_f1 QB_f2
        clear DB_0 DB_1 DB_2 DB_f0 DB_f1 DB_f2
        replace h9 := Lv.put h9 PB (b3) (A3) (q3.length) (c3) (x3)
        replace h29 := Lv.put h29 PB (b3) (A3) (q3.length) (c3) (x3)
        replace m3 := Lv.put m3 PB (b3) (A3) (q3.length) (c3) (x3)
        replace m4 := Lv.put m4 PB (b3) (A3) (q3.length) (c3) (x3)
        replace QB := Blk.putO QB (g := w.heap.size) (by omega) (.bool (b3)) (.slice (A3) (q3.length) (c3)) (.int .i64 (x3))
        replace DB := Blk.putO DB (g := w.heap.size) (by omega) (.bool (b3)) (.slice (A3) (q3.length) (c3)) (.int .i64 (x3))
        replace PB := Dbx.put PB (b3) (A3) (q3.length) (c3) (x3)
        obtain ⟨PB_0, PB_1, PB_2, PB_f0, PB_f1, PB_f2⟩ := Dbx.cells PB
        obtain ⟨QB_0, QB_1, QB_2, QB_f0, QB_f1, QB_f2⟩ := Dbx.cells QB
        obtain ⟨DB_0, DB_1, DB_2, DB_f0, DB_f1, DB_f2⟩ := Dbx.cells DB
        refine hK.out _ _ trivial (fun _ => ?_)
        clear hK K
        try simp only [Act.put, List.setIfInBounds_toArray, List.set_cons_zero, List.set_cons_succ, List.getElem_toArray, List.getElem_cons_zero, List.getElem_cons_succ]
        refine wpAnyH_ready (rs := [5]) (by kernel_rfl) (by simp) ?_
        refine (AllReadyH.cons rfl (fun K hK => ?_) AllReadyH.nil)
        go_simp
        clear PB_0 PB_1 PB_2 PB_f0 PB_f1 PB_f2
        clear QB_0 QB_1 QB_2 QB_f0 QB_f1 QB_f2
        clear DB_0 DB_1 DB_2 DB_f0 DB_f1 DB_f2
        replace h9 := Lv.put h9 QB (b4) (A4) (q4.length) (c4) (x4)
        replace h29 := Lv.put h29 QB (b4) (A4) (q4.length) (c4) (x4)
        replace m3 := Lv.put m3 QB (b4) (A4) (q4.length) (c4) (x4)
        replace m4 := Lv.put m4 QB (b4) (A4) (q4.length) (c4) (x4)
        replace PB := Blk.putO PB (g := (w.heap.size + 1)) (by omega) (.bool (b4)) (.slice (A4) (q4.length) (c4)) (.int .i64 (x4))
        replace DB := Blk.putO DB (g := (w.heap.size + 1)) (by omega) (.bool (b4)) (.slice (A4) (q4.length) (c4)) (.int .i64 (x4))
        replace QB := Dbx.put QB (b4) (A4) (q4.length) (c4) (x4)
        obtain ⟨PB_0, PB_1, PB_2, PB_f0, PB_f1, PB_f2⟩ := Dbx.cells PB
        obtain ⟨QB_0, QB_1, QB_2, QB_f0, QB_f1, QB_f2⟩ := Dbx.cells QB
        obtain ⟨DB_0, DB_1, DB_2, DB_f0, DB_f1, DB_f2⟩ := Dbx.cells DB
        refine hK.out _ _ trivial (fun _ => ?_)
        clear hK K
        try simp only [Act.put, List.setIfInBounds_toArray, List.set_cons_zero, List.set_cons_succ, List.getElem_toArray, List.getElem_cons_zero, List.getElem_cons_succ]
        refine wpAnyH_done (by kernel_rfl) ?_ _
        go_wp2_with fail
        go_meet
        case rel => exact ⟨b3, q3, A3, c3, x3, b4, q4, A4, c4, x4, hd3, hd4, m3, m4, PB, QB, DB, by go_grown⟩
    · go_simp
      refine hK.out _ _ trivial (fun _ => ?_)
      clear hK K
      try simp only [Act.put, List.setIfInBounds_toArray, List.set_cons_zero, List.set_cons_succ, List.getElem_toArray, List.getElem_cons_zero, List.getElem_cons_succ]
      refine wpAnyH_ready (rs := [0]) (by kernel_rfl) (by simp) ?_
      refine (AllReadyH.cons rfl (fun K hK => ?_) AllReadyH.nil)
      go_simp
      refine hK.out _ _ trivial (fun _ => ?_)
      clear hK K
      try simp only [Act.put, List.setIfInBounds_toArray, List.set_cons_zero, List.set_cons_succ, List.getElem_toArray, List.getElem_cons_zero, List.getElem_cons_succ]
      refine wpAnyH_ready (rs := [1]) (by kernel_rfl) (by simp) ?_
      refine (AllReadyH.cons rfl (fun K hK => ?_) AllReadyH.nil)
      go_simp
      with_reducible refine (rNorm_any (b := b) (x := x) h9 hn (by omega) (by omega)).mono ?_
      rintro e w502 ⟨b3, q3, A3, c3, x3, rfl, hd3, m3, hb⟩
      clear PB_0 PB_1 PB_2 PB_f0 PB_f1 PB_f2
      clear QB_0 QB_1 QB_2 QB_f0 QB_f1 QB_f2
      clear DB_0 DB_1 DB_2 DB_f0 DB_f1 DB_f2
      replace bw : Below w.heap.size w w502 := dy_end bw hb
      have hs502 := bw.size
      replace h9 := Lv.on h9 hb
      replace h29 := Lv.on h29 hb
      replace PB := Blk.on PB hb
      replace QB := Blk.on QB hb
      replace DB := Blk.on DB hb
      clear hb
      obtain ⟨PB_0, PB_1, PB_2, PB_f0, PB_f1, PB_f2⟩ := Dbx.cells PB
      obtain ⟨QB_0, QB_1, QB_2, QB_f0, QB_f1, QB_f2⟩ := Dbx.cells QB
      obtain ⟨DB_0, DB_1, DB_2, DB_f0, DB_f1, DB_f2⟩ := Dbx.cells DB
      refine hK.out _ _ trivial (fun _ => ?_)
      clear hK K
      try simp only [Act.put, List.setIfInBounds_toArray, List.set_cons_zero, List.set_cons_succ, List.getElem_toArray, List.getElem_cons_zero, List.getElem_cons_succ]
      refine wpAnyH_ready (rs := [3]) (by kernel_rfl) (by simp) ?_
      refine (AllReadyH.cons rfl (fun K hK => ?_) AllReadyH.nil)
      go_simp
      with_reducible refine (rNorm_any (b := b2) (x := x2) h29 hn2 (by omega) (by omega)).mono ?_
      rintro e w602 ⟨b4, q4, A4, c4, x4, rfl, hd4, m4, hb⟩
      clear PB_0 PB_1 PB_2 PB_f0 PB_f1 PB_f2
      clear QB_0 QB_1 QB_2 QB_f0 QB_f1 QB_f2
      clear DB_0 DB_1 DB_2 DB_f0 DB_f1 DB_f2
      replace bw : Below w.heap.size w w602 := dy_end bw hb
      have hs602 := bw.size
      replace h9 := Lv.on h9 hb
      replace h29 := Lv.on h29 hb
      replace m3 := Lv.on m3 hb
      replace PB := Blk.on PB hb
      replace QB := Blk.on QB hb
      replace DB := Blk.on DB hb
      clear hb
      obtain ⟨PB_0, PB_1, PB_2, PB_f0, PB_f1, PB_f2⟩ := Dbx.cells PB
      obtain ⟨QB_0, QB_1, QB_2, QB_f0, QB_f1, QB_f2⟩ := Dbx.cells QB
      obtain ⟨DB_0, DB_1, DB_2, DB_f0, DB_f1, DB_f2⟩ := Dbx.cells DB
      refine hK.out _ _ trivial (fun _ => ?_)
      clear hK K
      try simp only [Act.put, List.setIfInBounds_toArray, List.set_cons_zero, List.set_cons_succ, List.getElem_toArray, List.getElem_cons_zero, List.getElem_cons_succ]
      refine wpAnyH_ready (rs := [4]) (by kernel_rfl) (by simp) ?_
      refine (AllReadyH.cons rfl (fun K hK => ?_) AllReadyH.nil)
      go_simp
      clear PB_0 PB_1 PB_2 PB_f0 PB_f1 PB_f2
      clear QB_0 QB_1 QB_2 QB_f0 QB_f1 QB_f2
      clear DB_0 DB_1 DB_2 DB_f0 DB_f1 DB_f2
      replace h9 := Lv.put h9 PB (b3) (A3) (q3.length) (c3) (x3)
      replace h29 := Lv.put h29 PB (b3) (A3) (q3.length) (c3) (x3)
      replace m3 := Lv.put m3 PB (b3) (A3) (q3.length) (c3) (x3)
      replace m4 := Lv.put m4 PB (b3) (A3) (q3.length) (c3) (x3)
      replace QB := Blk.putO QB (g := w.heap.size) (by omega) (.bool (b3)) (.slice (A3) (q3.length) (c3)) (.int .i64 (x3))
      replace DB := Blk.putO DB (g := w.heap.size) (by omega) (.bool (b3)) (.slice (A3) (q3.length) (c3)) (.int .i64 (x3))
      replace PB := Dbx.put PB (b3) (A3) (q3.length) (c3) (x3)
      obtain ⟨PB_0, PB_1, PB_2, PB_f0, PB_f1, PB_f2⟩ := Dbx.cells PB
      obtain ⟨QB_0, QB_1, QB_2, QB_f0, QB_f1, QB_f2⟩ := Dbx.cells QB
      obtain ⟨DB_0, DB_1, DB_2, DB_f0, DB_f1, DB_f2⟩ := Dbx.cells DB
      refine hK.out _ _ trivial (fun _ => ?_)
      clear hK K
      try simp only [Act.put, List.setIfInBounds_toArray, List.set_cons_zero, List.set_cons_succ, List.getElem_toArray, List.getElem_cons_zero, List.getElem_cons_succ]
      refine wpAnyH_ready (rs := [5]) (by kernel_rfl) (by simp) ?_
      refine (AllReadyH.cons rfl (fun K hK => ?_) AllReadyH.nil)
      go_simp
      clear PB_0 PB_1 PB_2 PB_f0 PB_f1 PB_f2
      clear QB_0 QB_1 QB_2 QB_f0 QB_f1 QB_f2
      clear DB_0 DB_1 DB_2 DB_f0 DB_f1 DB_f2
      replace h9 := Lv.put h9 QB (b4) (A4) (q4.length) (c4) (x4)
      replace h29 := Lv.put h29 QB (b4) (A4) (q4.length) (c4) (x4)
      replace m3 := Lv.put m3 QB (b4) (A4) (q4.length) (c4) (x4)
      replace m4 := Lv.put m4 QB (b4) (A4) (q4.length) (c4) (x4)
      replace PB := Blk.putO PB (g := (w.heap.size + 1)) (by omega) (.bool (b4)) (.slice (A4) (q4.length) (c4)) (.int .i64 (x4))
      replace DB := Blk.putO DB (g := (w.heap.size + 1)) (by omega) (.bool (b4)) (.slice (A4) (q4.length) (c4)) (.int .i64 (x4))
      replace QB := Dbx.put QB (b4) (A4) (q4.length) (c4) (x4)
      obtain ⟨PB_0, PB_1, PB_2, PB_f0, PB_f1, PB_f2⟩ := Dbx.cells PB
      obtain ⟨QB_0, QB_1, QB_2, QB_f0, QB_f1, QB_f2⟩ := Dbx.cells QB
      obtain ⟨DB_0, DB_1, DB_2, DB_f0, DB_f1, DB_f2⟩ := Dbx.cells DB
      refine hK.out _ _ trivial (fun _ => ?_)
      clear hK K
      try simp only [Act.put, List.setIfInBounds_toArray, List.set_cons_zero, List.set_cons_succ, List.getElem_toArray, List.getElem_cons_zero, List.getElem_cons_succ]
      refine wpAnyH_done (by kernel_rfl) ?_ _
      go_wp2_with fail
      go_meet
      case rel => exact ⟨b3, q3, A3, c3, x3, b4, q4, A4, c4, x4, hd3, hd4, m3, m4, PB, QB, DB, by go_grown⟩
  case rest =>
  clear PB_0 PB_1 PB_2 PB_f0 PB_f1 PB_f2
  clear QB_0 QB_1 QB_2 QB_f0 QB_f1 QB_f2
  clear DB_0 DB_1 DB_2 DB_f0 DB_f1 DB_f2
  clear PB QB DB bw
  obtain ⟨b3, q3, A3, c3, x3, b4, q4, A4, c4, x4, hd3, hd4, m3, m4, PB, QB, DB, bw⟩ := hcut
  have hsc := bw.size
  have hsd := Blk.lt DB
  obtain ⟨PB_0, PB_1, PB_2, PB_f0, PB_f1, PB_f2⟩ := Dbx.cells PB
  obtain ⟨QB_0, QB_1, QB_2, QB_f0, QB_f1, QB_f2⟩ := Dbx.cells QB
  obtain ⟨DB_0, DB_1, DB_2, DB_f0, DB_f1, DB_f2⟩ := Dbx.cells DB
  have X3 := exp_bd3 h hn ho hd3
  have X4 := exp_bd3 h2 hn2 ho2 hd4
  obtain ⟨X30, X31⟩ := X3
  obtain ⟨X40, X41⟩ := X4
  have pf := fun W (mm : Lv W A3 q3.length c3 q3) (mm2 : Lv W A4 q4.length c4 q4) => rFar_any mm mm2 hd3 hd4 (by omega) (by omega) (by omega) (by omega)
  rw [hf] at pf
  clear hx hx2
  go_wp2_with fail
  with_reducible refine (pf _ m3 m4).mono ?_
  rintro e w3 ⟨rfl, hb⟩
  clear PB_0 PB_1 PB_2 PB_f0 PB_f1 PB_f2
  clear QB_0 QB_1 QB_2 QB_f0 QB_f1 QB_f2
  clear DB_0 DB_1 DB_2 DB_f0 DB_f1 DB_f2
  have hs3 := hb.size
  try simp only [World.size_alloc, World.size_setCell] at hs3
  replace bw : Below w.heap.size w w3 := dy_end (by go_grown) hb
  replace m3 := Lv.on m3 hb
  replace m4 := Lv.on m4 hb
  replace PB := Blk.on PB hb
  replace QB := Blk.on QB hb
  replace DB := Blk.on DB hb
  clear hb
  obtain ⟨PB_0, PB_1, PB_2, PB_f0, PB_f1, PB_f2⟩ := Dbx.cells PB
  obtain ⟨QB_0, QB_1, QB_2, QB_f0, QB_f1, QB_f2⟩ := Dbx.cells QB
  obtain ⟨DB_0, DB_1, DB_2, DB_f0, DB_f1, DB_f2⟩ := Dbx.cells DB
  go_wp2_with fail
  refine bodyPost_ret (v := .tuple #[dyV false none 0 0 0, .int .i64 3]) (by simp [results, Tryz.results39, go_sem, DB_0, DB_1, DB_2, DB_f0, DB_f1, DB_f2]) rfl ?_
  exact ⟨false, [], none, 0, 0, rfl, Dn.zero, lv_nil _, by go_grown⟩

set_option maxRecDepth 100000 in
set_option maxHeartbeats 16000000 in
theorem rAdd_near (h : Lv w A n c l) (hn : n ≤ 4096) (h2 : Lv w A2 n2 c2 l2) (hn2 : n2 ≤ 4096) (ho : okE x = true) (ho2 : okE x2 = true) (hf : farN (nfl b (val 18446744073709551616 l) x) (nfl b2 (val 18446744073709551616 l2) x2) = false) (hN : Near (nfl b (val 18446744073709551616 l) x) (nfl b2 (val 18446744073709551616 l2) x2)) :
    Calls Tryz.prog 39 #[dyV b A n c x, dyV b2 A2 n2 c2 x2] w (DyK (doneR (sumN (nfl b (val 18446744073709551616 l) x) (nfl b2 (val 18446744073709551616 l2) x2))).1 (doneR (sumN (nfl b (val 18446744073709551616 l) x) (nfl b2 (val 18446744073709551616 l2) x2))).2 w) := by
  have hx := (okE_iff x).1 ho
  have hx2 := (okE_iff x2).1 ho2
  have PB := Blk.new w [.bool b, .slice A n c, .int .i64 x] 24
  have QB := Blk.new (w.alloc (.cells #[.bool b, .slice A n c, .int .i64 x] 24)) [.bool b2, .slice A2 n2 c2, .int .i64 x2] 24
  simp only [World.size_alloc] at QB
  replace PB := Blk.alloc PB (.cells #[.bool b2, .slice A2 n2 c2, .int .i64 x2] 24)
  have DB := Blk.new ((w.alloc (.cells #[.bool b, .slice A n c, .int .i64 x] 24)).alloc (.cells #[.bool b2, .slice A2 n2 c2, .int .i64 x2] 24)) [.bool false, .slice none 0 0, .int .i64 0] 24
  simp only [World.size_alloc] at DB
  replace PB := Blk.alloc PB (.cells #[.bool false, .slice none 0 0, .int .i64 0] 24)
  replace QB := Blk.alloc QB (.cells #[.bool false, .slice none 0 0, .int .i64 0] 24)
  have bw : Below w.heap.size w (((w.alloc (.cells #[.bool b, .slice A n c, .int .i64 x] 24)).alloc (.cells #[.bool b2, .slice A2 n2 c2, .int .i64 x2] 24)).alloc (.cells #[.bool false, .slice none 0 0, .int .i64 0] 24)) := by go_grown
  obtain ⟨PB_0, PB_1, PB_2, PB_f0, PB_f1, PB_f2⟩ := Dbx.cells PB
  obtain ⟨QB_0, QB_1, QB_2, QB_f0, QB_f1, QB_f2⟩ := Dbx.cells QB
  obtain ⟨DB_0, DB_1, DB_2, DB_f0, DB_f1, DB_f2⟩ := Dbx.cells DB
  go_enter Tryz.func39, Tryz.ntmps39
  go_wp2_with fail
  with_reducible refine (rMay_yes (b := b) (x := x) (h.on (by go_grown)) hn ho).mono ?_
  rintro e w1 ⟨rfl, hb⟩
  clear PB_0 PB_1 PB_2 PB_f0 PB_f1 PB_f2
  clear QB_0 QB_1 QB_2 QB_f0 QB_f1 QB_f2
  clear DB_0 DB_1 DB_2 DB_f0 DB_f1 DB_f2
  have hs1 := hb.size
  try simp only [World.size_alloc, World.size_setCell] at hs1
  replace bw : Below w.heap.size w w1 := dy_end (by go_grown) hb
  replace PB := Blk.on PB hb
  replace QB := Blk.on QB hb
  replace DB := Blk.on DB hb
  clear hb
  obtain ⟨PB_0, PB_1, PB_2, PB_f0, PB_f1, PB_f2⟩ := Dbx.cells PB
  obtain ⟨QB_0, QB_1, QB_2, QB_f0, QB_f1, QB_f2⟩ := Dbx.cells QB
  obtain ⟨DB_0, DB_1, DB_2, DB_f0, DB_f1, DB_f2⟩ := Dbx.cells DB
  go_wp2_with fail
  with_reducible refine (rMay_yes (b := b2) (x := x2) (h2.on (by go_grown)) hn2 ho2).mono ?_
  rintro e w2 ⟨rfl, hb⟩
  clear PB_0 PB_1 PB_2 PB_f0 PB_f1 PB_f2
  clear QB_0 QB_1 QB_2 QB_f0 QB_f1 QB_f2
  clear DB_0 DB_1 DB_2 DB_f0 DB_f1 DB_f2
  have hs2 := hb.size
  try simp only [World.size_alloc, World.size_setCell] at hs2
  replace bw : Below w.heap.size w w2 := dy_end (by go_grown) hb
  replace PB := Blk.on PB hb
  replace QB := Blk.on QB hb
  replace DB := Blk.on DB hb
  clear hb
  obtain ⟨PB_0, PB_1, PB_2, PB_f0, PB_f1, PB_f2⟩ := Dbx.cells PB
  obtain ⟨QB_0, QB_1, QB_2, QB_f0, QB_f1, QB_f2⟩ := Dbx.cells QB
  obtain ⟨DB_0, DB_1, DB_2, DB_f0, DB_f1, DB_f2⟩ := Dbx.cells DB
  go_upto_region 3 with fail
  go_cut [] from 18 (fun wr => TwoD w (nfl b (val 18446744073709551616 l) x) (nfl b2 (val 18446744073709551616 l2) x2) wr)
  case first =>
    clear PB_0 PB_1 PB_2 PB_f0 PB_f1 PB_f2
    clear QB_0 QB_1 QB_2 QB_f0 QB_f1 QB_f2
    clear DB_0 DB_1 DB_2 DB_f0 DB_f1 DB_f2
    have h9 := h.on bw
    have h29 := h2.on bw
    clear h h2
    have hb : Below w2.heap.size w2 w2.drew := (Below.refl _ _).drew
    replace h9 := Lv.on h9 hb
    replace h29 := Lv.on h29 hb
    replace PB := Blk.on PB hb
    replace QB := Blk.on QB hb
    replace DB := Blk.on DB hb
    replace bw := dy_end bw hb
    clear hb
    obtain ⟨PB_0, PB_1, PB_2, PB_f0, PB_f1, PB_f2⟩ := Dbx.cells PB
    obtain ⟨QB_0, QB_1, QB_2, QB_f0, QB_f1, QB_f2⟩ := Dbx.cells QB
    obtain ⟨DB_0, DB_1, DB_2, DB_f0, DB_f1, DB_f2⟩ := Dbx.cells DB
    refine wp_region_held_drew (S := fun _ => True) (by kernel_rfl) trivial (fun _ => ?_)
    refine wpAnyH_ready (rs := [0, 2]) (by kernel_rfl) (by simp) ?_
    refine (AllReadyH.cons rfl (fun K hK => ?_) (AllReadyH.cons rfl (fun K hK => ?_) AllReadyH.nil))
    · go_simp
      refine hK.out _ _ trivial (fun _ => ?_)
      clear hK K
      try simp only [Act.put, List.setIfInBounds_toArray, List.set_cons_zero, List.set_cons_succ, List.getElem_toArray, List.getElem_cons_zero, List.getElem_cons_succ]
      refine wpAnyH_ready (rs := [1, 2]) (by kernel_rfl) (by simp) ?_
      refine (AllReadyH.cons rfl (fun K hK => ?_) (AllReadyH.cons rfl (fun K hK => ?_) AllReadyH.nil))
      · go_simp
        with_reducible refine (rNorm_any (b := b) (x := x) h9 hn (by omega) (by omega)).mono ?_
        rintro e w102 ⟨b3, q3, A3, c3, x3, rfl, hd3, m3, hb⟩
        clear PB_0 PB_1 PB_2 PB_f0 PB_f1 PB_f2
        clear QB_0 QB_1 QB_2 QB_f0 QB_f1 QB_f2
        clear DB_0 DB_1 DB_2 DB_f0 DB_f1 DB_f2
        replace bw : Below w.heap.size w w102 := dy_end bw hb
        have hs102 := bw.size
        replace h9 := Lv.on h9 hb
        replace h29 := Lv.on h29 hb
        replace PB := Blk.on PB hb
        replace QB := Blk.on QB hb
        replace DB := Blk.on DB hb
        clear hb
        obtain ⟨PB_0, PB_1, PB_2, PB_f0, PB_f1, PB_f2⟩ := Dbx.cells PB
        obtain ⟨QB_0, QB_1, QB_2, QB_f0, QB_f1, QB_f2⟩ := Dbx.cells QB
        obtain ⟨DB_0, DB_1, DB_2, DB_f0, DB_f1, DB_f2⟩ := Dbx.cells DB
        refine hK.out _ _ trivial (fun _ => ?_)
        clear hK K
        try simp only [Act.put, List.setIfInBounds_toArray, List.set_cons_zero, List.set_cons_succ, List.getElem_toArray, List.getElem_cons_zero, List.getElem_cons_succ]
        refine wpAnyH_ready (rs := [2]) (by kernel_rfl) (by simp) ?_
        refine (AllReadyH.cons rfl (fun K hK => ?_) AllReadyH.nil)
        go_simp
        refine hK.out _ _ trivial (fun _ => ?_)
        clear hK K
        try simp only [Act.put, List.setIfInBounds_toArray, List.set_cons_zero, List.set_cons_succ, List.getElem_toArray, List.getElem_cons_zero, List.getElem_cons_succ]
        refine wpAnyH_ready (rs := [3]) (by kernel_rfl) (by simp) ?_
        refine (AllReadyH.cons rfl (fun K hK => ?_) AllReadyH.nil)
        go_simp
        with_reducible refine (rNorm_any (b := b2) (x := x2) h29 hn2 (by omega) (by omega)).mono ?_
        rintro e w202 ⟨b4, q4, A4, c4, x4, rfl, hd4, m4, hb⟩
        clear PB_0 PB_1 PB_2 PB_f0 PB_f1 PB_f2
        clear QB_0 QB_1 QB_2 QB_f0 QB_f1 QB_f2
        clear DB_0 DB_1 DB_2 DB_f0 DB_f1 DB_f2
        replace bw : Below w.heap.size w w202 := dy_end bw hb
        have hs202 := bw.size
        replace h9 := Lv.on h9 hb
        replace h29 := Lv.on h29 hb
        replace m3 := Lv.on m3 hb
        replace PB := Blk.on PB hb
        replace QB := Blk.on QB hb
        replace DB := Blk.on DB hb
        clear hb
        obtain ⟨PB_0, PB_1, PB_2, PB_f0, PB_f1, PB_f2⟩ := Dbx.cells PB
        obtain ⟨QB_0, QB_1, QB_2, QB_f0, QB_f1, QB_f2⟩ := Dbx.cells QB
        obtain ⟨DB_0, DB_1, DB_2, DB_f0, DB_f1, DB_f2⟩ := Dbx.cells DB
        refine hK.out _ _ trivial (fun _ => ?_)
        clear hK K
        try simp only [Act.put, List.setIfInBounds_toArray, List.set_cons_zero, List.set_cons_succ, List.getElem_toArray, List.getElem_cons_zero, List.getElem_cons_succ]
        refine wpAnyH_ready (rs := [4]) (by kernel_rfl) (by simp) ?_
        refine (AllReadyH.cons rfl (fun K hK => ?_) AllReadyH.nil)
        go_simp
        clear PB_0 PB_1 PB_2 PB_f0 PB_f1 PB_f2
        clear QB_0 QB_1 QB_2 QB_f0 QB_f1 QB_f2
        clear DB_0 DB_1 DB_2 DB_f0 DB_f1 DB_f2
        replace h9 := Lv.put h9 PB (b3) (A3) (q3.length) (c3) (x3)
        replace h29 := Lv.put h29 PB (b3) (A3) (q3.length) (c3) (x3)
        replace m3 := Lv.put m3 PB (b3) (A3) (q3.length) (c3) (x3)
        replace m4 := Lv.put m4 PB (b3) (A3) (q3.length) (c3) (x3)
        replace QB := Blk.putO QB (g := w.heap.size) (by omega) (.bool (b3)) (.slice (A3) (q3.length) (c3)) (.int .i64 (x3))
        replace DB := Blk.putO DB (g := w.heap.size) (by omega) (.bool (b3)) (.slice (A3) (q3.length) (c3)) (.int .i64 (x3))
        replace PB := Dbx.put PB (b3) (A3) (q3.length) (c3) (x3)
        obtain ⟨PB_0, PB_1, PB_2, PB_f0, PB_f1, PB_f2⟩ := Dbx.cells PB
        obtain ⟨QB_0, QB_1, QB_2, QB_f0, QB_f1, QB_f2⟩ := Dbx.cells QB
        obtain ⟨DB_0, DB_1, DB_2, DB_f0, DB_f1, DB_f2⟩ := Dbx.cells DB
        refine hK.out _ _ trivial (fun _ => ?_)
        clear hK K
        try simp only [Act.put, List.setIfInBounds_toArray, List.set_cons_zero, List.set_cons_succ, List.getElem_toArray, List.getElem_cons_zero, List.getElem_cons_succ]
        refine wpAnyH_ready (rs := [5]) (by kernel_rfl) (by simp) ?_
        refine (AllReadyH.cons rfl (fun K hK => ?_) AllReadyH.nil)
        go_simp
        clear PB_0 PB_1 PB_2 PB_f0 PB_f1 PB_f2
        clear QB_0 QB_1 QB_2 QB_f0 QB_f1 QB_f2
        clear DB_0 DB_1 DB_2 DB_f0 DB_f1 DB_f2
        replace h9 := Lv.put h9 QB (b4) (A4) (q4.length) (c4) (x4)
        replace h29 := Lv.put h29 QB (b4) (A4) (q4.length) (c4) (x4)
        replace m3 := Lv.put m3 QB (b4) (A4) (q4.length) (c4) (x4)
        replace m4 := Lv.put m4 QB (b4) (A4) (q4.length) (c4) (x4)
        replace PB := Blk.putO PB (g := (w.heap.size + 1)) (by omega) (.bool (b4)) (.slice (A4) (q4.length) (c4)) (.int .i64 (x4))
        replace DB := Blk.putO DB (g := (w.heap.size + 1)) (by omega) (.bool (b4)) (.slice (A4) (q4.length) (c4)) (.int .i64 (x4))
        replace QB := Dbx.put QB (b4) (A4) (q4.length) (c4) (x4)
        obtain ⟨PB_0, PB_1, PB_2, PB_f0, PB_f1, PB_f2⟩ := Dbx.cells PB
        obtain ⟨QB_0, QB_1, QB_2, QB_f0, QB_f1, QB_f2⟩ := Dbx.cells QB
        obtain ⟨DB_0, DB_1, DB_2, DB_f0, DB_f1, DB_f2⟩ := Dbx.cells DB
        refine hK.out _ _ trivial (fun _ => ?_)
        clear hK K
        try simp only [Act.put, List.setIfInBounds_toArray, List.set_cons_zero, List.set_cons_succ, List.getElem_toArray, List.getElem_cons_zero, List.getElem_cons_succ]
        refine wpAnyH_done (by kernel_rfl) ?_ _
        go_wp2_with fail
        go_meet
        case rel => exact ⟨b3, q3, A3, c3, x3, b4, q4, A4, c4, x4, hd3, hd4, m3, m4, PB, QB, DB, by go_grown⟩
      · go_simp
        refine hK.out _ _ trivial (fun _ => ?_)
        clear hK K
        try simp only [Act.put, List.setIfInBounds_toArray, List.set_cons_zero, List.set_cons_succ, List.getElem_toArray, List.getElem_cons_zero, List.getElem_cons_succ]
        refine wpAnyH_ready (rs := [1]) (by kernel_rfl) (by simp) ?_
        refine (AllReadyH.cons rfl (fun K hK => ?_) AllReadyH.nil)
        go_simp
        with_reducible refine (rNorm_any (b := b) (x := x) h9 hn (by omega) (by omega)).mono ?_
        rintro e w302 ⟨b3, q3, A3, c3, x3, rfl, hd3, m3, hb⟩
        clear PB_0 PB_1 PB_2 PB_f0 PB_f1 PB_f2
        clear QB_0 QB_1 QB_2 QB_f0 QB_f1 QB_f2
        clear DB_0 DB_1 DB_2 DB_f0 DB_f1 DB_f2
        replace bw : Below w.heap.size w w302 := dy_end bw hb
        have hs302 := bw.size
        replace h9 := Lv.on h9 hb
        replace h29 := Lv.on h29 hb
        replace PB := Blk.on PB hb
        replace QB := Blk.on QB hb
        replace DB := Blk.on DB hb
        clear hb
        obtain ⟨PB_0, PB_1, PB_2, PB_f0, PB_f1, PB_f2⟩ := Dbx.cells PB
        obtain ⟨QB_0, QB_1, QB_2, QB_f0, QB_f1, QB_f2⟩ := Dbx.cells QB
        obtain ⟨DB_0, DB_1, DB_2, DB_f0, DB_f1, DB_f2⟩ := Dbx.cells DB
        refine hK.out _ _ trivial (fun _ => ?_)
        clear hK K
        try simp only [Act.put, List.setIfInBounds_toArray, List.set_cons_zero, List.set_cons_succ, List.getElem_toArray, List.getElem_cons_zero, List.getElem_cons_succ]
        refine wpAnyH_ready (rs := [3]) (by kernel_rfl) (by simp) ?_
        refine (AllReadyH.cons rfl (fun K hK => ?_) AllReadyH.nil)
        go_simp
        with_reducible refine (rNorm_any (b := b2) (x := x2) h29 hn2 (by omega) (by omega)).mono ?_
        rintro e w402 ⟨b4, q4, A4, c4, x4, rfl, hd4, m4, hb⟩
        clear PB_0 PB_1 PB_2 PB_f0 PB_f1 PB_f2
        clear QB_0 QB_1 QB_2 QB_f0 QB_f1 QB_f2
        clear DB_0 DB_1 DB_2 DB_f0 DB_f1 DB_f2
        replace bw : Below w.heap.size w w402 := dy_end bw hb
        have hs402 := bw.size
        replace h9 := Lv.on h9 hb
        replace h29 := Lv.on h29 hb
        replace m3 := Lv.on m3 hb
        replace PB := Blk.on PB hb
        replace QB := Blk.on QB hb
        replace DB := Blk.on DB hb
        clear hb
        obtain ⟨PB_0, PB_1, PB_2, PB_f0, PB_f1, PB_f2⟩ := Dbx.cells PB
        obtain ⟨QB_0, QB_1, QB_2, QB_f0, QB_f1, QB_f2⟩ := Dbx.cells QB
        obtain ⟨DB_0, DB_1, DB_2, DB_f0, DB_f1, DB_f2⟩ := Dbx.cells DB
        refine hK.out _ _ trivial (fun _ => ?_)
        clear hK K
        try simp only [Act.put, List.setIfInBounds_toArray, List.set_cons_zero, List.set_cons_succ, List.getElem_toArray, List.getElem_cons_zero, List.getElem_cons_succ]
        refine wpAnyH_ready (rs := [4]) (by kernel_rfl) (by simp) ?_
        refine (AllReadyH.cons rfl (fun K hK => ?_) AllReadyH.nil)
        go_simp
        clear PB_0 PB_1 PB_2 PB_f0 PB_f1 PB_f2
        clear QB_0 QB_1 QB_2 QB_f0 QB_f1 QB_f2
        clear DB_0 DB_1 DB_2 DB_f0 DB_f1 DB_f2
        replace h9 := Lv.put h9 PB (b3) (A3) (q3.length) (c3) (x3)
        replace h29 := Lv.put h29 PB (b3) (A3) (q3.length) (c3) (x3)
        replace m3 := Lv.put m3 PB (b3) (A3) (q3.length) (c3) (x3)
        replace m4 := Lv.put m4 PB (b3) (A3) (q3.length) (c3) (x3)
        replace QB := Blk.putO QB (g := w.heap.size) (by omega) (.bool (b3)) (.slice (A3) (q3.length) (c3)) (.int .i64 (x3))
        replace DB := Blk.putO DB (g := w.heap.size) (by omega) (.bool (b3)) (.slice (A3) (q3.length) (c3)) (.int .i64 (x3))
        replace PB := Dbx.put PB (b3) (A3) (q3.length) (c3) (x3)
        obtain ⟨PB_0, PB_1, PB_2, PB_f0, PB_f1, PB_f2⟩ := Dbx.cells PB
        obtain ⟨QB_0, QB_1, QB_2, QB_f0, QB_f1, QB_f2⟩ := Dbx.cells QB
        obtain ⟨DB_0, DB_1, DB_2, DB_f0, DB_f1, DB_f2⟩ := Dbx.cells DB
        refine hK.out _ _ trivial (fun _ => ?_)
        clear hK K
        try simp only [Act.put, List.setIfInBounds_toArray, List.set_cons_zero, List.set_cons_succ, List.getElem_toArray, List.getElem_cons_zero, List.getElem_cons_succ]
        refine wpAnyH_ready (rs := [5]) (by kernel_rfl) (by simp) ?_
        refine (AllReadyH.cons rfl (fun K hK => ?_) AllReadyH.nil)
        go_simp
        clear PB_0 PB_1 PB_2 PB_f0 PB_f1 PB_f2
        clear QB_0 QB_1 QB_2 QB_f0 QB_f1 QB_f2
        clear DB_0 DB_1 DB_2 DB_f0 DB_f1 DB_f2
        replace h9 := Lv.put h9 QB (b4) (A4) (q4.length) (c4) (x4)
        replace h29 := Lv.put h29 QB (b4) (A4) (q4.length) (c4) (x4)
        replace m3 := Lv.put m3 QB (b4) (A4) (q4.length) (c4) (x4)
        replace m4 := Lv.put m4 QB (b4) (A4) (q4.length) (c4) (x4)
        replace PB := Blk.putO PB (g := (w.heap.size + 1)) (by omega) (.bool (b4)) (.slice (A4) (q4.length) (c4)) (.int .i64 (x4))
        replace DB := Blk.putO DB (g := (w.heap.size + 1)) (by omega) (.bool (b4)) (.slice (A4) (q4.length) (c4)) (.int .i64 (x4))
        replace QB := Dbx.put QB (b4) (A4) (q4.length) (c4) (x4)
        obtain ⟨PB_0, PB_1, PB_2, PB_f0, PB_f1, PB_f2⟩ := Dbx.cells PB
        obtain ⟨QB_0, QB_1, QB_2, QB_f0, QB_f1, QB_f2⟩ := Dbx.cells QB
        obtain ⟨DB_0, DB_1, DB_2, DB_f0, DB_f1, DB_f2⟩ := Dbx.cells DB
        refine hK.out _ _ trivial (fun _ => ?_)
        clear hK K
        try simp only [Act.put, List.setIfInBounds_toArray, List.set_cons_zero, List.set_cons_succ, List.getElem_toArray, List.getElem_cons_zero, List.getElem_cons_succ]
        refine wpAnyH_done (by kernel_rfl) ?_ _
        go_wp2_with fail
        go_meet
        case rel => exact ⟨b3, q3, A3, c3, x3, b4, q4, A4, c4, x4, hd3, hd4, m3, m4, PB, QB, DB, by go_grown⟩
    · go_simp
      refine hK.out _ _ trivial (fun _ => ?_)
      clear hK K
      try simp only [Act.put, List.setIfInBounds_toArray, List.set_cons_zero, List.set_cons_succ, List.getElem_toArray, List.getElem_cons_zero, List.getElem_cons_succ]
      refine wpAnyH_ready (rs := [0]) (by kernel_rfl) (by simp) ?_
      refine (AllReadyH.cons rfl (fun K hK => ?_) AllReadyH.nil)
      go_simp
      refine hK.out _ _ trivial (fun _ => ?_)
      clear hK K
      try simp only [Act.put, List.setIfInBounds_toArray, List.set_cons_zero, List.set_cons_succ, List.getElem_toArray, List.getElem_cons_zero, List.getElem_cons_succ]
      refine wpAnyH_ready (rs := [1]) (by kernel_rfl) (by simp) ?_
      refine (AllReadyH.cons rfl (fun K hK => ?_) AllReadyH.nil)
      go_simp
      with_reducible refine (rNorm_any (b := b) (x := x) h9 hn (by omega) (by omega)).mono ?_
      rintro e w502 ⟨b3, q3, A3, c3, x3, rfl, hd3, m3, hb⟩
      clear PB_0 PB_1 PB_2 PB_f0 PB_f1 PB_f2
      clear QB_0 QB_1 QB_2 QB_f0 QB_f1 QB_f2
      clear DB_0 DB_1 DB_2 DB_f0 DB_f1 DB_f2
      replace bw : Below w.heap.size w w502 := dy_end bw hb
      have hs502 := bw.size
      replace h9 := Lv.on h9 hb
      replace h29 := Lv.on h29 hb
      replace PB := Blk.on PB hb
      replace QB := Blk.on QB hb
      replace DB := Blk.on DB hb
      clear hb
      obtain ⟨PB_0, PB_1, PB_2, PB_f0, PB_f1, PB_f2⟩ := Dbx.cells PB
      obtain ⟨QB_0, QB_1, QB_2, QB_f0, QB_f1, QB_f2⟩ := Dbx.cells QB
      obtain ⟨DB_0, DB_1, DB_2, DB_f0, DB_f1, DB_f2⟩ := Dbx.cells DB
      refine hK.out _ _ trivial (fun _ => ?_)
      clear hK K
      try simp only [Act.put, List.setIfInBounds_toArray, List.set_cons_zero, List.set_cons_succ, List.getElem_toArray, List.getElem_cons_zero, List.getElem_cons_succ]
      refine wpAnyH_ready (rs := [3]) (by kernel_rfl) (by simp) ?_
      refine (AllReadyH.cons rfl (fun K hK => ?_) AllReadyH.nil)
      go_simp
      with_reducible refine (rNorm_any (b := b2) (x := x2) h29 hn2 (by omega) (by omega)).mono ?_
      rintro e w602 ⟨b4, q4, A4, c4, x4, rfl, hd4, m4, hb⟩
      clear PB_0 PB_1 PB_2 PB_f0 PB_f1 PB_f2
      clear QB_0 QB_1 QB_2 QB_f0 QB_f1 QB_f2
      clear DB_0 DB_1 DB_2 DB_f0 DB_f1 DB_f2
      replace bw : Below w.heap.size w w602 := dy_end bw hb
      have hs602 := bw.size
      replace h9 := Lv.on h9 hb
      replace h29 := Lv.on h29 hb
      replace m3 := Lv.on m3 hb
      replace PB := Blk.on PB hb
      replace QB := Blk.on QB hb
      replace DB := Blk.on DB hb
      clear hb
      obtain ⟨PB_0, PB_1, PB_2, PB_f0, PB_f1, PB_f2⟩ := Dbx.cells PB
      obtain ⟨QB_0, QB_1, QB_2, QB_f0, QB_f1, QB_f2⟩ := Dbx.cells QB
      obtain ⟨DB_0, DB_1, DB_2, DB_f0, DB_f1, DB_f2⟩ := Dbx.cells DB
      refine hK.out _ _ trivial (fun _ => ?_)
      clear hK K
      try simp only [Act.put, List.setIfInBounds_toArray, List.set_cons_zero, List.set_cons_succ, List.getElem_toArray, List.getElem_cons_zero, List.getElem_cons_succ]
      refine wpAnyH_ready (rs := [4]) (by kernel_rfl) (by simp) ?_
      refine (AllReadyH.cons rfl (fun K hK => ?_) AllReadyH.nil)
      go_simp
      clear PB_0 PB_1 PB_2 PB_f0 PB_f1 PB_f2
      clear QB_0 QB_1 QB_2 QB_f0 QB_f1 QB_f2
      clear DB_0 DB_1 DB_2 DB_f0 DB_f1 DB_f2
      replace h9 := Lv.put h9 PB (b3) (A3) (q3.length) (c3) (x3)
      replace h29 := Lv.put h29 PB (b3) (A3) (q3.length) (c3) (x3)
      replace m3 := Lv.put m3 PB (b3) (A3) (q3.length) (c3) (x3)
      replace m4 := Lv.put m4 PB (b3) (A3) (q3.length) (c3) (x3)
      replace QB := Blk.putO QB (g := w.heap.size) (by omega) (.bool (b3)) (.slice (A3) (q3.length) (c3)) (.int .i64 (x3))
      replace DB := Blk.putO DB (g := w.heap.size) (by omega) (.bool (b3)) (.slice (A3) (q3.length) (c3)) (.int .i64 (x3))
      replace PB := Dbx.put PB (b3) (A3) (q3.length) (c3) (x3)
      obtain ⟨PB_0, PB_1, PB_2, PB_f0, PB_f1, PB_f2⟩ := Dbx.cells PB
      obtain ⟨QB_0, QB_1, QB_2, QB_f0, QB_f1, QB_f2⟩ := Dbx.cells QB
      obtain ⟨DB_0, DB_1, DB_2, DB_f0, DB_f1, DB_f2⟩ := Dbx.cells DB
      refine hK.out _ _ trivial (fun _ => ?_)
      clear hK K
      try simp only [Act.put, List.setIfInBounds_toArray, List.set_cons_zero, List.set_cons_succ, List.getElem_toArray, List.getElem_cons_zero, List.getElem_cons_succ]
      refine wpAnyH_ready (rs := [5]) (by kernel_rfl) (by simp) ?_
      refine (AllReadyH.cons rfl (fun K hK => ?_) AllReadyH.nil)
      go_simp
      clear PB_0 PB_1 PB_2 PB_f0 PB_f1 PB_f2
      clear QB_0 QB_1 QB_2 QB_f0 QB_f1 QB_f2
      clear DB_0 DB_1 DB_2 DB_f0 DB_f1 DB_f2
      replace h9 := Lv.put h9 QB (b4) (A4) (q4.length) (c4) (x4)
      replace h29 := Lv.put h29 QB (b4) (A4) (q4.length) (c4) (x4)
      replace m3 := Lv.put m3 QB (b4) (A4) (q4.length) (c4) (x4)
      replace m4 := Lv.put m4 QB (b4) (A4) (q4.length) (c4) (x4)
      replace PB := Blk.putO PB (g := (w.heap.size + 1)) (by omega) (.bool (b4)) (.slice (A4) (q4.length) (c4)) (.int .i64 (x4))
      replace DB := Blk.putO DB (g := (w.heap.size + 1)) (by omega) (.bool (b4)) (.slice (A4) (q4.length) (c4)) (.int .i64 (x4))
      replace QB := Dbx.put QB (b4) (A4) (q4.length) (c4) (x4)
      obtain ⟨PB_0, PB_1, PB_2, PB_f0, PB_f1, PB_f2⟩ := Dbx.cells PB
      obtain ⟨QB_0, QB_1, QB_2, QB_f0, QB_f1, QB_f2⟩ := Dbx.cells QB
      obtain ⟨DB_0, DB_1, DB_2, DB_f0, DB_f1, DB_f2⟩ := Dbx.cells DB
      refine hK.out _ _ trivial (fun _ => ?_)
      clear hK K
      try simp only [Act.put, List.setIfInBounds_toArray, List.set_cons_zero, List.set_cons_succ, List.getElem_toArray, List.getElem_cons_zero, List.getElem_cons_succ]
      refine wpAnyH_done (by kernel_rfl) ?_ _
      go_wp2_with fail
      go_meet
      case rel => exact ⟨b3, q3, A3, c3, x3, b4, q4, A4, c4, x4, hd3, hd4, m3, m4, PB, QB, DB, by go_grown⟩
  case rest =>
  clear PB_0 PB_1 PB_2 PB_f0 PB_f1 PB_f2
  clear QB_0 QB_1 QB_2 QB_f0 QB_f1 QB_f2
  clear DB_0 DB_1 DB_2 DB_f0 DB_f1 DB_f2
  clear PB QB DB bw
  obtain ⟨b3, q3, A3, c3, x3, b4, q4, A4, c4, x4, hd3, hd4, m3, m4, PB, QB, DB, bw⟩ := hcut
  have hsc := bw.size
  have hsd := Blk.lt DB
  obtain ⟨PB_0, PB_1, PB_2, PB_f0, PB_f1, PB_f2⟩ := Dbx.cells PB
  obtain ⟨QB_0, QB_1, QB_2, QB_f0, QB_f1, QB_f2⟩ := Dbx.cells QB
  obtain ⟨DB_0, DB_1, DB_2, DB_f0, DB_f1, DB_f2⟩ := Dbx.cells DB
  have X3 := exp_bd3 h hn ho hd3
  have X4 := exp_bd3 h2 hn2 ho2 hd4
  obtain ⟨X30, X31⟩ := X3
  obtain ⟨X40, X41⟩ := X4
  have pf := fun W (mm : Lv W A3 q3.length c3 q3) (mm2 : Lv W A4 q4.length c4 q4) => rFar_any mm mm2 hd3 hd4 (by omega) (by omega) (by omega) (by omega)
  rw [hf] at pf
  obtain ⟨p, v1, v2, u1, u2, hv, p0, p9, h6, h7, pl⟩ := lvl_facts m3 m4 hd3 hd4 hf hN X30 X31 X40 X41
  clear hx hx2 X30 X31 X40 X41
  by_cases hb34 : b3 = b4
  · have hS := h6 hb34
    clear h6 h7
    subst hb34
    have HS := Lib.hid hS
    clear hS
    have HV := Lib.hid hv
    clear hv
    go_wp2_with fail
    with_reducible refine (pf _ m3 m4).mono ?_
    rintro e w3 ⟨rfl, hb⟩
    clear PB_0 PB_1 PB_2 PB_f0 PB_f1 PB_f2
    clear QB_0 QB_1 QB_2 QB_f0 QB_f1 QB_f2
    clear DB_0 DB_1 DB_2 DB_f0 DB_f1 DB_f2
    have hs3 := hb.size
    try simp only [World.size_alloc, World.size_setCell] at hs3
    replace bw : Below w.heap.size w w3 := dy_end (by go_grown) hb
    replace m3 := Lv.on m3 hb
    replace m4 := Lv.on m4 hb
    replace PB := Blk.on PB hb
    replace QB := Blk.on QB hb
    replace DB := Blk.on DB hb
    clear hb
    obtain ⟨PB_0, PB_1, PB_2, PB_f0, PB_f1, PB_f2⟩ := Dbx.cells PB
    obtain ⟨QB_0, QB_1, QB_2, QB_f0, QB_f1, QB_f2⟩ := Dbx.cells QB
    obtain ⟨DB_0, DB_1, DB_2, DB_f0, DB_f1, DB_f2⟩ := Dbx.cells DB
    go_wp2_with fail
    with_reducible refine (pl _ m3 m4).mono ?_
    rintro e w4 ⟨L1, E1, f1, L2, E2, f2, rfl, nL1, nL2, vL1, vL2, mL1, mL2, hb⟩
    clear PB_0 PB_1 PB_2 PB_f0 PB_f1 PB_f2
    clear QB_0 QB_1 QB_2 QB_f0 QB_f1 QB_f2
    clear DB_0 DB_1 DB_2 DB_f0 DB_f1 DB_f2
    have hs4 := hb.size
    try simp only [World.size_alloc, World.size_setCell] at hs4
    replace bw : Below w.heap.size w w4 := dy_end (by go_grown) hb
    replace m3 := Lv.on m3 hb
    replace m4 := Lv.on m4 hb
    replace PB := Blk.on PB hb
    replace QB := Blk.on QB hb
    replace DB := Blk.on DB hb
    clear hb
    obtain ⟨PB_0, PB_1, PB_2, PB_f0, PB_f1, PB_f2⟩ := Dbx.cells PB
    obtain ⟨QB_0, QB_1, QB_2, QB_f0, QB_f1, QB_f2⟩ := Dbx.cells QB
    obtain ⟨DB_0, DB_1, DB_2, DB_f0, DB_f1, DB_f2⟩ := Dbx.cells DB
    have k1 : L1.length ≤ 4096 := length_le_of_lt (b := 18446744073709551616) (by omega) mL1.lim nL1 (by rw [vL1.out]; exact Int.lt_of_le_of_lt (by omega) HV.out)
    have k2 : L2.length ≤ 4096 := length_le_of_lt (b := 18446744073709551616) (by omega) mL2.lim nL2 (by rw [vL2.out]; exact Int.lt_of_le_of_lt (by omega) HV.out)
    go_upto_region 8 with fail
    refine wp_region_held_drew (S := fun w9 : World => w9.cell? ⟨w.heap.size, 0, none⟩ = some (.bool b3)) (by kernel_rfl) PB_0 (fun hHeld => ?_)
    refine wpAnyH_take (i := 0) (v := ?vsame0) rfl (by kernel_rfl) (by kernel_rfl) (by kernel_rfl) (fun _ _ _ h => h) (Or.inl ⟨by rfl, ?hysame0⟩) (by assumption) ?restsame0
    case hysame0 => (intro w hSw; (try dsimp only at hSw); go_simp; try with_reducible rfl)
    simp only [Act.put, List.setIfInBounds_toArray, List.set_cons_zero, List.set_cons_succ, List.getElem_toArray, List.getElem_cons_zero, List.getElem_cons_succ]
    refine wpAnyH_take (i := 1) (v := ?vsame1) rfl (by kernel_rfl) (by kernel_rfl) (by kernel_rfl) (fun _ _ _ h => h) (Or.inl ⟨by rfl, ?hysame1⟩) (by assumption) ?restsame1
    case hysame1 => (intro w hSw; (try dsimp only at hSw); go_simp; try with_reducible rfl)
    simp only [Act.put, List.setIfInBounds_toArray, List.set_cons_zero, List.set_cons_succ, List.getElem_toArray, List.getElem_cons_zero, List.getElem_cons_succ]
    refine wpAnyH_take (i := 2) (v := ?vsame2) rfl (by kernel_rfl) (by kernel_rfl) (by kernel_rfl) (fun _ _ _ h => h) (Or.inl ⟨by rfl, ?hysame2⟩) (by assumption) ?restsame2
    case hysame2 => (intro w hSw; (try dsimp only at hSw); go_simp; try with_reducible rfl)
    simp only [Act.put, List.setIfInBounds_toArray, List.set_cons_zero, List.set_cons_succ, List.getElem_toArray, List.getElem_cons_zero, List.getElem_cons_succ]
    refine wpAnyH_take (i := 3) (v := ?vsame3) rfl (by kernel_rfl) (by kernel_rfl) (by kernel_rfl) (fun _ _ _ h => h) (Or.inl ⟨by rfl, ?hysame3⟩) (by assumption) ?restsame3
    case hysame3 => (intro w hSw; (try dsimp only at hSw); go_simp; try with_reducible rfl)
    simp only [Act.put, List.setIfInBounds_toArray, List.set_cons_zero, List.set_cons_succ, List.getElem_toArray, List.getElem_cons_zero, List.getElem_cons_succ]
    refine wpAnyH_take (i := 5) (v := ?vsame5) rfl (by kernel_rfl) (by kernel_rfl) (by kernel_rfl) (fun _ _ _ h => h) (Or.inl ⟨by rfl, ?hysame5⟩) (by assumption) ?restsame5
    case hysame5 => (intro w hSw; (try dsimp only at hSw); go_simp; try with_reducible rfl)
    simp only [Act.put, List.setIfInBounds_toArray, List.set_cons_zero, List.set_cons_succ, List.getElem_toArray, List.getElem_cons_zero, List.getElem_cons_succ]
    clear PB_0 PB_1 PB_2 PB_f0 PB_f1 PB_f2
    clear QB_0 QB_1 QB_2 QB_f0 QB_f1 QB_f2
    clear DB_0 DB_1 DB_2 DB_f0 DB_f1 DB_f2
    clear PB QB
    refine wpAnyH_ready (rs := [4]) (by kernel_rfl) (by simp) ?_
    refine AllReadyH.cons rfl (fun K hK => ?_) AllReadyH.nil
    go_simp
    with_reducible refine (refAdd_lv (mL1.on (Below.refl _ _).drew) (mL2.on (Below.refl _ _).drew) (by omega) (by omega)).mono ?_
    rintro e w5 ⟨q5, A5, c5, rfl, k5, v5, m5, hb5⟩
    have hs5 := hb5.size
    simp only [World.size_drew] at hs5
    replace bw : Below w.heap.size w w5 := dy_end (dy_end bw (Below.refl _ _).drew) hb5
    replace DB := (Blk.drew DB).on hb5
    rw [vL1.out, vL2.out] at v5
    have hq5 : q5.length ≤ 4096 := length_le_of_lt (b := 18446744073709551616) (by omega) m5.lim k5 (by rw [v5.out]; exact Int.lt_of_le_of_lt (by omega) HV.out)
    have p6 := fun W (mm : Lv W A5 q5.length c5 q5) => rDone_any (b := b3) (x := p) mm hq5 (by omega) (by omega)
    rw [v5.out, HS.out] at p6
    refine hK.out _ _ ((hb5.cell (p := ⟨w.heap.size, 0, none⟩) (by first | omega | (dsimp only; omega) | (simp; omega) | (simp; done))).trans hHeld) (fun hHeld => ?_)
    clear hK K
    try simp only [Act.put, List.setIfInBounds_toArray, List.set_cons_zero, List.set_cons_succ, List.getElem_toArray, List.getElem_cons_zero, List.getElem_cons_succ]
    clear hb5
    refine wpAnyH_take (i := 6) (v := ?vsame6) rfl (by kernel_rfl) (by kernel_rfl) (by kernel_rfl) (fun _ _ _ h => h) (Or.inl ⟨by rfl, ?hysame6⟩) (by assumption) ?restsame6
    case hysame6 => (intro w hSw; (try dsimp only at hSw); go_simp; try with_reducible rfl)
    simp only [Act.put, List.setIfInBounds_toArray, List.set_cons_zero, List.set_cons_succ, List.getElem_toArray, List.getElem_cons_zero, List.getElem_cons_succ]
    refine wpAnyH_ready (rs := [7]) (by kernel_rfl) (by simp) ?_
    refine AllReadyH.cons rfl (fun K hK => ?_) AllReadyH.nil
    go_simp
    with_reducible refine (p6 _ m5).mono ?_
    rintro e w6 ⟨b6, q6, A6, c6, x6, rfl, hd6, m6, hb6⟩
    have hs6 := hb6.size
    replace bw : Below w.heap.size w w6 := dy_end bw hb6
    replace DB := Blk.on DB hb6
    refine hK.out _ _ ((hb6.cell (p := ⟨w.heap.size, 0, none⟩) (by first | omega | (dsimp only; omega) | (simp; omega) | (simp; done))).trans hHeld) (fun hHeld => ?_)
    clear hK K
    try simp only [Act.put, List.setIfInBounds_toArray, List.set_cons_zero, List.set_cons_succ, List.getElem_toArray, List.getElem_cons_zero, List.getElem_cons_succ]
    clear hb6 p6 m5
    obtain ⟨DB_0, DB_1, DB_2, DB_f0, DB_f1, DB_f2⟩ := Dbx.cells DB
    refine wpAnyH_take (i := 8) (v := ?vsame8) rfl (by kernel_rfl) (by kernel_rfl) (by kernel_rfl) (fun _ _ _ h => h) (Or.inl ⟨by rfl, ?hysame8⟩) (by assumption) ?restsame8
    case hysame8 => (intro w hSw; (try dsimp only at hSw); go_simp; try with_reducible rfl)
    simp only [Act.put, List.setIfInBounds_toArray, List.set_cons_zero, List.set_cons_succ, List.getElem_toArray, List.getElem_cons_zero, List.getElem_cons_succ]
    refine wpAnyH_take (i := 9) (v := ?vsame9) rfl (by kernel_rfl) (by kernel_rfl) (by kernel_rfl) (fun _ _ _ h => h) (Or.inl ⟨by rfl, ?hysame9⟩) (by assumption) ?restsame9
    case hysame9 => (intro w hSw; (try dsimp only at hSw); go_simp; try with_reducible rfl)
    simp only [Act.put, List.setIfInBounds_toArray, List.set_cons_zero, List.set_cons_succ, List.getElem_toArray, List.getElem_cons_zero, List.getElem_cons_succ]
    refine wpAnyH_ready (rs := [10]) (by kernel_rfl) (by simp) ?_
    refine AllReadyH.cons rfl (fun K hK => ?_) AllReadyH.nil
    go_simp
    refine hK.out _ _ (put_cell hHeld (by dsimp only; omega) _ _ _) (fun hHeld => ?_)
    clear hK K
    try simp only [Act.put, List.setIfInBounds_toArray, List.set_cons_zero, List.set_cons_succ, List.getElem_toArray, List.getElem_cons_zero, List.getElem_cons_succ]
    refine wpAnyH_take (i := 11) (v := ?vsame11) rfl (by kernel_rfl) (by kernel_rfl) (by kernel_rfl) (fun _ _ _ h => h) (Or.inl ⟨by rfl, ?hysame11⟩) (by assumption) ?restsame11
    case hysame11 => (intro w hSw; (try dsimp only at hSw); go_simp; try with_reducible rfl)
    simp only [Act.put, List.setIfInBounds_toArray, List.set_cons_zero, List.set_cons_succ, List.getElem_toArray, List.getElem_cons_zero, List.getElem_cons_succ]
    refine wpAnyH_done (by kernel_rfl) ?_ _
    replace m6 := m6.put DB b6 A6 q6.length c6 x6
    clear DB_0 DB_1 DB_2 DB_f0 DB_f1 DB_f2
    replace DB := Dbx.put DB b6 A6 q6.length c6 x6
    clear hHeld
    obtain ⟨DB_0, DB_1, DB_2, DB_f0, DB_f1, DB_f2⟩ := Dbx.cells DB
    go_wp2_with fail
    refine bodyPost_ret (v := .tuple #[dyV b6 A6 q6.length c6 x6, .int .i64 (doneR (sumN (nfl b (val 18446744073709551616 l) x) (nfl b2 (val 18446744073709551616 l2) x2))).2]) (by simp [results, Tryz.results39, go_sem, DB_0, DB_1, DB_2, DB_f0, DB_f1, DB_f2]) rfl ?_
    exact ⟨b6, q6, A6, c6, x6, rfl, hd6, m6, by go_grown⟩
  · rcases Int.lt_or_le v1 v2 with hvv | hvv
    · have hbb : (b3 == b4) = false := beq_eq_false_iff_ne.2 hb34
      have hS := (h7 hb34).2
      clear h6 h7
      have HS := Lib.hid hS
      clear hS
      have HV := Lib.hid hv
      clear hv
      go_wp2_with fail
      with_reducible refine (pf _ m3 m4).mono ?_
      rintro e w3 ⟨rfl, hb⟩
      clear PB_0 PB_1 PB_2 PB_f0 PB_f1 PB_f2
      clear QB_0 QB_1 QB_2 QB_f0 QB_f1 QB_f2
      clear DB_0 DB_1 DB_2 DB_f0 DB_f1 DB_f2
      have hs3 := hb.size
      try simp only [World.size_alloc, World.size_setCell] at hs3
      replace bw : Below w.heap.size w w3 := dy_end (by go_grown) hb
      replace m3 := Lv.on m3 hb
      replace m4 := Lv.on m4 hb
      replace PB := Blk.on PB hb
      replace QB := Blk.on QB hb
      replace DB := Blk.on DB hb
      clear hb
      obtain ⟨PB_0, PB_1, PB_2, PB_f0, PB_f1, PB_f2⟩ := Dbx.cells PB
      obtain ⟨QB_0, QB_1, QB_2, QB_f0, QB_f1, QB_f2⟩ := Dbx.cells QB
      obtain ⟨DB_0, DB_1, DB_2, DB_f0, DB_f1, DB_f2⟩ := Dbx.cells DB
      go_wp2_with fail
      with_reducible refine (pl _ m3 m4).mono ?_
      rintro e w4 ⟨L1, E1, f1, L2, E2, f2, rfl, nL1, nL2, vL1, vL2, mL1, mL2, hb⟩
      clear PB_0 PB_1 PB_2 PB_f0 PB_f1 PB_f2
      clear QB_0 QB_1 QB_2 QB_f0 QB_f1 QB_f2
      clear DB_0 DB_1 DB_2 DB_f0 DB_f1 DB_f2
      have hs4 := hb.size
      try simp only [World.size_alloc, World.size_setCell] at hs4
      replace bw : Below w.heap.size w w4 := dy_end (by go_grown) hb
      replace m3 := Lv.on m3 hb
      replace m4 := Lv.on m4 hb
      replace PB := Blk.on PB hb
      replace QB := Blk.on QB hb
      replace DB := Blk.on DB hb
      clear hb
      obtain ⟨PB_0, PB_1, PB_2, PB_f0, PB_f1, PB_f2⟩ := Dbx.cells PB
      obtain ⟨QB_0, QB_1, QB_2, QB_f0, QB_f1, QB_f2⟩ := Dbx.cells QB
      obtain ⟨DB_0, DB_1, DB_2, DB_f0, DB_f1, DB_f2⟩ := Dbx.cells DB
      have k1 : L1.length ≤ 4096 := length_le_of_lt (b := 18446744073709551616) (by omega) mL1.lim nL1 (by rw [vL1.out]; exact Int.lt_of_le_of_lt (by omega) HV.out)
      have k2 : L2.length ≤ 4096 := length_le_of_lt (b := 18446744073709551616) (by omega) mL2.lim nL2 (by rw [vL2.out]; exact Int.lt_of_le_of_lt (by omega) HV.out)
      have pc := fun W (mm : Lv W E1 L1.length f1 L1) (mm2 : Lv W E2 L2.length f2 L2) => refCmp_any mm mm2 (by omega) (by omega)
      rw [vL1.out, vL2.out] at pc
      rw [sg_lt hvv] at pc
      go_wp2_with fail
      with_reducible refine (pc _ mL1 mL2).mono ?_
      rintro e w5 ⟨rfl, hb⟩
      clear PB_0 PB_1 PB_2 PB_f0 PB_f1 PB_f2
      clear QB_0 QB_1 QB_2 QB_f0 QB_f1 QB_f2
      clear DB_0 DB_1 DB_2 DB_f0 DB_f1 DB_f2
      have hs5 := hb.size
      try simp only [World.size_alloc, World.size_setCell] at hs5
      replace bw : Below w.heap.size w w5 := dy_end (by go_grown) hb
      replace m3 := Lv.on m3 hb
      replace m4 := Lv.on m4 hb
      replace mL1 := Lv.on mL1 hb
      replace mL2 := Lv.on mL2 hb
      replace PB := Blk.on PB hb
      replace QB := Blk.on QB hb
      replace DB := Blk.on DB hb
      clear hb
      obtain ⟨PB_0, PB_1, PB_2, PB_f0, PB_f1, PB_f2⟩ := Dbx.cells PB
      obtain ⟨QB_0, QB_1, QB_2, QB_f0, QB_f1, QB_f2⟩ := Dbx.cells QB
      obtain ⟨DB_0, DB_1, DB_2, DB_f0, DB_f1, DB_f2⟩ := Dbx.cells DB
      clear pc
      go_upto_region 11 with fail
      refine wp_region_held_drew (S := fun w9 : World => w9.cell? ⟨w.heap.size + 1, 0, none⟩ = some (.bool b4)) (by kernel_rfl) QB_0 (fun hHeld => ?_)
      refine wpAnyH_take (i := 0) (v := ?vlt0) rfl (by kernel_rfl) (by kernel_rfl) (by kernel_rfl) (fun _ _ _ h => h) (Or.inl ⟨by rfl, ?hylt0⟩) (by assumption) ?restlt0
      case hylt0 => (intro w hSw; (try dsimp only at hSw); go_simp; try with_reducible rfl)
      simp only [Act.put, List.setIfInBounds_toArray, List.set_cons_zero, List.set_cons_succ, List.getElem_toArray, List.getElem_cons_zero, List.getElem_cons_succ]
      refine wpAnyH_take (i := 1) (v := ?vlt1) rfl (by kernel_rfl) (by kernel_rfl) (by kernel_rfl) (fun _ _ _ h => h) (Or.inl ⟨by rfl, ?hylt1⟩) (by assumption) ?restlt1
      case hylt1 => (intro w hSw; (try dsimp only at hSw); go_simp; try with_reducible rfl)
      simp only [Act.put, List.setIfInBounds_toArray, List.set_cons_zero, List.set_cons_succ, List.getElem_toArray, List.getElem_cons_zero, List.getElem_cons_succ]
      refine wpAnyH_take (i := 2) (v := ?vlt2) rfl (by kernel_rfl) (by kernel_rfl) (by kernel_rfl) (fun _ _ _ h => h) (Or.inl ⟨by rfl, ?hylt2⟩) (by assumption) ?restlt2
      case hylt2 => (intro w hSw; (try dsimp only at hSw); go_simp; try with_reducible rfl)
      simp only [Act.put, List.setIfInBounds_toArray, List.set_cons_zero, List.set_cons_succ, List.getElem_toArray, List.getElem_cons_zero, List.getElem_cons_succ]
      refine wpAnyH_take (i := 3) (v := ?vlt3) rfl (by kernel_rfl) (by kernel_rfl) (by kernel_rfl) (fun _ _ _ h => h) (Or.inl ⟨by rfl, ?hylt3⟩) (by assumption) ?restlt3
      case hylt3 => (intro w hSw; (try dsimp only at hSw); go_simp; try with_reducible rfl)
      simp only [Act.put, List.setIfInBounds_toArray, List.set_cons_zero, List.set_cons_succ, List.getElem_toArray, List.getElem_cons_zero, List.getElem_cons_succ]
      refine wpAnyH_take (i := 5) (v := ?vlt5) rfl (by kernel_rfl) (by kernel_rfl) (by kernel_rfl) (fun _ _ _ h => h) (Or.inl ⟨by rfl, ?hylt5⟩) (by assumption) ?restlt5
      case hylt5 => (intro w hSw; (try dsimp only at hSw); go_simp; try with_reducible rfl)
      simp only [Act.put, List.setIfInBounds_toArray, List.set_cons_zero, List.set_cons_succ, List.getElem_toArray, List.getElem_cons_zero, List.getElem_cons_succ]
      clear PB_0 PB_1 PB_2 PB_f0 PB_f1 PB_f2
      clear QB_0 QB_1 QB_2 QB_f0 QB_f1 QB_f2
      clear DB_0 DB_1 DB_2 DB_f0 DB_f1 DB_f2
      clear PB QB
      refine wpAnyH_ready (rs := [4]) (by kernel_rfl) (by simp) ?_
      refine AllReadyH.cons rfl (fun K hK => ?_) AllReadyH.nil
      go_simp
      with_reducible refine (refSub_lv (mL2.on (Below.refl _ _).drew) (mL1.on (Below.refl _ _).drew) (by omega) (by omega) (by rw [vL1.out, vL2.out]; exact Int.le_of_lt hvv)).mono ?_
      rintro e w5 ⟨q5, A5, c5, rfl, k5, v5, m5, hb5⟩
      have hs5 := hb5.size
      simp only [World.size_drew] at hs5
      replace bw : Below w.heap.size w w5 := dy_end (dy_end bw (Below.refl _ _).drew) hb5
      replace DB := (Blk.drew DB).on hb5
      rw [vL1.out, vL2.out] at v5
      have hq5 : q5.length ≤ 4096 := length_le_of_lt (b := 18446744073709551616) (by omega) m5.lim k5 (by rw [v5.out]; exact Int.lt_of_le_of_lt (by omega) HV.out)
      have p6 := fun W (mm : Lv W A5 q5.length c5 q5) => rDone_any (b := b4) (x := p) mm hq5 (by omega) (by omega)
      rw [v5.out, HS.out] at p6
      refine hK.out _ _ ((hb5.cell (p := ⟨w.heap.size + 1, 0, none⟩) (by first | omega | (dsimp only; omega) | (simp; omega) | (simp; done))).trans hHeld) (fun hHeld => ?_)
      clear hK K
      try simp only [Act.put, List.setIfInBounds_toArray, List.set_cons_zero, List.set_cons_succ, List.getElem_toArray, List.getElem_cons_zero, List.getElem_cons_succ]
      clear hb5
      refine wpAnyH_take (i := 6) (v := ?vlt6) rfl (by kernel_rfl) (by kernel_rfl) (by kernel_rfl) (fun _ _ _ h => h) (Or.inl ⟨by rfl, ?hylt6⟩) (by assumption) ?restlt6
      case hylt6 => (intro w hSw; (try dsimp only at hSw); go_simp; try with_reducible rfl)
      simp only [Act.put, List.setIfInBounds_toArray, List.set_cons_zero, List.set_cons_succ, List.getElem_toArray, List.getElem_cons_zero, List.getElem_cons_succ]
      refine wpAnyH_ready (rs := [7]) (by kernel_rfl) (by simp) ?_
      refine AllReadyH.cons rfl (fun K hK => ?_) AllReadyH.nil
      go_simp
      with_reducible refine (p6 _ m5).mono ?_
      rintro e w6 ⟨b6, q6, A6, c6, x6, rfl, hd6, m6, hb6⟩
      have hs6 := hb6.size
      replace bw : Below w.heap.size w w6 := dy_end bw hb6
      replace DB := Blk.on DB hb6
      refine hK.out _ _ ((hb6.cell (p := ⟨w.heap.size + 1, 0, none⟩) (by first | omega | (dsimp only; omega) | (simp; omega) | (simp; done))).trans hHeld) (fun hHeld => ?_)
      clear hK K
      try simp only [Act.put, List.setIfInBounds_toArray, List.set_cons_zero, List.set_cons_succ, List.getElem_toArray, List.getElem_cons_zero, List.getElem_cons_succ]
      clear hb6 p6 m5
      obtain ⟨DB_0, DB_1, DB_2, DB_f0, DB_f1, DB_f2⟩ := Dbx.cells DB
      refine wpAnyH_take (i := 8) (v := ?vlt8) rfl (by kernel_rfl) (by kernel_rfl) (by kernel_rfl) (fun _ _ _ h => h) (Or.inl ⟨by rfl, ?hylt8⟩) (by assumption) ?restlt8
      case hylt8 => (intro w hSw; (try dsimp only at hSw); go_simp; try with_reducible rfl)
      simp only [Act.put, List.setIfInBounds_toArray, List.set_cons_zero, List.set_cons_succ, List.getElem_toArray, List.getElem_cons_zero, List.getElem_cons_succ]
      refine wpAnyH_take (i := 9) (v := ?vlt9) rfl (by kernel_rfl) (by kernel_rfl) (by kernel_rfl) (fun _ _ _ h => h) (Or.inl ⟨by rfl, ?hylt9⟩) (by assumption) ?restlt9
      case hylt9 => (intro w hSw; (try dsimp only at hSw); go_simp; try with_reducible rfl)
      simp only [Act.put, List.setIfInBounds_toArray, List.set_cons_zero, List.set_cons_succ, List.getElem_toArray, List.getElem_cons_zero, List.getElem_cons_succ]
      refine wpAnyH_ready (rs := [10]) (by kernel_rfl) (by simp) ?_
      refine AllReadyH.cons rfl (fun K hK => ?_) AllReadyH.nil
      go_simp
      refine hK.out _ _ (put_cell hHeld (by dsimp only; omega) _ _ _) (fun hHeld => ?_)
      clear hK K
      try simp only [Act.put, List.setIfInBounds_toArray, List.set_cons_zero, List.set_cons_succ, List.getElem_toArray, List.getElem_cons_zero, List.getElem_cons_succ]
      refine wpAnyH_take (i := 11) (v := ?vlt11) rfl (by kernel_rfl) (by kernel_rfl) (by kernel_rfl) (fun _ _ _ h => h) (Or.inl ⟨by rfl, ?hylt11⟩) (by assumption) ?restlt11
      case hylt11 => (intro w hSw; (try dsimp only at hSw); go_simp; try with_reducible rfl)
      simp only [Act.put, List.setIfInBounds_toArray, List.set_cons_zero, List.set_cons_succ, List.getElem_toArray, List.getElem_cons_zero, List.getElem_cons_succ]
      refine wpAnyH_done (by kernel_rfl) ?_ _
      replace m6 := m6.put DB b6 A6 q6.length c6 x6
      clear DB_0 DB_1 DB_2 DB_f0 DB_f1 DB_f2
      replace DB := Dbx.put DB b6 A6 q6.length c6 x6
      clear hHeld
      obtain ⟨DB_0, DB_1, DB_2, DB_f0, DB_f1, DB_f2⟩ := Dbx.cells DB
      go_wp2_with fail
      refine bodyPost_ret (v := .tuple #[dyV b6 A6 q6.length c6 x6, .int .i64 (doneR (sumN (nfl b (val 18446744073709551616 l) x) (nfl b2 (val 18446744073709551616 l2) x2))).2]) (by simp [results, Tryz.results39, go_sem, DB_0, DB_1, DB_2, DB_f0, DB_f1, DB_f2]) rfl ?_
      exact ⟨b6, q6, A6, c6, x6, rfl, hd6, m6, by go_grown⟩
    · have hbb : (b3 == b4) = false := beq_eq_false_iff_ne.2 hb34
      have hS := (h7 hb34).1
      clear h6 h7
      have HS := Lib.hid hS
      clear hS
      have HV := Lib.hid hv
      clear hv
      go_wp2_with fail
      with_reducible refine (pf _ m3 m4).mono ?_
      rintro e w3 ⟨rfl, hb⟩
      clear PB_0 PB_1 PB_2 PB_f0 PB_f1 PB_f2
      clear QB_0 QB_1 QB_2 QB_f0 QB_f1 QB_f2
      clear DB_0 DB_1 DB_2 DB_f0 DB_f1 DB_f2
      have hs3 := hb.size
      try simp only [World.size_alloc, World.size_setCell] at hs3
      replace bw : Below w.heap.size w w3 := dy_end (by go_grown) hb
      replace m3 := Lv.on m3 hb
      replace m4 := Lv.on m4 hb
      replace PB := Blk.on PB hb
      replace QB := Blk.on QB hb
      replace DB := Blk.on DB hb
      clear hb
      obtain ⟨PB_0, PB_1, PB_2, PB_f0, PB_f1, PB_f2⟩ := Dbx.cells PB
      obtain ⟨QB_0, QB_1, QB_2, QB_f0, QB_f1, QB_f2⟩ := Dbx.cells QB
      obtain ⟨DB_0, DB_1, DB_2, DB_f0, DB_f1, DB_f2⟩ := Dbx.cells DB
      go_wp2_with fail
      with_reducible refine (pl _ m3 m4).mono ?_
      rintro e w4 ⟨L1, E1, f1, L2, E2, f2, rfl, nL1, nL2, vL1, vL2, mL1, mL2, hb⟩
      clear PB_0 PB_1 PB_2 PB_f0 PB_f1 PB_f2
      clear QB_0 QB_1 QB_2 QB_f0 QB_f1 QB_f2
      clear DB_0 DB_1 DB_2 DB_f0 DB_f1 DB_f2
      have hs4 := hb.size
      try simp only [World.size_alloc, World.size_setCell] at hs4
      replace bw : Below w.heap.size w w4 := dy_end (by go_grown) hb
      replace m3 := Lv.on m3 hb
      replace m4 := Lv.on m4 hb
      replace PB := Blk.on PB hb
      replace QB := Blk.on QB hb
      replace DB := Blk.on DB hb
      clear hb
      obtain ⟨PB_0, PB_1, PB_2, PB_f0, PB_f1, PB_f2⟩ := Dbx.cells PB
      obtain ⟨QB_0, QB_1, QB_2, QB_f0, QB_f1, QB_f2⟩ := Dbx.cells QB
      obtain ⟨DB_0, DB_1, DB_2, DB_f0, DB_f1, DB_f2⟩ := Dbx.cells DB
      have k1 : L1.length ≤ 4096 := length_le_of_lt (b := 18446744073709551616) (by omega) mL1.lim nL1 (by rw [vL1.out]; exact Int.lt_of_le_of_lt (by omega) HV.out)
      have k2 : L2.length ≤ 4096 := length_le_of_lt (b := 18446744073709551616) (by omega) mL2.lim nL2 (by rw [vL2.out]; exact Int.lt_of_le_of_lt (by omega) HV.out)
      have pc := fun W (mm : Lv W E1 L1.length f1 L1) (mm2 : Lv W E2 L2.length f2 L2) => refCmp_any mm mm2 (by omega) (by omega)
      rw [vL1.out, vL2.out] at pc
      obtain ⟨sv, hsv, hs0⟩ : ∃ s, sg v1 v2 = s ∧ 0 ≤ s := ⟨_, rfl, by unfold sg; split <;> (try split) <;> omega⟩
      rw [hsv] at pc
      clear hsv
      go_wp2_with fail
      with_reducible refine (pc _ mL1 mL2).mono ?_
      rintro e w5 ⟨rfl, hb⟩
      clear PB_0 PB_1 PB_2 PB_f0 PB_f1 PB_f2
      clear QB_0 QB_1 QB_2 QB_f0 QB_f1 QB_f2
      clear DB_0 DB_1 DB_2 DB_f0 DB_f1 DB_f2
      have hs5 := hb.size
      try simp only [World.size_alloc, World.size_setCell] at hs5
      replace bw : Below w.heap.size w w5 := dy_end (by go_grown) hb
      replace m3 := Lv.on m3 hb
      replace m4 := Lv.on m4 hb
      replace mL1 := Lv.on mL1 hb
      replace mL2 := Lv.on mL2 hb
      replace PB := Blk.on PB hb
      replace QB := Blk.on QB hb
      replace DB := Blk.on DB hb
      clear hb
      obtain ⟨PB_0, PB_1, PB_2, PB_f0, PB_f1, PB_f2⟩ := Dbx.cells PB
      obtain ⟨QB_0, QB_1, QB_2, QB_f0, QB_f1, QB_f2⟩ := Dbx.cells QB
      obtain ⟨DB_0, DB_1, DB_2, DB_f0, DB_f1, DB_f2⟩ := Dbx.cells DB
      clear pc
      go_upto_region 10 with fail
      refine wp_region_held_drew (S := fun w9 : World => w9.cell? ⟨w.heap.size, 0, none⟩ = some (.bool b3)) (by kernel_rfl) PB_0 (fun hHeld => ?_)
      refine wpAnyH_take (i := 0) (v := ?vge0) rfl (by kernel_rfl) (by kernel_rfl) (by kernel_rfl) (fun _ _ _ h => h) (Or.inl ⟨by rfl, ?hyge0⟩) (by assumption) ?restge0
      case hyge0 => (intro w hSw; (try dsimp only at hSw); go_simp; try with_reducible rfl)
      simp only [Act.put, List.setIfInBounds_toArray, List.set_cons_zero, List.set_cons_succ, List.getElem_toArray, List.getElem_cons_zero, List.getElem_cons_succ]
      refine wpAnyH_take (i := 1) (v := ?vge1) rfl (by kernel_rfl) (by kernel_rfl) (by kernel_rfl) (fun _ _ _ h => h) (Or.inl ⟨by rfl, ?hyge1⟩) (by assumption) ?restge1
      case hyge1 => (intro w hSw; (try dsimp only at hSw); go_simp; try with_reducible rfl)
      simp only [Act.put, List.setIfInBounds_toArray, List.set_cons_zero, List.set_cons_succ, List.getElem_toArray, List.getElem_cons_zero, List.getElem_cons_succ]
      refine wpAnyH_take (i := 2) (v := ?vge2) rfl (by kernel_rfl) (by kernel_rfl) (by kernel_rfl) (fun _ _ _ h => h) (Or.inl ⟨by rfl, ?hyge2⟩) (by assumption) ?restge2
      case hyge2 => (intro w hSw; (try dsimp only at hSw); go_simp; try with_reducible rfl)
      simp only [Act.put, List.setIfInBounds_toArray, List.set_cons_zero, List.set_cons_succ, List.getElem_toArray, List.getElem_cons_zero, List.getElem_cons_succ]
      refine wpAnyH_take (i := 3) (v := ?vge3) rfl (by kernel_rfl) (by kernel_rfl) (by kernel_rfl) (fun _ _ _ h => h) (Or.inl ⟨by rfl, ?hyge3⟩) (by assumption) ?restge3
      case hyge3 => (intro w hSw; (try dsimp only at hSw); go_simp; try with_reducible rfl)
      simp only [Act.put, List.setIfInBounds_toArray, List.set_cons_zero, List.set_cons_succ, List.getElem_toArray, List.getElem_cons_zero, List.getElem_cons_succ]
      refine wpAnyH_take (i := 5) (v := ?vge5) rfl (by kernel_rfl) (by kernel_rfl) (by kernel_rfl) (fun _ _ _ h => h) (Or.inl ⟨by rfl, ?hyge5⟩) (by assumption) ?restge5
      case hyge5 => (intro w hSw; (try dsimp only at hSw); go_simp; try with_reducible rfl)
      simp only [Act.put, List.setIfInBounds_toArray, List.set_cons_zero, List.set_cons_succ, List.getElem_toArray, List.getElem_cons_zero, List.getElem_cons_succ]
      clear PB_0 PB_1 PB_2 PB_f0 PB_f1 PB_f2
      clear QB_0 QB_1 QB_2 QB_f0 QB_f1 QB_f2
      clear DB_0 DB_1 DB_2 DB_f0 DB_f1 DB_f2
      clear PB QB
      refine wpAnyH_ready (rs := [4]) (by kernel_rfl) (by simp) ?_
      refine AllReadyH.cons rfl (fun K hK => ?_) AllReadyH.nil
      go_simp
      with_reducible refine (refSub_lv (mL1.on (Below.refl _ _).drew) (mL2.on (Below.refl _ _).drew) (by omega) (by omega) (by rw [vL1.out, vL2.out]; exact hvv)).mono ?_
      rintro e w5 ⟨q5, A5, c5, rfl, k5, v5, m5, hb5⟩
      have hs5 := hb5.size
      simp only [World.size_drew] at hs5
      replace bw : Below w.heap.size w w5 := dy_end (dy_end bw (Below.refl _ _).drew) hb5
      replace DB := (Blk.drew DB).on hb5
      rw [vL1.out, vL2.out] at v5
      have hq5 : q5.length ≤ 4096 := length_le_of_lt (b := 18446744073709551616) (by omega) m5.lim k5 (by rw [v5.out]; exact Int.lt_of_le_of_lt (by omega) HV.out)
      have p6 := fun W (mm : Lv W A5 q5.length c5 q5) => rDone_any (b := b3) (x := p) mm hq5 (by omega) (by omega)
      rw [v5.out, HS.out] at p6
      refine hK.out _ _ ((hb5.cell (p := ⟨w.heap.size, 0, none⟩) (by first | omega | (dsimp only; omega) | (simp; omega) | (simp; done))).trans hHeld) (fun hHeld => ?_)
      clear hK K
      try simp only [Act.put, List.setIfInBounds_toArray, List.set_cons_zero, List.set_cons_succ, List.getElem_toArray, List.getElem_cons_zero, List.getElem_cons_succ]
      clear hb5
      refine wpAnyH_take (i := 6) (v := ?vge6) rfl (by kernel_rfl) (by kernel_rfl) (by kernel_rfl) (fun _ _ _ h => h) (Or.inl ⟨by rfl, ?hyge6⟩) (by assumption) ?restge6
      case hyge6 => (intro w hSw; (try dsimp only at hSw); go_simp; try with_reducible rfl)
      simp only [Act.put, List.setIfInBounds_toArray, List.set_cons_zero, List.set_cons_succ, List.getElem_toArray, List.getElem_cons_zero, List.getElem_cons_succ]
      refine wpAnyH_ready (rs := [7]) (by kernel_rfl) (by simp) ?_
      refine AllReadyH.cons rfl (fun K hK => ?_) AllReadyH.nil
      go_simp
      with_reducible refine (p6 _ m5).mono ?_
      rintro e w6 ⟨b6, q6, A6, c6, x6, rfl, hd6, m6, hb6⟩
      have hs6 := hb6.size
      replace bw : Below w.heap.size w w6 := dy_end bw hb6
      replace DB := Blk.on DB hb6
      refine hK.out _ _ ((hb6.cell (p := ⟨w.heap.size, 0, none⟩) (by first | omega | (dsimp only; omega) | (simp; omega) | (simp; done))).trans hHeld) (fun hHeld => ?_)
      clear hK K
      try simp only [Act.put, List.setIfInBounds_toArray, List.set_cons_zero, List.set_cons_succ, List.getElem_toArray, List.getElem_cons_zero, List.getElem_cons_succ]
      clear hb6 p6 m5
      obtain ⟨DB_0, DB_1, DB_2, DB_f0, DB_f1, DB_f2⟩ := Dbx.cells DB
      refine wpAnyH_take (i := 8) (v := ?vge8) rfl (by kernel_rfl) (by kernel_rfl) (by kernel_rfl) (fun _ _ _ h => h) (Or.inl ⟨by rfl, ?hyge8⟩) (by assumption) ?restge8
      case hyge8 => (intro w hSw; (try dsimp only at hSw); go_simp; try with_reducible rfl)
      simp only [Act.put, List.setIfInBounds_toArray, List.set_cons_zero, List.set_cons_succ, List.getElem_toArray, List.getElem_cons_zero, List.getElem_cons_succ]
      refine wpAnyH_take (i := 9) (v := ?vge9) rfl (by kernel_rfl) (by kernel_rfl) (by kernel_rfl) (fun _ _ _ h => h) (Or.inl ⟨by rfl, ?hyge9⟩) (by assumption) ?restge9
      case hyge9 => (intro w hSw; (try dsimp only at hSw); go_simp; try with_reducible rfl)
      simp only [Act.put, List.setIfInBounds_toArray, List.set_cons_zero, List.set_cons_succ, List.getElem_toArray, List.getElem_cons_zero, List.getElem_cons_succ]
      refine wpAnyH_ready (rs := [10]) (by kernel_rfl) (by simp) ?_
      refine AllReadyH.cons rfl (fun K hK => ?_) AllReadyH.nil
      go_simp
      refine hK.out _ _ (put_cell hHeld (by dsimp only; omega) _ _ _) (fun hHeld => ?_)
      clear hK K
      try simp only [Act.put, List.setIfInBounds_toArray, List.set_cons_zero, List.set_cons_succ, List.getElem_toArray, List.getElem_cons_zero, List.getElem_cons_succ]
      refine wpAnyH_take (i := 11) (v := ?vge11) rfl (by kernel_rfl) (by kernel_rfl) (by kernel_rfl) (fun _ _ _ h => h) (Or.inl ⟨by rfl, ?hyge11⟩) (by assumption) ?restge11
      case hyge11 => (intro w hSw; (try dsimp only at hSw); go_simp; try with_reducible rfl)
      simp only [Act.put, List.setIfInBounds_toArray, List.set_cons_zero, List.set_cons_succ, List.getElem_toArray, List.getElem_cons_zero, List.getElem_cons_succ]
      refine wpAnyH_done (by kernel_rfl) ?_ _
      replace m6 := m6.put DB b6 A6 q6.length c6 x6
      clear DB_0 DB_1 DB_2 DB_f0 DB_f1 DB_f2
      replace DB := Dbx.put DB b6 A6 q6.length c6 x6
      clear hHeld
      obtain ⟨DB_0, DB_1, DB_2, DB_f0, DB_f1, DB_f2⟩ := Dbx.cells DB
      go_wp2_with fail
      refine bodyPost_ret (v := .tuple #[dyV b6 A6 q6.length c6 x6, .int .i64 (doneR (sumN (nfl b (val 18446744073709551616 l) x) (nfl b2 (val 18446744073709551616 l2) x2))).2]) (by simp [results, Tryz.results39, go_sem, DB_0, DB_1, DB_2, DB_f0, DB_f1, DB_f2]) rfl ?_
      exact ⟨b6, q6, A6, c6, x6, rfl, hd6, m6, by go_grown⟩


theorem rAdd_any (h : Lv w A n c l) (hn : n ≤ 4096) (h2 : Lv w A2 n2 c2 l2) (hn2 : n2 ≤ 4096) (hN : may2 x x2 = true → farN (nfl b (val 18446744073709551616 l) x) (nfl b2 (val 18446744073709551616 l2) x2) = true ∨ Near (nfl b (val 18446744073709551616 l) x) (nfl b2 (val 18446744073709551616 l2) x2)) :
    Calls Tryz.prog 39 #[dyV b A n c x, dyV b2 A2 n2 c2 x2] w (DyK (addQ x x2 (nfl b (val 18446744073709551616 l) x) (nfl b2 (val 18446744073709551616 l2) x2)).1 (addQ x x2 (nfl b (val 18446744073709551616 l) x) (nfl b2 (val 18446744073709551616 l2) x2)).2 w) := by
  cases h0 : okE x
  · have e : addQ x x2 (nfl b (val 18446744073709551616 l) x) (nfl b2 (val 18446744073709551616 l2) x2) = (zeroN, 2) := by unfold addQ may2; rw [if_neg (by rw [h0]; simp)]
    rw [e]; exact rAdd_na h hn h2 hn2 h0
  · cases h1 : okE x2
    · have e : addQ x x2 (nfl b (val 18446744073709551616 l) x) (nfl b2 (val 18446744073709551616 l2) x2) = (zeroN, 2) := by unfold addQ may2; rw [if_neg (by rw [h0, h1]; simp)]
      rw [e]; exact rAdd_nb h hn h2 hn2 h0 h1
    · have hm : may2 x x2 = true := by unfold may2; rw [h0, h1]; rfl
      have e : addQ x x2 (nfl b (val 18446744073709551616 l) x) (nfl b2 (val 18446744073709551616 l2) x2) = addR (nfl b (val 18446744073709551616 l) x) (nfl b2 (val 18446744073709551616 l2) x2) := by unfold addQ; rw [if_pos hm]
      rw [e]
      unfold addR
      cases hf : farN (nfl b (val 18446744073709551616 l) x) (nfl b2 (val 18446744073709551616 l2) x2)
      · rw [if_neg (by decide)]
        rcases hN hm with g | g
        · rw [g] at hf; cases hf
        · exact rAdd_near h hn h2 hn2 h0 h1 hf g
      · rw [if_pos rfl]
        exact rAdd_far h hn h2 hn2 h0 h1 hf
end
end Go.Proofs.YtknomchkfamajaaGreatDoor
