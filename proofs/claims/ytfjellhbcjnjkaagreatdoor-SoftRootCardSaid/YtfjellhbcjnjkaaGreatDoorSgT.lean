/-
  Layer 4, the law of roots: the reference's root, bit by bit; the law.
-/
import Derived.Test.YtfjellhbcjnjkaaGreatDoorSgO
import Derived.Test.YtfjellhbcjnjkaaGreatDoorSDyX
import Derived.Test.YtfjellhbcjnjkaaGreatDoorSDyO
import Derived.Deep.Cut
import Derived.IntWalk
namespace Go.Proofs.YtfjellhbcjnjkaaGreatDoor
open Go Go.RowKit
set_option linter.unusedVariables false
set_option linter.unusedSimpArgs false

/-! ### the quotient, from the top bit down -/
def DivInv (v u : Int) (n j : Nat) (C : List Int) : Prop := C.length = n ∧ Lim 18446744073709551616 C ∧ val 18446744073709551616 C = v / 2 ^ j / u * 2 ^ j
theorem DivInv.start {v u : Int} {n j : Nat} (hv : IsBits v j) (hu : 0 < u) : DivInv v u n j (List.replicate n 0) := by
  refine ⟨by simp, Lim.zeros (by omega) _, ?_⟩
  rw [val_replicate, Int.ediv_eq_zero_of_lt hv.1 hv.2.1, Int.zero_ediv, Int.zero_mul]
end Go.Proofs.YtfjellhbcjnjkaaGreatDoor
namespace Go.Proofs.YtfjellhbcjnjkaaGreatDoor
open Go Go.RowKit
set_option linter.unusedVariables false
set_option linter.unusedSimpArgs false

end Go.Proofs.YtfjellhbcjnjkaaGreatDoor
namespace Go.Proofs.YtfjellhbcjnjkaaGreatDoor
open Go Go.RowKit Go.Bw
set_option linter.unusedVariables false
set_option linter.unusedSimpArgs false

theorem top_bounds {v : Int} {b : Nat} (hb : IsBits v b) (h : 64 ≤ b) : 9223372036854775808 ≤ v / 2 ^ (b - 64) ∧ v / 2 ^ (b - 64) < 18446744073709551616 := by
  obtain ⟨h0, h1, h2⟩ := hb
  have hp := two_pos (b - 64)
  have e1 : (2 : Int) ^ b = 2 ^ (b - 64) * 18446744073709551616 := by
    rw [show (18446744073709551616 : Int) = 2 ^ 64 from rfl, ← Int.pow_add]; congr 1; omega
  have e2 : (2 : Int) ^ (b - 1) = 2 ^ (b - 64) * 9223372036854775808 := by
    rw [show (9223372036854775808 : Int) = 2 ^ 63 from rfl, ← Int.pow_add]; congr 1; omega
  have h3 := h2 (by omega)
  rw [e1] at h1
  rw [e2] at h3
  exact ⟨(Int.le_ediv_iff_mul_le hp).2 (by rw [Int.mul_comm]; exact h3), Int.ediv_lt_of_lt_mul hp (by rw [Int.mul_comm]; exact h1)⟩
theorem val_one_list (T : Int) : val 18446744073709551616 [T] = T := by
  rw [val_cons, val_nil]; omega
theorem top_one {l : List Int} {T : Int} (hl : Lim 18446744073709551616 l) (hn : Normal l) (hv : val 18446744073709551616 l = T) (h0 : 0 < T) (h1 : T < 18446744073709551616) : l = [T] := by
  refine nuq hl hn ?_ (.inr ?_) ?_
  · intro x hx
    simp at hx
    omega
  · show T ≠ 0
    omega
  · rw [hv, val_one_list]
theorem roundMay_top {T exp : Int} {more : Bool} (h : 9223372036854775808 ≤ T) : roundMay T exp more = true := by
  unfold roundMay
  rw [decide_eq_false (show ¬ T < 9007199254740992 by omega)]
  simp

set_option maxRecDepth 20000 in
set_option maxHeartbeats 8000000 in
theorem refRound_any (neg more : Bool) (ex : Int) {A : Option Addr} {n c b : Nat} {l : List Int} {w : World} (h : Lv w A n c l) (hn : n ≤ 4096) (hb : IsBits (val 18446744073709551616 l) b) (h64 : 64 ≤ b) (x0 : -2305843009213693952 ≤ ex) (x1 : ex ≤ 2305843009213693952) :
    Calls Tryz.prog 58 #[.bool neg, .slice A n c, .int .i64 ex, .bool more] w fun e w' =>
      e = .returned (.int .u64 (signW neg (rnd (val 18446744073709551616 l / 2 ^ (b - 64)) (ex + b - 64) (more || lostB (val 18446744073709551616 l) (b - 64))))) ∧ Below w.heap.size w w' := by
  have hT := top_bounds hb h64
  have k1 := refBits_any h hn
  have HB := Lib.hid hb
  have hbn := bits_le (h.less (Nat.le_refl n)) hb
  have k2 := fun (W : World) (hW : Below w.heap.size w W) => refShr_lv (h.on hW) hn (b - 64) (by omega) _ rfl
  obtain ⟨v, hv⟩ : ∃ v, val 18446744073709551616 l = v := ⟨_, rfl⟩
  rw [hv] at k1 k2 hT HB ⊢
  obtain ⟨d, hd⟩ : ∃ d, b - 64 = d := ⟨_, rfl⟩
  rw [hd] at k2 hT ⊢
  obtain ⟨T, hTT⟩ : ∃ T, v / 2 ^ d = T := ⟨_, rfl⟩
  obtain ⟨L, hL⟩ : ∃ L, lostB v d = L := ⟨_, rfl⟩
  rw [hL, hTT] at k2
  rw [hTT] at hT
  rw [hTT, hL]
  obtain ⟨t0, t1⟩ := hT
  have hdi : (b : Int) - 64 = d := by omega
  have hbi : (b : Int) ≤ 300000 := by omega
  have hb0 : (0 : Int) ≤ b := by omega
  have K4 := fun (mo : Bool) (W : World) => rround_any neg mo T (ex + b - 64) (by omega) (by omega) (roundMay_top t0) W
  have t0' : 0 < T := by omega
  clear hb hv hd hTT hL h64 h hbn t0
  go_enter Tryz.func58, Tryz.ntmps58
  go_wp2_with fail
  with_reducible refine k1.mono ?_
  rintro e w1 ⟨b', rfl, hb', hb1⟩
  obtain rfl := HB.out.unique hb'
  have k3 := k2 w1 hb1
  clear k1 hb' k2
  go_wp2_with fail
  with_reducible refine k3.mono ?_
  rintro e w2 ⟨s, A2, c2, rfl, n_s, v_s, m_s, hb2⟩
  have es := top_one m_s.2.2 n_s v_s.out t0' t1
  subst es
  have bw := bel_then hb1 hb2
  obtain ⟨ad, rfl, hadb, hadc⟩ := m_s.2.1.at_ (k := 0) (by simp)
  have c0 := m_s.at 0 (by simp)
  rw [show D [T] 0 = T from rfl] at c0
  have ea : ad.add 0 = ad := by cases ad; simp [Addr.add]
  rw [ea] at c0
  clear k3 n_s v_s m_s hb1 hb2 hadb hadc ea
  cases more
  · have K5 := K4 L w2
    clear K4
    go_wp2_with fail
    with_reducible refine K5.mono ?_
    rintro e w3 ⟨rfl, hb3⟩
    go_wp2_with fail
    go_ret
    exact ⟨rfl, bel_then bw hb3⟩
  · have K5 := K4 true w2
    clear K4
    go_wp2_with fail
    with_reducible refine K5.mono ?_
    rintro e w3 ⟨rfl, hb3⟩
    go_wp2_with fail
    go_ret
    exact ⟨rfl, bel_then bw hb3⟩

end Go.Proofs.YtfjellhbcjnjkaaGreatDoor
namespace Go.Proofs.YtfjellhbcjnjkaaGreatDoor
open Go Go.RowKit Go.Sort Go.Bw
set_option linter.unusedVariables false
set_option linter.unusedSimpArgs false

/-- a long number and a rest, rounded as the reference rounds it, is the nearest float -/
theorem near_top (neg r : Bool) (s : Nat) (E : Int) {b : Nat} (hb : IsBits (s : Int) b) (h64 : 64 ≤ b) :
    signW neg (rnd ((s : Int) / 2 ^ (b - 64)) (E + b - 64) (r || lostB (s : Int) (b - 64))) = (Ieee.double.nearest neg (2 * s + if r then 1 else 0) (E - 1) : Int) := by
  obtain ⟨t0, t1⟩ := top_bounds hb h64
  obtain ⟨d, hd⟩ : ∃ d, b - 64 = d := ⟨_, rfl⟩
  rw [hd] at t0 t1 ⊢
  obtain ⟨R, hR⟩ : ∃ R : Nat, (if r then 1 else 0 : Nat) = R := ⟨_, rfl⟩
  have hR1 : R ≤ 1 := by rw [← hR]; split <;> omega
  rw [hR]
  have hp := Nat.two_pow_pos d
  have e2 : 2 ^ (d + 1) = 2 * 2 ^ d := by rw [Nat.pow_succ]; omega
  have h2 : (2 * s + R) / 2 = s := by omega
  have ediv : (2 * s + R) / 2 ^ (d + 1) = s / 2 ^ d := by rw [e2, ← Nat.div_div_eq_div_mul, h2]
  have emod : (2 * s + R) % 2 ^ (d + 1) = R + 2 * (s % 2 ^ d) := by
    rw [e2, Nat.mod_mul, h2]; congr 1; omega
  have hS : ((s / 2 ^ d : Nat) : Int) = (s : Int) / 2 ^ d := by push_cast; rfl
  have hM : ((s % 2 ^ d : Nat) : Int) = (s : Int) % 2 ^ d := by push_cast; rfl
  rw [← hS] at t0 t1 ⊢
  have hs0 : s ≠ 0 := by
    rintro rfl
    rw [Nat.zero_div] at t0
    omega
  have := nearest_rnd neg (2 * s + R) (d + 1) (E - 1) (by omega) (by rw [ediv]; omega) (.inr (by rw [ediv]; omega))
  rw [this, ediv, emod]
  congr 1
  have ex : E + b - 64 = E - 1 + ((d + 1 : Nat) : Int) := by omega
  have mo : (r || lostB (s : Int) d) = decide (R + 2 * (s % 2 ^ d) ≠ 0) := by
    unfold lostB
    rw [← hM]
    cases r
    · have : R = 0 := by rw [← hR]; rfl
      subst this
      rw [Bool.false_or]
      by_cases h : s % 2 ^ d = 0
      · rw [h]; rfl
      · rw [decide_eq_true (by omega), decide_eq_true (by omega)]
    · have : R = 1 := by rw [← hR]; rfl
      subst this
      rw [Bool.true_or, decide_eq_true (by omega)]
  rw [ex, mo]
theorem bits_64 {v : Int} {b : Nat} (hb : IsBits v b) (h : 9223372036854775808 ≤ v) : 64 ≤ b := by
  rcases Nat.lt_or_ge b 64 with g | g
  · have h1 := hb.2.1
    have h2 := pow_word g
    omega
  · exact g
/-- the root, rounded -/
theorem ref_root {a k : Nat} (ha : 0 < a) (hk : 140 ≤ k) {x E s : Int} (hE : x - k = 2 * E) (s0 : 0 ≤ s) (h1 : s * s ≤ (a : Int) * 2 ^ k) (h2 : (a : Int) * 2 ^ k < (s + 1) * (s + 1)) {b : Nat} (hb : IsBits s b) :
    64 ≤ b ∧ signW false (rnd (s / 2 ^ (b - 64)) (E + b - 64) (decide (s * s < (a : Int) * 2 ^ k) || lostB s (b - 64))) = (rootW a x : Int) := by
  obtain ⟨n, rfl⟩ := Int.eq_ofNat_of_zero_le s0
  have eN : (a : Int) * 2 ^ k = ((a * 2 ^ k : Nat) : Int) := by push_cast; rfl
  have eS : (n : Int) * n = ((n * n : Nat) : Int) := by push_cast; rfl
  have eT : ((n : Int) + 1) * (n + 1) = (((n + 1) * (n + 1) : Nat) : Int) := by push_cast; rfl
  rw [eN, eS] at h1
  rw [eN, eT] at h2
  rw [eN, eS]
  have hN : 2 ^ 140 ≤ a * 2 ^ k := Nat.le_trans (Nat.pow_le_pow_right (by omega) hk) (Nat.le_mul_of_pos_left _ ha)
  have hi : isq (a * 2 ^ k) = n := isq_eq ⟨by omega, by omega⟩
  have h3 : 2 ^ 70 ≤ isq (a * 2 ^ k) := isq_ge (by omega)
  have h64 := bits_64 hb (by rw [hi] at h3; omega)
  refine ⟨h64, ?_⟩
  have w := rootW_is a k E x ha hE (by omega)
  rw [← w]
  have nt := near_top false (decide (n * n < a * 2 ^ k)) n E hb h64
  have eb : decide (((n * n : Nat) : Int) < ((a * 2 ^ k : Nat) : Int)) = decide (n * n < a * 2 ^ k) := by
    by_cases g : n * n < a * 2 ^ k
    · rw [decide_eq_true g, decide_eq_true (by omega)]
    · rw [decide_eq_false g, decide_eq_false (by omega)]
  rw [eb, nt]
  unfold rootR
  rw [hi]
  by_cases g : n * n < a * 2 ^ k
  · have e : (if n * n = a * 2 ^ k then 0 else 1 : Nat) = 1 := if_neg (by omega)
    rw [e, decide_eq_true g]; simp
  · have e : (if n * n = a * 2 ^ k then 0 else 1 : Nat) = 0 := if_pos (by omega)
    rw [e, decide_eq_false g]; simp
/-! ### the root's loop -/
theorem root_start {v : Int} {b : Nat} (hb : IsBits v b) : v < (0 + 2 ^ (b / 2 + 2)) * (0 + 2 ^ (b / 2 + 2)) := by
  rw [Int.zero_add, ← Int.pow_add]
  exact Int.lt_of_lt_of_le hb.2.1 (pow_le' (b := 2) (by omega) (by omega))
theorem root_next {m s : Int} {i : Nat} (h2 : m < (s + 2 ^ (i + 1)) * (s + 2 ^ (i + 1))) : m < ((s + 2 ^ i) + 2 ^ i) * ((s + 2 ^ i) + 2 ^ i) := by
  have e : s + 2 ^ (i + 1) = (s + 2 ^ i) + 2 ^ i := by rw [Int.pow_succ]; omega
  rw [← e]; exact h2
theorem sq_self_le {s m : Int} (s0 : 0 ≤ s) (h : s * s ≤ m) : s ≤ m := by
  rcases (show s = 0 ∨ 1 ≤ s by omega) with g | g
  · subst g; omega
  · have := Int.mul_le_mul_of_nonneg_left g s0
    omega

end Go.Proofs.YtfjellhbcjnjkaaGreatDoor
namespace Go.Proofs.YtfjellhbcjnjkaaGreatDoor
open Go Go.RowKit Go.Sort Go.Bw
set_option linter.unusedVariables false
set_option linter.unusedSimpArgs false

/-- s has been found down to bit j -/
def RootInv (M : Int) (j : Nat) (s : Int) : Prop := 0 ≤ s ∧ s * s ≤ M ∧ M < (s + 2 ^ j) * (s + 2 ^ j)
theorem RootInv.yes {M s : Int} {k : Nat} (h : RootInv M (k + 1) s) (hle : (s + 2 ^ k) * (s + 2 ^ k) ≤ M) : RootInv M k (s + 2 ^ k) := by
  have := two_pos k
  exact ⟨by have := h.1; omega, hle, root_next h.2.2⟩
theorem RootInv.no {M s : Int} {k : Nat} (h : RootInv M (k + 1) s) (hlt : M < (s + 2 ^ k) * (s + 2 ^ k)) : RootInv M k s := ⟨h.1, h.2.1, hlt⟩
theorem RootInv.start {M : Int} {b : Nat} (hb : IsBits M b) : RootInv M (b / 2 + 2) 0 := ⟨by omega, by have := hb.1; omega, root_start hb⟩
theorem RootInv.short {M s : Int} {k K : Nat} {R : List Int} (h : RootInv M k s) (hl : Lim 18446744073709551616 R) (hn : Normal R) (hv : val 18446744073709551616 R = s) (hM : M < 18446744073709551616 ^ K) : R.length ≤ K :=
  len_val hl hn hv (Int.lt_of_le_of_lt (sq_self_le h.1 h.2.1) hM)
theorem next_short {M s x : Int} {k K j : Nat} {R : List Int} (h : RootInv M j s) (hl : Lim 18446744073709551616 R) (hn : Normal R) (hv : val 18446744073709551616 R = s + 2 ^ k) (hM : M < 18446744073709551616 ^ K) (hk : k ≤ 64 * K) : R.length ≤ K + 1 := by
  refine len_val hl hn hv ?_
  have h0 := h.1
  have h1 := Int.lt_of_le_of_lt (sq_self_le h.1 h.2.1) hM
  have h2 : (2 : Int) ^ k ≤ 18446744073709551616 ^ K := by rw [pow64]; exact pow_le' (by omega) hk
  rw [Int.pow_succ]
  generalize (18446744073709551616 : Int) ^ K = P at *
  omega
theorem man_le {b : Bool} {v x : Int} (hv : 0 < v) : ((nfl b v x).man : Int) ≤ v := by
  rw [nfl_pos hv]
  have h := (odd_is (n := v.toNat) (by omega)).2
  have hp := Nat.two_pow_pos (tz v.toNat)
  have : odd v.toNat ≤ v.toNat := by
    calc odd v.toNat ≤ odd v.toNat * 2 ^ tz v.toNat := Nat.le_mul_of_pos_right _ hp
      _ = v.toNat := h.symm
  show ((odd v.toNat : Nat) : Int) ≤ v
  omega
theorem pow_lt9 {k K : Nat} (h : k < 64 * K) : (2 : Int) ^ k < 18446744073709551616 ^ K := by
  have h1 := pow_le' (b := 2) (by omega) (show k + 1 ≤ 64 * K from h)
  rw [Int.pow_succ] at h1
  have := two_pos k
  rw [pow64]
  omega
theorem sq_130 {s p : Int} (h0 : 0 ≤ s ∧ 0 < p) (h1 : s < 18446744073709551616 ^ 63) (h2 : p ≤ 18446744073709551616 ^ 63) : (s + p) * (s + p) < 18446744073709551616 ^ 130 := by
  have e : (18446744073709551616 : Int) ^ 130 = 18446744073709551616 ^ 64 * 18446744073709551616 ^ 64 * (18446744073709551616 * 18446744073709551616) := by rw [show (130 : Nat) = 64 + 64 + 1 + 1 from rfl, Int.pow_succ, Int.pow_succ, Int.pow_add, Int.mul_assoc]
  have hs : s + p < 18446744073709551616 ^ 64 := by
    rw [Int.pow_succ]
    generalize (18446744073709551616 : Int) ^ 63 = P at *
    omega
  have hP : (0 : Int) < 18446744073709551616 ^ 64 := Int.pow_pos (by omega)
  have h3 : (s + p) * (s + p) ≤ 18446744073709551616 ^ 64 * 18446744073709551616 ^ 64 := Int.mul_le_mul (by omega) (by omega) (by omega) (by omega)
  have h4 := Int.mul_pos hP hP
  rw [e]
  generalize (18446744073709551616 : Int) ^ 64 * 18446744073709551616 ^ 64 = Q at *
  generalize (s + p) * (s + p) = Z at *
  omega
theorem even_tmod {y E : Int} (h : y = 2 * E) : y.tmod 2 = 0 ∧ y.tdiv 2 = E := by
  subst h
  exact ⟨Int.mul_tmod_right 2 E, Int.mul_tdiv_cancel_left E (by omega)⟩
theorem odd_tmod {y E : Int} (h : y = 2 * E + 1) : y.tmod 2 = 1 ∨ y.tmod 2 = -1 := by
  have h1 := Int.tmod_lt_of_pos y (show (0 : Int) < 2 by omega)
  have h2 := Int.lt_tmod_of_pos y (show (0 : Int) < 2 by omega)
  have h3 : y.tmod 2 ≠ 0 := by
    intro e
    have := Int.dvd_of_tmod_eq_zero e
    omega
  omega

section
variable {b : Bool} {A : Option Addr} {n c : Nat} {x : Int} {l : List Int} {w : World}
set_option maxRecDepth 100000 in
set_option maxHeartbeats 8000000 in
theorem rLong_no (h : Lv w A n c l) (hn : n ≤ 2048) :
    Calls Tryz.prog 53 #[dyV b A n c x] w fun e w' => e = .returned (.bool false) ∧ Below w.heap.size w w' := by
  have PB := Blk.new w [.bool b, .slice A n c, .int .i64 x] 35
  have bw : Below w.heap.size w (w.alloc (.cells #[.bool b, .slice A n c, .int .i64 x] 35)) := by go_grown
  obtain ⟨PB_0, PB_1, PB_2, PB_f0, PB_f1, PB_f2⟩ := Dbx.cells PB
  replace h := h.on bw
  have hq := norm_length l
  have hl := h.1
  have hq2 : decide ((2048 : Int) < ((norm l).length : Int)) = false := by simp; omega
  clear hq hl
  go_enter Tryz.func53, Tryz.ntmps53
  go_wp2_with fail
  with_reducible refine (refNorm_lv h (by omega)).mono ?_
  rintro e w1 ⟨A1, c1, rfl, m1, hb⟩
  clear PB_0 PB_1 PB_2 PB_f0 PB_f1 PB_f2
  have hs1 := hb.size
  try simp only [World.size_alloc, World.size_setCell] at hs1
  replace bw : Below w.heap.size w w1 := dy_end (by go_grown) hb
  replace h := Lv.on h hb
  replace PB := Blk.on PB hb
  clear hb
  obtain ⟨PB_0, PB_1, PB_2, PB_f0, PB_f1, PB_f2⟩ := Dbx.cells PB
  go_wp2_with fail
  go_ret
  exact ⟨rfl, by go_grown⟩

set_option maxRecDepth 100000 in
set_option maxHeartbeats 8000000 in
theorem rRoot_a (h : Lv w A n c l) (hn : n ≤ 60) (ho : okE x = false) :
    Calls Tryz.prog 29 #[dyV b A n c x] w fun e w' => e = .returned (.tuple #[.int .u64 (0), .int .i64 2]) ∧ Below w.heap.size w w' := by
  have PB := Blk.new w [.bool b, .slice A n c, .int .i64 x] 35
  have bw : Below w.heap.size w (w.alloc (.cells #[.bool b, .slice A n c, .int .i64 x] 35)) := by go_grown
  obtain ⟨PB_0, PB_1, PB_2, PB_f0, PB_f1, PB_f2⟩ := Dbx.cells PB
  replace h := h.on bw
  go_enter Tryz.func29, Tryz.ntmps29
  go_wp2_with fail
  with_reducible refine (rMay_no (b := b) (x := x) h (by omega) ho).mono ?_
  rintro e w1 ⟨rfl, hb⟩
  clear PB_0 PB_1 PB_2 PB_f0 PB_f1 PB_f2
  have hs1 := hb.size
  try simp only [World.size_alloc, World.size_setCell] at hs1
  replace bw : Below w.heap.size w w1 := dy_end (by go_grown) hb
  replace h := Lv.on h hb
  replace PB := Blk.on PB hb
  clear hb
  obtain ⟨PB_0, PB_1, PB_2, PB_f0, PB_f1, PB_f2⟩ := Dbx.cells PB
  go_wp2_with fail
  go_ret2
  exact ⟨rfl, by go_grown⟩

set_option maxRecDepth 100000 in
set_option maxHeartbeats 8000000 in
theorem rRoot_b (h : Lv w A n c l) (hn : n ≤ 60) (ho : okE x = true) (hv : Hid (val 18446744073709551616 l ≠ 0)) :
    Calls Tryz.prog 29 #[dyV true A n c x] w fun e w' => e = .returned (.tuple #[.int .u64 (0), .int .i64 2]) ∧ Below w.heap.size w w' := by
  have PB := Blk.new w [.bool true, .slice A n c, .int .i64 x] 35
  have bw : Below w.heap.size w (w.alloc (.cells #[.bool true, .slice A n c, .int .i64 x] 35)) := by go_grown
  obtain ⟨PB_0, PB_1, PB_2, PB_f0, PB_f1, PB_f2⟩ := Dbx.cells PB
  replace h := h.on bw
  go_enter Tryz.func29, Tryz.ntmps29
  go_wp2_with fail
  with_reducible refine (rMay_yes (b := true) (x := x) h (by omega) ho).mono ?_
  rintro e w1 ⟨rfl, hb⟩
  clear PB_0 PB_1 PB_2 PB_f0 PB_f1 PB_f2
  have hs1 := hb.size
  try simp only [World.size_alloc, World.size_setCell] at hs1
  replace bw : Below w.heap.size w w1 := dy_end (by go_grown) hb
  replace h := Lv.on h hb
  replace PB := Blk.on PB hb
  clear hb
  obtain ⟨PB_0, PB_1, PB_2, PB_f0, PB_f1, PB_f2⟩ := Dbx.cells PB
  go_wp2_with fail
  with_reducible refine (rSign_true (x := x) h (by omega) ho rfl hv).mono ?_
  rintro e w2 ⟨rfl, hb⟩
  clear PB_0 PB_1 PB_2 PB_f0 PB_f1 PB_f2
  have hs2 := hb.size
  try simp only [World.size_alloc, World.size_setCell] at hs2
  replace bw : Below w.heap.size w w2 := dy_end (by go_grown) hb
  replace h := Lv.on h hb
  replace PB := Blk.on PB hb
  clear hb
  obtain ⟨PB_0, PB_1, PB_2, PB_f0, PB_f1, PB_f2⟩ := Dbx.cells PB
  go_wp2_with fail
  go_ret2
  exact ⟨rfl, by go_grown⟩

set_option maxRecDepth 100000 in
set_option maxHeartbeats 8000000 in
theorem rRoot_z (h : Lv w A n c l) (hn : n ≤ 60) (ho : okE x = true) (hv : Hid (val 18446744073709551616 l = 0)) :
    Calls Tryz.prog 29 #[dyV b A n c x] w fun e w' => e = .returned (.tuple #[.int .u64 (0), .int .i64 0]) ∧ Below w.heap.size w w' := by
  have PB := Blk.new w [.bool b, .slice A n c, .int .i64 x] 35
  have bw : Below w.heap.size w (w.alloc (.cells #[.bool b, .slice A n c, .int .i64 x] 35)) := by go_grown
  obtain ⟨PB_0, PB_1, PB_2, PB_f0, PB_f1, PB_f2⟩ := Dbx.cells PB
  replace h := h.on bw
  go_enter Tryz.func29, Tryz.ntmps29
  go_wp2_with fail
  with_reducible refine (rMay_yes (b := b) (x := x) h (by omega) ho).mono ?_
  rintro e w1 ⟨rfl, hb⟩
  clear PB_0 PB_1 PB_2 PB_f0 PB_f1 PB_f2
  have hs1 := hb.size
  try simp only [World.size_alloc, World.size_setCell] at hs1
  replace bw : Below w.heap.size w w1 := dy_end (by go_grown) hb
  replace h := Lv.on h hb
  replace PB := Blk.on PB hb
  clear hb
  obtain ⟨PB_0, PB_1, PB_2, PB_f0, PB_f1, PB_f2⟩ := Dbx.cells PB
  go_wp2_with fail
  with_reducible refine (rSign_zero (b := b) (x := x) h (by omega) ho hv).mono ?_
  rintro e w2 ⟨rfl, hb⟩
  clear PB_0 PB_1 PB_2 PB_f0 PB_f1 PB_f2
  have hs2 := hb.size
  try simp only [World.size_alloc, World.size_setCell] at hs2
  replace bw : Below w.heap.size w w2 := dy_end (by go_grown) hb
  replace h := Lv.on h hb
  replace PB := Blk.on PB hb
  clear hb
  obtain ⟨PB_0, PB_1, PB_2, PB_f0, PB_f1, PB_f2⟩ := Dbx.cells PB
  go_wp2_with fail
  with_reducible refine (rLong_no (b := b) (x := x) h (by omega)).mono ?_
  rintro e w3 ⟨rfl, hb⟩
  clear PB_0 PB_1 PB_2 PB_f0 PB_f1 PB_f2
  have hs3 := hb.size
  try simp only [World.size_alloc, World.size_setCell] at hs3
  replace bw : Below w.heap.size w w3 := dy_end (by go_grown) hb
  replace h := Lv.on h hb
  replace PB := Blk.on PB hb
  clear hb
  obtain ⟨PB_0, PB_1, PB_2, PB_f0, PB_f1, PB_f2⟩ := Dbx.cells PB
  go_wp2_with fail
  with_reducible refine (rSign_zero (b := b) (x := x) h (by omega) ho hv).mono ?_
  rintro e w4 ⟨rfl, hb⟩
  clear PB_0 PB_1 PB_2 PB_f0 PB_f1 PB_f2
  have hs4 := hb.size
  try simp only [World.size_alloc, World.size_setCell] at hs4
  replace bw : Below w.heap.size w w4 := dy_end (by go_grown) hb
  replace h := Lv.on h hb
  replace PB := Blk.on PB hb
  clear hb
  obtain ⟨PB_0, PB_1, PB_2, PB_f0, PB_f1, PB_f2⟩ := Dbx.cells PB
  go_wp2_with fail
  go_ret2
  exact ⟨rfl, by go_grown⟩

set_option maxRecDepth 100000 in
set_option maxHeartbeats 8000000 in
theorem rRoot_m (h : Lv w A n c l) (hn : n ≤ 60) (ho : okE x = true) (hv : Hid (val 18446744073709551616 l ≠ 0)) :
    Calls Tryz.prog 29 #[dyV false A n c x] w fun e w' => e = .returned (.tuple #[.int .u64 (rootW (val 18446744073709551616 l).toNat x), .int .i64 0]) ∧ Below w.heap.size w w' := by
  obtain ⟨W9, hW9⟩ : ∃ W9, rootW (val 18446744073709551616 l).toNat x = W9 := ⟨_, rfl⟩
  rw [hW9]
  have PB := Blk.new w [.bool false, .slice A n c, .int .i64 x] 35
  have bw : Below w.heap.size w (w.alloc (.cells #[.bool false, .slice A n c, .int .i64 x] 35)) := by go_grown
  obtain ⟨PB_0, PB_1, PB_2, PB_f0, PB_f1, PB_f2⟩ := Dbx.cells PB
  replace h := h.on bw
  go_enter Tryz.func29, Tryz.ntmps29
  go_wp2_with fail
  with_reducible refine (rMay_yes (b := false) (x := x) h (by omega) ho).mono ?_
  rintro e w1 ⟨rfl, hb⟩
  clear PB_0 PB_1 PB_2 PB_f0 PB_f1 PB_f2
  have hs1 := hb.size
  try simp only [World.size_alloc, World.size_setCell] at hs1
  replace bw : Below w.heap.size w w1 := dy_end (by go_grown) hb
  replace h := Lv.on h hb
  replace PB := Blk.on PB hb
  clear hb
  obtain ⟨PB_0, PB_1, PB_2, PB_f0, PB_f1, PB_f2⟩ := Dbx.cells PB
  go_wp2_with fail
  with_reducible refine (rSign_false (x := x) h (by omega) ho rfl hv).mono ?_
  rintro e w2 ⟨rfl, hb⟩
  clear PB_0 PB_1 PB_2 PB_f0 PB_f1 PB_f2
  have hs2 := hb.size
  try simp only [World.size_alloc, World.size_setCell] at hs2
  replace bw : Below w.heap.size w w2 := dy_end (by go_grown) hb
  replace h := Lv.on h hb
  replace PB := Blk.on PB hb
  clear hb
  obtain ⟨PB_0, PB_1, PB_2, PB_f0, PB_f1, PB_f2⟩ := Dbx.cells PB
  go_wp2_with fail
  with_reducible refine (rLong_no (b := false) (x := x) h (by omega)).mono ?_
  rintro e w3 ⟨rfl, hb⟩
  clear PB_0 PB_1 PB_2 PB_f0 PB_f1 PB_f2
  have hs3 := hb.size
  try simp only [World.size_alloc, World.size_setCell] at hs3
  replace bw : Below w.heap.size w w3 := dy_end (by go_grown) hb
  replace h := Lv.on h hb
  replace PB := Blk.on PB hb
  clear hb
  obtain ⟨PB_0, PB_1, PB_2, PB_f0, PB_f1, PB_f2⟩ := Dbx.cells PB
  go_wp2_with fail
  with_reducible refine (rSign_false (x := x) h (by omega) ho rfl hv).mono ?_
  rintro e w4 ⟨rfl, hb⟩
  clear PB_0 PB_1 PB_2 PB_f0 PB_f1 PB_f2
  have hs4 := hb.size
  try simp only [World.size_alloc, World.size_setCell] at hs4
  replace bw : Below w.heap.size w w4 := dy_end (by go_grown) hb
  replace h := Lv.on h hb
  replace PB := Blk.on PB hb
  clear hb
  obtain ⟨PB_0, PB_1, PB_2, PB_f0, PB_f1, PB_f2⟩ := Dbx.cells PB
  go_wp2_with fail
  have hx := (okE_iff x).1 ho
  with_reducible refine (rNorm_any (b := false) (x := x) h (by omega) (by omega) (by omega)).mono ?_
  rintro e w5 ⟨b3, q3, A3, c3, x3, rfl, hd3, m3, hb⟩
  clear PB_0 PB_1 PB_2 PB_f0 PB_f1 PB_f2
  have hs5 := hb.size
  try simp only [World.size_alloc, World.size_setCell] at hs5
  replace bw : Below w.heap.size w w5 := dy_end (by go_grown) hb
  replace h := Lv.on h hb
  replace PB := Blk.on PB hb
  clear hb
  obtain ⟨PB_0, PB_1, PB_2, PB_f0, PB_f1, PB_f2⟩ := Dbx.cells PB
  obtain ⟨X0, X1⟩ := exp_bd h (by omega) ho hd3
  have hp : 0 < val 18446744073709551616 l := by have := h.nonneg; have := hv.out; omega
  have hm3 := hd3.man m3.2.2
  have he3 := hd3.exp
  have hml := man_le (b := false) (x := x) hp
  have hbl := h.less (show n ≤ 60 from hn)
  have hrt := rootD_nfl (val 18446744073709551616 l).toNat x (by omega) false
  rw [Int.toNat_of_nonneg (Int.le_of_lt hp)] at hrt
  have hd0 : 0 < (nfl false (val 18446744073709551616 l) x).man := by rcases Nat.eq_zero_or_pos (nfl false (val 18446744073709551616 l) x).man with z | z; exact absurd ((nfl_man0 (Int.le_of_lt hp)).1 z) (by omega); exact z
  unfold rootD at hrt
  have n3 := hd3.len
  clear h hv ho hx
  obtain ⟨d, hd⟩ : ∃ d, nfl false (val 18446744073709551616 l) x = d := ⟨_, rfl⟩
  rw [hd] at hd3 hm3 he3 hml hrt hd0
  rw [hW9] at hrt
  have hm60 : (d.man : Int) < 18446744073709551616 ^ 60 := by omega
  obtain ⟨mm, hmm⟩ : ∃ mm, d.man = mm := ⟨_, rfl⟩
  rw [hmm] at hm3 hrt hd0 hm60
  rw [he3] at hrt
  have hlen3 : q3.length ≤ 60 := len_val m3.2.2 hd3.1 hm3.symm hm60
  have HM3 := Lib.hid hm3
  have HRT := Lib.hid hrt
  have HD0 := Lib.hid hd0
  have HM60 := Lib.hid hm60
  have HL3 := Lib.hid hlen3
  clear hd3 he3 hml hp hbl hd hW9 hmm hm3 hrt hd0 hm60 n3 hlen3
  replace m3 := Lv.put m3 PB (b3) (A3) (q3.length) (c3) (x3)
  replace PB := Dbx.put PB (b3) (A3) (q3.length) (c3) (x3)
  go_upto_region 8 with fail
  clear PB_0 PB_1 PB_2 PB_f0 PB_f1 PB_f2
  replace bw : Below w.heap.size w (((w5.setCell ⟨w.heap.size, 0, none⟩ (.bool b3)).setCell ⟨w.heap.size, 1, none⟩ (.slice A3 q3.length c3)).setCell ⟨w.heap.size, 2, none⟩ (.int .i64 x3)) := by go_grown
  have hs6 : w.heap.size + 1 ≤ (((w5.setCell ⟨w.heap.size, 0, none⟩ (.bool b3)).setCell ⟨w.heap.size, 1, none⟩ (.slice A3 q3.length c3)).setCell ⟨w.heap.size, 2, none⟩ (.int .i64 x3)).heap.size := by simp only [World.size_setCell]; omega
  generalize (((w5.setCell ⟨w.heap.size, 0, none⟩ (.bool b3)).setCell ⟨w.heap.size, 1, none⟩ (.slice A3 q3.length c3)).setCell ⟨w.heap.size, 2, none⟩ (.int .i64 x3)) = W6 at m3 PB bw hs6 ⊢
  try clear hs1 hs2 hs3 hs4 hs5
  obtain ⟨PB_0, PB_1, PB_2, PB_f0, PB_f1, PB_f2⟩ := Dbx.cells PB
  rcases Int.emod_two_eq (x3 - 140) with hpar | hpar
  · obtain ⟨E, hE⟩ : ∃ E, x3 - 140 = 2 * E := ⟨(x3 - 140) / 2, by omega⟩
    have ht0 := (even_tmod hE).1
    have HE := Lib.hid hE
    have htd := (even_tmod hE).2
    clear hE hpar
    go_wp2_with fail
    have hlen3 := HL3.out
    have psh := refShl_any m3 (by omega) 140 (by omega)
    rw [show ((140 : Nat) : Int) = 140 from rfl] at psh
    with_reducible refine (psh).mono ?_
    rintro e w6 ⟨P, Am, cm, rfl, n_P, v_P, m_P, hb⟩
    clear PB_0 PB_1 PB_2 PB_f0 PB_f1 PB_f2
    have hs6 := hb.size
    try simp only [World.size_alloc, World.size_setCell] at hs6
    replace bw : Below w.heap.size w w6 := dy_end (by go_grown) hb
    replace m3 := Lv.on m3 hb
    replace PB := Blk.on PB hb
    clear hb
    obtain ⟨PB_0, PB_1, PB_2, PB_f0, PB_f1, PB_f2⟩ := Dbx.cells PB
    clear psh
    rw [← HM3.out] at v_P
    have hMB : (mm : Int) * 2 ^ 140 < 18446744073709551616 ^ 63 := by
      have e : (18446744073709551616 : Int) ^ 63 = 18446744073709551616 ^ 60 * 2 ^ 192 := by decide
      have h1 := Int.mul_lt_mul_of_pos_right HM60.out (two_pos 140)
      have h2 : (18446744073709551616 : Int) ^ 60 * 2 ^ 140 ≤ 18446744073709551616 ^ 60 * 2 ^ 192 := Int.mul_le_mul_of_nonneg_left (pow_le' (b := 2) (by omega) (by omega)) (Int.le_of_lt (Int.pow_pos (by omega)))
      rw [e]; exact Int.lt_of_lt_of_le h1 h2
    obtain ⟨M, hM⟩ : ∃ M, (mm : Int) * 2 ^ 140 = M := ⟨_, rfl⟩
    have HMM := Lib.hid hM
    rw [hM] at v_P hMB
    have lenP : P.length ≤ 63 := len_val m_P.2.2 n_P v_P.out hMB
    have HMB := Lib.hid hMB
    clear hM hMB hlen3
    go_wp2_with fail
    have pb := refBits_any m_P (by omega)
    rw [v_P.out] at pb
    with_reducible refine (pb).mono ?_
    rintro e w7 ⟨bm, rfl, hbm, hb⟩
    clear PB_0 PB_1 PB_2 PB_f0 PB_f1 PB_f2
    have hs7 := hb.size
    try simp only [World.size_alloc, World.size_setCell] at hs7
    replace bw : Below w.heap.size w w7 := dy_end (by go_grown) hb
    replace m3 := Lv.on m3 hb
    replace m_P := Lv.on m_P hb
    replace PB := Blk.on PB hb
    clear hb
    obtain ⟨PB_0, PB_1, PB_2, PB_f0, PB_f1, PB_f2⟩ := Dbx.cells PB
    have hbm2 : bm ≤ 64 * 63 := bits_le HMB.out hbm
    have HST := Lib.hid (RootInv.start hbm)
    obtain ⟨t, ht⟩ : ∃ t, bm / 2 = t := ⟨_, rfl⟩
    have hti : (bm : Int) / 2 = t := by omega
    have htb : t ≤ 2016 := by omega
    have hti2 : (t : Int) ≤ 2016 := by omega
    rw [ht] at HST
    clear hbm hbm2 ht pb
    go_wp2_with fail
    go_loopw [6, 7, 8] (fun s i _ wr => ∃ (j : Nat) (z : Int) (R : List Int) (A7 : Option Addr) (c7 : Nat), s = .slice A7 R.length c7 ∧ i = .int .i64 z ∧ z = (j : Int) - 1 ∧ j ≤ t + 2 ∧ Normal R ∧ Hid (RootInv M j (val 18446744073709551616 R)) ∧ Lv wr A7 R.length c7 R ∧ Below w7.heap.size w7 wr) (fun _ i _ _ => (intOf i + 1).toNat)
    case atStart => exact ⟨t + 2, (t : Int) + 1, [], none, 0, rfl, by go_num, by omega, Nat.le_refl _, Normal.nil, by show RootInv _ _ _; rw [val_nil]; exact HST.out, lv_nil _, Below.refl _ _⟩
    case round =>
      obtain ⟨j, z, R, A7, c7, rfl, rfl, hz, hj, n_R, hI, m_R, hbw⟩ := hrel
      have lenR : R.length ≤ 63 := hI.out.short m_R.2.2 n_R rfl HMB.out
      rcases j with _ | k
      · have hz1 : z = -1 := by omega
        subst hz1
        clear hz hj
        clear PB_0 PB_1 PB_2 PB_f0 PB_f1 PB_f2
        replace m3 := Lv.on m3 hbw
        replace m_P := Lv.on m_P hbw
        replace PB := Blk.on PB hbw
        replace bw : Below w.heap.size w wr := dy_end bw hbw
        have hsr := hbw.size
        clear hbw HST
        obtain ⟨PB_0, PB_1, PB_2, PB_f0, PB_f1, PB_f2⟩ := Dbx.cells PB
        obtain ⟨I0, I1, I2⟩ := hI.out
        obtain ⟨S, hS⟩ : ∃ S, val 18446744073709551616 R = S := ⟨_, rfl⟩
        obtain ⟨b5, hb5⟩ := exists_bits S (by rw [← hS]; exact I0)
        rw [hS] at I0 I1 I2
        rw [Int.pow_zero] at I2
        obtain ⟨h64, hans⟩ := ref_root (a := mm) (k := 140) (x := x3) (E := E) (s := S) HD0.out (by omega) HE.out I0 (by rw [HMM.out]; exact I1) (by rw [HMM.out]; exact I2) hb5
        rw [HRT.out, HMM.out] at hans
        have hle := I1
        have HANS := Lib.hid hans
        have H64 := Lib.hid h64
        have HB5 := Lib.hid hb5
        have HS := Lib.hid hS
        have HLE := Lib.hid hle
        clear hans h64 hb5 hI I0 I1 I2 hle hS
        go_wp2_with fail
        have pm := refMul_lv m_R m_R (by omega) (by omega)
        rw [HS.out] at pm
        with_reducible refine (pm).mono ?_
        rintro e w8 ⟨T, A8, c8, rfl, n_T, v_T, m_T, hb⟩
        clear PB_0 PB_1 PB_2 PB_f0 PB_f1 PB_f2
        have hs8 := hb.size
        try simp only [World.size_alloc, World.size_setCell] at hs8
        replace bw : Below w.heap.size w w8 := dy_end (by go_grown) hb
        replace m3 := Lv.on m3 hb
        replace m_P := Lv.on m_P hb
        replace m_R := Lv.on m_R hb
        replace PB := Blk.on PB hb
        clear hb
        obtain ⟨PB_0, PB_1, PB_2, PB_f0, PB_f1, PB_f2⟩ := Dbx.cells PB
        have lenT : T.length ≤ 63 := len_val m_T.2.2 n_T v_T.out (Int.lt_of_le_of_lt HLE.out HMB.out)
        clear pm
        have pc := refCmp_any m_T m_P (by omega) (by omega)
        rw [v_T.out, v_P.out] at pc
        have E0 : -2305843009213693952 ≤ E ∧ E ≤ 2305843009213693952 := by have := HE.out; omega
        obtain ⟨E1, E2⟩ := E0
        rcases Int.lt_or_eq_of_le HLE.out with hlt | heq
        · rw [sg_lt hlt] at pc
          have HA : signW false (rnd (S / 2 ^ (b5 - 64)) (E + b5 - 64) (true || lostB S (b5 - 64))) = (W9 : Int) := by rw [← HANS.out, decide_eq_true hlt]
          have HAH := Lib.hid HA
          clear HA hlt
          go_wp2_with fail
          with_reducible refine (pc).mono ?_
          rintro e w9 ⟨rfl, hb⟩
          clear PB_0 PB_1 PB_2 PB_f0 PB_f1 PB_f2
          have hs9 := hb.size
          try simp only [World.size_alloc, World.size_setCell] at hs9
          replace bw : Below w.heap.size w w9 := dy_end (by go_grown) hb
          replace m3 := Lv.on m3 hb
          replace m_P := Lv.on m_P hb
          replace m_R := Lv.on m_R hb
          replace m_T := Lv.on m_T hb
          replace PB := Blk.on PB hb
          clear hb
          obtain ⟨PB_0, PB_1, PB_2, PB_f0, PB_f1, PB_f2⟩ := Dbx.cells PB
          clear pc
          have pr := refRound_any false true E m_R (by omega) (by rw [HS.out]; exact HB5.out) H64.out E1 E2
          rw [HS.out, HAH.out] at pr
          go_wp2_with fail
          with_reducible refine (pr).mono ?_
          rintro e w10 ⟨rfl, hb⟩
          clear PB_0 PB_1 PB_2 PB_f0 PB_f1 PB_f2
          have hs10 := hb.size
          try simp only [World.size_alloc, World.size_setCell] at hs10
          replace bw : Below w.heap.size w w10 := dy_end (by go_grown) hb
          replace m3 := Lv.on m3 hb
          replace m_P := Lv.on m_P hb
          replace m_R := Lv.on m_R hb
          replace m_T := Lv.on m_T hb
          replace PB := Blk.on PB hb
          clear hb
          obtain ⟨PB_0, PB_1, PB_2, PB_f0, PB_f1, PB_f2⟩ := Dbx.cells PB
          go_wp2_with fail
          go_ret2
          exact ⟨rfl, by go_grown⟩
        · rw [heq, sg_eq] at pc
          have HA : signW false (rnd (S / 2 ^ (b5 - 64)) (E + b5 - 64) (false || lostB S (b5 - 64))) = (W9 : Int) := by rw [← HANS.out, decide_eq_false (by omega)]
          have HAH := Lib.hid HA
          clear HA heq
          go_wp2_with fail
          with_reducible refine (pc).mono ?_
          rintro e w9 ⟨rfl, hb⟩
          clear PB_0 PB_1 PB_2 PB_f0 PB_f1 PB_f2
          have hs9 := hb.size
          try simp only [World.size_alloc, World.size_setCell] at hs9
          replace bw : Below w.heap.size w w9 := dy_end (by go_grown) hb
          replace m3 := Lv.on m3 hb
          replace m_P := Lv.on m_P hb
          replace m_R := Lv.on m_R hb
          replace m_T := Lv.on m_T hb
          replace PB := Blk.on PB hb
          clear hb
          obtain ⟨PB_0, PB_1, PB_2, PB_f0, PB_f1, PB_f2⟩ := Dbx.cells PB
          clear pc
          have pr := refRound_any false false E m_R (by omega) (by rw [HS.out]; exact HB5.out) H64.out E1 E2
          rw [HS.out, HAH.out] at pr
          go_wp2_with fail
          with_reducible refine (pr).mono ?_
          rintro e w10 ⟨rfl, hb⟩
          clear PB_0 PB_1 PB_2 PB_f0 PB_f1 PB_f2
          have hs10 := hb.size
          try simp only [World.size_alloc, World.size_setCell] at hs10
          replace bw : Below w.heap.size w w10 := dy_end (by go_grown) hb
          replace m3 := Lv.on m3 hb
          replace m_P := Lv.on m_P hb
          replace m_R := Lv.on m_R hb
          replace m_T := Lv.on m_T hb
          replace PB := Blk.on PB hb
          clear hb
          obtain ⟨PB_0, PB_1, PB_2, PB_f0, PB_f1, PB_f2⟩ := Dbx.cells PB
          go_wp2_with fail
          go_ret2
          exact ⟨rfl, by go_grown⟩
      · obtain rfl : z = (k : Int) := by omega
        clear hz
        clear PB_0 PB_1 PB_2 PB_f0 PB_f1 PB_f2
        have m_Q := Lv.on m_P hbw
        clear m_P m3 PB
        have hk2 : k ≤ 2017 := by omega
        have hki : (k : Int) ≤ 2017 := by omega
        have HK := Lib.hid (show k ≤ t + 2 by omega)
        have pw := refPow2_any k (by omega) wr
        go_wp2_with fail
        with_reducible refine pw.mono ?_
        rintro e u1 ⟨Q1, B1, d1, rfl, n_1, v_1, m_1, hb1⟩
        have len1 : Q1.length ≤ 64 := len_val m_1.2.2 n_1 v_1.out (pow_lt9 (by omega))
        have bu := bel_then hbw hb1
        replace m_R := m_R.on hb1
        replace m_Q := m_Q.on hb1
        have pa := refAdd_lv m_R m_1 (by omega) (by omega)
        rw [v_1.out] at pa
        clear pw hb1 hbw
        go_wp2_with fail
        with_reducible refine pa.mono ?_
        rintro e u2 ⟨Q2, B2, d2, rfl, n_2, v_2, m_2, hb2⟩
        have len2 : Q2.length ≤ 64 := next_short (x := 0) hI.out m_2.2.2 n_2 v_2.out HMB.out (by omega)
        have bu2 := bel_then bu hb2
        replace m_R := m_R.on hb2
        replace m_Q := m_Q.on hb2
        have pm := refMul_lv m_2 m_2 (by omega) (by omega)
        rw [v_2.out] at pm
        clear pa hb2 bu m_1 v_1 n_1
        go_wp2_with fail
        with_reducible refine pm.mono ?_
        rintro e u3 ⟨Q3, B3, d3, rfl, n_3, v_3, m_3, hb3⟩
        have len3 : Q3.length ≤ 10000 := by
          refine Nat.le_trans (len_val (k := 130) m_3.2.2 n_3 v_3.out ?_) (by omega)
          have z1 := hI.out; have z2 := z1.1; have z3 := Int.lt_of_le_of_lt (sq_self_le z1.1 z1.2.1) HMB.out
          have z4 : (2 : Int) ^ k ≤ 18446744073709551616 ^ 63 := by rw [pow64]; exact pow_le' (by omega) (by omega)
          have z5 := two_pos k
          exact sq_130 (by omega) z3 z4
        have bu3 := bel_then bu2 hb3
        replace m_R := m_R.on hb3
        replace m_Q := m_Q.on hb3
        replace m_2 := m_2.on hb3
        have pc := refCmp_any m_3 m_Q (by omega) (by omega)
        rw [v_3.out, v_P.out] at pc
        clear pm hb3 bu2
        rcases Int.lt_or_le M ((val 18446744073709551616 R + 2 ^ k) * (val 18446744073709551616 R + 2 ^ k)) with hlt | hle
        · rw [sg_gt hlt] at pc
          have HI2 := Lib.hid (hI.out.no hlt)
          clear hlt
          go_wp2_with fail
          with_reducible refine pc.mono ?_
          rintro e u4 ⟨rfl, hb4⟩
          replace m_R := m_R.on hb4
          have bu4 := bel_then bu3 hb4
          clear hb4 bu3 pc
          go_wp2_with fail
          go_roundw
          case rel => exact ⟨k, (k : Int) - 1, R, A7, c7, rfl, by go_num, rfl, HK.out, n_R, HI2, m_R, bu4⟩
          case measure => simp [intOf]
        · obtain ⟨gg, hgg⟩ : ∃ g, sg ((val 18446744073709551616 R + 2 ^ k) * (val 18446744073709551616 R + 2 ^ k)) M = g := ⟨_, rfl⟩
          have hg0 : gg ≤ 0 := by rw [← hgg]; rcases Int.lt_or_eq_of_le hle with h' | h'; rw [sg_lt h']; omega; rw [h', sg_eq]; omega
          rw [hgg] at pc
          have HI2 := Lib.hid (hI.out.yes hle)
          clear hle hgg
          rw [← v_2.out] at HI2
          go_wp2_with fail
          with_reducible refine pc.mono ?_
          rintro e u4 ⟨rfl, hb4⟩
          replace m_2 := m_2.on hb4
          have bu4 := bel_then bu3 hb4
          clear hb4 bu3 pc
          go_wp2_with fail
          go_roundw
          case rel => exact ⟨k, (k : Int) - 1, Q2, B2, d2, rfl, by go_num, rfl, HK.out, n_2, HI2, m_2, bu4⟩
          case measure => simp [intOf]
  · rcases odd_tmod (y := x3 - 140) (E := (x3 - 141) / 2) (by omega) with hodd | hodd
    · obtain ⟨E, hE⟩ : ∃ E, x3 - 141 = 2 * E := ⟨(x3 - 141) / 2, by omega⟩
      have ht0 : (x3 - 140).tmod 2 = 1 := hodd
      have HE := Lib.hid hE
      have htd := (even_tmod hE).2
      clear hE hpar
      go_wp2_with fail
      have hlen3 := HL3.out
      have psh := refShl_any m3 (by omega) 141 (by omega)
      rw [show ((141 : Nat) : Int) = 141 from rfl] at psh
      with_reducible refine (psh).mono ?_
      rintro e w6 ⟨P, Am, cm, rfl, n_P, v_P, m_P, hb⟩
      clear PB_0 PB_1 PB_2 PB_f0 PB_f1 PB_f2
      have hs6 := hb.size
      try simp only [World.size_alloc, World.size_setCell] at hs6
      replace bw : Below w.heap.size w w6 := dy_end (by go_grown) hb
      replace m3 := Lv.on m3 hb
      replace PB := Blk.on PB hb
      clear hb
      obtain ⟨PB_0, PB_1, PB_2, PB_f0, PB_f1, PB_f2⟩ := Dbx.cells PB
      clear psh
      rw [← HM3.out] at v_P
      have hMB : (mm : Int) * 2 ^ 141 < 18446744073709551616 ^ 63 := by
        have e : (18446744073709551616 : Int) ^ 63 = 18446744073709551616 ^ 60 * 2 ^ 192 := by decide
        have h1 := Int.mul_lt_mul_of_pos_right HM60.out (two_pos 141)
        have h2 : (18446744073709551616 : Int) ^ 60 * 2 ^ 141 ≤ 18446744073709551616 ^ 60 * 2 ^ 192 := Int.mul_le_mul_of_nonneg_left (pow_le' (b := 2) (by omega) (by omega)) (Int.le_of_lt (Int.pow_pos (by omega)))
        rw [e]; exact Int.lt_of_lt_of_le h1 h2
      obtain ⟨M, hM⟩ : ∃ M, (mm : Int) * 2 ^ 141 = M := ⟨_, rfl⟩
      have HMM := Lib.hid hM
      rw [hM] at v_P hMB
      have lenP : P.length ≤ 63 := len_val m_P.2.2 n_P v_P.out hMB
      have HMB := Lib.hid hMB
      clear hM hMB hlen3
      go_wp2_with fail
      have pb := refBits_any m_P (by omega)
      rw [v_P.out] at pb
      with_reducible refine (pb).mono ?_
      rintro e w7 ⟨bm, rfl, hbm, hb⟩
      clear PB_0 PB_1 PB_2 PB_f0 PB_f1 PB_f2
      have hs7 := hb.size
      try simp only [World.size_alloc, World.size_setCell] at hs7
      replace bw : Below w.heap.size w w7 := dy_end (by go_grown) hb
      replace m3 := Lv.on m3 hb
      replace m_P := Lv.on m_P hb
      replace PB := Blk.on PB hb
      clear hb
      obtain ⟨PB_0, PB_1, PB_2, PB_f0, PB_f1, PB_f2⟩ := Dbx.cells PB
      have hbm2 : bm ≤ 64 * 63 := bits_le HMB.out hbm
      have HST := Lib.hid (RootInv.start hbm)
      obtain ⟨t, ht⟩ : ∃ t, bm / 2 = t := ⟨_, rfl⟩
      have hti : (bm : Int) / 2 = t := by omega
      have htb : t ≤ 2016 := by omega
      have hti2 : (t : Int) ≤ 2016 := by omega
      rw [ht] at HST
      clear hbm hbm2 ht pb
      go_wp2_with fail
      go_loopw [6, 7, 8] (fun s i _ wr => ∃ (j : Nat) (z : Int) (R : List Int) (A7 : Option Addr) (c7 : Nat), s = .slice A7 R.length c7 ∧ i = .int .i64 z ∧ z = (j : Int) - 1 ∧ j ≤ t + 2 ∧ Normal R ∧ Hid (RootInv M j (val 18446744073709551616 R)) ∧ Lv wr A7 R.length c7 R ∧ Below w7.heap.size w7 wr) (fun _ i _ _ => (intOf i + 1).toNat)
      case atStart => exact ⟨t + 2, (t : Int) + 1, [], none, 0, rfl, by go_num, by omega, Nat.le_refl _, Normal.nil, by show RootInv _ _ _; rw [val_nil]; exact HST.out, lv_nil _, Below.refl _ _⟩
      case round =>
        obtain ⟨j, z, R, A7, c7, rfl, rfl, hz, hj, n_R, hI, m_R, hbw⟩ := hrel
        have lenR : R.length ≤ 63 := hI.out.short m_R.2.2 n_R rfl HMB.out
        rcases j with _ | k
        · have hz1 : z = -1 := by omega
          subst hz1
          clear hz hj
          clear PB_0 PB_1 PB_2 PB_f0 PB_f1 PB_f2
          replace m3 := Lv.on m3 hbw
          replace m_P := Lv.on m_P hbw
          replace PB := Blk.on PB hbw
          replace bw : Below w.heap.size w wr := dy_end bw hbw
          have hsr := hbw.size
          clear hbw HST
          obtain ⟨PB_0, PB_1, PB_2, PB_f0, PB_f1, PB_f2⟩ := Dbx.cells PB
          obtain ⟨I0, I1, I2⟩ := hI.out
          obtain ⟨S, hS⟩ : ∃ S, val 18446744073709551616 R = S := ⟨_, rfl⟩
          obtain ⟨b5, hb5⟩ := exists_bits S (by rw [← hS]; exact I0)
          rw [hS] at I0 I1 I2
          rw [Int.pow_zero] at I2
          obtain ⟨h64, hans⟩ := ref_root (a := mm) (k := 141) (x := x3) (E := E) (s := S) HD0.out (by omega) HE.out I0 (by rw [HMM.out]; exact I1) (by rw [HMM.out]; exact I2) hb5
          rw [HRT.out, HMM.out] at hans
          have hle := I1
          have HANS := Lib.hid hans
          have H64 := Lib.hid h64
          have HB5 := Lib.hid hb5
          have HS := Lib.hid hS
          have HLE := Lib.hid hle
          clear hans h64 hb5 hI I0 I1 I2 hle hS
          go_wp2_with fail
          have pm := refMul_lv m_R m_R (by omega) (by omega)
          rw [HS.out] at pm
          with_reducible refine (pm).mono ?_
          rintro e w8 ⟨T, A8, c8, rfl, n_T, v_T, m_T, hb⟩
          clear PB_0 PB_1 PB_2 PB_f0 PB_f1 PB_f2
          have hs8 := hb.size
          try simp only [World.size_alloc, World.size_setCell] at hs8
          replace bw : Below w.heap.size w w8 := dy_end (by go_grown) hb
          replace m3 := Lv.on m3 hb
          replace m_P := Lv.on m_P hb
          replace m_R := Lv.on m_R hb
          replace PB := Blk.on PB hb
          clear hb
          obtain ⟨PB_0, PB_1, PB_2, PB_f0, PB_f1, PB_f2⟩ := Dbx.cells PB
          have lenT : T.length ≤ 63 := len_val m_T.2.2 n_T v_T.out (Int.lt_of_le_of_lt HLE.out HMB.out)
          clear pm
          have pc := refCmp_any m_T m_P (by omega) (by omega)
          rw [v_T.out, v_P.out] at pc
          have E0 : -2305843009213693952 ≤ E ∧ E ≤ 2305843009213693952 := by have := HE.out; omega
          obtain ⟨E1, E2⟩ := E0
          rcases Int.lt_or_eq_of_le HLE.out with hlt | heq
          · rw [sg_lt hlt] at pc
            have HA : signW false (rnd (S / 2 ^ (b5 - 64)) (E + b5 - 64) (true || lostB S (b5 - 64))) = (W9 : Int) := by rw [← HANS.out, decide_eq_true hlt]
            have HAH := Lib.hid HA
            clear HA hlt
            go_wp2_with fail
            with_reducible refine (pc).mono ?_
            rintro e w9 ⟨rfl, hb⟩
            clear PB_0 PB_1 PB_2 PB_f0 PB_f1 PB_f2
            have hs9 := hb.size
            try simp only [World.size_alloc, World.size_setCell] at hs9
            replace bw : Below w.heap.size w w9 := dy_end (by go_grown) hb
            replace m3 := Lv.on m3 hb
            replace m_P := Lv.on m_P hb
            replace m_R := Lv.on m_R hb
            replace m_T := Lv.on m_T hb
            replace PB := Blk.on PB hb
            clear hb
            obtain ⟨PB_0, PB_1, PB_2, PB_f0, PB_f1, PB_f2⟩ := Dbx.cells PB
            clear pc
            have pr := refRound_any false true E m_R (by omega) (by rw [HS.out]; exact HB5.out) H64.out E1 E2
            rw [HS.out, HAH.out] at pr
            go_wp2_with fail
            with_reducible refine (pr).mono ?_
            rintro e w10 ⟨rfl, hb⟩
            clear PB_0 PB_1 PB_2 PB_f0 PB_f1 PB_f2
            have hs10 := hb.size
            try simp only [World.size_alloc, World.size_setCell] at hs10
            replace bw : Below w.heap.size w w10 := dy_end (by go_grown) hb
            replace m3 := Lv.on m3 hb
            replace m_P := Lv.on m_P hb
            replace m_R := Lv.on m_R hb
            replace m_T := Lv.on m_T hb
            replace PB := Blk.on PB hb
            clear hb
            obtain ⟨PB_0, PB_1, PB_2, PB_f0, PB_f1, PB_f2⟩ := Dbx.cells PB
            go_wp2_with fail
            go_ret2
            exact ⟨rfl, by go_grown⟩
          · rw [heq, sg_eq] at pc
            have HA : signW false (rnd (S / 2 ^ (b5 - 64)) (E + b5 - 64) (false || lostB S (b5 - 64))) = (W9 : Int) := by rw [← HANS.out, decide_eq_false (by omega)]
            have HAH := Lib.hid HA
            clear HA heq
            go_wp2_with fail
            with_reducible refine (pc).mono ?_
            rintro e w9 ⟨rfl, hb⟩
            clear PB_0 PB_1 PB_2 PB_f0 PB_f1 PB_f2
            have hs9 := hb.size
            try simp only [World.size_alloc, World.size_setCell] at hs9
            replace bw : Below w.heap.size w w9 := dy_end (by go_grown) hb
            replace m3 := Lv.on m3 hb
            replace m_P := Lv.on m_P hb
            replace m_R := Lv.on m_R hb
            replace m_T := Lv.on m_T hb
            replace PB := Blk.on PB hb
            clear hb
            obtain ⟨PB_0, PB_1, PB_2, PB_f0, PB_f1, PB_f2⟩ := Dbx.cells PB
            clear pc
            have pr := refRound_any false false E m_R (by omega) (by rw [HS.out]; exact HB5.out) H64.out E1 E2
            rw [HS.out, HAH.out] at pr
            go_wp2_with fail
            with_reducible refine (pr).mono ?_
            rintro e w10 ⟨rfl, hb⟩
            clear PB_0 PB_1 PB_2 PB_f0 PB_f1 PB_f2
            have hs10 := hb.size
            try simp only [World.size_alloc, World.size_setCell] at hs10
            replace bw : Below w.heap.size w w10 := dy_end (by go_grown) hb
            replace m3 := Lv.on m3 hb
            replace m_P := Lv.on m_P hb
            replace m_R := Lv.on m_R hb
            replace m_T := Lv.on m_T hb
            replace PB := Blk.on PB hb
            clear hb
            obtain ⟨PB_0, PB_1, PB_2, PB_f0, PB_f1, PB_f2⟩ := Dbx.cells PB
            go_wp2_with fail
            go_ret2
            exact ⟨rfl, by go_grown⟩
        · obtain rfl : z = (k : Int) := by omega
          clear hz
          clear PB_0 PB_1 PB_2 PB_f0 PB_f1 PB_f2
          have m_Q := Lv.on m_P hbw
          clear m_P m3 PB
          have hk2 : k ≤ 2017 := by omega
          have hki : (k : Int) ≤ 2017 := by omega
          have HK := Lib.hid (show k ≤ t + 2 by omega)
          have pw := refPow2_any k (by omega) wr
          go_wp2_with fail
          with_reducible refine pw.mono ?_
          rintro e u1 ⟨Q1, B1, d1, rfl, n_1, v_1, m_1, hb1⟩
          have len1 : Q1.length ≤ 64 := len_val m_1.2.2 n_1 v_1.out (pow_lt9 (by omega))
          have bu := bel_then hbw hb1
          replace m_R := m_R.on hb1
          replace m_Q := m_Q.on hb1
          have pa := refAdd_lv m_R m_1 (by omega) (by omega)
          rw [v_1.out] at pa
          clear pw hb1 hbw
          go_wp2_with fail
          with_reducible refine pa.mono ?_
          rintro e u2 ⟨Q2, B2, d2, rfl, n_2, v_2, m_2, hb2⟩
          have len2 : Q2.length ≤ 64 := next_short (x := 0) hI.out m_2.2.2 n_2 v_2.out HMB.out (by omega)
          have bu2 := bel_then bu hb2
          replace m_R := m_R.on hb2
          replace m_Q := m_Q.on hb2
          have pm := refMul_lv m_2 m_2 (by omega) (by omega)
          rw [v_2.out] at pm
          clear pa hb2 bu m_1 v_1 n_1
          go_wp2_with fail
          with_reducible refine pm.mono ?_
          rintro e u3 ⟨Q3, B3, d3, rfl, n_3, v_3, m_3, hb3⟩
          have len3 : Q3.length ≤ 10000 := by
            refine Nat.le_trans (len_val (k := 130) m_3.2.2 n_3 v_3.out ?_) (by omega)
            have z1 := hI.out; have z2 := z1.1; have z3 := Int.lt_of_le_of_lt (sq_self_le z1.1 z1.2.1) HMB.out
            have z4 : (2 : Int) ^ k ≤ 18446744073709551616 ^ 63 := by rw [pow64]; exact pow_le' (by omega) (by omega)
            have z5 := two_pos k
            exact sq_130 (by omega) z3 z4
          have bu3 := bel_then bu2 hb3
          replace m_R := m_R.on hb3
          replace m_Q := m_Q.on hb3
          replace m_2 := m_2.on hb3
          have pc := refCmp_any m_3 m_Q (by omega) (by omega)
          rw [v_3.out, v_P.out] at pc
          clear pm hb3 bu2
          rcases Int.lt_or_le M ((val 18446744073709551616 R + 2 ^ k) * (val 18446744073709551616 R + 2 ^ k)) with hlt | hle
          · rw [sg_gt hlt] at pc
            have HI2 := Lib.hid (hI.out.no hlt)
            clear hlt
            go_wp2_with fail
            with_reducible refine pc.mono ?_
            rintro e u4 ⟨rfl, hb4⟩
            replace m_R := m_R.on hb4
            have bu4 := bel_then bu3 hb4
            clear hb4 bu3 pc
            go_wp2_with fail
            go_roundw
            case rel => exact ⟨k, (k : Int) - 1, R, A7, c7, rfl, by go_num, rfl, HK.out, n_R, HI2, m_R, bu4⟩
            case measure => simp [intOf]
          · obtain ⟨gg, hgg⟩ : ∃ g, sg ((val 18446744073709551616 R + 2 ^ k) * (val 18446744073709551616 R + 2 ^ k)) M = g := ⟨_, rfl⟩
            have hg0 : gg ≤ 0 := by rw [← hgg]; rcases Int.lt_or_eq_of_le hle with h' | h'; rw [sg_lt h']; omega; rw [h', sg_eq]; omega
            rw [hgg] at pc
            have HI2 := Lib.hid (hI.out.yes hle)
            clear hle hgg
            rw [← v_2.out] at HI2
            go_wp2_with fail
            with_reducible refine pc.mono ?_
            rintro e u4 ⟨rfl, hb4⟩
            replace m_2 := m_2.on hb4
            have bu4 := bel_then bu3 hb4
            clear hb4 bu3 pc
            go_wp2_with fail
            go_roundw
            case rel => exact ⟨k, (k : Int) - 1, Q2, B2, d2, rfl, by go_num, rfl, HK.out, n_2, HI2, m_2, bu4⟩
            case measure => simp [intOf]
    · obtain ⟨E, hE⟩ : ∃ E, x3 - 141 = 2 * E := ⟨(x3 - 141) / 2, by omega⟩
      have ht0 : (x3 - 140).tmod 2 = -1 := hodd
      have HE := Lib.hid hE
      have htd := (even_tmod hE).2
      clear hE hpar
      go_wp2_with fail
      have hlen3 := HL3.out
      have psh := refShl_any m3 (by omega) 141 (by omega)
      rw [show ((141 : Nat) : Int) = 141 from rfl] at psh
      with_reducible refine (psh).mono ?_
      rintro e w6 ⟨P, Am, cm, rfl, n_P, v_P, m_P, hb⟩
      clear PB_0 PB_1 PB_2 PB_f0 PB_f1 PB_f2
      have hs6 := hb.size
      try simp only [World.size_alloc, World.size_setCell] at hs6
      replace bw : Below w.heap.size w w6 := dy_end (by go_grown) hb
      replace m3 := Lv.on m3 hb
      replace PB := Blk.on PB hb
      clear hb
      obtain ⟨PB_0, PB_1, PB_2, PB_f0, PB_f1, PB_f2⟩ := Dbx.cells PB
      clear psh
      rw [← HM3.out] at v_P
      have hMB : (mm : Int) * 2 ^ 141 < 18446744073709551616 ^ 63 := by
        have e : (18446744073709551616 : Int) ^ 63 = 18446744073709551616 ^ 60 * 2 ^ 192 := by decide
        have h1 := Int.mul_lt_mul_of_pos_right HM60.out (two_pos 141)
        have h2 : (18446744073709551616 : Int) ^ 60 * 2 ^ 141 ≤ 18446744073709551616 ^ 60 * 2 ^ 192 := Int.mul_le_mul_of_nonneg_left (pow_le' (b := 2) (by omega) (by omega)) (Int.le_of_lt (Int.pow_pos (by omega)))
        rw [e]; exact Int.lt_of_lt_of_le h1 h2
      obtain ⟨M, hM⟩ : ∃ M, (mm : Int) * 2 ^ 141 = M := ⟨_, rfl⟩
      have HMM := Lib.hid hM
      rw [hM] at v_P hMB
      have lenP : P.length ≤ 63 := len_val m_P.2.2 n_P v_P.out hMB
      have HMB := Lib.hid hMB
      clear hM hMB hlen3
      go_wp2_with fail
      have pb := refBits_any m_P (by omega)
      rw [v_P.out] at pb
      with_reducible refine (pb).mono ?_
      rintro e w7 ⟨bm, rfl, hbm, hb⟩
      clear PB_0 PB_1 PB_2 PB_f0 PB_f1 PB_f2
      have hs7 := hb.size
      try simp only [World.size_alloc, World.size_setCell] at hs7
      replace bw : Below w.heap.size w w7 := dy_end (by go_grown) hb
      replace m3 := Lv.on m3 hb
      replace m_P := Lv.on m_P hb
      replace PB := Blk.on PB hb
      clear hb
      obtain ⟨PB_0, PB_1, PB_2, PB_f0, PB_f1, PB_f2⟩ := Dbx.cells PB
      have hbm2 : bm ≤ 64 * 63 := bits_le HMB.out hbm
      have HST := Lib.hid (RootInv.start hbm)
      obtain ⟨t, ht⟩ : ∃ t, bm / 2 = t := ⟨_, rfl⟩
      have hti : (bm : Int) / 2 = t := by omega
      have htb : t ≤ 2016 := by omega
      have hti2 : (t : Int) ≤ 2016 := by omega
      rw [ht] at HST
      clear hbm hbm2 ht pb
      go_wp2_with fail
      go_loopw [6, 7, 8] (fun s i _ wr => ∃ (j : Nat) (z : Int) (R : List Int) (A7 : Option Addr) (c7 : Nat), s = .slice A7 R.length c7 ∧ i = .int .i64 z ∧ z = (j : Int) - 1 ∧ j ≤ t + 2 ∧ Normal R ∧ Hid (RootInv M j (val 18446744073709551616 R)) ∧ Lv wr A7 R.length c7 R ∧ Below w7.heap.size w7 wr) (fun _ i _ _ => (intOf i + 1).toNat)
      case atStart => exact ⟨t + 2, (t : Int) + 1, [], none, 0, rfl, by go_num, by omega, Nat.le_refl _, Normal.nil, by show RootInv _ _ _; rw [val_nil]; exact HST.out, lv_nil _, Below.refl _ _⟩
      case round =>
        obtain ⟨j, z, R, A7, c7, rfl, rfl, hz, hj, n_R, hI, m_R, hbw⟩ := hrel
        have lenR : R.length ≤ 63 := hI.out.short m_R.2.2 n_R rfl HMB.out
        rcases j with _ | k
        · have hz1 : z = -1 := by omega
          subst hz1
          clear hz hj
          clear PB_0 PB_1 PB_2 PB_f0 PB_f1 PB_f2
          replace m3 := Lv.on m3 hbw
          replace m_P := Lv.on m_P hbw
          replace PB := Blk.on PB hbw
          replace bw : Below w.heap.size w wr := dy_end bw hbw
          have hsr := hbw.size
          clear hbw HST
          obtain ⟨PB_0, PB_1, PB_2, PB_f0, PB_f1, PB_f2⟩ := Dbx.cells PB
          obtain ⟨I0, I1, I2⟩ := hI.out
          obtain ⟨S, hS⟩ : ∃ S, val 18446744073709551616 R = S := ⟨_, rfl⟩
          obtain ⟨b5, hb5⟩ := exists_bits S (by rw [← hS]; exact I0)
          rw [hS] at I0 I1 I2
          rw [Int.pow_zero] at I2
          obtain ⟨h64, hans⟩ := ref_root (a := mm) (k := 141) (x := x3) (E := E) (s := S) HD0.out (by omega) HE.out I0 (by rw [HMM.out]; exact I1) (by rw [HMM.out]; exact I2) hb5
          rw [HRT.out, HMM.out] at hans
          have hle := I1
          have HANS := Lib.hid hans
          have H64 := Lib.hid h64
          have HB5 := Lib.hid hb5
          have HS := Lib.hid hS
          have HLE := Lib.hid hle
          clear hans h64 hb5 hI I0 I1 I2 hle hS
          go_wp2_with fail
          have pm := refMul_lv m_R m_R (by omega) (by omega)
          rw [HS.out] at pm
          with_reducible refine (pm).mono ?_
          rintro e w8 ⟨T, A8, c8, rfl, n_T, v_T, m_T, hb⟩
          clear PB_0 PB_1 PB_2 PB_f0 PB_f1 PB_f2
          have hs8 := hb.size
          try simp only [World.size_alloc, World.size_setCell] at hs8
          replace bw : Below w.heap.size w w8 := dy_end (by go_grown) hb
          replace m3 := Lv.on m3 hb
          replace m_P := Lv.on m_P hb
          replace m_R := Lv.on m_R hb
          replace PB := Blk.on PB hb
          clear hb
          obtain ⟨PB_0, PB_1, PB_2, PB_f0, PB_f1, PB_f2⟩ := Dbx.cells PB
          have lenT : T.length ≤ 63 := len_val m_T.2.2 n_T v_T.out (Int.lt_of_le_of_lt HLE.out HMB.out)
          clear pm
          have pc := refCmp_any m_T m_P (by omega) (by omega)
          rw [v_T.out, v_P.out] at pc
          have E0 : -2305843009213693952 ≤ E ∧ E ≤ 2305843009213693952 := by have := HE.out; omega
          obtain ⟨E1, E2⟩ := E0
          rcases Int.lt_or_eq_of_le HLE.out with hlt | heq
          · rw [sg_lt hlt] at pc
            have HA : signW false (rnd (S / 2 ^ (b5 - 64)) (E + b5 - 64) (true || lostB S (b5 - 64))) = (W9 : Int) := by rw [← HANS.out, decide_eq_true hlt]
            have HAH := Lib.hid HA
            clear HA hlt
            go_wp2_with fail
            with_reducible refine (pc).mono ?_
            rintro e w9 ⟨rfl, hb⟩
            clear PB_0 PB_1 PB_2 PB_f0 PB_f1 PB_f2
            have hs9 := hb.size
            try simp only [World.size_alloc, World.size_setCell] at hs9
            replace bw : Below w.heap.size w w9 := dy_end (by go_grown) hb
            replace m3 := Lv.on m3 hb
            replace m_P := Lv.on m_P hb
            replace m_R := Lv.on m_R hb
            replace m_T := Lv.on m_T hb
            replace PB := Blk.on PB hb
            clear hb
            obtain ⟨PB_0, PB_1, PB_2, PB_f0, PB_f1, PB_f2⟩ := Dbx.cells PB
            clear pc
            have pr := refRound_any false true E m_R (by omega) (by rw [HS.out]; exact HB5.out) H64.out E1 E2
            rw [HS.out, HAH.out] at pr
            go_wp2_with fail
            with_reducible refine (pr).mono ?_
            rintro e w10 ⟨rfl, hb⟩
            clear PB_0 PB_1 PB_2 PB_f0 PB_f1 PB_f2
            have hs10 := hb.size
            try simp only [World.size_alloc, World.size_setCell] at hs10
            replace bw : Below w.heap.size w w10 := dy_end (by go_grown) hb
            replace m3 := Lv.on m3 hb
            replace m_P := Lv.on m_P hb
            replace m_R := Lv.on m_R hb
            replace m_T := Lv.on m_T hb
            replace PB := Blk.on PB hb
            clear hb
            obtain ⟨PB_0, PB_1, PB_2, PB_f0, PB_f1, PB_f2⟩ := Dbx.cells PB
            go_wp2_with fail
            go_ret2
            exact ⟨rfl, by go_grown⟩
          · rw [heq, sg_eq] at pc
            have HA : signW false (rnd (S / 2 ^ (b5 - 64)) (E + b5 - 64) (false || lostB S (b5 - 64))) = (W9 : Int) := by rw [← HANS.out, decide_eq_false (by omega)]
            have HAH := Lib.hid HA
            clear HA heq
            go_wp2_with fail
            with_reducible refine (pc).mono ?_
            rintro e w9 ⟨rfl, hb⟩
            clear PB_0 PB_1 PB_2 PB_f0 PB_f1 PB_f2
            have hs9 := hb.size
            try simp only [World.size_alloc, World.size_setCell] at hs9
            replace bw : Below w.heap.size w w9 := dy_end (by go_grown) hb
            replace m3 := Lv.on m3 hb
            replace m_P := Lv.on m_P hb
            replace m_R := Lv.on m_R hb
            replace m_T := Lv.on m_T hb
            replace PB := Blk.on PB hb
            clear hb
            obtain ⟨PB_0, PB_1, PB_2, PB_f0, PB_f1, PB_f2⟩ := Dbx.cells PB
            clear pc
            have pr := refRound_any false false E m_R (by omega) (by rw [HS.out]; exact HB5.out) H64.out E1 E2
            rw [HS.out, HAH.out] at pr
            go_wp2_with fail
            with_reducible refine (pr).mono ?_
            rintro e w10 ⟨rfl, hb⟩
            clear PB_0 PB_1 PB_2 PB_f0 PB_f1 PB_f2
            have hs10 := hb.size
            try simp only [World.size_alloc, World.size_setCell] at hs10
            replace bw : Below w.heap.size w w10 := dy_end (by go_grown) hb
            replace m3 := Lv.on m3 hb
            replace m_P := Lv.on m_P hb
            replace m_R := Lv.on m_R hb
            replace m_T := Lv.on m_T hb
            replace PB := Blk.on PB hb
            clear hb
            obtain ⟨PB_0, PB_1, PB_2, PB_f0, PB_f1, PB_f2⟩ := Dbx.cells PB
            go_wp2_with fail
            go_ret2
            exact ⟨rfl, by go_grown⟩
        · obtain rfl : z = (k : Int) := by omega
          clear hz
          clear PB_0 PB_1 PB_2 PB_f0 PB_f1 PB_f2
          have m_Q := Lv.on m_P hbw
          clear m_P m3 PB
          have hk2 : k ≤ 2017 := by omega
          have hki : (k : Int) ≤ 2017 := by omega
          have HK := Lib.hid (show k ≤ t + 2 by omega)
          have pw := refPow2_any k (by omega) wr
          go_wp2_with fail
          with_reducible refine pw.mono ?_
          rintro e u1 ⟨Q1, B1, d1, rfl, n_1, v_1, m_1, hb1⟩
          have len1 : Q1.length ≤ 64 := len_val m_1.2.2 n_1 v_1.out (pow_lt9 (by omega))
          have bu := bel_then hbw hb1
          replace m_R := m_R.on hb1
          replace m_Q := m_Q.on hb1
          have pa := refAdd_lv m_R m_1 (by omega) (by omega)
          rw [v_1.out] at pa
          clear pw hb1 hbw
          go_wp2_with fail
          with_reducible refine pa.mono ?_
          rintro e u2 ⟨Q2, B2, d2, rfl, n_2, v_2, m_2, hb2⟩
          have len2 : Q2.length ≤ 64 := next_short (x := 0) hI.out m_2.2.2 n_2 v_2.out HMB.out (by omega)
          have bu2 := bel_then bu hb2
          replace m_R := m_R.on hb2
          replace m_Q := m_Q.on hb2
          have pm := refMul_lv m_2 m_2 (by omega) (by omega)
          rw [v_2.out] at pm
          clear pa hb2 bu m_1 v_1 n_1
          go_wp2_with fail
          with_reducible refine pm.mono ?_
          rintro e u3 ⟨Q3, B3, d3, rfl, n_3, v_3, m_3, hb3⟩
          have len3 : Q3.length ≤ 10000 := by
            refine Nat.le_trans (len_val (k := 130) m_3.2.2 n_3 v_3.out ?_) (by omega)
            have z1 := hI.out; have z2 := z1.1; have z3 := Int.lt_of_le_of_lt (sq_self_le z1.1 z1.2.1) HMB.out
            have z4 : (2 : Int) ^ k ≤ 18446744073709551616 ^ 63 := by rw [pow64]; exact pow_le' (by omega) (by omega)
            have z5 := two_pos k
            exact sq_130 (by omega) z3 z4
          have bu3 := bel_then bu2 hb3
          replace m_R := m_R.on hb3
          replace m_Q := m_Q.on hb3
          replace m_2 := m_2.on hb3
          have pc := refCmp_any m_3 m_Q (by omega) (by omega)
          rw [v_3.out, v_P.out] at pc
          clear pm hb3 bu2
          rcases Int.lt_or_le M ((val 18446744073709551616 R + 2 ^ k) * (val 18446744073709551616 R + 2 ^ k)) with hlt | hle
          · rw [sg_gt hlt] at pc
            have HI2 := Lib.hid (hI.out.no hlt)
            clear hlt
            go_wp2_with fail
            with_reducible refine pc.mono ?_
            rintro e u4 ⟨rfl, hb4⟩
            replace m_R := m_R.on hb4
            have bu4 := bel_then bu3 hb4
            clear hb4 bu3 pc
            go_wp2_with fail
            go_roundw
            case rel => exact ⟨k, (k : Int) - 1, R, A7, c7, rfl, by go_num, rfl, HK.out, n_R, HI2, m_R, bu4⟩
            case measure => simp [intOf]
          · obtain ⟨gg, hgg⟩ : ∃ g, sg ((val 18446744073709551616 R + 2 ^ k) * (val 18446744073709551616 R + 2 ^ k)) M = g := ⟨_, rfl⟩
            have hg0 : gg ≤ 0 := by rw [← hgg]; rcases Int.lt_or_eq_of_le hle with h' | h'; rw [sg_lt h']; omega; rw [h', sg_eq]; omega
            rw [hgg] at pc
            have HI2 := Lib.hid (hI.out.yes hle)
            clear hle hgg
            rw [← v_2.out] at HI2
            go_wp2_with fail
            with_reducible refine pc.mono ?_
            rintro e u4 ⟨rfl, hb4⟩
            replace m_2 := m_2.on hb4
            have bu4 := bel_then bu3 hb4
            clear hb4 bu3 pc
            go_wp2_with fail
            go_roundw
            case rel => exact ⟨k, (k : Int) - 1, Q2, B2, d2, rfl, by go_num, rfl, HK.out, n_2, HI2, m_2, bu4⟩
            case measure => simp [intOf]

end
end Go.Proofs.YtfjellhbcjnjkaaGreatDoor
namespace Go.Proofs.YtfjellhbcjnjkaaGreatDoor
open Go Go.RowKit Go.Sort Go.Bw
set_option linter.unusedVariables false
set_option linter.unusedSimpArgs false

section
variable {b : Bool} {A : Option Addr} {n c : Nat} {x : Int} {l : List Int} {w : World}
variable {b2 : Bool} {A2 : Option Addr} {n2 c2 : Nat} {x2 : Int} {l2 : List Int}
end
end Go.Proofs.YtfjellhbcjnjkaaGreatDoor
namespace Go.Proofs.YtfjellhbcjnjkaaGreatDoor
open Go Go.RowKit Go.Sort Go.Bw
set_option linter.unusedVariables false
set_option linter.unusedSimpArgs false

section
variable {b : Bool} {A : Option Addr} {n c : Nat} {x : Int} {l : List Int} {w : World}
variable {b2 : Bool} {A2 : Option Addr} {n2 c2 : Nat} {x2 : Int} {l2 : List Int}
set_option maxRecDepth 100000 in
set_option maxHeartbeats 8000000 in
theorem lmuch_yes (b : Bool) (A : Option Addr) (c : Nat) (x : Int) (w : World) (hn : 20 < n) :
    Calls Tryz.prog 23 #[dyV b A n c x] w fun e w' => e = .returned (.bool true) ∧ Below w.heap.size w w' := by
  have PB := Blk.new w [.bool b, .slice A n c, .int .i64 x] 35
  have bw : Below w.heap.size w (w.alloc (.cells #[.bool b, .slice A n c, .int .i64 x] 35)) := by go_grown
  have PB_0 := Blk.cell PB 0 rfl
  have PB_1 := Blk.cell PB 1 rfl
  have PB_2 := Blk.cell PB 2 rfl
  have PB_f0 := Blk.free PB 0
  have PB_f1 := Blk.free PB 1
  have PB_f2 := Blk.free PB 2
  have hq : decide ((20 : Int) < (n : Int)) = true := by simp; omega
  go_enter Tryz.func23, Tryz.ntmps23
  go_wp2_with fail
  go_ret
  exact ⟨rfl, by go_grown⟩

set_option maxRecDepth 100000 in
set_option maxHeartbeats 8000000 in
theorem lmuch_no (b : Bool) (A : Option Addr) (c : Nat) (x : Int) (w : World) (hn : n ≤ 20) :
    Calls Tryz.prog 23 #[dyV b A n c x] w fun e w' => e = .returned (.bool false) ∧ Below w.heap.size w w' := by
  have PB := Blk.new w [.bool b, .slice A n c, .int .i64 x] 35
  have bw : Below w.heap.size w (w.alloc (.cells #[.bool b, .slice A n c, .int .i64 x] 35)) := by go_grown
  have PB_0 := Blk.cell PB 0 rfl
  have PB_1 := Blk.cell PB 1 rfl
  have PB_2 := Blk.cell PB 2 rfl
  have PB_f0 := Blk.free PB 0
  have PB_f1 := Blk.free PB 1
  have PB_f2 := Blk.free PB 2
  have hq : decide ((20 : Int) < (n : Int)) = false := by simp; omega
  go_enter Tryz.func23, Tryz.ntmps23
  go_wp2_with fail
  go_ret
  exact ⟨rfl, by go_grown⟩

theorem root_pair9 (h : Lv w A n c l) (hn : n ≤ 20) : ∃ (X : Nat) (k : Int),
    (∀ W : World, Lv W A n c l → Tab W → Calls Tryz.prog 28 #[dyV b A n c x] W fun e w' => e = .returned (.tuple #[.float .f64 X, .int .i64 k]) ∧ Below W.heap.size W w') ∧
    (∀ W : World, Lv W A n c l → Calls Tryz.prog 29 #[dyV b A n c x] W fun e w' => e = .returned (.tuple #[.int .u64 X, .int .i64 k]) ∧ Below W.heap.size W w') := by
  have hb := fun k (hk : IsBits (val 18446744073709551616 l) k) => bits_le (h.less (Nat.le_refl n)) hk
  have v0 := h.nonneg
  cases ho : okE x
  · exact ⟨0, 2, fun W q t => root_a q (by omega) t ho, fun W q => rRoot_a q (by omega) ho⟩
  · obtain ⟨k1, hk1⟩ := exists_bits _ v0
    have e1 := hb k1 hk1
    by_cases hz : val 18446744073709551616 l = 0
    · exact ⟨0, 0, fun W q t => root_z q (by omega) t ho hz (Lib.hid hk1) (by omega), fun W q => rRoot_z q (by omega) ho (Lib.hid hz)⟩
    · cases b
      · refine ⟨rootW (val 18446744073709551616 l).toNat x, 0, fun W q t => ?_, fun W q => rRoot_m q (by omega) ho (Lib.hid hz)⟩
        cases hL : broL (val 18446744073709551616 l) (128 - k1 - (x - (128 - k1)) % 2)
        · exact root_mf q (by omega) t (by omega) ho (by omega) (Lib.hid hk1) (by omega) hL
        · exact root_mt q (by omega) t (by omega) ho (by omega) (Lib.hid hk1) (by omega) hL
      · exact ⟨0, 2, fun W q t => root_b q (by omega) t ho (by omega), fun W q => rRoot_b q (by omega) ho (Lib.hid hz)⟩
set_option maxRecDepth 100000 in
set_option maxHeartbeats 8000000 in
theorem SoftRoot_a (b : Bool) (A : Option Addr) (c : Nat) (x : Int) (hn : 20 < n) (hT : Tab w) :
    Calls Tryz.prog 10 #[dyV b A n c x] w fun e w' => e = .returned (.bool true) ∧ Below w.heap.size w w' := by
  have PB := Blk.new w [.bool b, .slice A n c, .int .i64 x] 35
  have bw : Below w.heap.size w (w.alloc (.cells #[.bool b, .slice A n c, .int .i64 x] 35)) := by go_grown
  have PB_0 := Blk.cell PB 0 rfl
  have PB_1 := Blk.cell PB 1 rfl
  have PB_2 := Blk.cell PB 2 rfl
  have PB_f0 := Blk.free PB 0
  have PB_f1 := Blk.free PB 1
  have PB_f2 := Blk.free PB 2
  go_enter Tryz.func10, Tryz.ntmps10
  go_wp2_with fail
  with_reducible refine (lmuch_yes b A c x _ hn).mono ?_
  rintro e w1 ⟨rfl, hb⟩
  clear PB_0 PB_1 PB_2 PB_f0 PB_f1 PB_f2
  have hs1 := hb.size
  try simp only [World.size_alloc, World.size_setCell] at hs1
  replace bw : Below w.heap.size w w1 := dy_end (by go_grown) hb
  replace PB := Blk.on PB hb
  clear hb
  have PB_0 := Blk.cell PB 0 rfl
  have PB_1 := Blk.cell PB 1 rfl
  have PB_2 := Blk.cell PB 2 rfl
  have PB_f0 := Blk.free PB 0
  have PB_f1 := Blk.free PB 1
  have PB_f2 := Blk.free PB 2
  go_wp2_with fail
  with_reducible refine (known_any (hT.onD (by go_grown))).mono ?_
  rintro e w2 ⟨rfl, hb⟩
  clear PB_0 PB_1 PB_2 PB_f0 PB_f1 PB_f2
  have hs2 := hb.size
  try simp only [World.size_alloc, World.size_setCell] at hs2
  replace bw : Below w.heap.size w w2 := dy_end (by go_grown) hb
  replace PB := Blk.on PB hb
  clear hb
  have PB_0 := Blk.cell PB 0 rfl
  have PB_1 := Blk.cell PB 1 rfl
  have PB_2 := Blk.cell PB 2 rfl
  have PB_f0 := Blk.free PB 0
  have PB_f1 := Blk.free PB 1
  have PB_f2 := Blk.free PB 2
  go_wp2_with fail
  go_ret
  exact ⟨rfl, by go_grown⟩

set_option maxRecDepth 100000 in
set_option maxHeartbeats 8000000 in
theorem SoftRoot_m (h : Lv w A n c l) (hn : n ≤ 20) (hT : Tab w) :
    Calls Tryz.prog 10 #[dyV b A n c x] w fun e w' => e = .returned (.bool true) ∧ Below w.heap.size w w' := by
  obtain ⟨X, k, pp, pr⟩ := root_pair9 (b := b) (x := x) h hn
  have hx := fun W => run_float64bits X W
  have PB := Blk.new w [.bool b, .slice A n c, .int .i64 x] 35
  have bw : Below w.heap.size w (w.alloc (.cells #[.bool b, .slice A n c, .int .i64 x] 35)) := by go_grown
  have PB_0 := Blk.cell PB 0 rfl
  have PB_1 := Blk.cell PB 1 rfl
  have PB_2 := Blk.cell PB 2 rfl
  have PB_f0 := Blk.free PB 0
  have PB_f1 := Blk.free PB 1
  have PB_f2 := Blk.free PB 2
  replace h := h.on bw
  go_enter Tryz.func10, Tryz.ntmps10
  go_wp2_with fail
  with_reducible refine (lmuch_no b A c x _ hn).mono ?_
  rintro e w1 ⟨rfl, hb⟩
  clear PB_0 PB_1 PB_2 PB_f0 PB_f1 PB_f2
  have hs1 := hb.size
  try simp only [World.size_alloc, World.size_setCell] at hs1
  replace bw : Below w.heap.size w w1 := dy_end (by go_grown) hb
  replace h := Lv.on h hb
  replace PB := Blk.on PB hb
  clear hb
  have PB_0 := Blk.cell PB 0 rfl
  have PB_1 := Blk.cell PB 1 rfl
  have PB_2 := Blk.cell PB 2 rfl
  have PB_f0 := Blk.free PB 0
  have PB_f1 := Blk.free PB 1
  have PB_f2 := Blk.free PB 2
  go_wp2_with fail
  with_reducible refine (pp _ h (hT.onD (by go_grown))).mono ?_
  rintro e w2 ⟨rfl, hb⟩
  clear PB_0 PB_1 PB_2 PB_f0 PB_f1 PB_f2
  have hs2 := hb.size
  try simp only [World.size_alloc, World.size_setCell] at hs2
  replace bw : Below w.heap.size w w2 := dy_end (by go_grown) hb
  replace h := Lv.on h hb
  replace PB := Blk.on PB hb
  clear hb
  have PB_0 := Blk.cell PB 0 rfl
  have PB_1 := Blk.cell PB 1 rfl
  have PB_2 := Blk.cell PB 2 rfl
  have PB_f0 := Blk.free PB 0
  have PB_f1 := Blk.free PB 1
  have PB_f2 := Blk.free PB 2
  go_wp2_with fail
  with_reducible refine (pr _ h).mono ?_
  rintro e w3 ⟨rfl, hb⟩
  clear PB_0 PB_1 PB_2 PB_f0 PB_f1 PB_f2
  have hs3 := hb.size
  try simp only [World.size_alloc, World.size_setCell] at hs3
  replace bw : Below w.heap.size w w3 := dy_end (by go_grown) hb
  replace h := Lv.on h hb
  replace PB := Blk.on PB hb
  clear hb
  have PB_0 := Blk.cell PB 0 rfl
  have PB_1 := Blk.cell PB 1 rfl
  have PB_2 := Blk.cell PB 2 rfl
  have PB_f0 := Blk.free PB 0
  have PB_f1 := Blk.free PB 1
  have PB_f2 := Blk.free PB 2
  clear pp pr
  go_wp2_with fail
  with_reducible refine (lnum_any _ _).mono ?_
  rintro e v0 ⟨rfl, rfl⟩
  go_wp2_with fail
  with_reducible refine (known_any (hT.onD (by go_grown))).mono ?_
  rintro e w4 ⟨rfl, hb⟩
  clear PB_0 PB_1 PB_2 PB_f0 PB_f1 PB_f2
  have hs4 := hb.size
  try simp only [World.size_alloc, World.size_setCell] at hs4
  replace bw : Below w.heap.size w w4 := dy_end (by go_grown) hb
  replace h := Lv.on h hb
  replace PB := Blk.on PB hb
  clear hb
  have PB_0 := Blk.cell PB 0 rfl
  have PB_1 := Blk.cell PB 1 rfl
  have PB_2 := Blk.cell PB 2 rfl
  have PB_f0 := Blk.free PB 0
  have PB_f1 := Blk.free PB 1
  have PB_f2 := Blk.free PB 2
  go_wp2_with fail
  go_ret
  exact ⟨rfl, by go_grown⟩

theorem SoftRoot_law (b : Bool) (A : Option Addr) (n c : Nat) (x : Int) (z : List Int) (w : World) (g : IsRow .u64 w A n c z) (x0 : -9223372036854775808 ≤ x) (x1 : x ≤ 9223372036854775807) (hT : Tab w) :
    Calls Tryz.prog 10 #[dyV b A n c x] w fun e w' => e = .returned (.bool true) ∧ Below w.heap.size w w' := by
  obtain ⟨l, h⟩ := g.lv
  rcases Nat.lt_or_ge 20 n with hn | hn
  · exact SoftRoot_a b A c x hn hT
  · exact SoftRoot_m h hn hT
end
end Go.Proofs.YtfjellhbcjnjkaaGreatDoor
