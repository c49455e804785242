/-
  Layer 3, walks of the reference, part one. (Written by wip/tools/gen_dys.py.)
-/
import Derived.Test.YtfjellhbcjnjkaaGreatDoorSDyO
namespace Go.Proofs.YtfjellhbcjnjkaaGreatDoor
open Go.RowKit
set_option linter.unusedVariables false
set_option linter.unusedSimpArgs false

theorem nfl_neg (b : Bool) (v x : Int) : nfl (!b) v x = negN (nfl b v x) := by
  unfold nfl
  rw [← negN_of]
  cases b <;> simp
theorem nfl_abs {b : Bool} {v x : Int} (h0 : 0 ≤ v) : nfl false v x = absN (nfl b v x) := by
  rcases (show v = 0 ∨ 0 < v by omega) with h | h
  · subst h; rw [nfl_zero, nfl_zero]; rfl
  · rw [nfl_pos h, nfl_pos h]; rfl
theorem norm_zero {l : List Int} (hl : Lim 18446744073709551616 l) : (norm l).length = 0 ↔ val 18446744073709551616 l = 0 := by
  constructor
  · intro h
    rw [← norm_val, nil_of_len h]; rfl
  · intro h
    rw [val_eq_zero (b := 18446744073709551616) (by omega) (norm_lim hl) (norm_normal l) (by rw [norm_val]; exact h)]
    rfl
section
variable {b : Bool} {A : Option Addr} {n c : Nat} {x : Int} {l : List Int} {w : World}
set_option maxHeartbeats 1000000 in
theorem refMay2_yes (h : Lv w A n c l) (hn : n ≤ 4096) :
    Calls Tryz.prog 90 #[.slice A n c] w fun e w' => e = .returned (.bool true) ∧ w = w' := by
  have hm : n ≤ 9223372036854775807 := by omega
  go_enter Tryz.func90, Tryz.ntmps90
  go_wp2_with fail
  go_loop [3] (fun i => ∃ k : Nat, k ≤ n ∧ i = .int .i64 k) (fun i => (intOf i).toNat)
  case atStart => exact ⟨n, Nat.le_refl _, rfl⟩
  case round =>
    obtain ⟨k, hk, rfl⟩ := hrel
    rcases Nat.eq_zero_or_pos k with h0 | h0
    · subst h0
      go_wp2_with fail
      go_ret
      exact ⟨rfl, rfl⟩
    · have hl := h.1
      obtain ⟨ad, rfl, hb, hc⟩ := h.2.1.at_ (k := k - 1) (by omega)
      have h1 : (1 : Int) ≤ k := by omega
      have e1 : ((k : Int) - 1).toNat = k - 1 := by omega
      have k9 : decide ((k : Int) ≤ 4096) = true := by simp; omega
      by_cases hd : D l (k - 1) = 0
      · rw [hd] at hc
        have HD := Lib.hid hd
        clear hd hl
        go_wp2_with fail
        go_round
        case rel => exact ⟨k - 1, by omega, by congr 1; omega⟩
        case measure => simp [intOf]; omega
      · have hd' : (D l (k - 1) == 0) = false := by simpa using hd
        clear hl
        go_wp2_with fail
        go_ret
        exact ⟨rfl, rfl⟩
set_option maxRecDepth 100000 in
set_option maxHeartbeats 4000000 in
theorem rMay_any (h : Lv w A n c l) (hn : n ≤ 4096) :
    Calls Tryz.prog 51 #[dyV b A n c x] w fun e w' => e = .returned (.bool (okE x)) ∧ Below w.heap.size w w' := by
  by_cases c1 : x < -262144
  · have PB := Blk.new w [.bool b, .slice A n c, .int .i64 x] 35
    have bw : Below w.heap.size w (w.alloc (.cells #[.bool b, .slice A n c, .int .i64 x] 35)) := by go_grown
    have PB_0 := Blk.cell PB 0 rfl
    have PB_1 := Blk.cell PB 1 rfl
    have PB_2 := Blk.cell PB 2 rfl
    have PB_f0 := Blk.free PB 0
    have PB_f1 := Blk.free PB 1
    have PB_f2 := Blk.free PB 2
    rw [okE_false.2 (.inl c1)]
    go_enter Tryz.func51, Tryz.ntmps51
    go_wp2_with fail
    with_reducible refine (refMay2_yes (h.on (by go_grown)) hn).mono ?_
    rintro e w1 ⟨rfl, rfl⟩
    go_wp2_with fail
    go_ret
    exact ⟨rfl, by go_grown⟩
  · by_cases c2 : 262144 < x
    · have PB := Blk.new w [.bool b, .slice A n c, .int .i64 x] 35
      have bw : Below w.heap.size w (w.alloc (.cells #[.bool b, .slice A n c, .int .i64 x] 35)) := by go_grown
      have PB_0 := Blk.cell PB 0 rfl
      have PB_1 := Blk.cell PB 1 rfl
      have PB_2 := Blk.cell PB 2 rfl
      have PB_f0 := Blk.free PB 0
      have PB_f1 := Blk.free PB 1
      have PB_f2 := Blk.free PB 2
      rw [okE_false.2 (.inr c2)]
      have c3 : decide (x ≤ 262144) = false := by simp; omega
      go_enter Tryz.func51, Tryz.ntmps51
      go_wp2_with fail
      with_reducible refine (refMay2_yes (h.on (by go_grown)) hn).mono ?_
      rintro e w1 ⟨rfl, rfl⟩
      go_wp2_with fail
      go_ret
      exact ⟨rfl, by go_grown⟩
    · have PB := Blk.new w [.bool b, .slice A n c, .int .i64 x] 35
      have bw : Below w.heap.size w (w.alloc (.cells #[.bool b, .slice A n c, .int .i64 x] 35)) := by go_grown
      have PB_0 := Blk.cell PB 0 rfl
      have PB_1 := Blk.cell PB 1 rfl
      have PB_2 := Blk.cell PB 2 rfl
      have PB_f0 := Blk.free PB 0
      have PB_f1 := Blk.free PB 1
      have PB_f2 := Blk.free PB 2
      rw [okE_true (by omega) (by omega)]
      go_enter Tryz.func51, Tryz.ntmps51
      go_wp2_with fail
      with_reducible refine (refMay2_yes (h.on (by go_grown)) hn).mono ?_
      rintro e w1 ⟨rfl, rfl⟩
      go_wp2_with fail
      go_ret
      exact ⟨rfl, by go_grown⟩

theorem rMay_yes (h : Lv w A n c l) (hn : n ≤ 4096) (ho : okE x = true) : Calls Tryz.prog 51 #[dyV b A n c x] w fun e w' => e = .returned (.bool true) ∧ Below w.heap.size w w' := by
  rw [← ho]; exact rMay_any h hn
theorem rMay_no (h : Lv w A n c l) (hn : n ≤ 4096) (ho : okE x = false) : Calls Tryz.prog 51 #[dyV b A n c x] w fun e w' => e = .returned (.bool false) ∧ Below w.heap.size w w' := by
  rw [← ho]; exact rMay_any h hn

theorem zeros_small {W : World} {A : Option Addr} {n c k : Nat} {l : List Int} (h : Lv W A n c l) (hn : n ≤ 4096) (z0 : val 18446744073709551616 l = 0 → k = 0) (z1 : val 18446744073709551616 l ≠ 0 → IsZeros (val 18446744073709551616 l) k) : k ≤ 262144 := by
  by_cases hv : val 18446744073709551616 l = 0
  · rw [z0 hv]; omega
  · have := zeros_lt (z1 hv) (lv_bound h hn)
    omega
set_option maxRecDepth 100000 in
set_option maxHeartbeats 4000000 in
theorem rNorm_zero (h : Lv w A n c l) (hn : n ≤ 4096) (x0 : -1152921504606846976 ≤ x) (x1 : x ≤ 1152921504606846976) (hv : Hid (val 18446744073709551616 l = 0)) :
    Calls Tryz.prog 54 #[dyV b A n c x] w (DyP (nfl b (val 18446744073709551616 l) x) w) := by
  have PB := Blk.new w [.bool b, .slice A n c, .int .i64 x] 35
  have DB := Blk.new (w.alloc (.cells #[.bool b, .slice A n c, .int .i64 x] 35)) [.bool false, .slice none 0 0, .int .i64 0] 35
  simp only [World.size_alloc] at DB
  replace PB := Blk.alloc PB (.cells #[.bool false, .slice none 0 0, .int .i64 0] 35)
  have bw : Below w.heap.size w ((w.alloc (.cells #[.bool b, .slice A n c, .int .i64 x] 35)).alloc (.cells #[.bool false, .slice none 0 0, .int .i64 0] 35)) := by go_grown
  have PB_0 := Blk.cell PB 0 rfl
  have PB_1 := Blk.cell PB 1 rfl
  have PB_2 := Blk.cell PB 2 rfl
  have PB_f0 := Blk.free PB 0
  have PB_f1 := Blk.free PB 1
  have PB_f2 := Blk.free PB 2
  have DB_0 := Blk.cell DB 0 rfl
  have DB_1 := Blk.cell DB 1 rfl
  have DB_2 := Blk.cell DB 2 rfl
  have DB_f0 := Blk.free DB 0
  have DB_f1 := Blk.free DB 1
  have DB_f2 := Blk.free DB 2
  have nz := norm_zero h.2.2
  have ln := norm_length l
  have hl := h.1
  have hz : (norm l).length = 0 := nz.2 hv.out
  have HL := Lib.hid hl
  have LN := Lib.hid ln
  clear nz ln hl
  have nl := norm_normal l
  have vl := Lib.hid (norm_val 18446744073709551616 l)
  have hl0 : norm l = [] := nil_of_len hz
  go_enter Tryz.func54, Tryz.ntmps54
  have p0 := fun W (mm : Lv W A n c l) => refNorm_lv mm (by omega)
  rw [hl0] at p0
  clear hl0 hz
  go_wp2_with fail
  with_reducible refine (p0 _ (h.on (by go_grown))).mono ?_
  rintro e w1 ⟨A1, c1, rfl, m1, hb⟩
  clear PB_0 PB_1 PB_2 PB_f0 PB_f1 PB_f2
  clear DB_0 DB_1 DB_2 DB_f0 DB_f1 DB_f2
  have hs1 := hb.size
  try simp only [World.size_alloc, World.size_setCell] at hs1
  replace bw : Below w.heap.size w w1 := dy_end (by go_grown) hb
  replace PB := Blk.on PB hb
  replace DB := Blk.on DB hb
  clear hb
  have PB_0 := Blk.cell PB 0 rfl
  have PB_1 := Blk.cell PB 1 rfl
  have PB_2 := Blk.cell PB 2 rfl
  have PB_f0 := Blk.free PB 0
  have PB_f1 := Blk.free PB 1
  have PB_f2 := Blk.free PB 2
  have DB_0 := Blk.cell DB 0 rfl
  have DB_1 := Blk.cell DB 1 rfl
  have DB_2 := Blk.cell DB 2 rfl
  have DB_f0 := Blk.free DB 0
  have DB_f1 := Blk.free DB 1
  have DB_f2 := Blk.free DB 2
  go_wp2_with fail
  refine bodyPost_ret (v := dyV false none 0 0 0) (by simp [results, Tryz.results54, go_sem, DB_0, DB_1, DB_2]) rfl ?_
  exact ⟨false, [], none, 0, 0, rfl, by rw [hv.out, nfl_zero]; exact Dn.zero, lv_nil _, by go_grown⟩

set_option maxRecDepth 100000 in
set_option maxHeartbeats 4000000 in
theorem rNorm_pos (h : Lv w A n c l) (hn : n ≤ 4096) (x0 : -1152921504606846976 ≤ x) (x1 : x ≤ 1152921504606846976) (hv : Hid (val 18446744073709551616 l ≠ 0)) :
    Calls Tryz.prog 54 #[dyV b A n c x] w (DyP (nfl b (val 18446744073709551616 l) x) w) := by
  have PB := Blk.new w [.bool b, .slice A n c, .int .i64 x] 35
  have DB := Blk.new (w.alloc (.cells #[.bool b, .slice A n c, .int .i64 x] 35)) [.bool false, .slice none 0 0, .int .i64 0] 35
  simp only [World.size_alloc] at DB
  replace PB := Blk.alloc PB (.cells #[.bool false, .slice none 0 0, .int .i64 0] 35)
  have bw : Below w.heap.size w ((w.alloc (.cells #[.bool b, .slice A n c, .int .i64 x] 35)).alloc (.cells #[.bool false, .slice none 0 0, .int .i64 0] 35)) := by go_grown
  have PB_0 := Blk.cell PB 0 rfl
  have PB_1 := Blk.cell PB 1 rfl
  have PB_2 := Blk.cell PB 2 rfl
  have PB_f0 := Blk.free PB 0
  have PB_f1 := Blk.free PB 1
  have PB_f2 := Blk.free PB 2
  have DB_0 := Blk.cell DB 0 rfl
  have DB_1 := Blk.cell DB 1 rfl
  have DB_2 := Blk.cell DB 2 rfl
  have DB_f0 := Blk.free DB 0
  have DB_f1 := Blk.free DB 1
  have DB_f2 := Blk.free DB 2
  have nz := norm_zero h.2.2
  have ln := norm_length l
  have hl := h.1
  have hz : (((norm l).length : Int) == 0) = false := beq_eq_false_iff_ne.2 (fun e => hv.out (nz.1 (by omega)))
  have HL := Lib.hid hl
  have LN := Lib.hid ln
  clear nz ln hl
  have nl := norm_normal l
  have vl := Lib.hid (norm_val 18446744073709551616 l)
  go_enter Tryz.func54, Tryz.ntmps54
  have p0 := fun W (mm : Lv W A n c l) => refNorm_lv mm (by omega)
  have k9 : (norm l).length ≤ 4096 := by have := HL.out; have := LN.out; omega
  generalize norm l = r at p0 vl nl k9 hz
  go_wp2_with fail
  with_reducible refine (p0 _ (h.on (by go_grown))).mono ?_
  rintro e w1 ⟨A1, c1, rfl, m1, hb⟩
  clear PB_0 PB_1 PB_2 PB_f0 PB_f1 PB_f2
  clear DB_0 DB_1 DB_2 DB_f0 DB_f1 DB_f2
  have hs1 := hb.size
  try simp only [World.size_alloc, World.size_setCell] at hs1
  replace bw : Below w.heap.size w w1 := dy_end (by go_grown) hb
  replace PB := Blk.on PB hb
  replace DB := Blk.on DB hb
  clear hb
  have PB_0 := Blk.cell PB 0 rfl
  have PB_1 := Blk.cell PB 1 rfl
  have PB_2 := Blk.cell PB 2 rfl
  have PB_f0 := Blk.free PB 0
  have PB_f1 := Blk.free PB 1
  have PB_f2 := Blk.free PB 2
  have DB_0 := Blk.cell DB 0 rfl
  have DB_1 := Blk.cell DB 1 rfl
  have DB_2 := Blk.cell DB 2 rfl
  have DB_f0 := Blk.free DB 0
  have DB_f1 := Blk.free DB 1
  have DB_f2 := Blk.free DB 2
  go_wp2_with fail
  with_reducible refine (refZeros_any m1 k9).mono ?_
  rintro e w2 ⟨k, rfl, z0, z1, hb⟩
  clear PB_0 PB_1 PB_2 PB_f0 PB_f1 PB_f2
  clear DB_0 DB_1 DB_2 DB_f0 DB_f1 DB_f2
  have hs2 := hb.size
  try simp only [World.size_alloc, World.size_setCell] at hs2
  replace bw : Below w.heap.size w w2 := dy_end (by go_grown) hb
  replace m1 := Lv.on m1 hb
  replace PB := Blk.on PB hb
  replace DB := Blk.on DB hb
  clear hb
  have PB_0 := Blk.cell PB 0 rfl
  have PB_1 := Blk.cell PB 1 rfl
  have PB_2 := Blk.cell PB 2 rfl
  have PB_f0 := Blk.free PB 0
  have PB_f1 := Blk.free PB 1
  have PB_f2 := Blk.free PB 2
  have DB_0 := Blk.cell DB 0 rfl
  have DB_1 := Blk.cell DB 1 rfl
  have DB_2 := Blk.cell DB 2 rfl
  have DB_f0 := Blk.free DB 0
  have DB_f1 := Blk.free DB 1
  have DB_f2 := Blk.free DB 2
  have Z0 := Lib.hid (And.intro z0 z1)
  clear z0 z1
  have kb : k ≤ 262144 := zeros_small m1 k9 Z0.out.1 Z0.out.2
  have p3 := fun W (mm : Lv W A1 r.length c1 r) => refShr_lv mm k9 k (by omega) _ rfl
  generalize lostB (val 18446744073709551616 r) k = L9 at p3
  go_wp2_with fail
  with_reducible refine (p3 _ m1).mono ?_
  rintro e w3 ⟨q, A3, c3, rfl, nq, vq, m3, hb⟩
  clear PB_0 PB_1 PB_2 PB_f0 PB_f1 PB_f2
  clear DB_0 DB_1 DB_2 DB_f0 DB_f1 DB_f2
  have hs3 := hb.size
  try simp only [World.size_alloc, World.size_setCell] at hs3
  replace bw : Below w.heap.size w w3 := dy_end (by go_grown) hb
  replace m1 := Lv.on m1 hb
  replace PB := Blk.on PB hb
  replace DB := Blk.on DB hb
  clear hb
  have PB_0 := Blk.cell PB 0 rfl
  have PB_1 := Blk.cell PB 1 rfl
  have PB_2 := Blk.cell PB 2 rfl
  have PB_f0 := Blk.free PB 0
  have PB_f1 := Blk.free PB 1
  have PB_f2 := Blk.free PB 2
  have DB_0 := Blk.cell DB 0 rfl
  have DB_1 := Blk.cell DB 1 rfl
  have DB_2 := Blk.cell DB 2 rfl
  have DB_f0 := Blk.free DB 0
  have DB_f1 := Blk.free DB 1
  have DB_f2 := Blk.free DB 2
  have hr := normal_rest Z0.out.1 Z0.out.2 m3.2.2 nq (shr_len k9 rfl m1.2.2 m3.2.2 nq vq) vq.out b x
  rw [vl.out] at hr
  have HR := Lib.hid (hr.2 hv.out).2
  clear hr
  go_wp2_with fail
  refine bodyPost_ret (v := dyV b A3 q.length c3 (x + (k : Int))) (by simp [results, Tryz.results54, go_sem, DB_0, DB_1, DB_2]) rfl ?_
  exact ⟨b, q, A3, c3, x + (k : Int), rfl, HR.out, m3.put DB _ _ _ _ _, by go_grown⟩


theorem rNorm_any (h : Lv w A n c l) (hn : n ≤ 4096) (x0 : -1152921504606846976 ≤ x) (x1 : x ≤ 1152921504606846976) : Calls Tryz.prog 54 #[dyV b A n c x] w (DyP (nfl b (val 18446744073709551616 l) x) w) := by
  by_cases hv : val 18446744073709551616 l = 0
  · exact rNorm_zero h hn x0 x1 hv
  · exact rNorm_pos h hn x0 x1 hv
end
end Go.Proofs.YtfjellhbcjnjkaaGreatDoor
