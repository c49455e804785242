/-
  Layer 3, the laws: shifts. (Written by a script of wip/tools.)
-/
import Derived.Test.YtknomchkfamajaaGreatDoorDyX
import Derived.Deep.Cut
namespace Go.Proofs.YtknomchkfamajaaGreatDoor
open Go.RowKit Go.Sort Go.Bw
set_option linter.unusedVariables false
set_option linter.unusedSimpArgs false

section
variable {b : Bool} {A : Option Addr} {n c : Nat} {x : Int} {l : List Int} {w : World}

theorem DyP.zero {w : World} {e : Ending} {w' : World} (h : DyP zeroN w e w') : ∃ A c, e = .returned (dyV false A 0 c 0) ∧ Lv w' A 0 c [] ∧ Below w.heap.size w w' := by
  obtain ⟨b, l, A, c, x, rfl, hd, m, hb⟩ := h
  obtain ⟨z1, z2, z3⟩ := Dn.uniq Dn.zero hd (fun _ hy => nomatch hy) m.lim
  subst z1 z2 z3
  exact ⟨A, c, rfl, m, hb⟩
theorem exp_bd2 {b b1 : Bool} {l q : List Int} {x x1 : Int} (h : Lv w A n c l) (hn : n ≤ 4096) (ho : okE x = true) (hd : Dn b1 q x1 (nfl b (val 18446744073709551616 l) x)) : -262144 ≤ x1 ∧ x1 ≤ 524288 := by
  have xb := nfl_place (k := 262144) b (x := x) (lim_val h.2.2) (lv_bound h hn)
  rw [hd.exp] at xb
  have xr := (okE_iff x).1 ho
  omega
/-- a normal number, put at another place, and handed back -/
theorem done_ans {d : Nf} (hd : Dn b l x d) (hl : Lim 18446744073709551616 l) (y : Int) : doneR (nfl b (val 18446744073709551616 l) y) = ansR b (val 18446744073709551616 l) y := by
  have hm := hd.man hl
  unfold ansR
  by_cases h0 : val 18446744073709551616 l = 0
  · rw [if_pos h0, h0, nfl_zero]; rfl
  · rw [if_neg h0]
    have ho := ok_odd hd.2.2.2 (by omega)
    have e : (val 18446744073709551616 l).toNat = d.man := by omega
    rw [nfl_is (m := d.man) (k := 0) ho (by omega), e]
    simp
theorem clamp_ok {x k : Int} (h0 : -262144 ≤ x) (h1 : x ≤ 524288) {y : Int} (hy : max (-1048576) (min 1048576 k) = y) : okE (x + y) = okE (x + k) ∧ (okE (x + k) = true → x + y = x + k) := by
  constructor
  · rw [Bool.eq_iff_iff, okE_iff, okE_iff]; omega
  · intro h; rw [okE_iff] at h; omega
set_option maxRecDepth 100000 in
set_option maxHeartbeats 8000000 in
theorem rShift_no (h : Lv w A n c l) (hn : n ≤ 4096) (ho : okE x = false) (k : Int) :
    Calls Tryz.prog 45 #[dyV b A n c x, .int .i64 k] w (DyK zeroN 2 w) := by
  have PB := Blk.new w [.bool b, .slice A n c, .int .i64 x] 24
  have DB := Blk.new (w.alloc (.cells #[.bool b, .slice A n c, .int .i64 x] 24)) [.bool false, .slice none 0 0, .int .i64 0] 24
  simp only [World.size_alloc] at DB
  replace PB := Blk.alloc PB (.cells #[.bool false, .slice none 0 0, .int .i64 0] 24)
  have bw : Below w.heap.size w ((w.alloc (.cells #[.bool b, .slice A n c, .int .i64 x] 24)).alloc (.cells #[.bool false, .slice none 0 0, .int .i64 0] 24)) := by go_grown
  have PB_0 := Blk.cell PB 0 rfl
  have PB_1 := Blk.cell PB 1 rfl
  have PB_2 := Blk.cell PB 2 rfl
  have PB_f0 := Blk.free PB 0
  have PB_f1 := Blk.free PB 1
  have PB_f2 := Blk.free PB 2
  have DB_0 := Blk.cell DB 0 rfl
  have DB_1 := Blk.cell DB 1 rfl
  have DB_2 := Blk.cell DB 2 rfl
  have DB_f0 := Blk.free DB 0
  have DB_f1 := Blk.free DB 1
  have DB_f2 := Blk.free DB 2
  go_enter Tryz.func45, Tryz.ntmps45
  go_wp2_with fail
  with_reducible refine (rMay_no (b := b) (x := x) (h.on (by go_grown)) hn ho).mono ?_
  rintro e w1 ⟨rfl, hb⟩
  clear PB_0 PB_1 PB_2 PB_f0 PB_f1 PB_f2
  clear DB_0 DB_1 DB_2 DB_f0 DB_f1 DB_f2
  have hs1 := hb.size
  try simp only [World.size_alloc, World.size_setCell] at hs1
  replace bw : Below w.heap.size w w1 := dy_end (by go_grown) hb
  replace PB := Blk.on PB hb
  replace DB := Blk.on DB hb
  clear hb
  have PB_0 := Blk.cell PB 0 rfl
  have PB_1 := Blk.cell PB 1 rfl
  have PB_2 := Blk.cell PB 2 rfl
  have PB_f0 := Blk.free PB 0
  have PB_f1 := Blk.free PB 1
  have PB_f2 := Blk.free PB 2
  have DB_0 := Blk.cell DB 0 rfl
  have DB_1 := Blk.cell DB 1 rfl
  have DB_2 := Blk.cell DB 2 rfl
  have DB_f0 := Blk.free DB 0
  have DB_f1 := Blk.free DB 1
  have DB_f2 := Blk.free DB 2
  go_wp2_with fail
  refine bodyPost_ret (v := .tuple #[dyV false none 0 0 0, .int .i64 2]) (by simp [results, Tryz.results45, go_sem, DB_0, DB_1, DB_2, DB_f0, DB_f1, DB_f2]) rfl ?_
  exact ⟨false, [], none, 0, 0, rfl, Dn.zero, lv_nil _, by go_grown⟩

set_option maxRecDepth 100000 in
set_option maxHeartbeats 8000000 in
theorem rShift_zero (h : Lv w A n c l) (hn : n ≤ 4096) (ho : okE x = true) (hv : Hid (val 18446744073709551616 l = 0)) (k : Int) :
    Calls Tryz.prog 45 #[dyV b A n c x, .int .i64 k] w (DyK zeroN 0 w) := by
  have p0 := fun W (mm : Lv W A n c l) => (rNorm_any (b := b) (x := x) mm hn (by have := (okE_iff x).1 ho; omega) (by have := (okE_iff x).1 ho; omega)).mono (fun _ _ hp => by rw [hv.out, nfl_zero] at hp; exact DyP.zero hp)
  have PB := Blk.new w [.bool b, .slice A n c, .int .i64 x] 24
  have DB := Blk.new (w.alloc (.cells #[.bool b, .slice A n c, .int .i64 x] 24)) [.bool false, .slice none 0 0, .int .i64 0] 24
  simp only [World.size_alloc] at DB
  replace PB := Blk.alloc PB (.cells #[.bool false, .slice none 0 0, .int .i64 0] 24)
  have bw : Below w.heap.size w ((w.alloc (.cells #[.bool b, .slice A n c, .int .i64 x] 24)).alloc (.cells #[.bool false, .slice none 0 0, .int .i64 0] 24)) := by go_grown
  have PB_0 := Blk.cell PB 0 rfl
  have PB_1 := Blk.cell PB 1 rfl
  have PB_2 := Blk.cell PB 2 rfl
  have PB_f0 := Blk.free PB 0
  have PB_f1 := Blk.free PB 1
  have PB_f2 := Blk.free PB 2
  have DB_0 := Blk.cell DB 0 rfl
  have DB_1 := Blk.cell DB 1 rfl
  have DB_2 := Blk.cell DB 2 rfl
  have DB_f0 := Blk.free DB 0
  have DB_f1 := Blk.free DB 1
  have DB_f2 := Blk.free DB 2
  have hx := (okE_iff x).1 ho
  go_enter Tryz.func45, Tryz.ntmps45
  go_wp2_with fail
  with_reducible refine (rMay_yes (b := b) (x := x) (h.on (by go_grown)) hn ho).mono ?_
  rintro e w1 ⟨rfl, hb⟩
  clear PB_0 PB_1 PB_2 PB_f0 PB_f1 PB_f2
  clear DB_0 DB_1 DB_2 DB_f0 DB_f1 DB_f2
  have hs1 := hb.size
  try simp only [World.size_alloc, World.size_setCell] at hs1
  replace bw : Below w.heap.size w w1 := dy_end (by go_grown) hb
  replace PB := Blk.on PB hb
  replace DB := Blk.on DB hb
  clear hb
  have PB_0 := Blk.cell PB 0 rfl
  have PB_1 := Blk.cell PB 1 rfl
  have PB_2 := Blk.cell PB 2 rfl
  have PB_f0 := Blk.free PB 0
  have PB_f1 := Blk.free PB 1
  have PB_f2 := Blk.free PB 2
  have DB_0 := Blk.cell DB 0 rfl
  have DB_1 := Blk.cell DB 1 rfl
  have DB_2 := Blk.cell DB 2 rfl
  have DB_f0 := Blk.free DB 0
  have DB_f1 := Blk.free DB 1
  have DB_f2 := Blk.free DB 2
  go_wp2_with fail
  with_reducible refine (p0 _ (h.on (by go_grown))).mono ?_
  rintro e w2 ⟨A2, c2, rfl, m2, hb⟩
  clear PB_0 PB_1 PB_2 PB_f0 PB_f1 PB_f2
  clear DB_0 DB_1 DB_2 DB_f0 DB_f1 DB_f2
  have hs2 := hb.size
  try simp only [World.size_alloc, World.size_setCell] at hs2
  replace bw : Below w.heap.size w w2 := dy_end (by go_grown) hb
  replace PB := Blk.on PB hb
  replace DB := Blk.on DB hb
  clear hb
  have PB_0 := Blk.cell PB 0 rfl
  have PB_1 := Blk.cell PB 1 rfl
  have PB_2 := Blk.cell PB 2 rfl
  have PB_f0 := Blk.free PB 0
  have PB_f1 := Blk.free PB 1
  have PB_f2 := Blk.free PB 2
  have DB_0 := Blk.cell DB 0 rfl
  have DB_1 := Blk.cell DB 1 rfl
  have DB_2 := Blk.cell DB 2 rfl
  have DB_f0 := Blk.free DB 0
  have DB_f1 := Blk.free DB 1
  have DB_f2 := Blk.free DB 2
  replace m2 := Lv.put m2 PB (false) (A2) (0) (c2) (0)
  replace DB := Blk.putO DB (g := w.heap.size) (by omega) (.bool (false)) (.slice (A2) (0) (c2)) (.int .i64 (0))
  replace PB := Dbx.put PB (false) (A2) (0) (c2) (0)
  go_wp2_with fail
  refine bodyPost_ret (v := .tuple #[dyV false A2 0 c2 0, .int .i64 0]) (by simp [results, Tryz.results45, go_sem, DB_0, DB_1, DB_2, DB_f0, DB_f1, DB_f2]) rfl ?_
  exact ⟨false, [], A2, c2, 0, rfl, Dn.zero, (m2.put DB _ _ _ _ _), by go_grown⟩

set_option maxRecDepth 100000 in
set_option maxHeartbeats 2000000 in
theorem rShift_pos (h : Lv w A n c l) (hn : n ≤ 4096) (ho : okE x = true) (k : Int) (hv : Hid (val 18446744073709551616 l ≠ 0)) (k0 : -9223372036854775808 ≤ k) (k1 : k ≤ 9223372036854775807) :
    Calls Tryz.prog 45 #[dyV b A n c x, .int .i64 k] w (DyK (shR (nfl b (val 18446744073709551616 l) x) k).1 (shR (nfl b (val 18446744073709551616 l) x) k).2 w) := by
  have hx := (okE_iff x).1 ho
  obtain ⟨y, hy⟩ : ∃ y, max (-1048576) (min 1048576 k) = y := ⟨_, rfl⟩
  obtain ⟨y0, y1⟩ : -1048576 ≤ y ∧ y ≤ 1048576 := by omega
  have HY := Lib.hid hy
  clear hy
  have PB := Blk.new w [.bool b, .slice A n c, .int .i64 x] 24
  have DB := Blk.new (w.alloc (.cells #[.bool b, .slice A n c, .int .i64 x] 24)) [.bool false, .slice none 0 0, .int .i64 0] 24
  simp only [World.size_alloc] at DB
  replace PB := Blk.alloc PB (.cells #[.bool false, .slice none 0 0, .int .i64 0] 24)
  have bw : Below w.heap.size w ((w.alloc (.cells #[.bool b, .slice A n c, .int .i64 x] 24)).alloc (.cells #[.bool false, .slice none 0 0, .int .i64 0] 24)) := by go_grown
  have PB_0 := Blk.cell PB 0 rfl
  have PB_1 := Blk.cell PB 1 rfl
  have PB_2 := Blk.cell PB 2 rfl
  have PB_f0 := Blk.free PB 0
  have PB_f1 := Blk.free PB 1
  have PB_f2 := Blk.free PB 2
  have DB_0 := Blk.cell DB 0 rfl
  have DB_1 := Blk.cell DB 1 rfl
  have DB_2 := Blk.cell DB 2 rfl
  have DB_f0 := Blk.free DB 0
  have DB_f1 := Blk.free DB 1
  have DB_f2 := Blk.free DB 2
  have p0 := fun W (mm : Lv W A n c l) => rNorm_any (b := b) (x := x) mm hn (by omega) (by omega)
  have nz : (nfl b (val 18446744073709551616 l) x).man ≠ 0 := fun e => hv.out ((nfl_man0 (lim_val h.2.2)).1 e)
  go_enter Tryz.func45, Tryz.ntmps45
  go_wp2_with fail
  with_reducible refine (rMay_yes (b := b) (x := x) (h.on (by go_grown)) hn ho).mono ?_
  rintro e w1 ⟨rfl, hb⟩
  clear PB_0 PB_1 PB_2 PB_f0 PB_f1 PB_f2
  clear DB_0 DB_1 DB_2 DB_f0 DB_f1 DB_f2
  have hs1 := hb.size
  try simp only [World.size_alloc, World.size_setCell] at hs1
  replace bw : Below w.heap.size w w1 := dy_end (by go_grown) hb
  replace PB := Blk.on PB hb
  replace DB := Blk.on DB hb
  clear hb
  have PB_0 := Blk.cell PB 0 rfl
  have PB_1 := Blk.cell PB 1 rfl
  have PB_2 := Blk.cell PB 2 rfl
  have PB_f0 := Blk.free PB 0
  have PB_f1 := Blk.free PB 1
  have PB_f2 := Blk.free PB 2
  have DB_0 := Blk.cell DB 0 rfl
  have DB_1 := Blk.cell DB 1 rfl
  have DB_2 := Blk.cell DB 2 rfl
  have DB_f0 := Blk.free DB 0
  have DB_f1 := Blk.free DB 1
  have DB_f2 := Blk.free DB 2
  go_wp2_with fail
  with_reducible refine (p0 _ (h.on (by go_grown))).mono ?_
  rintro e w2 ⟨b2, q2, A2, c2, x2, rfl, hd2, m2, hb⟩
  clear PB_0 PB_1 PB_2 PB_f0 PB_f1 PB_f2
  clear DB_0 DB_1 DB_2 DB_f0 DB_f1 DB_f2
  have hs2 := hb.size
  try simp only [World.size_alloc, World.size_setCell] at hs2
  replace bw : Below w.heap.size w w2 := dy_end (by go_grown) hb
  replace PB := Blk.on PB hb
  replace DB := Blk.on DB hb
  clear hb
  have PB_0 := Blk.cell PB 0 rfl
  have PB_1 := Blk.cell PB 1 rfl
  have PB_2 := Blk.cell PB 2 rfl
  have PB_f0 := Blk.free PB 0
  have PB_f1 := Blk.free PB 1
  have PB_f2 := Blk.free PB 2
  have DB_0 := Blk.cell DB 0 rfl
  have DB_1 := Blk.cell DB 1 rfl
  have DB_2 := Blk.cell DB 2 rfl
  have DB_f0 := Blk.free DB 0
  have DB_f1 := Blk.free DB 1
  have DB_f2 := Blk.free DB 2
  clear p0
  replace m2 := Lv.put m2 PB (b2) (A2) (q2.length) (c2) (x2)
  replace DB := Blk.putO DB (g := w.heap.size) (by omega) (.bool (b2)) (.slice (A2) (q2.length) (c2)) (.int .i64 (x2))
  replace PB := Dbx.put PB (b2) (A2) (q2.length) (c2) (x2)
  have X2 := exp_bd2 h hn ho hd2
  obtain ⟨X3, X4⟩ := X2
  have hz : ((q2.length : Int) == 0) = false := beq_eq_false_iff_ne.2 (fun e => nz ((hd2.nil m2.lim).1 (by omega)))
  have hR : DyK (doneR (nfl b2 (val 18446744073709551616 q2) (x2 + y))).1 (doneR (nfl b2 (val 18446744073709551616 q2) (x2 + y))).2 = DyK (shR (nfl b (val 18446744073709551616 l) x) k).1 (shR (nfl b (val 18446744073709551616 l) x) k).2 := by
    have cl := clamp_ok (k := k) (y := y) X3 X4 HY.out
    rw [done_ans hd2 m2.lim, ansR_shift hd2 m2.lim k (x2 + y) cl.1 cl.2]
  have p1 := fun W (mm : Lv W A2 q2.length c2 q2) => (rDone_any (b := b2) (x := x2 + y) mm hd2.2.1 (by omega) (by omega))
  rw [hR] at p1
  clear hR nz
  go_upto_region 6 with fail
  clear PB_0 PB_1 PB_2 PB_f0 PB_f1 PB_f2
  clear DB_0 DB_1 DB_2 DB_f0 DB_f1 DB_f2
  replace bw : Below w.heap.size w (((w2.setCell ⟨w.heap.size, 0, none⟩ (.bool b2)).setCell ⟨w.heap.size, 1, none⟩ (.slice A2 q2.length c2)).setCell ⟨w.heap.size, 2, none⟩ (.int .i64 x2)) := by go_grown
  have hs3 : w.heap.size + 2 ≤ (((w2.setCell ⟨w.heap.size, 0, none⟩ (.bool b2)).setCell ⟨w.heap.size, 1, none⟩ (.slice A2 q2.length c2)).setCell ⟨w.heap.size, 2, none⟩ (.int .i64 x2)).heap.size := by simp only [World.size_setCell]; omega
  generalize (((w2.setCell ⟨w.heap.size, 0, none⟩ (.bool b2)).setCell ⟨w.heap.size, 1, none⟩ (.slice A2 q2.length c2)).setCell ⟨w.heap.size, 2, none⟩ (.int .i64 x2)) = W9 at m2 PB DB bw hs3 ⊢
  have PB_0 := Blk.cell PB 0 rfl
  have PB_1 := Blk.cell PB 1 rfl
  have PB_2 := Blk.cell PB 2 rfl
  have PB_f0 := Blk.free PB 0
  have PB_f1 := Blk.free PB 1
  have PB_f2 := Blk.free PB 2
  have DB_0 := Blk.cell DB 0 rfl
  have DB_1 := Blk.cell DB 1 rfl
  have DB_2 := Blk.cell DB 2 rfl
  have DB_f0 := Blk.free DB 0
  have DB_f1 := Blk.free DB 1
  have DB_f2 := Blk.free DB 2
  have hy := HY.out
  clear HY
  replace m2 := Lv.setB m2 PB (noU3 _ _ _ _ _) 2 (.int .i64 (x2 + y))
  replace DB := Blk.far DB (p := ⟨w.heap.size, 2, none⟩) (by show w.heap.size + 1 ≠ w.heap.size; omega) (.int .i64 (x2 + y))
  replace PB := Blk.set_ PB 2 (.int .i64 (x2 + y))
  simp only [List.set_cons_succ, List.set_cons_zero] at PB
  go_wp2_with fail
  with_reducible refine (p1 _ m2).mono ?_
  rintro e w3 ⟨b4, q4, A4, c4, x4, rfl, hd4, m4, hb⟩
  clear PB_0 PB_1 PB_2 PB_f0 PB_f1 PB_f2
  clear DB_0 DB_1 DB_2 DB_f0 DB_f1 DB_f2
  have hs3 := hb.size
  try simp only [World.size_alloc, World.size_setCell] at hs3
  replace bw : Below w.heap.size w w3 := dy_end (by go_grown) hb
  replace m2 := Lv.on m2 hb
  replace PB := Blk.on PB hb
  replace DB := Blk.on DB hb
  clear hb
  have PB_0 := Blk.cell PB 0 rfl
  have PB_1 := Blk.cell PB 1 rfl
  have PB_2 := Blk.cell PB 2 rfl
  have PB_f0 := Blk.free PB 0
  have PB_f1 := Blk.free PB 1
  have PB_f2 := Blk.free PB 2
  have DB_0 := Blk.cell DB 0 rfl
  have DB_1 := Blk.cell DB 1 rfl
  have DB_2 := Blk.cell DB 2 rfl
  have DB_f0 := Blk.free DB 0
  have DB_f1 := Blk.free DB 1
  have DB_f2 := Blk.free DB 2
  go_wp2_with fail
  refine bodyPost_ret (v := .tuple #[dyV b4 A4 q4.length c4 x4, .int .i64 (shR (nfl b (val 18446744073709551616 l) x) k).2]) (by simp [results, Tryz.results45, go_sem, DB_0, DB_1, DB_2, DB_f0, DB_f1, DB_f2]) rfl ?_
  exact ⟨b4, q4, A4, c4, x4, rfl, hd4, m4.put DB _ _ _ _ _, by go_grown⟩

end
end Go.Proofs.YtknomchkfamajaaGreatDoor
