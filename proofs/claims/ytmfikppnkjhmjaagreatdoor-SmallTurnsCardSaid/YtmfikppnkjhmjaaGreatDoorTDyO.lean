/-
  Layer 3, walks, part twelve: Add, Sub, Mul. (Written by wip/tools/gen_dyo.py.)
-/
import Derived.Test.YtmfikppnkjhmjaaGreatDoorTDyN
namespace Go.Proofs.YtmfikppnkjhmjaaGreatDoor
open Go.RowKit Go.Sort
set_option linter.unusedVariables false
set_option linter.unusedSimpArgs false

section
variable {b : Bool} {A : Option Addr} {n c : Nat} {x : Int} {l : List Int} {w : World}
variable {b2 : Bool} {A2 : Option Addr} {n2 c2 : Nat} {x2 : Int} {l2 : List Int}
theorem Lv.lim {W : World} {A : Option Addr} {n c : Nat} {l : List Int} (h : Lv W A n c l) : Lim 18446744073709551616 l := h.2.2
/-- places of normal numbers that were handed in -/
theorem exp_bd {b b1 : Bool} {l q : List Int} {x x1 : Int} (h : Lv w A n c l) (hn : n ≤ 4096) (ho : okE x = true) (hd : Dn b1 q x1 (nfl b (val 18446744073709551616 l) x)) : -1048576 ≤ x1 ∧ x1 ≤ 1048576 := by
  have xb := nfl_place (k := 262144) b (x := x) (lim_val h.2.2) (lv_bound h hn)
  rw [hd.exp] at xb
  have xr := (okE_iff x).1 ho
  omega

theorem odd_le_val {b b1 : Bool} {l q : List Int} {x x1 : Int} (hl : Lim 18446744073709551616 l) (hq : Lim 18446744073709551616 q) (hd : Dn b1 q x1 (nfl b (val 18446744073709551616 l) x)) : val 18446744073709551616 q ≤ val 18446744073709551616 l := by
  have h0 := lim_val hl
  have hm := hd.man hq
  rw [← hm]
  rcases (show val 18446744073709551616 l = 0 ∨ 0 < val 18446744073709551616 l by omega) with e | e
  · rw [e, nfl_zero]; decide
  · rw [nfl_pos e]
    have := odd_le (val 18446744073709551616 l).toNat
    simp only
    omega
theorem mul_less {b b1 b2 b3 : Bool} {l q l2 q2 : List Int} {x x1 x2 x3 P : Int} (h : Lv w A n c l) (h2 : Lv w A2 n2 c2 l2) (hd : Dn b1 q x1 (nfl b (val 18446744073709551616 l) x)) (hd2 : Dn b3 q2 x3 (nfl b2 (val 18446744073709551616 l2) x2)) (hq : Lim 18446744073709551616 q) (hq2 : Lim 18446744073709551616 q2)
    (hv : val 18446744073709551616 l * val 18446744073709551616 l2 < P) : val 18446744073709551616 q * val 18446744073709551616 q2 < P := by
  have a := odd_le_val h.2.2 hq hd
  have a2 := odd_le_val h2.2.2 hq2 hd2
  have p := lim_val hq
  have p2 := lim_val hq2
  exact Int.lt_of_le_of_lt (Int.mul_le_mul a a2 p2 (Int.le_trans p a)) hv
set_option maxRecDepth 100000 in
set_option maxHeartbeats 4000000 in
theorem both_add (h : Lv w A n c l) (hn : n ≤ 4096) (h2 : Lv w A2 n2 c2 l2) (hn2 : n2 ≤ 4096) (hT : Tab w) (ho : okE x = true) (ho2 : okE x2 = true) (hN : farN (nfl b (val 18446744073709551616 l) x) (nfl b2 (val 18446744073709551616 l2) x2) = true ∨ Near (nfl b (val 18446744073709551616 l) x) (nfl b2 (val 18446744073709551616 l2) x2)) :
    Calls Tryz.prog 32 #[dyV b A n c x, dyV b2 A2 n2 c2 x2, .func (.func 34) #[] #[]] w (DyK (addR (nfl b (val 18446744073709551616 l) x) (nfl b2 (val 18446744073709551616 l2) x2)).1 (addR (nfl b (val 18446744073709551616 l) x) (nfl b2 (val 18446744073709551616 l2) x2)).2 w) := by
  have PB := Blk.new w [.bool b, .slice A n c, .int .i64 x] 31
  have QB := Blk.new (w.alloc (.cells #[.bool b, .slice A n c, .int .i64 x] 31)) [.bool b2, .slice A2 n2 c2, .int .i64 x2] 31
  simp only [World.size_alloc] at QB
  replace PB := Blk.alloc PB (.cells #[.bool b2, .slice A2 n2 c2, .int .i64 x2] 31)
  have DB := Blk.new ((w.alloc (.cells #[.bool b, .slice A n c, .int .i64 x] 31)).alloc (.cells #[.bool b2, .slice A2 n2 c2, .int .i64 x2] 31)) [.bool false, .slice none 0 0, .int .i64 0] 31
  simp only [World.size_alloc] at DB
  replace PB := Blk.alloc PB (.cells #[.bool false, .slice none 0 0, .int .i64 0] 31)
  replace QB := Blk.alloc QB (.cells #[.bool false, .slice none 0 0, .int .i64 0] 31)
  have bw : Below w.heap.size w (((w.alloc (.cells #[.bool b, .slice A n c, .int .i64 x] 31)).alloc (.cells #[.bool b2, .slice A2 n2 c2, .int .i64 x2] 31)).alloc (.cells #[.bool false, .slice none 0 0, .int .i64 0] 31)) := by go_grown
  have PB_0 := Blk.cell PB 0 rfl
  have PB_1 := Blk.cell PB 1 rfl
  have PB_2 := Blk.cell PB 2 rfl
  have PB_f0 := Blk.free PB 0
  have PB_f1 := Blk.free PB 1
  have PB_f2 := Blk.free PB 2
  have QB_0 := Blk.cell QB 0 rfl
  have QB_1 := Blk.cell QB 1 rfl
  have QB_2 := Blk.cell QB 2 rfl
  have QB_f0 := Blk.free QB 0
  have QB_f1 := Blk.free QB 1
  have QB_f2 := Blk.free QB 2
  have DB_0 := Blk.cell DB 0 rfl
  have DB_1 := Blk.cell DB 1 rfl
  have DB_2 := Blk.cell DB 2 rfl
  have DB_f0 := Blk.free DB 0
  have DB_f1 := Blk.free DB 1
  have DB_f2 := Blk.free DB 2
  go_enter Tryz.func32, Tryz.ntmps32
  go_wp2_with fail
  with_reducible refine (dyTaken_yes (b := b) (x := x) (h.on (by go_grown)) hn (hT.onD (by go_grown)) ho).mono ?_
  rintro e w1 ⟨b3, q3, A3, c3, x3, rfl, hd3, m3, hb⟩
  clear PB_0 PB_1 PB_2 PB_f0 PB_f1 PB_f2
  clear QB_0 QB_1 QB_2 QB_f0 QB_f1 QB_f2
  clear DB_0 DB_1 DB_2 DB_f0 DB_f1 DB_f2
  have hs1 := hb.size
  try simp only [World.size_alloc, World.size_setCell] at hs1
  replace bw : Below w.heap.size w w1 := dy_end (by go_grown) hb
  replace PB := Blk.on PB hb
  replace QB := Blk.on QB hb
  replace DB := Blk.on DB hb
  clear hb
  have PB_0 := Blk.cell PB 0 rfl
  have PB_1 := Blk.cell PB 1 rfl
  have PB_2 := Blk.cell PB 2 rfl
  have PB_f0 := Blk.free PB 0
  have PB_f1 := Blk.free PB 1
  have PB_f2 := Blk.free PB 2
  have QB_0 := Blk.cell QB 0 rfl
  have QB_1 := Blk.cell QB 1 rfl
  have QB_2 := Blk.cell QB 2 rfl
  have QB_f0 := Blk.free QB 0
  have QB_f1 := Blk.free QB 1
  have QB_f2 := Blk.free QB 2
  have DB_0 := Blk.cell DB 0 rfl
  have DB_1 := Blk.cell DB 1 rfl
  have DB_2 := Blk.cell DB 2 rfl
  have DB_f0 := Blk.free DB 0
  have DB_f1 := Blk.free DB 1
  have DB_f2 := Blk.free DB 2
  replace m3 := Lv.put m3 PB (b3) (A3) (q3.length) (c3) (x3)
  replace QB := Blk.putO QB (g := w.heap.size) (by omega) (.bool (b3)) (.slice (A3) (q3.length) (c3)) (.int .i64 (x3))
  replace DB := Blk.putO DB (g := w.heap.size) (by omega) (.bool (b3)) (.slice (A3) (q3.length) (c3)) (.int .i64 (x3))
  replace PB := Dbx.put PB (b3) (A3) (q3.length) (c3) (x3)
  go_wp2_with fail
  with_reducible refine (dyTaken_yes (b := b2) (x := x2) (h2.on (by go_grown)) hn2 (hT.onD (by go_grown)) ho2).mono ?_
  rintro e w2 ⟨b4, q4, A4, c4, x4, rfl, hd4, m4, hb⟩
  clear PB_0 PB_1 PB_2 PB_f0 PB_f1 PB_f2
  clear QB_0 QB_1 QB_2 QB_f0 QB_f1 QB_f2
  clear DB_0 DB_1 DB_2 DB_f0 DB_f1 DB_f2
  have hs2 := hb.size
  try simp only [World.size_alloc, World.size_setCell] at hs2
  replace bw : Below w.heap.size w w2 := dy_end (by go_grown) hb
  replace m3 := Lv.on m3 hb
  replace PB := Blk.on PB hb
  replace QB := Blk.on QB hb
  replace DB := Blk.on DB hb
  clear hb
  have PB_0 := Blk.cell PB 0 rfl
  have PB_1 := Blk.cell PB 1 rfl
  have PB_2 := Blk.cell PB 2 rfl
  have PB_f0 := Blk.free PB 0
  have PB_f1 := Blk.free PB 1
  have PB_f2 := Blk.free PB 2
  have QB_0 := Blk.cell QB 0 rfl
  have QB_1 := Blk.cell QB 1 rfl
  have QB_2 := Blk.cell QB 2 rfl
  have QB_f0 := Blk.free QB 0
  have QB_f1 := Blk.free QB 1
  have QB_f2 := Blk.free QB 2
  have DB_0 := Blk.cell DB 0 rfl
  have DB_1 := Blk.cell DB 1 rfl
  have DB_2 := Blk.cell DB 2 rfl
  have DB_f0 := Blk.free DB 0
  have DB_f1 := Blk.free DB 1
  have DB_f2 := Blk.free DB 2
  replace m3 := Lv.put m3 QB (b4) (A4) (q4.length) (c4) (x4)
  replace m4 := Lv.put m4 QB (b4) (A4) (q4.length) (c4) (x4)
  replace PB := Blk.putO PB (g := (w.heap.size + 1)) (by omega) (.bool (b4)) (.slice (A4) (q4.length) (c4)) (.int .i64 (x4))
  replace DB := Blk.putO DB (g := (w.heap.size + 1)) (by omega) (.bool (b4)) (.slice (A4) (q4.length) (c4)) (.int .i64 (x4))
  replace QB := Dbx.put QB (b4) (A4) (q4.length) (c4) (x4)
  have X3 := exp_bd h hn ho hd3
  have X4 := exp_bd h2 hn2 ho2 hd4
  go_wp2_with fail
  with_reducible refine (sum_dq m3 m4 (hT.onD (by go_grown)) (hd3.dq (Lv.lim m3)) (hd4.dq (Lv.lim m4)) hN X3.1 X3.2 X4.1 X4.2).mono ?_
  rintro e w3 ⟨b5, q5, A5, c5, x5, rfl, hd5, m5, hb⟩
  clear PB_0 PB_1 PB_2 PB_f0 PB_f1 PB_f2
  clear QB_0 QB_1 QB_2 QB_f0 QB_f1 QB_f2
  clear DB_0 DB_1 DB_2 DB_f0 DB_f1 DB_f2
  have hs3 := hb.size
  try simp only [World.size_alloc, World.size_setCell] at hs3
  replace bw : Below w.heap.size w w3 := dy_end (by go_grown) hb
  replace m3 := Lv.on m3 hb
  replace m4 := Lv.on m4 hb
  replace PB := Blk.on PB hb
  replace QB := Blk.on QB hb
  replace DB := Blk.on DB hb
  clear hb
  have PB_0 := Blk.cell PB 0 rfl
  have PB_1 := Blk.cell PB 1 rfl
  have PB_2 := Blk.cell PB 2 rfl
  have PB_f0 := Blk.free PB 0
  have PB_f1 := Blk.free PB 1
  have PB_f2 := Blk.free PB 2
  have QB_0 := Blk.cell QB 0 rfl
  have QB_1 := Blk.cell QB 1 rfl
  have QB_2 := Blk.cell QB 2 rfl
  have QB_f0 := Blk.free QB 0
  have QB_f1 := Blk.free QB 1
  have QB_f2 := Blk.free QB 2
  have DB_0 := Blk.cell DB 0 rfl
  have DB_1 := Blk.cell DB 1 rfl
  have DB_2 := Blk.cell DB 2 rfl
  have DB_f0 := Blk.free DB 0
  have DB_f1 := Blk.free DB 1
  have DB_f2 := Blk.free DB 2
  go_wp2_with fail
  refine bodyPost_ret (v := .tuple #[dyV b5 A5 q5.length c5 x5, .int .i64 (addR (nfl b (val 18446744073709551616 l) x) (nfl b2 (val 18446744073709551616 l2) x2)).2]) (by simp [results, Tryz.results32, go_sem, DB_0, DB_1, DB_2]) rfl ?_
  exact ⟨b5, q5, A5, c5, x5, rfl, hd5, m5.put DB _ _ _ _ _, by go_grown⟩

set_option maxRecDepth 100000 in
set_option maxHeartbeats 4000000 in
theorem both_sub (h : Lv w A n c l) (hn : n ≤ 4096) (h2 : Lv w A2 n2 c2 l2) (hn2 : n2 ≤ 4096) (hT : Tab w) (ho : okE x = true) (ho2 : okE x2 = true) (hN : farN (nfl b (val 18446744073709551616 l) x) (negN (nfl b2 (val 18446744073709551616 l2) x2)) = true ∨ Near (nfl b (val 18446744073709551616 l) x) (negN (nfl b2 (val 18446744073709551616 l2) x2))) :
    Calls Tryz.prog 32 #[dyV b A n c x, dyV b2 A2 n2 c2 x2, .func (.func 35) #[] #[]] w (DyK (addR (nfl b (val 18446744073709551616 l) x) (negN (nfl b2 (val 18446744073709551616 l2) x2))).1 (addR (nfl b (val 18446744073709551616 l) x) (negN (nfl b2 (val 18446744073709551616 l2) x2))).2 w) := by
  have PB := Blk.new w [.bool b, .slice A n c, .int .i64 x] 31
  have QB := Blk.new (w.alloc (.cells #[.bool b, .slice A n c, .int .i64 x] 31)) [.bool b2, .slice A2 n2 c2, .int .i64 x2] 31
  simp only [World.size_alloc] at QB
  replace PB := Blk.alloc PB (.cells #[.bool b2, .slice A2 n2 c2, .int .i64 x2] 31)
  have DB := Blk.new ((w.alloc (.cells #[.bool b, .slice A n c, .int .i64 x] 31)).alloc (.cells #[.bool b2, .slice A2 n2 c2, .int .i64 x2] 31)) [.bool false, .slice none 0 0, .int .i64 0] 31
  simp only [World.size_alloc] at DB
  replace PB := Blk.alloc PB (.cells #[.bool false, .slice none 0 0, .int .i64 0] 31)
  replace QB := Blk.alloc QB (.cells #[.bool false, .slice none 0 0, .int .i64 0] 31)
  have bw : Below w.heap.size w (((w.alloc (.cells #[.bool b, .slice A n c, .int .i64 x] 31)).alloc (.cells #[.bool b2, .slice A2 n2 c2, .int .i64 x2] 31)).alloc (.cells #[.bool false, .slice none 0 0, .int .i64 0] 31)) := by go_grown
  have PB_0 := Blk.cell PB 0 rfl
  have PB_1 := Blk.cell PB 1 rfl
  have PB_2 := Blk.cell PB 2 rfl
  have PB_f0 := Blk.free PB 0
  have PB_f1 := Blk.free PB 1
  have PB_f2 := Blk.free PB 2
  have QB_0 := Blk.cell QB 0 rfl
  have QB_1 := Blk.cell QB 1 rfl
  have QB_2 := Blk.cell QB 2 rfl
  have QB_f0 := Blk.free QB 0
  have QB_f1 := Blk.free QB 1
  have QB_f2 := Blk.free QB 2
  have DB_0 := Blk.cell DB 0 rfl
  have DB_1 := Blk.cell DB 1 rfl
  have DB_2 := Blk.cell DB 2 rfl
  have DB_f0 := Blk.free DB 0
  have DB_f1 := Blk.free DB 1
  have DB_f2 := Blk.free DB 2
  go_enter Tryz.func32, Tryz.ntmps32
  go_wp2_with fail
  with_reducible refine (dyTaken_yes (b := b) (x := x) (h.on (by go_grown)) hn (hT.onD (by go_grown)) ho).mono ?_
  rintro e w1 ⟨b3, q3, A3, c3, x3, rfl, hd3, m3, hb⟩
  clear PB_0 PB_1 PB_2 PB_f0 PB_f1 PB_f2
  clear QB_0 QB_1 QB_2 QB_f0 QB_f1 QB_f2
  clear DB_0 DB_1 DB_2 DB_f0 DB_f1 DB_f2
  have hs1 := hb.size
  try simp only [World.size_alloc, World.size_setCell] at hs1
  replace bw : Below w.heap.size w w1 := dy_end (by go_grown) hb
  replace PB := Blk.on PB hb
  replace QB := Blk.on QB hb
  replace DB := Blk.on DB hb
  clear hb
  have PB_0 := Blk.cell PB 0 rfl
  have PB_1 := Blk.cell PB 1 rfl
  have PB_2 := Blk.cell PB 2 rfl
  have PB_f0 := Blk.free PB 0
  have PB_f1 := Blk.free PB 1
  have PB_f2 := Blk.free PB 2
  have QB_0 := Blk.cell QB 0 rfl
  have QB_1 := Blk.cell QB 1 rfl
  have QB_2 := Blk.cell QB 2 rfl
  have QB_f0 := Blk.free QB 0
  have QB_f1 := Blk.free QB 1
  have QB_f2 := Blk.free QB 2
  have DB_0 := Blk.cell DB 0 rfl
  have DB_1 := Blk.cell DB 1 rfl
  have DB_2 := Blk.cell DB 2 rfl
  have DB_f0 := Blk.free DB 0
  have DB_f1 := Blk.free DB 1
  have DB_f2 := Blk.free DB 2
  replace m3 := Lv.put m3 PB (b3) (A3) (q3.length) (c3) (x3)
  replace QB := Blk.putO QB (g := w.heap.size) (by omega) (.bool (b3)) (.slice (A3) (q3.length) (c3)) (.int .i64 (x3))
  replace DB := Blk.putO DB (g := w.heap.size) (by omega) (.bool (b3)) (.slice (A3) (q3.length) (c3)) (.int .i64 (x3))
  replace PB := Dbx.put PB (b3) (A3) (q3.length) (c3) (x3)
  go_wp2_with fail
  with_reducible refine (dyTaken_yes (b := b2) (x := x2) (h2.on (by go_grown)) hn2 (hT.onD (by go_grown)) ho2).mono ?_
  rintro e w2 ⟨b4, q4, A4, c4, x4, rfl, hd4, m4, hb⟩
  clear PB_0 PB_1 PB_2 PB_f0 PB_f1 PB_f2
  clear QB_0 QB_1 QB_2 QB_f0 QB_f1 QB_f2
  clear DB_0 DB_1 DB_2 DB_f0 DB_f1 DB_f2
  have hs2 := hb.size
  try simp only [World.size_alloc, World.size_setCell] at hs2
  replace bw : Below w.heap.size w w2 := dy_end (by go_grown) hb
  replace m3 := Lv.on m3 hb
  replace PB := Blk.on PB hb
  replace QB := Blk.on QB hb
  replace DB := Blk.on DB hb
  clear hb
  have PB_0 := Blk.cell PB 0 rfl
  have PB_1 := Blk.cell PB 1 rfl
  have PB_2 := Blk.cell PB 2 rfl
  have PB_f0 := Blk.free PB 0
  have PB_f1 := Blk.free PB 1
  have PB_f2 := Blk.free PB 2
  have QB_0 := Blk.cell QB 0 rfl
  have QB_1 := Blk.cell QB 1 rfl
  have QB_2 := Blk.cell QB 2 rfl
  have QB_f0 := Blk.free QB 0
  have QB_f1 := Blk.free QB 1
  have QB_f2 := Blk.free QB 2
  have DB_0 := Blk.cell DB 0 rfl
  have DB_1 := Blk.cell DB 1 rfl
  have DB_2 := Blk.cell DB 2 rfl
  have DB_f0 := Blk.free DB 0
  have DB_f1 := Blk.free DB 1
  have DB_f2 := Blk.free DB 2
  replace m3 := Lv.put m3 QB (b4) (A4) (q4.length) (c4) (x4)
  replace m4 := Lv.put m4 QB (b4) (A4) (q4.length) (c4) (x4)
  replace PB := Blk.putO PB (g := (w.heap.size + 1)) (by omega) (.bool (b4)) (.slice (A4) (q4.length) (c4)) (.int .i64 (x4))
  replace DB := Blk.putO DB (g := (w.heap.size + 1)) (by omega) (.bool (b4)) (.slice (A4) (q4.length) (c4)) (.int .i64 (x4))
  replace QB := Dbx.put QB (b4) (A4) (q4.length) (c4) (x4)
  have X3 := exp_bd h hn ho hd3
  have X4 := exp_bd h2 hn2 ho2 hd4
  go_wp2_with fail
  with_reducible refine (subOne_dn m3 m4 (hT.onD (by go_grown)) (hd3.dq (Lv.lim m3)) (hd4.turn (Lv.lim m4)) hN X3.1 X3.2 X4.1 X4.2).mono ?_
  rintro e w3 ⟨b5, q5, A5, c5, x5, rfl, hd5, m5, hb⟩
  clear PB_0 PB_1 PB_2 PB_f0 PB_f1 PB_f2
  clear QB_0 QB_1 QB_2 QB_f0 QB_f1 QB_f2
  clear DB_0 DB_1 DB_2 DB_f0 DB_f1 DB_f2
  have hs3 := hb.size
  try simp only [World.size_alloc, World.size_setCell] at hs3
  replace bw : Below w.heap.size w w3 := dy_end (by go_grown) hb
  replace m3 := Lv.on m3 hb
  replace m4 := Lv.on m4 hb
  replace PB := Blk.on PB hb
  replace QB := Blk.on QB hb
  replace DB := Blk.on DB hb
  clear hb
  have PB_0 := Blk.cell PB 0 rfl
  have PB_1 := Blk.cell PB 1 rfl
  have PB_2 := Blk.cell PB 2 rfl
  have PB_f0 := Blk.free PB 0
  have PB_f1 := Blk.free PB 1
  have PB_f2 := Blk.free PB 2
  have QB_0 := Blk.cell QB 0 rfl
  have QB_1 := Blk.cell QB 1 rfl
  have QB_2 := Blk.cell QB 2 rfl
  have QB_f0 := Blk.free QB 0
  have QB_f1 := Blk.free QB 1
  have QB_f2 := Blk.free QB 2
  have DB_0 := Blk.cell DB 0 rfl
  have DB_1 := Blk.cell DB 1 rfl
  have DB_2 := Blk.cell DB 2 rfl
  have DB_f0 := Blk.free DB 0
  have DB_f1 := Blk.free DB 1
  have DB_f2 := Blk.free DB 2
  go_wp2_with fail
  refine bodyPost_ret (v := .tuple #[dyV b5 A5 q5.length c5 x5, .int .i64 (addR (nfl b (val 18446744073709551616 l) x) (negN (nfl b2 (val 18446744073709551616 l2) x2))).2]) (by simp [results, Tryz.results32, go_sem, DB_0, DB_1, DB_2]) rfl ?_
  exact ⟨b5, q5, A5, c5, x5, rfl, hd5, m5.put DB _ _ _ _ _, by go_grown⟩

set_option maxRecDepth 100000 in
set_option maxHeartbeats 4000000 in
theorem both_mul (h : Lv w A n c l) (hn : n ≤ 4096) (h2 : Lv w A2 n2 c2 l2) (hn2 : n2 ≤ 4096) (hT : Tab w) (ho : okE x = true) (ho2 : okE x2 = true) (hv : val 18446744073709551616 l * val 18446744073709551616 l2 < 18446744073709551616 ^ 4096) :
    Calls Tryz.prog 32 #[dyV b A n c x, dyV b2 A2 n2 c2 x2, .func (.func 33) #[] #[]] w (DyK (doneR (mulN (nfl b (val 18446744073709551616 l) x) (nfl b2 (val 18446744073709551616 l2) x2))).1 (doneR (mulN (nfl b (val 18446744073709551616 l) x) (nfl b2 (val 18446744073709551616 l2) x2))).2 w) := by
  have PB := Blk.new w [.bool b, .slice A n c, .int .i64 x] 31
  have QB := Blk.new (w.alloc (.cells #[.bool b, .slice A n c, .int .i64 x] 31)) [.bool b2, .slice A2 n2 c2, .int .i64 x2] 31
  simp only [World.size_alloc] at QB
  replace PB := Blk.alloc PB (.cells #[.bool b2, .slice A2 n2 c2, .int .i64 x2] 31)
  have DB := Blk.new ((w.alloc (.cells #[.bool b, .slice A n c, .int .i64 x] 31)).alloc (.cells #[.bool b2, .slice A2 n2 c2, .int .i64 x2] 31)) [.bool false, .slice none 0 0, .int .i64 0] 31
  simp only [World.size_alloc] at DB
  replace PB := Blk.alloc PB (.cells #[.bool false, .slice none 0 0, .int .i64 0] 31)
  replace QB := Blk.alloc QB (.cells #[.bool false, .slice none 0 0, .int .i64 0] 31)
  have bw : Below w.heap.size w (((w.alloc (.cells #[.bool b, .slice A n c, .int .i64 x] 31)).alloc (.cells #[.bool b2, .slice A2 n2 c2, .int .i64 x2] 31)).alloc (.cells #[.bool false, .slice none 0 0, .int .i64 0] 31)) := by go_grown
  have PB_0 := Blk.cell PB 0 rfl
  have PB_1 := Blk.cell PB 1 rfl
  have PB_2 := Blk.cell PB 2 rfl
  have PB_f0 := Blk.free PB 0
  have PB_f1 := Blk.free PB 1
  have PB_f2 := Blk.free PB 2
  have QB_0 := Blk.cell QB 0 rfl
  have QB_1 := Blk.cell QB 1 rfl
  have QB_2 := Blk.cell QB 2 rfl
  have QB_f0 := Blk.free QB 0
  have QB_f1 := Blk.free QB 1
  have QB_f2 := Blk.free QB 2
  have DB_0 := Blk.cell DB 0 rfl
  have DB_1 := Blk.cell DB 1 rfl
  have DB_2 := Blk.cell DB 2 rfl
  have DB_f0 := Blk.free DB 0
  have DB_f1 := Blk.free DB 1
  have DB_f2 := Blk.free DB 2
  go_enter Tryz.func32, Tryz.ntmps32
  go_wp2_with fail
  with_reducible refine (dyTaken_yes (b := b) (x := x) (h.on (by go_grown)) hn (hT.onD (by go_grown)) ho).mono ?_
  rintro e w1 ⟨b3, q3, A3, c3, x3, rfl, hd3, m3, hb⟩
  clear PB_0 PB_1 PB_2 PB_f0 PB_f1 PB_f2
  clear QB_0 QB_1 QB_2 QB_f0 QB_f1 QB_f2
  clear DB_0 DB_1 DB_2 DB_f0 DB_f1 DB_f2
  have hs1 := hb.size
  try simp only [World.size_alloc, World.size_setCell] at hs1
  replace bw : Below w.heap.size w w1 := dy_end (by go_grown) hb
  replace PB := Blk.on PB hb
  replace QB := Blk.on QB hb
  replace DB := Blk.on DB hb
  clear hb
  have PB_0 := Blk.cell PB 0 rfl
  have PB_1 := Blk.cell PB 1 rfl
  have PB_2 := Blk.cell PB 2 rfl
  have PB_f0 := Blk.free PB 0
  have PB_f1 := Blk.free PB 1
  have PB_f2 := Blk.free PB 2
  have QB_0 := Blk.cell QB 0 rfl
  have QB_1 := Blk.cell QB 1 rfl
  have QB_2 := Blk.cell QB 2 rfl
  have QB_f0 := Blk.free QB 0
  have QB_f1 := Blk.free QB 1
  have QB_f2 := Blk.free QB 2
  have DB_0 := Blk.cell DB 0 rfl
  have DB_1 := Blk.cell DB 1 rfl
  have DB_2 := Blk.cell DB 2 rfl
  have DB_f0 := Blk.free DB 0
  have DB_f1 := Blk.free DB 1
  have DB_f2 := Blk.free DB 2
  replace m3 := Lv.put m3 PB (b3) (A3) (q3.length) (c3) (x3)
  replace QB := Blk.putO QB (g := w.heap.size) (by omega) (.bool (b3)) (.slice (A3) (q3.length) (c3)) (.int .i64 (x3))
  replace DB := Blk.putO DB (g := w.heap.size) (by omega) (.bool (b3)) (.slice (A3) (q3.length) (c3)) (.int .i64 (x3))
  replace PB := Dbx.put PB (b3) (A3) (q3.length) (c3) (x3)
  go_wp2_with fail
  with_reducible refine (dyTaken_yes (b := b2) (x := x2) (h2.on (by go_grown)) hn2 (hT.onD (by go_grown)) ho2).mono ?_
  rintro e w2 ⟨b4, q4, A4, c4, x4, rfl, hd4, m4, hb⟩
  clear PB_0 PB_1 PB_2 PB_f0 PB_f1 PB_f2
  clear QB_0 QB_1 QB_2 QB_f0 QB_f1 QB_f2
  clear DB_0 DB_1 DB_2 DB_f0 DB_f1 DB_f2
  have hs2 := hb.size
  try simp only [World.size_alloc, World.size_setCell] at hs2
  replace bw : Below w.heap.size w w2 := dy_end (by go_grown) hb
  replace m3 := Lv.on m3 hb
  replace PB := Blk.on PB hb
  replace QB := Blk.on QB hb
  replace DB := Blk.on DB hb
  clear hb
  have PB_0 := Blk.cell PB 0 rfl
  have PB_1 := Blk.cell PB 1 rfl
  have PB_2 := Blk.cell PB 2 rfl
  have PB_f0 := Blk.free PB 0
  have PB_f1 := Blk.free PB 1
  have PB_f2 := Blk.free PB 2
  have QB_0 := Blk.cell QB 0 rfl
  have QB_1 := Blk.cell QB 1 rfl
  have QB_2 := Blk.cell QB 2 rfl
  have QB_f0 := Blk.free QB 0
  have QB_f1 := Blk.free QB 1
  have QB_f2 := Blk.free QB 2
  have DB_0 := Blk.cell DB 0 rfl
  have DB_1 := Blk.cell DB 1 rfl
  have DB_2 := Blk.cell DB 2 rfl
  have DB_f0 := Blk.free DB 0
  have DB_f1 := Blk.free DB 1
  have DB_f2 := Blk.free DB 2
  replace m3 := Lv.put m3 QB (b4) (A4) (q4.length) (c4) (x4)
  replace m4 := Lv.put m4 QB (b4) (A4) (q4.length) (c4) (x4)
  replace PB := Blk.putO PB (g := (w.heap.size + 1)) (by omega) (.bool (b4)) (.slice (A4) (q4.length) (c4)) (.int .i64 (x4))
  replace DB := Blk.putO DB (g := (w.heap.size + 1)) (by omega) (.bool (b4)) (.slice (A4) (q4.length) (c4)) (.int .i64 (x4))
  replace QB := Dbx.put QB (b4) (A4) (q4.length) (c4) (x4)
  have X3 := exp_bd h hn ho hd3
  have X4 := exp_bd h2 hn2 ho2 hd4
  go_wp2_with fail
  with_reducible refine (product_dn m3 (Dn.len hd3) m4 (Dn.len hd4) hd3 hd4 (mul_less h h2 hd3 hd4 (Lv.lim m3) (Lv.lim m4) hv) X3.1 X3.2 X4.1 X4.2).mono ?_
  rintro e w3 ⟨b5, q5, A5, c5, x5, rfl, hd5, m5, hb⟩
  clear PB_0 PB_1 PB_2 PB_f0 PB_f1 PB_f2
  clear QB_0 QB_1 QB_2 QB_f0 QB_f1 QB_f2
  clear DB_0 DB_1 DB_2 DB_f0 DB_f1 DB_f2
  have hs3 := hb.size
  try simp only [World.size_alloc, World.size_setCell] at hs3
  replace bw : Below w.heap.size w w3 := dy_end (by go_grown) hb
  replace m3 := Lv.on m3 hb
  replace m4 := Lv.on m4 hb
  replace PB := Blk.on PB hb
  replace QB := Blk.on QB hb
  replace DB := Blk.on DB hb
  clear hb
  have PB_0 := Blk.cell PB 0 rfl
  have PB_1 := Blk.cell PB 1 rfl
  have PB_2 := Blk.cell PB 2 rfl
  have PB_f0 := Blk.free PB 0
  have PB_f1 := Blk.free PB 1
  have PB_f2 := Blk.free PB 2
  have QB_0 := Blk.cell QB 0 rfl
  have QB_1 := Blk.cell QB 1 rfl
  have QB_2 := Blk.cell QB 2 rfl
  have QB_f0 := Blk.free QB 0
  have QB_f1 := Blk.free QB 1
  have QB_f2 := Blk.free QB 2
  have DB_0 := Blk.cell DB 0 rfl
  have DB_1 := Blk.cell DB 1 rfl
  have DB_2 := Blk.cell DB 2 rfl
  have DB_f0 := Blk.free DB 0
  have DB_f1 := Blk.free DB 1
  have DB_f2 := Blk.free DB 2
  go_wp2_with fail
  refine bodyPost_ret (v := .tuple #[dyV b5 A5 q5.length c5 x5, .int .i64 (doneR (mulN (nfl b (val 18446744073709551616 l) x) (nfl b2 (val 18446744073709551616 l2) x2))).2]) (by simp [results, Tryz.results32, go_sem, DB_0, DB_1, DB_2]) rfl ?_
  exact ⟨b5, q5, A5, c5, x5, rfl, hd5, m5.put DB _ _ _ _ _, by go_grown⟩

set_option maxRecDepth 100000 in
set_option maxHeartbeats 4000000 in
theorem both_ng (h : Lv w A n c l) (hn : n ≤ 4096) (h2 : Lv w A2 n2 c2 l2) (hn2 : n2 ≤ 4096) (hT : Tab w) (ho : okE x = false) (ho2 : okE x2 = true) (fv : Value) :
    Calls Tryz.prog 32 #[dyV b A n c x, dyV b2 A2 n2 c2 x2, fv] w (DyK zeroN 2 w) := by
  have PB := Blk.new w [.bool b, .slice A n c, .int .i64 x] 31
  have QB := Blk.new (w.alloc (.cells #[.bool b, .slice A n c, .int .i64 x] 31)) [.bool b2, .slice A2 n2 c2, .int .i64 x2] 31
  simp only [World.size_alloc] at QB
  replace PB := Blk.alloc PB (.cells #[.bool b2, .slice A2 n2 c2, .int .i64 x2] 31)
  have DB := Blk.new ((w.alloc (.cells #[.bool b, .slice A n c, .int .i64 x] 31)).alloc (.cells #[.bool b2, .slice A2 n2 c2, .int .i64 x2] 31)) [.bool false, .slice none 0 0, .int .i64 0] 31
  simp only [World.size_alloc] at DB
  replace PB := Blk.alloc PB (.cells #[.bool false, .slice none 0 0, .int .i64 0] 31)
  replace QB := Blk.alloc QB (.cells #[.bool false, .slice none 0 0, .int .i64 0] 31)
  have bw : Below w.heap.size w (((w.alloc (.cells #[.bool b, .slice A n c, .int .i64 x] 31)).alloc (.cells #[.bool b2, .slice A2 n2 c2, .int .i64 x2] 31)).alloc (.cells #[.bool false, .slice none 0 0, .int .i64 0] 31)) := by go_grown
  have PB_0 := Blk.cell PB 0 rfl
  have PB_1 := Blk.cell PB 1 rfl
  have PB_2 := Blk.cell PB 2 rfl
  have PB_f0 := Blk.free PB 0
  have PB_f1 := Blk.free PB 1
  have PB_f2 := Blk.free PB 2
  have QB_0 := Blk.cell QB 0 rfl
  have QB_1 := Blk.cell QB 1 rfl
  have QB_2 := Blk.cell QB 2 rfl
  have QB_f0 := Blk.free QB 0
  have QB_f1 := Blk.free QB 1
  have QB_f2 := Blk.free QB 2
  have DB_0 := Blk.cell DB 0 rfl
  have DB_1 := Blk.cell DB 1 rfl
  have DB_2 := Blk.cell DB 2 rfl
  have DB_f0 := Blk.free DB 0
  have DB_f1 := Blk.free DB 1
  have DB_f2 := Blk.free DB 2
  go_enter Tryz.func32, Tryz.ntmps32
  go_wp2_with fail
  with_reducible refine (dyTaken_no (b := b) (x := x) (h.on (by go_grown)) hn ho).mono ?_
  rintro e w1 ⟨b3, q3, A3, c3, x3, rfl, hd3, m3, hb⟩
  clear PB_0 PB_1 PB_2 PB_f0 PB_f1 PB_f2
  clear QB_0 QB_1 QB_2 QB_f0 QB_f1 QB_f2
  clear DB_0 DB_1 DB_2 DB_f0 DB_f1 DB_f2
  have hs1 := hb.size
  try simp only [World.size_alloc, World.size_setCell] at hs1
  replace bw : Below w.heap.size w w1 := dy_end (by go_grown) hb
  replace PB := Blk.on PB hb
  replace QB := Blk.on QB hb
  replace DB := Blk.on DB hb
  clear hb
  have PB_0 := Blk.cell PB 0 rfl
  have PB_1 := Blk.cell PB 1 rfl
  have PB_2 := Blk.cell PB 2 rfl
  have PB_f0 := Blk.free PB 0
  have PB_f1 := Blk.free PB 1
  have PB_f2 := Blk.free PB 2
  have QB_0 := Blk.cell QB 0 rfl
  have QB_1 := Blk.cell QB 1 rfl
  have QB_2 := Blk.cell QB 2 rfl
  have QB_f0 := Blk.free QB 0
  have QB_f1 := Blk.free QB 1
  have QB_f2 := Blk.free QB 2
  have DB_0 := Blk.cell DB 0 rfl
  have DB_1 := Blk.cell DB 1 rfl
  have DB_2 := Blk.cell DB 2 rfl
  have DB_f0 := Blk.free DB 0
  have DB_f1 := Blk.free DB 1
  have DB_f2 := Blk.free DB 2
  replace m3 := Lv.put m3 PB (b3) (A3) (q3.length) (c3) (x3)
  replace QB := Blk.putO QB (g := w.heap.size) (by omega) (.bool (b3)) (.slice (A3) (q3.length) (c3)) (.int .i64 (x3))
  replace DB := Blk.putO DB (g := w.heap.size) (by omega) (.bool (b3)) (.slice (A3) (q3.length) (c3)) (.int .i64 (x3))
  replace PB := Dbx.put PB (b3) (A3) (q3.length) (c3) (x3)
  go_wp2_with fail
  with_reducible refine (dyTaken_yes (b := b2) (x := x2) (h2.on (by go_grown)) hn2 (hT.onD (by go_grown)) ho2).mono ?_
  rintro e w2 ⟨b4, q4, A4, c4, x4, rfl, hd4, m4, hb⟩
  clear PB_0 PB_1 PB_2 PB_f0 PB_f1 PB_f2
  clear QB_0 QB_1 QB_2 QB_f0 QB_f1 QB_f2
  clear DB_0 DB_1 DB_2 DB_f0 DB_f1 DB_f2
  have hs2 := hb.size
  try simp only [World.size_alloc, World.size_setCell] at hs2
  replace bw : Below w.heap.size w w2 := dy_end (by go_grown) hb
  replace m3 := Lv.on m3 hb
  replace PB := Blk.on PB hb
  replace QB := Blk.on QB hb
  replace DB := Blk.on DB hb
  clear hb
  have PB_0 := Blk.cell PB 0 rfl
  have PB_1 := Blk.cell PB 1 rfl
  have PB_2 := Blk.cell PB 2 rfl
  have PB_f0 := Blk.free PB 0
  have PB_f1 := Blk.free PB 1
  have PB_f2 := Blk.free PB 2
  have QB_0 := Blk.cell QB 0 rfl
  have QB_1 := Blk.cell QB 1 rfl
  have QB_2 := Blk.cell QB 2 rfl
  have QB_f0 := Blk.free QB 0
  have QB_f1 := Blk.free QB 1
  have QB_f2 := Blk.free QB 2
  have DB_0 := Blk.cell DB 0 rfl
  have DB_1 := Blk.cell DB 1 rfl
  have DB_2 := Blk.cell DB 2 rfl
  have DB_f0 := Blk.free DB 0
  have DB_f1 := Blk.free DB 1
  have DB_f2 := Blk.free DB 2
  replace m3 := Lv.put m3 QB (b4) (A4) (q4.length) (c4) (x4)
  replace m4 := Lv.put m4 QB (b4) (A4) (q4.length) (c4) (x4)
  replace PB := Blk.putO PB (g := (w.heap.size + 1)) (by omega) (.bool (b4)) (.slice (A4) (q4.length) (c4)) (.int .i64 (x4))
  replace DB := Blk.putO DB (g := (w.heap.size + 1)) (by omega) (.bool (b4)) (.slice (A4) (q4.length) (c4)) (.int .i64 (x4))
  replace QB := Dbx.put QB (b4) (A4) (q4.length) (c4) (x4)
  clear DB_0 DB_1 DB_2 DB_f0 DB_f1 DB_f2
  have DB_0 := Blk.cell DB 0 rfl
  have DB_1 := Blk.cell DB 1 rfl
  have DB_2 := Blk.cell DB 2 rfl
  have DB_f0 := Blk.free DB 0
  have DB_f1 := Blk.free DB 1
  have DB_f2 := Blk.free DB 2
  go_wp2_with fail
  refine bodyPost_ret (v := .tuple #[dyV false none 0 0 0, .int .i64 2]) (by simp [results, Tryz.results32, go_sem, DB_0, DB_1, DB_2]) rfl ?_
  exact ⟨false, [], none, 0, 0, rfl, Dn.zero, lv_nil _, by go_grown⟩

set_option maxRecDepth 100000 in
set_option maxHeartbeats 4000000 in
theorem both_nn (h : Lv w A n c l) (hn : n ≤ 4096) (h2 : Lv w A2 n2 c2 l2) (hn2 : n2 ≤ 4096) (hT : Tab w) (ho : okE x = false) (ho2 : okE x2 = false) (fv : Value) :
    Calls Tryz.prog 32 #[dyV b A n c x, dyV b2 A2 n2 c2 x2, fv] w (DyK zeroN 2 w) := by
  have PB := Blk.new w [.bool b, .slice A n c, .int .i64 x] 31
  have QB := Blk.new (w.alloc (.cells #[.bool b, .slice A n c, .int .i64 x] 31)) [.bool b2, .slice A2 n2 c2, .int .i64 x2] 31
  simp only [World.size_alloc] at QB
  replace PB := Blk.alloc PB (.cells #[.bool b2, .slice A2 n2 c2, .int .i64 x2] 31)
  have DB := Blk.new ((w.alloc (.cells #[.bool b, .slice A n c, .int .i64 x] 31)).alloc (.cells #[.bool b2, .slice A2 n2 c2, .int .i64 x2] 31)) [.bool false, .slice none 0 0, .int .i64 0] 31
  simp only [World.size_alloc] at DB
  replace PB := Blk.alloc PB (.cells #[.bool false, .slice none 0 0, .int .i64 0] 31)
  replace QB := Blk.alloc QB (.cells #[.bool false, .slice none 0 0, .int .i64 0] 31)
  have bw : Below w.heap.size w (((w.alloc (.cells #[.bool b, .slice A n c, .int .i64 x] 31)).alloc (.cells #[.bool b2, .slice A2 n2 c2, .int .i64 x2] 31)).alloc (.cells #[.bool false, .slice none 0 0, .int .i64 0] 31)) := by go_grown
  have PB_0 := Blk.cell PB 0 rfl
  have PB_1 := Blk.cell PB 1 rfl
  have PB_2 := Blk.cell PB 2 rfl
  have PB_f0 := Blk.free PB 0
  have PB_f1 := Blk.free PB 1
  have PB_f2 := Blk.free PB 2
  have QB_0 := Blk.cell QB 0 rfl
  have QB_1 := Blk.cell QB 1 rfl
  have QB_2 := Blk.cell QB 2 rfl
  have QB_f0 := Blk.free QB 0
  have QB_f1 := Blk.free QB 1
  have QB_f2 := Blk.free QB 2
  have DB_0 := Blk.cell DB 0 rfl
  have DB_1 := Blk.cell DB 1 rfl
  have DB_2 := Blk.cell DB 2 rfl
  have DB_f0 := Blk.free DB 0
  have DB_f1 := Blk.free DB 1
  have DB_f2 := Blk.free DB 2
  go_enter Tryz.func32, Tryz.ntmps32
  go_wp2_with fail
  with_reducible refine (dyTaken_no (b := b) (x := x) (h.on (by go_grown)) hn ho).mono ?_
  rintro e w1 ⟨b3, q3, A3, c3, x3, rfl, hd3, m3, hb⟩
  clear PB_0 PB_1 PB_2 PB_f0 PB_f1 PB_f2
  clear QB_0 QB_1 QB_2 QB_f0 QB_f1 QB_f2
  clear DB_0 DB_1 DB_2 DB_f0 DB_f1 DB_f2
  have hs1 := hb.size
  try simp only [World.size_alloc, World.size_setCell] at hs1
  replace bw : Below w.heap.size w w1 := dy_end (by go_grown) hb
  replace PB := Blk.on PB hb
  replace QB := Blk.on QB hb
  replace DB := Blk.on DB hb
  clear hb
  have PB_0 := Blk.cell PB 0 rfl
  have PB_1 := Blk.cell PB 1 rfl
  have PB_2 := Blk.cell PB 2 rfl
  have PB_f0 := Blk.free PB 0
  have PB_f1 := Blk.free PB 1
  have PB_f2 := Blk.free PB 2
  have QB_0 := Blk.cell QB 0 rfl
  have QB_1 := Blk.cell QB 1 rfl
  have QB_2 := Blk.cell QB 2 rfl
  have QB_f0 := Blk.free QB 0
  have QB_f1 := Blk.free QB 1
  have QB_f2 := Blk.free QB 2
  have DB_0 := Blk.cell DB 0 rfl
  have DB_1 := Blk.cell DB 1 rfl
  have DB_2 := Blk.cell DB 2 rfl
  have DB_f0 := Blk.free DB 0
  have DB_f1 := Blk.free DB 1
  have DB_f2 := Blk.free DB 2
  replace m3 := Lv.put m3 PB (b3) (A3) (q3.length) (c3) (x3)
  replace QB := Blk.putO QB (g := w.heap.size) (by omega) (.bool (b3)) (.slice (A3) (q3.length) (c3)) (.int .i64 (x3))
  replace DB := Blk.putO DB (g := w.heap.size) (by omega) (.bool (b3)) (.slice (A3) (q3.length) (c3)) (.int .i64 (x3))
  replace PB := Dbx.put PB (b3) (A3) (q3.length) (c3) (x3)
  go_wp2_with fail
  with_reducible refine (dyTaken_no (b := b2) (x := x2) (h2.on (by go_grown)) hn2 ho2).mono ?_
  rintro e w2 ⟨b4, q4, A4, c4, x4, rfl, hd4, m4, hb⟩
  clear PB_0 PB_1 PB_2 PB_f0 PB_f1 PB_f2
  clear QB_0 QB_1 QB_2 QB_f0 QB_f1 QB_f2
  clear DB_0 DB_1 DB_2 DB_f0 DB_f1 DB_f2
  have hs2 := hb.size
  try simp only [World.size_alloc, World.size_setCell] at hs2
  replace bw : Below w.heap.size w w2 := dy_end (by go_grown) hb
  replace m3 := Lv.on m3 hb
  replace PB := Blk.on PB hb
  replace QB := Blk.on QB hb
  replace DB := Blk.on DB hb
  clear hb
  have PB_0 := Blk.cell PB 0 rfl
  have PB_1 := Blk.cell PB 1 rfl
  have PB_2 := Blk.cell PB 2 rfl
  have PB_f0 := Blk.free PB 0
  have PB_f1 := Blk.free PB 1
  have PB_f2 := Blk.free PB 2
  have QB_0 := Blk.cell QB 0 rfl
  have QB_1 := Blk.cell QB 1 rfl
  have QB_2 := Blk.cell QB 2 rfl
  have QB_f0 := Blk.free QB 0
  have QB_f1 := Blk.free QB 1
  have QB_f2 := Blk.free QB 2
  have DB_0 := Blk.cell DB 0 rfl
  have DB_1 := Blk.cell DB 1 rfl
  have DB_2 := Blk.cell DB 2 rfl
  have DB_f0 := Blk.free DB 0
  have DB_f1 := Blk.free DB 1
  have DB_f2 := Blk.free DB 2
  replace m3 := Lv.put m3 QB (b4) (A4) (q4.length) (c4) (x4)
  replace m4 := Lv.put m4 QB (b4) (A4) (q4.length) (c4) (x4)
  replace PB := Blk.putO PB (g := (w.heap.size + 1)) (by omega) (.bool (b4)) (.slice (A4) (q4.length) (c4)) (.int .i64 (x4))
  replace DB := Blk.putO DB (g := (w.heap.size + 1)) (by omega) (.bool (b4)) (.slice (A4) (q4.length) (c4)) (.int .i64 (x4))
  replace QB := Dbx.put QB (b4) (A4) (q4.length) (c4) (x4)
  clear DB_0 DB_1 DB_2 DB_f0 DB_f1 DB_f2
  have DB_0 := Blk.cell DB 0 rfl
  have DB_1 := Blk.cell DB 1 rfl
  have DB_2 := Blk.cell DB 2 rfl
  have DB_f0 := Blk.free DB 0
  have DB_f1 := Blk.free DB 1
  have DB_f2 := Blk.free DB 2
  go_wp2_with fail
  refine bodyPost_ret (v := .tuple #[dyV false none 0 0 0, .int .i64 2]) (by simp [results, Tryz.results32, go_sem, DB_0, DB_1, DB_2]) rfl ?_
  exact ⟨false, [], none, 0, 0, rfl, Dn.zero, lv_nil _, by go_grown⟩

set_option maxRecDepth 100000 in
set_option maxHeartbeats 4000000 in
theorem both_gn (h : Lv w A n c l) (hn : n ≤ 4096) (h2 : Lv w A2 n2 c2 l2) (hn2 : n2 ≤ 4096) (hT : Tab w) (ho : okE x = true) (ho2 : okE x2 = false) (fv : Value) :
    Calls Tryz.prog 32 #[dyV b A n c x, dyV b2 A2 n2 c2 x2, fv] w (DyK zeroN 2 w) := by
  have PB := Blk.new w [.bool b, .slice A n c, .int .i64 x] 31
  have QB := Blk.new (w.alloc (.cells #[.bool b, .slice A n c, .int .i64 x] 31)) [.bool b2, .slice A2 n2 c2, .int .i64 x2] 31
  simp only [World.size_alloc] at QB
  replace PB := Blk.alloc PB (.cells #[.bool b2, .slice A2 n2 c2, .int .i64 x2] 31)
  have DB := Blk.new ((w.alloc (.cells #[.bool b, .slice A n c, .int .i64 x] 31)).alloc (.cells #[.bool b2, .slice A2 n2 c2, .int .i64 x2] 31)) [.bool false, .slice none 0 0, .int .i64 0] 31
  simp only [World.size_alloc] at DB
  replace PB := Blk.alloc PB (.cells #[.bool false, .slice none 0 0, .int .i64 0] 31)
  replace QB := Blk.alloc QB (.cells #[.bool false, .slice none 0 0, .int .i64 0] 31)
  have bw : Below w.heap.size w (((w.alloc (.cells #[.bool b, .slice A n c, .int .i64 x] 31)).alloc (.cells #[.bool b2, .slice A2 n2 c2, .int .i64 x2] 31)).alloc (.cells #[.bool false, .slice none 0 0, .int .i64 0] 31)) := by go_grown
  have PB_0 := Blk.cell PB 0 rfl
  have PB_1 := Blk.cell PB 1 rfl
  have PB_2 := Blk.cell PB 2 rfl
  have PB_f0 := Blk.free PB 0
  have PB_f1 := Blk.free PB 1
  have PB_f2 := Blk.free PB 2
  have QB_0 := Blk.cell QB 0 rfl
  have QB_1 := Blk.cell QB 1 rfl
  have QB_2 := Blk.cell QB 2 rfl
  have QB_f0 := Blk.free QB 0
  have QB_f1 := Blk.free QB 1
  have QB_f2 := Blk.free QB 2
  have DB_0 := Blk.cell DB 0 rfl
  have DB_1 := Blk.cell DB 1 rfl
  have DB_2 := Blk.cell DB 2 rfl
  have DB_f0 := Blk.free DB 0
  have DB_f1 := Blk.free DB 1
  have DB_f2 := Blk.free DB 2
  go_enter Tryz.func32, Tryz.ntmps32
  go_wp2_with fail
  with_reducible refine (dyTaken_yes (b := b) (x := x) (h.on (by go_grown)) hn (hT.onD (by go_grown)) ho).mono ?_
  rintro e w1 ⟨b3, q3, A3, c3, x3, rfl, hd3, m3, hb⟩
  clear PB_0 PB_1 PB_2 PB_f0 PB_f1 PB_f2
  clear QB_0 QB_1 QB_2 QB_f0 QB_f1 QB_f2
  clear DB_0 DB_1 DB_2 DB_f0 DB_f1 DB_f2
  have hs1 := hb.size
  try simp only [World.size_alloc, World.size_setCell] at hs1
  replace bw : Below w.heap.size w w1 := dy_end (by go_grown) hb
  replace PB := Blk.on PB hb
  replace QB := Blk.on QB hb
  replace DB := Blk.on DB hb
  clear hb
  have PB_0 := Blk.cell PB 0 rfl
  have PB_1 := Blk.cell PB 1 rfl
  have PB_2 := Blk.cell PB 2 rfl
  have PB_f0 := Blk.free PB 0
  have PB_f1 := Blk.free PB 1
  have PB_f2 := Blk.free PB 2
  have QB_0 := Blk.cell QB 0 rfl
  have QB_1 := Blk.cell QB 1 rfl
  have QB_2 := Blk.cell QB 2 rfl
  have QB_f0 := Blk.free QB 0
  have QB_f1 := Blk.free QB 1
  have QB_f2 := Blk.free QB 2
  have DB_0 := Blk.cell DB 0 rfl
  have DB_1 := Blk.cell DB 1 rfl
  have DB_2 := Blk.cell DB 2 rfl
  have DB_f0 := Blk.free DB 0
  have DB_f1 := Blk.free DB 1
  have DB_f2 := Blk.free DB 2
  replace m3 := Lv.put m3 PB (b3) (A3) (q3.length) (c3) (x3)
  replace QB := Blk.putO QB (g := w.heap.size) (by omega) (.bool (b3)) (.slice (A3) (q3.length) (c3)) (.int .i64 (x3))
  replace DB := Blk.putO DB (g := w.heap.size) (by omega) (.bool (b3)) (.slice (A3) (q3.length) (c3)) (.int .i64 (x3))
  replace PB := Dbx.put PB (b3) (A3) (q3.length) (c3) (x3)
  go_wp2_with fail
  with_reducible refine (dyTaken_no (b := b2) (x := x2) (h2.on (by go_grown)) hn2 ho2).mono ?_
  rintro e w2 ⟨b4, q4, A4, c4, x4, rfl, hd4, m4, hb⟩
  clear PB_0 PB_1 PB_2 PB_f0 PB_f1 PB_f2
  clear QB_0 QB_1 QB_2 QB_f0 QB_f1 QB_f2
  clear DB_0 DB_1 DB_2 DB_f0 DB_f1 DB_f2
  have hs2 := hb.size
  try simp only [World.size_alloc, World.size_setCell] at hs2
  replace bw : Below w.heap.size w w2 := dy_end (by go_grown) hb
  replace m3 := Lv.on m3 hb
  replace PB := Blk.on PB hb
  replace QB := Blk.on QB hb
  replace DB := Blk.on DB hb
  clear hb
  have PB_0 := Blk.cell PB 0 rfl
  have PB_1 := Blk.cell PB 1 rfl
  have PB_2 := Blk.cell PB 2 rfl
  have PB_f0 := Blk.free PB 0
  have PB_f1 := Blk.free PB 1
  have PB_f2 := Blk.free PB 2
  have QB_0 := Blk.cell QB 0 rfl
  have QB_1 := Blk.cell QB 1 rfl
  have QB_2 := Blk.cell QB 2 rfl
  have QB_f0 := Blk.free QB 0
  have QB_f1 := Blk.free QB 1
  have QB_f2 := Blk.free QB 2
  have DB_0 := Blk.cell DB 0 rfl
  have DB_1 := Blk.cell DB 1 rfl
  have DB_2 := Blk.cell DB 2 rfl
  have DB_f0 := Blk.free DB 0
  have DB_f1 := Blk.free DB 1
  have DB_f2 := Blk.free DB 2
  replace m3 := Lv.put m3 QB (b4) (A4) (q4.length) (c4) (x4)
  replace m4 := Lv.put m4 QB (b4) (A4) (q4.length) (c4) (x4)
  replace PB := Blk.putO PB (g := (w.heap.size + 1)) (by omega) (.bool (b4)) (.slice (A4) (q4.length) (c4)) (.int .i64 (x4))
  replace DB := Blk.putO DB (g := (w.heap.size + 1)) (by omega) (.bool (b4)) (.slice (A4) (q4.length) (c4)) (.int .i64 (x4))
  replace QB := Dbx.put QB (b4) (A4) (q4.length) (c4) (x4)
  clear DB_0 DB_1 DB_2 DB_f0 DB_f1 DB_f2
  have DB_0 := Blk.cell DB 0 rfl
  have DB_1 := Blk.cell DB 1 rfl
  have DB_2 := Blk.cell DB 2 rfl
  have DB_f0 := Blk.free DB 0
  have DB_f1 := Blk.free DB 1
  have DB_f2 := Blk.free DB 2
  go_wp2_with fail
  refine bodyPost_ret (v := .tuple #[dyV false none 0 0 0, .int .i64 2]) (by simp [results, Tryz.results32, go_sem, DB_0, DB_1, DB_2]) rfl ?_
  exact ⟨false, [], none, 0, 0, rfl, Dn.zero, lv_nil _, by go_grown⟩


theorem dboth_any (h : Lv w A n c l) (hn : n ≤ 4096) (h2 : Lv w A2 n2 c2 l2) (hn2 : n2 ≤ 4096) (hT : Tab w) (ho : may2 x x2 = false) (fv : Value) :
    Calls Tryz.prog 32 #[dyV b A n c x, dyV b2 A2 n2 c2 x2, fv] w (DyK zeroN 2 w) := by
  unfold may2 at ho
  cases h0 : okE x <;> cases h1 : okE x2
  · exact both_nn h hn h2 hn2 hT h0 h1 fv
  · exact both_ng h hn h2 hn2 hT h0 h1 fv
  · exact both_gn h hn h2 hn2 hT h0 h1 fv
  · rw [h0, h1] at ho; cases ho
set_option maxRecDepth 100000 in
set_option maxHeartbeats 4000000 in
theorem dAdd_yes (h : Lv w A n c l) (hn : n ≤ 4096) (h2 : Lv w A2 n2 c2 l2) (hn2 : n2 ≤ 4096) (hT : Tab w) (ho : okE x = true) (ho2 : okE x2 = true) (hN : farN (nfl b (val 18446744073709551616 l) x) (nfl b2 (val 18446744073709551616 l2) x2) = true ∨ Near (nfl b (val 18446744073709551616 l) x) (nfl b2 (val 18446744073709551616 l2) x2)) :
    Calls Tryz.prog 11 #[dyV b A n c x, dyV b2 A2 n2 c2 x2] w (DyK (addR (nfl b (val 18446744073709551616 l) x) (nfl b2 (val 18446744073709551616 l2) x2)).1 (addR (nfl b (val 18446744073709551616 l) x) (nfl b2 (val 18446744073709551616 l2) x2)).2 w) := by
  have PB := Blk.new w [.bool b, .slice A n c, .int .i64 x] 31
  have QB := Blk.new (w.alloc (.cells #[.bool b, .slice A n c, .int .i64 x] 31)) [.bool b2, .slice A2 n2 c2, .int .i64 x2] 31
  simp only [World.size_alloc] at QB
  replace PB := Blk.alloc PB (.cells #[.bool b2, .slice A2 n2 c2, .int .i64 x2] 31)
  have DB := Blk.new ((w.alloc (.cells #[.bool b, .slice A n c, .int .i64 x] 31)).alloc (.cells #[.bool b2, .slice A2 n2 c2, .int .i64 x2] 31)) [.bool false, .slice none 0 0, .int .i64 0] 31
  simp only [World.size_alloc] at DB
  replace PB := Blk.alloc PB (.cells #[.bool false, .slice none 0 0, .int .i64 0] 31)
  replace QB := Blk.alloc QB (.cells #[.bool false, .slice none 0 0, .int .i64 0] 31)
  have bw : Below w.heap.size w (((w.alloc (.cells #[.bool b, .slice A n c, .int .i64 x] 31)).alloc (.cells #[.bool b2, .slice A2 n2 c2, .int .i64 x2] 31)).alloc (.cells #[.bool false, .slice none 0 0, .int .i64 0] 31)) := by go_grown
  have PB_0 := Blk.cell PB 0 rfl
  have PB_1 := Blk.cell PB 1 rfl
  have PB_2 := Blk.cell PB 2 rfl
  have PB_f0 := Blk.free PB 0
  have PB_f1 := Blk.free PB 1
  have PB_f2 := Blk.free PB 2
  have QB_0 := Blk.cell QB 0 rfl
  have QB_1 := Blk.cell QB 1 rfl
  have QB_2 := Blk.cell QB 2 rfl
  have QB_f0 := Blk.free QB 0
  have QB_f1 := Blk.free QB 1
  have QB_f2 := Blk.free QB 2
  have DB_0 := Blk.cell DB 0 rfl
  have DB_1 := Blk.cell DB 1 rfl
  have DB_2 := Blk.cell DB 2 rfl
  have DB_f0 := Blk.free DB 0
  have DB_f1 := Blk.free DB 1
  have DB_f2 := Blk.free DB 2
  go_enter Tryz.func11, Tryz.ntmps11
  go_wp2_with fail
  with_reducible refine (both_add (b := b) (b2 := b2) (x := x) (x2 := x2) (h.on (by go_grown)) hn (h2.on (by go_grown)) hn2 (hT.onD (by go_grown)) ho ho2 hN).mono ?_
  rintro e w1 ⟨b3, q3, A3, c3, x3, rfl, hd3, m3, hb⟩
  clear PB_0 PB_1 PB_2 PB_f0 PB_f1 PB_f2
  clear QB_0 QB_1 QB_2 QB_f0 QB_f1 QB_f2
  clear DB_0 DB_1 DB_2 DB_f0 DB_f1 DB_f2
  have hs1 := hb.size
  try simp only [World.size_alloc, World.size_setCell] at hs1
  replace bw : Below w.heap.size w w1 := dy_end (by go_grown) hb
  replace PB := Blk.on PB hb
  replace QB := Blk.on QB hb
  replace DB := Blk.on DB hb
  clear hb
  have PB_0 := Blk.cell PB 0 rfl
  have PB_1 := Blk.cell PB 1 rfl
  have PB_2 := Blk.cell PB 2 rfl
  have PB_f0 := Blk.free PB 0
  have PB_f1 := Blk.free PB 1
  have PB_f2 := Blk.free PB 2
  have QB_0 := Blk.cell QB 0 rfl
  have QB_1 := Blk.cell QB 1 rfl
  have QB_2 := Blk.cell QB 2 rfl
  have QB_f0 := Blk.free QB 0
  have QB_f1 := Blk.free QB 1
  have QB_f2 := Blk.free QB 2
  have DB_0 := Blk.cell DB 0 rfl
  have DB_1 := Blk.cell DB 1 rfl
  have DB_2 := Blk.cell DB 2 rfl
  have DB_f0 := Blk.free DB 0
  have DB_f1 := Blk.free DB 1
  have DB_f2 := Blk.free DB 2
  go_wp2_with fail
  refine bodyPost_ret (v := .tuple #[dyV b3 A3 q3.length c3 x3, .int .i64 (addR (nfl b (val 18446744073709551616 l) x) (nfl b2 (val 18446744073709551616 l2) x2)).2]) (by simp [results, Tryz.results11, go_sem, DB_0, DB_1, DB_2]) rfl ?_
  exact ⟨b3, q3, A3, c3, x3, rfl, hd3, m3.put DB _ _ _ _ _, by go_grown⟩

set_option maxRecDepth 100000 in
set_option maxHeartbeats 4000000 in
theorem dAdd_no (h : Lv w A n c l) (hn : n ≤ 4096) (h2 : Lv w A2 n2 c2 l2) (hn2 : n2 ≤ 4096) (hT : Tab w) (ho : may2 x x2 = false) :
    Calls Tryz.prog 11 #[dyV b A n c x, dyV b2 A2 n2 c2 x2] w (DyK zeroN 2 w) := by
  have PB := Blk.new w [.bool b, .slice A n c, .int .i64 x] 31
  have QB := Blk.new (w.alloc (.cells #[.bool b, .slice A n c, .int .i64 x] 31)) [.bool b2, .slice A2 n2 c2, .int .i64 x2] 31
  simp only [World.size_alloc] at QB
  replace PB := Blk.alloc PB (.cells #[.bool b2, .slice A2 n2 c2, .int .i64 x2] 31)
  have DB := Blk.new ((w.alloc (.cells #[.bool b, .slice A n c, .int .i64 x] 31)).alloc (.cells #[.bool b2, .slice A2 n2 c2, .int .i64 x2] 31)) [.bool false, .slice none 0 0, .int .i64 0] 31
  simp only [World.size_alloc] at DB
  replace PB := Blk.alloc PB (.cells #[.bool false, .slice none 0 0, .int .i64 0] 31)
  replace QB := Blk.alloc QB (.cells #[.bool false, .slice none 0 0, .int .i64 0] 31)
  have bw : Below w.heap.size w (((w.alloc (.cells #[.bool b, .slice A n c, .int .i64 x] 31)).alloc (.cells #[.bool b2, .slice A2 n2 c2, .int .i64 x2] 31)).alloc (.cells #[.bool false, .slice none 0 0, .int .i64 0] 31)) := by go_grown
  have PB_0 := Blk.cell PB 0 rfl
  have PB_1 := Blk.cell PB 1 rfl
  have PB_2 := Blk.cell PB 2 rfl
  have PB_f0 := Blk.free PB 0
  have PB_f1 := Blk.free PB 1
  have PB_f2 := Blk.free PB 2
  have QB_0 := Blk.cell QB 0 rfl
  have QB_1 := Blk.cell QB 1 rfl
  have QB_2 := Blk.cell QB 2 rfl
  have QB_f0 := Blk.free QB 0
  have QB_f1 := Blk.free QB 1
  have QB_f2 := Blk.free QB 2
  have DB_0 := Blk.cell DB 0 rfl
  have DB_1 := Blk.cell DB 1 rfl
  have DB_2 := Blk.cell DB 2 rfl
  have DB_f0 := Blk.free DB 0
  have DB_f1 := Blk.free DB 1
  have DB_f2 := Blk.free DB 2
  go_enter Tryz.func11, Tryz.ntmps11
  go_wp2_with fail
  with_reducible refine (dboth_any (b := b) (b2 := b2) (x := x) (x2 := x2) (h.on (by go_grown)) hn (h2.on (by go_grown)) hn2 (hT.onD (by go_grown)) ho _).mono ?_
  rintro e w1 ⟨b3, q3, A3, c3, x3, rfl, hd3, m3, hb⟩
  clear PB_0 PB_1 PB_2 PB_f0 PB_f1 PB_f2
  clear QB_0 QB_1 QB_2 QB_f0 QB_f1 QB_f2
  clear DB_0 DB_1 DB_2 DB_f0 DB_f1 DB_f2
  have hs1 := hb.size
  try simp only [World.size_alloc, World.size_setCell] at hs1
  replace bw : Below w.heap.size w w1 := dy_end (by go_grown) hb
  replace PB := Blk.on PB hb
  replace QB := Blk.on QB hb
  replace DB := Blk.on DB hb
  clear hb
  have PB_0 := Blk.cell PB 0 rfl
  have PB_1 := Blk.cell PB 1 rfl
  have PB_2 := Blk.cell PB 2 rfl
  have PB_f0 := Blk.free PB 0
  have PB_f1 := Blk.free PB 1
  have PB_f2 := Blk.free PB 2
  have QB_0 := Blk.cell QB 0 rfl
  have QB_1 := Blk.cell QB 1 rfl
  have QB_2 := Blk.cell QB 2 rfl
  have QB_f0 := Blk.free QB 0
  have QB_f1 := Blk.free QB 1
  have QB_f2 := Blk.free QB 2
  have DB_0 := Blk.cell DB 0 rfl
  have DB_1 := Blk.cell DB 1 rfl
  have DB_2 := Blk.cell DB 2 rfl
  have DB_f0 := Blk.free DB 0
  have DB_f1 := Blk.free DB 1
  have DB_f2 := Blk.free DB 2
  go_wp2_with fail
  refine bodyPost_ret (v := .tuple #[dyV b3 A3 q3.length c3 x3, .int .i64 2]) (by simp [results, Tryz.results11, go_sem, DB_0, DB_1, DB_2]) rfl ?_
  exact ⟨b3, q3, A3, c3, x3, rfl, hd3, m3.put DB _ _ _ _ _, by go_grown⟩


theorem dAdd_any (h : Lv w A n c l) (hn : n ≤ 4096) (h2 : Lv w A2 n2 c2 l2) (hn2 : n2 ≤ 4096) (hT : Tab w) (hN : may2 x x2 = true → farN (nfl b (val 18446744073709551616 l) x) (nfl b2 (val 18446744073709551616 l2) x2) = true ∨ Near (nfl b (val 18446744073709551616 l) x) (nfl b2 (val 18446744073709551616 l2) x2)) :
    Calls Tryz.prog 11 #[dyV b A n c x, dyV b2 A2 n2 c2 x2] w (DyK (addQ x x2 (nfl b (val 18446744073709551616 l) x) (nfl b2 (val 18446744073709551616 l2) x2)).1 (addQ x x2 (nfl b (val 18446744073709551616 l) x) (nfl b2 (val 18446744073709551616 l2) x2)).2 w) := by
  by_cases ho : may2 x x2 = true
  · have e : addQ x x2 (nfl b (val 18446744073709551616 l) x) (nfl b2 (val 18446744073709551616 l2) x2) = addR (nfl b (val 18446744073709551616 l) x) (nfl b2 (val 18446744073709551616 l2) x2) := by unfold addQ; rw [if_pos ho]; try rfl
    rw [e]
    have ho' := ho
    unfold may2 at ho'
    rw [Bool.and_eq_true] at ho'
    exact dAdd_yes h hn h2 hn2 hT ho'.1 ho'.2 (hN ho)
  · have e : addQ x x2 (nfl b (val 18446744073709551616 l) x) (nfl b2 (val 18446744073709551616 l2) x2) = (zeroN, 2) := by unfold addQ; rw [if_neg ho]
    rw [e]
    exact dAdd_no h hn h2 hn2 hT (by simpa using ho)

set_option maxRecDepth 100000 in
set_option maxHeartbeats 4000000 in
theorem dSub_yes (h : Lv w A n c l) (hn : n ≤ 4096) (h2 : Lv w A2 n2 c2 l2) (hn2 : n2 ≤ 4096) (hT : Tab w) (ho : okE x = true) (ho2 : okE x2 = true) (hN : farN (nfl b (val 18446744073709551616 l) x) (negN (nfl b2 (val 18446744073709551616 l2) x2)) = true ∨ Near (nfl b (val 18446744073709551616 l) x) (negN (nfl b2 (val 18446744073709551616 l2) x2))) :
    Calls Tryz.prog 12 #[dyV b A n c x, dyV b2 A2 n2 c2 x2] w (DyK (addR (nfl b (val 18446744073709551616 l) x) (negN (nfl b2 (val 18446744073709551616 l2) x2))).1 (addR (nfl b (val 18446744073709551616 l) x) (negN (nfl b2 (val 18446744073709551616 l2) x2))).2 w) := by
  have PB := Blk.new w [.bool b, .slice A n c, .int .i64 x] 31
  have QB := Blk.new (w.alloc (.cells #[.bool b, .slice A n c, .int .i64 x] 31)) [.bool b2, .slice A2 n2 c2, .int .i64 x2] 31
  simp only [World.size_alloc] at QB
  replace PB := Blk.alloc PB (.cells #[.bool b2, .slice A2 n2 c2, .int .i64 x2] 31)
  have DB := Blk.new ((w.alloc (.cells #[.bool b, .slice A n c, .int .i64 x] 31)).alloc (.cells #[.bool b2, .slice A2 n2 c2, .int .i64 x2] 31)) [.bool false, .slice none 0 0, .int .i64 0] 31
  simp only [World.size_alloc] at DB
  replace PB := Blk.alloc PB (.cells #[.bool false, .slice none 0 0, .int .i64 0] 31)
  replace QB := Blk.alloc QB (.cells #[.bool false, .slice none 0 0, .int .i64 0] 31)
  have bw : Below w.heap.size w (((w.alloc (.cells #[.bool b, .slice A n c, .int .i64 x] 31)).alloc (.cells #[.bool b2, .slice A2 n2 c2, .int .i64 x2] 31)).alloc (.cells #[.bool false, .slice none 0 0, .int .i64 0] 31)) := by go_grown
  have PB_0 := Blk.cell PB 0 rfl
  have PB_1 := Blk.cell PB 1 rfl
  have PB_2 := Blk.cell PB 2 rfl
  have PB_f0 := Blk.free PB 0
  have PB_f1 := Blk.free PB 1
  have PB_f2 := Blk.free PB 2
  have QB_0 := Blk.cell QB 0 rfl
  have QB_1 := Blk.cell QB 1 rfl
  have QB_2 := Blk.cell QB 2 rfl
  have QB_f0 := Blk.free QB 0
  have QB_f1 := Blk.free QB 1
  have QB_f2 := Blk.free QB 2
  have DB_0 := Blk.cell DB 0 rfl
  have DB_1 := Blk.cell DB 1 rfl
  have DB_2 := Blk.cell DB 2 rfl
  have DB_f0 := Blk.free DB 0
  have DB_f1 := Blk.free DB 1
  have DB_f2 := Blk.free DB 2
  go_enter Tryz.func12, Tryz.ntmps12
  go_wp2_with fail
  with_reducible refine (both_sub (b := b) (b2 := b2) (x := x) (x2 := x2) (h.on (by go_grown)) hn (h2.on (by go_grown)) hn2 (hT.onD (by go_grown)) ho ho2 hN).mono ?_
  rintro e w1 ⟨b3, q3, A3, c3, x3, rfl, hd3, m3, hb⟩
  clear PB_0 PB_1 PB_2 PB_f0 PB_f1 PB_f2
  clear QB_0 QB_1 QB_2 QB_f0 QB_f1 QB_f2
  clear DB_0 DB_1 DB_2 DB_f0 DB_f1 DB_f2
  have hs1 := hb.size
  try simp only [World.size_alloc, World.size_setCell] at hs1
  replace bw : Below w.heap.size w w1 := dy_end (by go_grown) hb
  replace PB := Blk.on PB hb
  replace QB := Blk.on QB hb
  replace DB := Blk.on DB hb
  clear hb
  have PB_0 := Blk.cell PB 0 rfl
  have PB_1 := Blk.cell PB 1 rfl
  have PB_2 := Blk.cell PB 2 rfl
  have PB_f0 := Blk.free PB 0
  have PB_f1 := Blk.free PB 1
  have PB_f2 := Blk.free PB 2
  have QB_0 := Blk.cell QB 0 rfl
  have QB_1 := Blk.cell QB 1 rfl
  have QB_2 := Blk.cell QB 2 rfl
  have QB_f0 := Blk.free QB 0
  have QB_f1 := Blk.free QB 1
  have QB_f2 := Blk.free QB 2
  have DB_0 := Blk.cell DB 0 rfl
  have DB_1 := Blk.cell DB 1 rfl
  have DB_2 := Blk.cell DB 2 rfl
  have DB_f0 := Blk.free DB 0
  have DB_f1 := Blk.free DB 1
  have DB_f2 := Blk.free DB 2
  go_wp2_with fail
  refine bodyPost_ret (v := .tuple #[dyV b3 A3 q3.length c3 x3, .int .i64 (addR (nfl b (val 18446744073709551616 l) x) (negN (nfl b2 (val 18446744073709551616 l2) x2))).2]) (by simp [results, Tryz.results12, go_sem, DB_0, DB_1, DB_2]) rfl ?_
  exact ⟨b3, q3, A3, c3, x3, rfl, hd3, m3.put DB _ _ _ _ _, by go_grown⟩

set_option maxRecDepth 100000 in
set_option maxHeartbeats 4000000 in
theorem dSub_no (h : Lv w A n c l) (hn : n ≤ 4096) (h2 : Lv w A2 n2 c2 l2) (hn2 : n2 ≤ 4096) (hT : Tab w) (ho : may2 x x2 = false) :
    Calls Tryz.prog 12 #[dyV b A n c x, dyV b2 A2 n2 c2 x2] w (DyK zeroN 2 w) := by
  have PB := Blk.new w [.bool b, .slice A n c, .int .i64 x] 31
  have QB := Blk.new (w.alloc (.cells #[.bool b, .slice A n c, .int .i64 x] 31)) [.bool b2, .slice A2 n2 c2, .int .i64 x2] 31
  simp only [World.size_alloc] at QB
  replace PB := Blk.alloc PB (.cells #[.bool b2, .slice A2 n2 c2, .int .i64 x2] 31)
  have DB := Blk.new ((w.alloc (.cells #[.bool b, .slice A n c, .int .i64 x] 31)).alloc (.cells #[.bool b2, .slice A2 n2 c2, .int .i64 x2] 31)) [.bool false, .slice none 0 0, .int .i64 0] 31
  simp only [World.size_alloc] at DB
  replace PB := Blk.alloc PB (.cells #[.bool false, .slice none 0 0, .int .i64 0] 31)
  replace QB := Blk.alloc QB (.cells #[.bool false, .slice none 0 0, .int .i64 0] 31)
  have bw : Below w.heap.size w (((w.alloc (.cells #[.bool b, .slice A n c, .int .i64 x] 31)).alloc (.cells #[.bool b2, .slice A2 n2 c2, .int .i64 x2] 31)).alloc (.cells #[.bool false, .slice none 0 0, .int .i64 0] 31)) := by go_grown
  have PB_0 := Blk.cell PB 0 rfl
  have PB_1 := Blk.cell PB 1 rfl
  have PB_2 := Blk.cell PB 2 rfl
  have PB_f0 := Blk.free PB 0
  have PB_f1 := Blk.free PB 1
  have PB_f2 := Blk.free PB 2
  have QB_0 := Blk.cell QB 0 rfl
  have QB_1 := Blk.cell QB 1 rfl
  have QB_2 := Blk.cell QB 2 rfl
  have QB_f0 := Blk.free QB 0
  have QB_f1 := Blk.free QB 1
  have QB_f2 := Blk.free QB 2
  have DB_0 := Blk.cell DB 0 rfl
  have DB_1 := Blk.cell DB 1 rfl
  have DB_2 := Blk.cell DB 2 rfl
  have DB_f0 := Blk.free DB 0
  have DB_f1 := Blk.free DB 1
  have DB_f2 := Blk.free DB 2
  go_enter Tryz.func12, Tryz.ntmps12
  go_wp2_with fail
  with_reducible refine (dboth_any (b := b) (b2 := b2) (x := x) (x2 := x2) (h.on (by go_grown)) hn (h2.on (by go_grown)) hn2 (hT.onD (by go_grown)) ho _).mono ?_
  rintro e w1 ⟨b3, q3, A3, c3, x3, rfl, hd3, m3, hb⟩
  clear PB_0 PB_1 PB_2 PB_f0 PB_f1 PB_f2
  clear QB_0 QB_1 QB_2 QB_f0 QB_f1 QB_f2
  clear DB_0 DB_1 DB_2 DB_f0 DB_f1 DB_f2
  have hs1 := hb.size
  try simp only [World.size_alloc, World.size_setCell] at hs1
  replace bw : Below w.heap.size w w1 := dy_end (by go_grown) hb
  replace PB := Blk.on PB hb
  replace QB := Blk.on QB hb
  replace DB := Blk.on DB hb
  clear hb
  have PB_0 := Blk.cell PB 0 rfl
  have PB_1 := Blk.cell PB 1 rfl
  have PB_2 := Blk.cell PB 2 rfl
  have PB_f0 := Blk.free PB 0
  have PB_f1 := Blk.free PB 1
  have PB_f2 := Blk.free PB 2
  have QB_0 := Blk.cell QB 0 rfl
  have QB_1 := Blk.cell QB 1 rfl
  have QB_2 := Blk.cell QB 2 rfl
  have QB_f0 := Blk.free QB 0
  have QB_f1 := Blk.free QB 1
  have QB_f2 := Blk.free QB 2
  have DB_0 := Blk.cell DB 0 rfl
  have DB_1 := Blk.cell DB 1 rfl
  have DB_2 := Blk.cell DB 2 rfl
  have DB_f0 := Blk.free DB 0
  have DB_f1 := Blk.free DB 1
  have DB_f2 := Blk.free DB 2
  go_wp2_with fail
  refine bodyPost_ret (v := .tuple #[dyV b3 A3 q3.length c3 x3, .int .i64 2]) (by simp [results, Tryz.results12, go_sem, DB_0, DB_1, DB_2]) rfl ?_
  exact ⟨b3, q3, A3, c3, x3, rfl, hd3, m3.put DB _ _ _ _ _, by go_grown⟩


theorem dSub_any (h : Lv w A n c l) (hn : n ≤ 4096) (h2 : Lv w A2 n2 c2 l2) (hn2 : n2 ≤ 4096) (hT : Tab w) (hN : may2 x x2 = true → farN (nfl b (val 18446744073709551616 l) x) (negN (nfl b2 (val 18446744073709551616 l2) x2)) = true ∨ Near (nfl b (val 18446744073709551616 l) x) (negN (nfl b2 (val 18446744073709551616 l2) x2))) :
    Calls Tryz.prog 12 #[dyV b A n c x, dyV b2 A2 n2 c2 x2] w (DyK (addQ x x2 (nfl b (val 18446744073709551616 l) x) (negN (nfl b2 (val 18446744073709551616 l2) x2))).1 (addQ x x2 (nfl b (val 18446744073709551616 l) x) (negN (nfl b2 (val 18446744073709551616 l2) x2))).2 w) := by
  by_cases ho : may2 x x2 = true
  · have e : addQ x x2 (nfl b (val 18446744073709551616 l) x) (negN (nfl b2 (val 18446744073709551616 l2) x2)) = addR (nfl b (val 18446744073709551616 l) x) (negN (nfl b2 (val 18446744073709551616 l2) x2)) := by unfold addQ; rw [if_pos ho]; try rfl
    rw [e]
    have ho' := ho
    unfold may2 at ho'
    rw [Bool.and_eq_true] at ho'
    exact dSub_yes h hn h2 hn2 hT ho'.1 ho'.2 (hN ho)
  · have e : addQ x x2 (nfl b (val 18446744073709551616 l) x) (negN (nfl b2 (val 18446744073709551616 l2) x2)) = (zeroN, 2) := by unfold addQ; rw [if_neg ho]
    rw [e]
    exact dSub_no h hn h2 hn2 hT (by simpa using ho)

set_option maxRecDepth 100000 in
set_option maxHeartbeats 4000000 in
theorem dMul_yes (h : Lv w A n c l) (hn : n ≤ 4096) (h2 : Lv w A2 n2 c2 l2) (hn2 : n2 ≤ 4096) (hT : Tab w) (ho : okE x = true) (ho2 : okE x2 = true) (hv : val 18446744073709551616 l * val 18446744073709551616 l2 < 18446744073709551616 ^ 4096) :
    Calls Tryz.prog 10 #[dyV b A n c x, dyV b2 A2 n2 c2 x2] w (DyK (doneR (mulN (nfl b (val 18446744073709551616 l) x) (nfl b2 (val 18446744073709551616 l2) x2))).1 (doneR (mulN (nfl b (val 18446744073709551616 l) x) (nfl b2 (val 18446744073709551616 l2) x2))).2 w) := by
  have PB := Blk.new w [.bool b, .slice A n c, .int .i64 x] 31
  have QB := Blk.new (w.alloc (.cells #[.bool b, .slice A n c, .int .i64 x] 31)) [.bool b2, .slice A2 n2 c2, .int .i64 x2] 31
  simp only [World.size_alloc] at QB
  replace PB := Blk.alloc PB (.cells #[.bool b2, .slice A2 n2 c2, .int .i64 x2] 31)
  have DB := Blk.new ((w.alloc (.cells #[.bool b, .slice A n c, .int .i64 x] 31)).alloc (.cells #[.bool b2, .slice A2 n2 c2, .int .i64 x2] 31)) [.bool false, .slice none 0 0, .int .i64 0] 31
  simp only [World.size_alloc] at DB
  replace PB := Blk.alloc PB (.cells #[.bool false, .slice none 0 0, .int .i64 0] 31)
  replace QB := Blk.alloc QB (.cells #[.bool false, .slice none 0 0, .int .i64 0] 31)
  have bw : Below w.heap.size w (((w.alloc (.cells #[.bool b, .slice A n c, .int .i64 x] 31)).alloc (.cells #[.bool b2, .slice A2 n2 c2, .int .i64 x2] 31)).alloc (.cells #[.bool false, .slice none 0 0, .int .i64 0] 31)) := by go_grown
  have PB_0 := Blk.cell PB 0 rfl
  have PB_1 := Blk.cell PB 1 rfl
  have PB_2 := Blk.cell PB 2 rfl
  have PB_f0 := Blk.free PB 0
  have PB_f1 := Blk.free PB 1
  have PB_f2 := Blk.free PB 2
  have QB_0 := Blk.cell QB 0 rfl
  have QB_1 := Blk.cell QB 1 rfl
  have QB_2 := Blk.cell QB 2 rfl
  have QB_f0 := Blk.free QB 0
  have QB_f1 := Blk.free QB 1
  have QB_f2 := Blk.free QB 2
  have DB_0 := Blk.cell DB 0 rfl
  have DB_1 := Blk.cell DB 1 rfl
  have DB_2 := Blk.cell DB 2 rfl
  have DB_f0 := Blk.free DB 0
  have DB_f1 := Blk.free DB 1
  have DB_f2 := Blk.free DB 2
  go_enter Tryz.func10, Tryz.ntmps10
  go_wp2_with fail
  with_reducible refine (both_mul (b := b) (b2 := b2) (x := x) (x2 := x2) (h.on (by go_grown)) hn (h2.on (by go_grown)) hn2 (hT.onD (by go_grown)) ho ho2 hv).mono ?_
  rintro e w1 ⟨b3, q3, A3, c3, x3, rfl, hd3, m3, hb⟩
  clear PB_0 PB_1 PB_2 PB_f0 PB_f1 PB_f2
  clear QB_0 QB_1 QB_2 QB_f0 QB_f1 QB_f2
  clear DB_0 DB_1 DB_2 DB_f0 DB_f1 DB_f2
  have hs1 := hb.size
  try simp only [World.size_alloc, World.size_setCell] at hs1
  replace bw : Below w.heap.size w w1 := dy_end (by go_grown) hb
  replace PB := Blk.on PB hb
  replace QB := Blk.on QB hb
  replace DB := Blk.on DB hb
  clear hb
  have PB_0 := Blk.cell PB 0 rfl
  have PB_1 := Blk.cell PB 1 rfl
  have PB_2 := Blk.cell PB 2 rfl
  have PB_f0 := Blk.free PB 0
  have PB_f1 := Blk.free PB 1
  have PB_f2 := Blk.free PB 2
  have QB_0 := Blk.cell QB 0 rfl
  have QB_1 := Blk.cell QB 1 rfl
  have QB_2 := Blk.cell QB 2 rfl
  have QB_f0 := Blk.free QB 0
  have QB_f1 := Blk.free QB 1
  have QB_f2 := Blk.free QB 2
  have DB_0 := Blk.cell DB 0 rfl
  have DB_1 := Blk.cell DB 1 rfl
  have DB_2 := Blk.cell DB 2 rfl
  have DB_f0 := Blk.free DB 0
  have DB_f1 := Blk.free DB 1
  have DB_f2 := Blk.free DB 2
  go_wp2_with fail
  refine bodyPost_ret (v := .tuple #[dyV b3 A3 q3.length c3 x3, .int .i64 (doneR (mulN (nfl b (val 18446744073709551616 l) x) (nfl b2 (val 18446744073709551616 l2) x2))).2]) (by simp [results, Tryz.results10, go_sem, DB_0, DB_1, DB_2]) rfl ?_
  exact ⟨b3, q3, A3, c3, x3, rfl, hd3, m3.put DB _ _ _ _ _, by go_grown⟩

set_option maxRecDepth 100000 in
set_option maxHeartbeats 4000000 in
theorem dMul_no (h : Lv w A n c l) (hn : n ≤ 4096) (h2 : Lv w A2 n2 c2 l2) (hn2 : n2 ≤ 4096) (hT : Tab w) (ho : may2 x x2 = false) :
    Calls Tryz.prog 10 #[dyV b A n c x, dyV b2 A2 n2 c2 x2] w (DyK zeroN 2 w) := by
  have PB := Blk.new w [.bool b, .slice A n c, .int .i64 x] 31
  have QB := Blk.new (w.alloc (.cells #[.bool b, .slice A n c, .int .i64 x] 31)) [.bool b2, .slice A2 n2 c2, .int .i64 x2] 31
  simp only [World.size_alloc] at QB
  replace PB := Blk.alloc PB (.cells #[.bool b2, .slice A2 n2 c2, .int .i64 x2] 31)
  have DB := Blk.new ((w.alloc (.cells #[.bool b, .slice A n c, .int .i64 x] 31)).alloc (.cells #[.bool b2, .slice A2 n2 c2, .int .i64 x2] 31)) [.bool false, .slice none 0 0, .int .i64 0] 31
  simp only [World.size_alloc] at DB
  replace PB := Blk.alloc PB (.cells #[.bool false, .slice none 0 0, .int .i64 0] 31)
  replace QB := Blk.alloc QB (.cells #[.bool false, .slice none 0 0, .int .i64 0] 31)
  have bw : Below w.heap.size w (((w.alloc (.cells #[.bool b, .slice A n c, .int .i64 x] 31)).alloc (.cells #[.bool b2, .slice A2 n2 c2, .int .i64 x2] 31)).alloc (.cells #[.bool false, .slice none 0 0, .int .i64 0] 31)) := by go_grown
  have PB_0 := Blk.cell PB 0 rfl
  have PB_1 := Blk.cell PB 1 rfl
  have PB_2 := Blk.cell PB 2 rfl
  have PB_f0 := Blk.free PB 0
  have PB_f1 := Blk.free PB 1
  have PB_f2 := Blk.free PB 2
  have QB_0 := Blk.cell QB 0 rfl
  have QB_1 := Blk.cell QB 1 rfl
  have QB_2 := Blk.cell QB 2 rfl
  have QB_f0 := Blk.free QB 0
  have QB_f1 := Blk.free QB 1
  have QB_f2 := Blk.free QB 2
  have DB_0 := Blk.cell DB 0 rfl
  have DB_1 := Blk.cell DB 1 rfl
  have DB_2 := Blk.cell DB 2 rfl
  have DB_f0 := Blk.free DB 0
  have DB_f1 := Blk.free DB 1
  have DB_f2 := Blk.free DB 2
  go_enter Tryz.func10, Tryz.ntmps10
  go_wp2_with fail
  with_reducible refine (dboth_any (b := b) (b2 := b2) (x := x) (x2 := x2) (h.on (by go_grown)) hn (h2.on (by go_grown)) hn2 (hT.onD (by go_grown)) ho _).mono ?_
  rintro e w1 ⟨b3, q3, A3, c3, x3, rfl, hd3, m3, hb⟩
  clear PB_0 PB_1 PB_2 PB_f0 PB_f1 PB_f2
  clear QB_0 QB_1 QB_2 QB_f0 QB_f1 QB_f2
  clear DB_0 DB_1 DB_2 DB_f0 DB_f1 DB_f2
  have hs1 := hb.size
  try simp only [World.size_alloc, World.size_setCell] at hs1
  replace bw : Below w.heap.size w w1 := dy_end (by go_grown) hb
  replace PB := Blk.on PB hb
  replace QB := Blk.on QB hb
  replace DB := Blk.on DB hb
  clear hb
  have PB_0 := Blk.cell PB 0 rfl
  have PB_1 := Blk.cell PB 1 rfl
  have PB_2 := Blk.cell PB 2 rfl
  have PB_f0 := Blk.free PB 0
  have PB_f1 := Blk.free PB 1
  have PB_f2 := Blk.free PB 2
  have QB_0 := Blk.cell QB 0 rfl
  have QB_1 := Blk.cell QB 1 rfl
  have QB_2 := Blk.cell QB 2 rfl
  have QB_f0 := Blk.free QB 0
  have QB_f1 := Blk.free QB 1
  have QB_f2 := Blk.free QB 2
  have DB_0 := Blk.cell DB 0 rfl
  have DB_1 := Blk.cell DB 1 rfl
  have DB_2 := Blk.cell DB 2 rfl
  have DB_f0 := Blk.free DB 0
  have DB_f1 := Blk.free DB 1
  have DB_f2 := Blk.free DB 2
  go_wp2_with fail
  refine bodyPost_ret (v := .tuple #[dyV b3 A3 q3.length c3 x3, .int .i64 2]) (by simp [results, Tryz.results10, go_sem, DB_0, DB_1, DB_2]) rfl ?_
  exact ⟨b3, q3, A3, c3, x3, rfl, hd3, m3.put DB _ _ _ _ _, by go_grown⟩


theorem dMul_any (h : Lv w A n c l) (hn : n ≤ 4096) (h2 : Lv w A2 n2 c2 l2) (hn2 : n2 ≤ 4096) (hT : Tab w) (hN : may2 x x2 = true → val 18446744073709551616 l * val 18446744073709551616 l2 < 18446744073709551616 ^ 4096) :
    Calls Tryz.prog 10 #[dyV b A n c x, dyV b2 A2 n2 c2 x2] w (DyK (mulQ x x2 (nfl b (val 18446744073709551616 l) x) (nfl b2 (val 18446744073709551616 l2) x2)).1 (mulQ x x2 (nfl b (val 18446744073709551616 l) x) (nfl b2 (val 18446744073709551616 l2) x2)).2 w) := by
  by_cases ho : may2 x x2 = true
  · have e : mulQ x x2 (nfl b (val 18446744073709551616 l) x) (nfl b2 (val 18446744073709551616 l2) x2) = doneR (mulN (nfl b (val 18446744073709551616 l) x) (nfl b2 (val 18446744073709551616 l2) x2)) := by unfold mulQ; rw [if_pos ho]; try rfl
    rw [e]
    have ho' := ho
    unfold may2 at ho'
    rw [Bool.and_eq_true] at ho'
    exact dMul_yes h hn h2 hn2 hT ho'.1 ho'.2 (hN ho)
  · have e : mulQ x x2 (nfl b (val 18446744073709551616 l) x) (nfl b2 (val 18446744073709551616 l2) x2) = (zeroN, 2) := by unfold mulQ; rw [if_neg ho]
    rw [e]
    exact dMul_no h hn h2 hn2 hT (by simpa using ho)

end
end Go.Proofs.YtmfikppnkjhmjaaGreatDoor
