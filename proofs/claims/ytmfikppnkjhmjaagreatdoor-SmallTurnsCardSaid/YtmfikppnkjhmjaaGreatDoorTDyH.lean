/-
  Layer 3, walks, part five: Norm, Neg, Abs, Shift, Sign. (Written by wip/tools/gen_dyh.py.)
-/
import Derived.Test.YtmfikppnkjhmjaaGreatDoorTDyG
namespace Go.Proofs.YtmfikppnkjhmjaaGreatDoor
open Go.RowKit
set_option linter.unusedVariables false
set_option linter.unusedSimpArgs false

section
variable {b : Bool} {A : Option Addr} {n c : Nat} {x : Int} {l : List Int} {w : World}
set_option maxRecDepth 100000 in
set_option maxHeartbeats 4000000 in
theorem handed_abs (h : Lv w A n c l) (hn : n ≤ 4096) (hT : Tab w) (ho : okE x = true) :
    Calls Tryz.prog 37 #[dyV b A n c x, .func (.func 38) #[] #[]] w (DyK (doneR (absN (nfl b (val 18446744073709551616 l) x))).1 (doneR (absN (nfl b (val 18446744073709551616 l) x))).2 w) := by
  have PB := Blk.new w [.bool b, .slice A n c, .int .i64 x] 31
  have DB := Blk.new (w.alloc (.cells #[.bool b, .slice A n c, .int .i64 x] 31)) [.bool false, .slice none 0 0, .int .i64 0] 31
  simp only [World.size_alloc] at DB
  replace PB := Blk.alloc PB (.cells #[.bool false, .slice none 0 0, .int .i64 0] 31)
  have bw : Below w.heap.size w ((w.alloc (.cells #[.bool b, .slice A n c, .int .i64 x] 31)).alloc (.cells #[.bool false, .slice none 0 0, .int .i64 0] 31)) := by go_grown
  have PB_0 := Blk.cell PB 0 rfl
  have PB_1 := Blk.cell PB 1 rfl
  have PB_2 := Blk.cell PB 2 rfl
  have PB_f0 := Blk.free PB 0
  have PB_f1 := Blk.free PB 1
  have PB_f2 := Blk.free PB 2
  have DB_0 := Blk.cell DB 0 rfl
  have DB_1 := Blk.cell DB 1 rfl
  have DB_2 := Blk.cell DB 2 rfl
  have DB_f0 := Blk.free DB 0
  have DB_f1 := Blk.free DB 1
  have DB_f2 := Blk.free DB 2
  go_enter Tryz.func37, Tryz.ntmps37
  go_wp2_with fail
  with_reducible refine (dyTaken_yes (b := b) (x := x) (h.on (by go_grown)) hn (hT.onD (by go_grown)) ho).mono ?_
  rintro e w1 ⟨b1, q1, A1, c1, x1, rfl, hd1, m1, hb⟩
  clear PB_0 PB_1 PB_2 PB_f0 PB_f1 PB_f2
  clear DB_0 DB_1 DB_2 DB_f0 DB_f1 DB_f2
  have hs1 := hb.size
  try simp only [World.size_alloc, World.size_setCell] at hs1
  replace bw : Below w.heap.size w w1 := dy_end (by go_grown) hb
  replace PB := Blk.on PB hb
  replace DB := Blk.on DB hb
  clear hb
  have PB_0 := Blk.cell PB 0 rfl
  have PB_1 := Blk.cell PB 1 rfl
  have PB_2 := Blk.cell PB 2 rfl
  have PB_f0 := Blk.free PB 0
  have PB_f1 := Blk.free PB 1
  have PB_f2 := Blk.free PB 2
  have DB_0 := Blk.cell DB 0 rfl
  have DB_1 := Blk.cell DB 1 rfl
  have DB_2 := Blk.cell DB 2 rfl
  have DB_f0 := Blk.free DB 0
  have DB_f1 := Blk.free DB 1
  have DB_f2 := Blk.free DB 2
  replace m1 := Lv.put m1 PB (b1) (A1) (q1.length) (c1) (x1)
  replace DB := Blk.putO DB (g := w.heap.size) (by omega) (.bool (b1)) (.slice (A1) (q1.length) (c1)) (.int .i64 (x1))
  replace PB := Dbx.put PB (b1) (A1) (q1.length) (c1) (x1)
  go_wp2_with fail
  with_reducible refine (absOne_dn hd1 m1).mono ?_
  rintro e w2 ⟨b2, q2, A2, c2, x2, rfl, hd2, m2, hb⟩
  clear PB_0 PB_1 PB_2 PB_f0 PB_f1 PB_f2
  clear DB_0 DB_1 DB_2 DB_f0 DB_f1 DB_f2
  have hs2 := hb.size
  try simp only [World.size_alloc, World.size_setCell] at hs2
  replace bw : Below w.heap.size w w2 := dy_end (by go_grown) hb
  replace m1 := Lv.on m1 hb
  replace PB := Blk.on PB hb
  replace DB := Blk.on DB hb
  clear hb
  have PB_0 := Blk.cell PB 0 rfl
  have PB_1 := Blk.cell PB 1 rfl
  have PB_2 := Blk.cell PB 2 rfl
  have PB_f0 := Blk.free PB 0
  have PB_f1 := Blk.free PB 1
  have PB_f2 := Blk.free PB 2
  have DB_0 := Blk.cell DB 0 rfl
  have DB_1 := Blk.cell DB 1 rfl
  have DB_2 := Blk.cell DB 2 rfl
  have DB_f0 := Blk.free DB 0
  have DB_f1 := Blk.free DB 1
  have DB_f2 := Blk.free DB 2
  go_wp2_with fail
  refine bodyPost_ret (v := .tuple #[dyV b2 A2 q2.length c2 x2, .int .i64 (doneR (absN (nfl b (val 18446744073709551616 l) x))).2]) (by simp [results, Tryz.results37, go_sem, DB_0, DB_1, DB_2]) rfl ?_
  exact ⟨b2, q2, A2, c2, x2, rfl, hd2, m2.put DB _ _ _ _ _, by go_grown⟩


/-- places behind the noughts -/
theorem nfl_place {v x : Int} {k : Nat} (b : Bool) (h0 : 0 ≤ v) (hv : v < 2 ^ k) : (nfl b v x).exp = 0 ∨ (x ≤ (nfl b v x).exp ∧ (nfl b v x).exp ≤ x + k) := by
  rcases (show v = 0 ∨ 0 < v by omega) with h | h
  · subst h; rw [nfl_zero]; exact .inl rfl
  · have h1 := nfl_in (b := b) (v := v) (e := x) (q := x + k) h0 (by omega) (by rw [show (x + (k : Int) - x).toNat = k by omega]; exact hv)
    have h2 : (nfl b v x).man ≠ 0 := fun e => by have := (nfl_man0 (b := b) (e := x) h0).1 e; omega
    exact .inr (h1.exp h2)

theorem kept {w W : World} {kg : Nat} {u : Value} (hkg : kg < w.heap.size) (hk : w.cell? ⟨kg, 0, none⟩ = some u) (hb : Below w.heap.size w W) : W.cell? ⟨kg, 0, none⟩ = some u := (hb.cell (p := ⟨kg, 0, none⟩) hkg).trans hk

set_option maxRecDepth 100000 in
set_option maxHeartbeats 4000000 in
theorem handed_no (h : Lv w A n c l) (hn : n ≤ 4096) (ho : okE x = false) (fv : Value) :
    Calls Tryz.prog 37 #[dyV b A n c x, fv] w (DyK zeroN 2 w) := by
  have PB := Blk.new w [.bool b, .slice A n c, .int .i64 x] 31
  have DB := Blk.new (w.alloc (.cells #[.bool b, .slice A n c, .int .i64 x] 31)) [.bool false, .slice none 0 0, .int .i64 0] 31
  simp only [World.size_alloc] at DB
  replace PB := Blk.alloc PB (.cells #[.bool false, .slice none 0 0, .int .i64 0] 31)
  have bw : Below w.heap.size w ((w.alloc (.cells #[.bool b, .slice A n c, .int .i64 x] 31)).alloc (.cells #[.bool false, .slice none 0 0, .int .i64 0] 31)) := by go_grown
  have PB_0 := Blk.cell PB 0 rfl
  have PB_1 := Blk.cell PB 1 rfl
  have PB_2 := Blk.cell PB 2 rfl
  have PB_f0 := Blk.free PB 0
  have PB_f1 := Blk.free PB 1
  have PB_f2 := Blk.free PB 2
  have DB_0 := Blk.cell DB 0 rfl
  have DB_1 := Blk.cell DB 1 rfl
  have DB_2 := Blk.cell DB 2 rfl
  have DB_f0 := Blk.free DB 0
  have DB_f1 := Blk.free DB 1
  have DB_f2 := Blk.free DB 2
  go_enter Tryz.func37, Tryz.ntmps37
  go_wp2_with fail
  with_reducible refine (dyTaken_no (b := b) (x := x) (h.on (by go_grown)) hn ho).mono ?_
  rintro e w1 ⟨b1, q1, A1, c1, x1, rfl, hd1, m1, hb⟩
  clear PB_0 PB_1 PB_2 PB_f0 PB_f1 PB_f2
  clear DB_0 DB_1 DB_2 DB_f0 DB_f1 DB_f2
  have hs1 := hb.size
  try simp only [World.size_alloc, World.size_setCell] at hs1
  replace bw : Below w.heap.size w w1 := dy_end (by go_grown) hb
  replace PB := Blk.on PB hb
  replace DB := Blk.on DB hb
  clear hb
  have PB_0 := Blk.cell PB 0 rfl
  have PB_1 := Blk.cell PB 1 rfl
  have PB_2 := Blk.cell PB 2 rfl
  have PB_f0 := Blk.free PB 0
  have PB_f1 := Blk.free PB 1
  have PB_f2 := Blk.free PB 2
  have DB_0 := Blk.cell DB 0 rfl
  have DB_1 := Blk.cell DB 1 rfl
  have DB_2 := Blk.cell DB 2 rfl
  have DB_f0 := Blk.free DB 0
  have DB_f1 := Blk.free DB 1
  have DB_f2 := Blk.free DB 2
  go_wp2_with fail
  obtain ⟨e1, e2, e3⟩ := Dn.uniq Dn.zero hd1 (Lim.nil _) m1.2.2
  refine bodyPost_ret (v := .tuple #[dyV false none 0 0 0, .int .i64 2]) (by simp [results, Tryz.results37, go_sem, DB_0, DB_1, DB_2]) rfl ?_
  exact ⟨false, [], none, 0, 0, rfl, Dn.zero, lv_nil _, by go_grown⟩

set_option maxRecDepth 100000 in
set_option maxHeartbeats 4000000 in
theorem dAbs_yes (h : Lv w A n c l) (hn : n ≤ 4096) (hT : Tab w) (ho : okE x = true) :
    Calls Tryz.prog 14 #[dyV b A n c x] w (DyK (doneR (absN (nfl b (val 18446744073709551616 l) x))).1 (doneR (absN (nfl b (val 18446744073709551616 l) x))).2 w) := by
  have PB := Blk.new w [.bool b, .slice A n c, .int .i64 x] 31
  have DB := Blk.new (w.alloc (.cells #[.bool b, .slice A n c, .int .i64 x] 31)) [.bool false, .slice none 0 0, .int .i64 0] 31
  simp only [World.size_alloc] at DB
  replace PB := Blk.alloc PB (.cells #[.bool false, .slice none 0 0, .int .i64 0] 31)
  have bw : Below w.heap.size w ((w.alloc (.cells #[.bool b, .slice A n c, .int .i64 x] 31)).alloc (.cells #[.bool false, .slice none 0 0, .int .i64 0] 31)) := by go_grown
  have PB_0 := Blk.cell PB 0 rfl
  have PB_1 := Blk.cell PB 1 rfl
  have PB_2 := Blk.cell PB 2 rfl
  have PB_f0 := Blk.free PB 0
  have PB_f1 := Blk.free PB 1
  have PB_f2 := Blk.free PB 2
  have DB_0 := Blk.cell DB 0 rfl
  have DB_1 := Blk.cell DB 1 rfl
  have DB_2 := Blk.cell DB 2 rfl
  have DB_f0 := Blk.free DB 0
  have DB_f1 := Blk.free DB 1
  have DB_f2 := Blk.free DB 2
  go_enter Tryz.func14, Tryz.ntmps14
  go_wp2_with fail
  with_reducible refine (handed_abs (b := b) (x := x) (h.on (by go_grown)) hn (hT.onD (by go_grown)) ho).mono ?_
  rintro e w1 ⟨b1, q1, A1, c1, x1, rfl, hd1, m1, hb⟩
  clear PB_0 PB_1 PB_2 PB_f0 PB_f1 PB_f2
  clear DB_0 DB_1 DB_2 DB_f0 DB_f1 DB_f2
  have hs1 := hb.size
  try simp only [World.size_alloc, World.size_setCell] at hs1
  replace bw : Below w.heap.size w w1 := dy_end (by go_grown) hb
  replace PB := Blk.on PB hb
  replace DB := Blk.on DB hb
  clear hb
  have PB_0 := Blk.cell PB 0 rfl
  have PB_1 := Blk.cell PB 1 rfl
  have PB_2 := Blk.cell PB 2 rfl
  have PB_f0 := Blk.free PB 0
  have PB_f1 := Blk.free PB 1
  have PB_f2 := Blk.free PB 2
  have DB_0 := Blk.cell DB 0 rfl
  have DB_1 := Blk.cell DB 1 rfl
  have DB_2 := Blk.cell DB 2 rfl
  have DB_f0 := Blk.free DB 0
  have DB_f1 := Blk.free DB 1
  have DB_f2 := Blk.free DB 2
  go_wp2_with fail
  refine bodyPost_ret (v := .tuple #[dyV b1 A1 q1.length c1 x1, .int .i64 (doneR (absN (nfl b (val 18446744073709551616 l) x))).2]) (by simp [results, Tryz.results14, go_sem, DB_0, DB_1, DB_2]) rfl ?_
  exact ⟨b1, q1, A1, c1, x1, rfl, hd1, m1.put DB _ _ _ _ _, by go_grown⟩

set_option maxRecDepth 100000 in
set_option maxHeartbeats 4000000 in
theorem dAbs_no (h : Lv w A n c l) (hn : n ≤ 4096) (ho : okE x = false) :
    Calls Tryz.prog 14 #[dyV b A n c x] w (DyK zeroN 2 w) := by
  have PB := Blk.new w [.bool b, .slice A n c, .int .i64 x] 31
  have DB := Blk.new (w.alloc (.cells #[.bool b, .slice A n c, .int .i64 x] 31)) [.bool false, .slice none 0 0, .int .i64 0] 31
  simp only [World.size_alloc] at DB
  replace PB := Blk.alloc PB (.cells #[.bool false, .slice none 0 0, .int .i64 0] 31)
  have bw : Below w.heap.size w ((w.alloc (.cells #[.bool b, .slice A n c, .int .i64 x] 31)).alloc (.cells #[.bool false, .slice none 0 0, .int .i64 0] 31)) := by go_grown
  have PB_0 := Blk.cell PB 0 rfl
  have PB_1 := Blk.cell PB 1 rfl
  have PB_2 := Blk.cell PB 2 rfl
  have PB_f0 := Blk.free PB 0
  have PB_f1 := Blk.free PB 1
  have PB_f2 := Blk.free PB 2
  have DB_0 := Blk.cell DB 0 rfl
  have DB_1 := Blk.cell DB 1 rfl
  have DB_2 := Blk.cell DB 2 rfl
  have DB_f0 := Blk.free DB 0
  have DB_f1 := Blk.free DB 1
  have DB_f2 := Blk.free DB 2
  go_enter Tryz.func14, Tryz.ntmps14
  go_wp2_with fail
  with_reducible refine (handed_no (b := b) (x := x) (h.on (by go_grown)) hn ho _).mono ?_
  rintro e w1 ⟨b1, q1, A1, c1, x1, rfl, hd1, m1, hb⟩
  clear PB_0 PB_1 PB_2 PB_f0 PB_f1 PB_f2
  clear DB_0 DB_1 DB_2 DB_f0 DB_f1 DB_f2
  have hs1 := hb.size
  try simp only [World.size_alloc, World.size_setCell] at hs1
  replace bw : Below w.heap.size w w1 := dy_end (by go_grown) hb
  replace PB := Blk.on PB hb
  replace DB := Blk.on DB hb
  clear hb
  have PB_0 := Blk.cell PB 0 rfl
  have PB_1 := Blk.cell PB 1 rfl
  have PB_2 := Blk.cell PB 2 rfl
  have PB_f0 := Blk.free PB 0
  have PB_f1 := Blk.free PB 1
  have PB_f2 := Blk.free PB 2
  have DB_0 := Blk.cell DB 0 rfl
  have DB_1 := Blk.cell DB 1 rfl
  have DB_2 := Blk.cell DB 2 rfl
  have DB_f0 := Blk.free DB 0
  have DB_f1 := Blk.free DB 1
  have DB_f2 := Blk.free DB 2
  go_wp2_with fail
  refine bodyPost_ret (v := .tuple #[dyV b1 A1 q1.length c1 x1, .int .i64 2]) (by simp [results, Tryz.results14, go_sem, DB_0, DB_1, DB_2]) rfl ?_
  exact ⟨b1, q1, A1, c1, x1, rfl, hd1, m1.put DB _ _ _ _ _, by go_grown⟩

end
end Go.Proofs.YtmfikppnkjhmjaaGreatDoor
