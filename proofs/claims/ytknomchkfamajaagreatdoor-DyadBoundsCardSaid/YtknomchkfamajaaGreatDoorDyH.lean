/-
  Layer 3, walks, part five: Norm, Neg, Abs, Shift, Sign. (Written by wip/tools/gen_dyh.py.)
-/
import Derived.Test.YtknomchkfamajaaGreatDoorDyG
namespace Go.Proofs.YtknomchkfamajaaGreatDoor
open Go.RowKit
set_option linter.unusedVariables false
set_option linter.unusedSimpArgs false

section
variable {b : Bool} {A : Option Addr} {n c : Nat} {x : Int} {l : List Int} {w : World}
set_option maxRecDepth 100000 in
set_option maxHeartbeats 4000000 in
theorem handed_neg (h : Lv w A n c l) (hn : n ≤ 4096) (hT : Tab w) (ho : okE x = true) :
    Calls Tryz.prog 59 #[dyV b A n c x, .func (.func 61) #[] #[]] w (DyK (doneR (negN (nfl b (val 18446744073709551616 l) x))).1 (doneR (negN (nfl b (val 18446744073709551616 l) x))).2 w) := by
  have PB := Blk.new w [.bool b, .slice A n c, .int .i64 x] 24
  have DB := Blk.new (w.alloc (.cells #[.bool b, .slice A n c, .int .i64 x] 24)) [.bool false, .slice none 0 0, .int .i64 0] 24
  simp only [World.size_alloc] at DB
  replace PB := Blk.alloc PB (.cells #[.bool false, .slice none 0 0, .int .i64 0] 24)
  have bw : Below w.heap.size w ((w.alloc (.cells #[.bool b, .slice A n c, .int .i64 x] 24)).alloc (.cells #[.bool false, .slice none 0 0, .int .i64 0] 24)) := by go_grown
  have PB_0 := Blk.cell PB 0 rfl
  have PB_1 := Blk.cell PB 1 rfl
  have PB_2 := Blk.cell PB 2 rfl
  have PB_f0 := Blk.free PB 0
  have PB_f1 := Blk.free PB 1
  have PB_f2 := Blk.free PB 2
  have DB_0 := Blk.cell DB 0 rfl
  have DB_1 := Blk.cell DB 1 rfl
  have DB_2 := Blk.cell DB 2 rfl
  have DB_f0 := Blk.free DB 0
  have DB_f1 := Blk.free DB 1
  have DB_f2 := Blk.free DB 2
  go_enter Tryz.func59, Tryz.ntmps59
  go_wp2_with fail
  with_reducible refine (dyTaken_yes (b := b) (x := x) (h.on (by go_grown)) hn (hT.onD (by go_grown)) ho).mono ?_
  rintro e w1 ⟨b1, q1, A1, c1, x1, rfl, hd1, m1, hb⟩
  clear PB_0 PB_1 PB_2 PB_f0 PB_f1 PB_f2
  clear DB_0 DB_1 DB_2 DB_f0 DB_f1 DB_f2
  have hs1 := hb.size
  try simp only [World.size_alloc, World.size_setCell] at hs1
  replace bw : Below w.heap.size w w1 := dy_end (by go_grown) hb
  replace PB := Blk.on PB hb
  replace DB := Blk.on DB hb
  clear hb
  have PB_0 := Blk.cell PB 0 rfl
  have PB_1 := Blk.cell PB 1 rfl
  have PB_2 := Blk.cell PB 2 rfl
  have PB_f0 := Blk.free PB 0
  have PB_f1 := Blk.free PB 1
  have PB_f2 := Blk.free PB 2
  have DB_0 := Blk.cell DB 0 rfl
  have DB_1 := Blk.cell DB 1 rfl
  have DB_2 := Blk.cell DB 2 rfl
  have DB_f0 := Blk.free DB 0
  have DB_f1 := Blk.free DB 1
  have DB_f2 := Blk.free DB 2
  replace m1 := Lv.put m1 PB (b1) (A1) (q1.length) (c1) (x1)
  replace DB := Blk.putO DB (g := w.heap.size) (by omega) (.bool (b1)) (.slice (A1) (q1.length) (c1)) (.int .i64 (x1))
  replace PB := Dbx.put PB (b1) (A1) (q1.length) (c1) (x1)
  go_wp2_with fail
  with_reducible refine (negOne_dn hd1 m1).mono ?_
  rintro e w2 ⟨b2, q2, A2, c2, x2, rfl, hd2, m2, hb⟩
  clear PB_0 PB_1 PB_2 PB_f0 PB_f1 PB_f2
  clear DB_0 DB_1 DB_2 DB_f0 DB_f1 DB_f2
  have hs2 := hb.size
  try simp only [World.size_alloc, World.size_setCell] at hs2
  replace bw : Below w.heap.size w w2 := dy_end (by go_grown) hb
  replace m1 := Lv.on m1 hb
  replace PB := Blk.on PB hb
  replace DB := Blk.on DB hb
  clear hb
  have PB_0 := Blk.cell PB 0 rfl
  have PB_1 := Blk.cell PB 1 rfl
  have PB_2 := Blk.cell PB 2 rfl
  have PB_f0 := Blk.free PB 0
  have PB_f1 := Blk.free PB 1
  have PB_f2 := Blk.free PB 2
  have DB_0 := Blk.cell DB 0 rfl
  have DB_1 := Blk.cell DB 1 rfl
  have DB_2 := Blk.cell DB 2 rfl
  have DB_f0 := Blk.free DB 0
  have DB_f1 := Blk.free DB 1
  have DB_f2 := Blk.free DB 2
  go_wp2_with fail
  refine bodyPost_ret (v := .tuple #[dyV b2 A2 q2.length c2 x2, .int .i64 (doneR (negN (nfl b (val 18446744073709551616 l) x))).2]) (by simp [results, Tryz.results59, go_sem, DB_0, DB_1, DB_2]) rfl ?_
  exact ⟨b2, q2, A2, c2, x2, rfl, hd2, m2.put DB _ _ _ _ _, by go_grown⟩

set_option maxRecDepth 100000 in
set_option maxHeartbeats 4000000 in
theorem handed_abs (h : Lv w A n c l) (hn : n ≤ 4096) (hT : Tab w) (ho : okE x = true) :
    Calls Tryz.prog 59 #[dyV b A n c x, .func (.func 62) #[] #[]] w (DyK (doneR (absN (nfl b (val 18446744073709551616 l) x))).1 (doneR (absN (nfl b (val 18446744073709551616 l) x))).2 w) := by
  have PB := Blk.new w [.bool b, .slice A n c, .int .i64 x] 24
  have DB := Blk.new (w.alloc (.cells #[.bool b, .slice A n c, .int .i64 x] 24)) [.bool false, .slice none 0 0, .int .i64 0] 24
  simp only [World.size_alloc] at DB
  replace PB := Blk.alloc PB (.cells #[.bool false, .slice none 0 0, .int .i64 0] 24)
  have bw : Below w.heap.size w ((w.alloc (.cells #[.bool b, .slice A n c, .int .i64 x] 24)).alloc (.cells #[.bool false, .slice none 0 0, .int .i64 0] 24)) := by go_grown
  have PB_0 := Blk.cell PB 0 rfl
  have PB_1 := Blk.cell PB 1 rfl
  have PB_2 := Blk.cell PB 2 rfl
  have PB_f0 := Blk.free PB 0
  have PB_f1 := Blk.free PB 1
  have PB_f2 := Blk.free PB 2
  have DB_0 := Blk.cell DB 0 rfl
  have DB_1 := Blk.cell DB 1 rfl
  have DB_2 := Blk.cell DB 2 rfl
  have DB_f0 := Blk.free DB 0
  have DB_f1 := Blk.free DB 1
  have DB_f2 := Blk.free DB 2
  go_enter Tryz.func59, Tryz.ntmps59
  go_wp2_with fail
  with_reducible refine (dyTaken_yes (b := b) (x := x) (h.on (by go_grown)) hn (hT.onD (by go_grown)) ho).mono ?_
  rintro e w1 ⟨b1, q1, A1, c1, x1, rfl, hd1, m1, hb⟩
  clear PB_0 PB_1 PB_2 PB_f0 PB_f1 PB_f2
  clear DB_0 DB_1 DB_2 DB_f0 DB_f1 DB_f2
  have hs1 := hb.size
  try simp only [World.size_alloc, World.size_setCell] at hs1
  replace bw : Below w.heap.size w w1 := dy_end (by go_grown) hb
  replace PB := Blk.on PB hb
  replace DB := Blk.on DB hb
  clear hb
  have PB_0 := Blk.cell PB 0 rfl
  have PB_1 := Blk.cell PB 1 rfl
  have PB_2 := Blk.cell PB 2 rfl
  have PB_f0 := Blk.free PB 0
  have PB_f1 := Blk.free PB 1
  have PB_f2 := Blk.free PB 2
  have DB_0 := Blk.cell DB 0 rfl
  have DB_1 := Blk.cell DB 1 rfl
  have DB_2 := Blk.cell DB 2 rfl
  have DB_f0 := Blk.free DB 0
  have DB_f1 := Blk.free DB 1
  have DB_f2 := Blk.free DB 2
  replace m1 := Lv.put m1 PB (b1) (A1) (q1.length) (c1) (x1)
  replace DB := Blk.putO DB (g := w.heap.size) (by omega) (.bool (b1)) (.slice (A1) (q1.length) (c1)) (.int .i64 (x1))
  replace PB := Dbx.put PB (b1) (A1) (q1.length) (c1) (x1)
  go_wp2_with fail
  with_reducible refine (absOne_dn hd1 m1).mono ?_
  rintro e w2 ⟨b2, q2, A2, c2, x2, rfl, hd2, m2, hb⟩
  clear PB_0 PB_1 PB_2 PB_f0 PB_f1 PB_f2
  clear DB_0 DB_1 DB_2 DB_f0 DB_f1 DB_f2
  have hs2 := hb.size
  try simp only [World.size_alloc, World.size_setCell] at hs2
  replace bw : Below w.heap.size w w2 := dy_end (by go_grown) hb
  replace m1 := Lv.on m1 hb
  replace PB := Blk.on PB hb
  replace DB := Blk.on DB hb
  clear hb
  have PB_0 := Blk.cell PB 0 rfl
  have PB_1 := Blk.cell PB 1 rfl
  have PB_2 := Blk.cell PB 2 rfl
  have PB_f0 := Blk.free PB 0
  have PB_f1 := Blk.free PB 1
  have PB_f2 := Blk.free PB 2
  have DB_0 := Blk.cell DB 0 rfl
  have DB_1 := Blk.cell DB 1 rfl
  have DB_2 := Blk.cell DB 2 rfl
  have DB_f0 := Blk.free DB 0
  have DB_f1 := Blk.free DB 1
  have DB_f2 := Blk.free DB 2
  go_wp2_with fail
  refine bodyPost_ret (v := .tuple #[dyV b2 A2 q2.length c2 x2, .int .i64 (doneR (absN (nfl b (val 18446744073709551616 l) x))).2]) (by simp [results, Tryz.results59, go_sem, DB_0, DB_1, DB_2]) rfl ?_
  exact ⟨b2, q2, A2, c2, x2, rfl, hd2, m2.put DB _ _ _ _ _, by go_grown⟩


/-- places behind the noughts -/
theorem nfl_place {v x : Int} {k : Nat} (b : Bool) (h0 : 0 ≤ v) (hv : v < 2 ^ k) : (nfl b v x).exp = 0 ∨ (x ≤ (nfl b v x).exp ∧ (nfl b v x).exp ≤ x + k) := by
  rcases (show v = 0 ∨ 0 < v by omega) with h | h
  · subst h; rw [nfl_zero]; exact .inl rfl
  · have h1 := nfl_in (b := b) (v := v) (e := x) (q := x + k) h0 (by omega) (by rw [show (x + (k : Int) - x).toNat = k by omega]; exact hv)
    have h2 : (nfl b v x).man ≠ 0 := fun e => by have := (nfl_man0 (b := b) (e := x) h0).1 e; omega
    exact .inr (h1.exp h2)

theorem kept {w W : World} {kg : Nat} {u : Value} (hkg : kg < w.heap.size) (hk : w.cell? ⟨kg, 0, none⟩ = some u) (hb : Below w.heap.size w W) : W.cell? ⟨kg, 0, none⟩ = some u := (hb.cell (p := ⟨kg, 0, none⟩) hkg).trans hk

set_option maxRecDepth 100000 in
set_option maxHeartbeats 4000000 in
theorem handed_shift (h : Lv w A n c l) (hn : n ≤ 4096) (hT : Tab w) (ho : okE x = true) (k : Int) (kg : Nat) (hkg : kg < w.heap.size) (hk : w.cell? ⟨kg, 0, none⟩ = some (.int .i64 k)) (k0 : -9223372036854775808 ≤ k) (k1 : k ≤ 9223372036854775807) :
    Calls Tryz.prog 59 #[dyV b A n c x, .func (.func 92) #[] #[.pointer (some ⟨kg, 0, none⟩)]] w (DyK (shR (nfl b (val 18446744073709551616 l) x) k).1 (shR (nfl b (val 18446744073709551616 l) x) k).2 w) := by
  have PB := Blk.new w [.bool b, .slice A n c, .int .i64 x] 24
  have DB := Blk.new (w.alloc (.cells #[.bool b, .slice A n c, .int .i64 x] 24)) [.bool false, .slice none 0 0, .int .i64 0] 24
  simp only [World.size_alloc] at DB
  replace PB := Blk.alloc PB (.cells #[.bool false, .slice none 0 0, .int .i64 0] 24)
  have bw : Below w.heap.size w ((w.alloc (.cells #[.bool b, .slice A n c, .int .i64 x] 24)).alloc (.cells #[.bool false, .slice none 0 0, .int .i64 0] 24)) := by go_grown
  have PB_0 := Blk.cell PB 0 rfl
  have PB_1 := Blk.cell PB 1 rfl
  have PB_2 := Blk.cell PB 2 rfl
  have PB_f0 := Blk.free PB 0
  have PB_f1 := Blk.free PB 1
  have PB_f2 := Blk.free PB 2
  have DB_0 := Blk.cell DB 0 rfl
  have DB_1 := Blk.cell DB 1 rfl
  have DB_2 := Blk.cell DB 2 rfl
  have DB_f0 := Blk.free DB 0
  have DB_f1 := Blk.free DB 1
  have DB_f2 := Blk.free DB 2
  have kb := hk
  go_enter Tryz.func59, Tryz.ntmps59
  go_wp2_with fail
  with_reducible refine (dyTaken_yes (b := b) (x := x) (h.on (by go_grown)) hn (hT.onD (by go_grown)) ho).mono ?_
  rintro e w1 ⟨b1, q1, A1, c1, x1, rfl, hd1, m1, hb⟩
  clear PB_0 PB_1 PB_2 PB_f0 PB_f1 PB_f2
  clear DB_0 DB_1 DB_2 DB_f0 DB_f1 DB_f2
  have hs1 := hb.size
  try simp only [World.size_alloc, World.size_setCell] at hs1
  replace bw : Below w.heap.size w w1 := dy_end (by go_grown) hb
  replace PB := Blk.on PB hb
  replace DB := Blk.on DB hb
  clear hb
  have PB_0 := Blk.cell PB 0 rfl
  have PB_1 := Blk.cell PB 1 rfl
  have PB_2 := Blk.cell PB 2 rfl
  have PB_f0 := Blk.free PB 0
  have PB_f1 := Blk.free PB 1
  have PB_f2 := Blk.free PB 2
  have DB_0 := Blk.cell DB 0 rfl
  have DB_1 := Blk.cell DB 1 rfl
  have DB_2 := Blk.cell DB 2 rfl
  have DB_f0 := Blk.free DB 0
  have DB_f1 := Blk.free DB 1
  have DB_f2 := Blk.free DB 2
  replace m1 := Lv.put m1 PB (b1) (A1) (q1.length) (c1) (x1)
  replace DB := Blk.putO DB (g := w.heap.size) (by omega) (.bool (b1)) (.slice (A1) (q1.length) (c1)) (.int .i64 (x1))
  replace PB := Dbx.put PB (b1) (A1) (q1.length) (c1) (x1)
  have xb := nfl_place (k := 262144) b (x := x) (lim_val h.2.2) (lv_bound h hn)
  rw [hd1.exp] at xb
  have xr := (okE_iff x).1 ho
  have X := Lib.hid (And.intro xb xr)
  clear xb xr
  go_wp2_with fail
  with_reducible refine (shiftOne_dn hd1 m1 k kg (by simp; omega) (kept hkg hk (by go_grown)) (by have := X.out; omega) (by have := X.out; omega) k0 k1).mono ?_
  rintro e w2 ⟨b2, q2, A2, c2, x2, rfl, hd2, m2, hb⟩
  clear PB_0 PB_1 PB_2 PB_f0 PB_f1 PB_f2
  clear DB_0 DB_1 DB_2 DB_f0 DB_f1 DB_f2
  have hs2 := hb.size
  try simp only [World.size_alloc, World.size_setCell] at hs2
  replace bw : Below w.heap.size w w2 := dy_end (by go_grown) hb
  replace m1 := Lv.on m1 hb
  replace PB := Blk.on PB hb
  replace DB := Blk.on DB hb
  clear hb
  have PB_0 := Blk.cell PB 0 rfl
  have PB_1 := Blk.cell PB 1 rfl
  have PB_2 := Blk.cell PB 2 rfl
  have PB_f0 := Blk.free PB 0
  have PB_f1 := Blk.free PB 1
  have PB_f2 := Blk.free PB 2
  have DB_0 := Blk.cell DB 0 rfl
  have DB_1 := Blk.cell DB 1 rfl
  have DB_2 := Blk.cell DB 2 rfl
  have DB_f0 := Blk.free DB 0
  have DB_f1 := Blk.free DB 1
  have DB_f2 := Blk.free DB 2
  go_wp2_with fail
  refine bodyPost_ret (v := .tuple #[dyV b2 A2 q2.length c2 x2, .int .i64 (shR (nfl b (val 18446744073709551616 l) x) k).2]) (by simp [results, Tryz.results59, go_sem, DB_0, DB_1, DB_2]) rfl ?_
  exact ⟨b2, q2, A2, c2, x2, rfl, hd2, m2.put DB _ _ _ _ _, by go_grown⟩

set_option maxRecDepth 100000 in
set_option maxHeartbeats 4000000 in
theorem handed_no (h : Lv w A n c l) (hn : n ≤ 4096) (ho : okE x = false) (fv : Value) :
    Calls Tryz.prog 59 #[dyV b A n c x, fv] w (DyK zeroN 2 w) := by
  have PB := Blk.new w [.bool b, .slice A n c, .int .i64 x] 24
  have DB := Blk.new (w.alloc (.cells #[.bool b, .slice A n c, .int .i64 x] 24)) [.bool false, .slice none 0 0, .int .i64 0] 24
  simp only [World.size_alloc] at DB
  replace PB := Blk.alloc PB (.cells #[.bool false, .slice none 0 0, .int .i64 0] 24)
  have bw : Below w.heap.size w ((w.alloc (.cells #[.bool b, .slice A n c, .int .i64 x] 24)).alloc (.cells #[.bool false, .slice none 0 0, .int .i64 0] 24)) := by go_grown
  have PB_0 := Blk.cell PB 0 rfl
  have PB_1 := Blk.cell PB 1 rfl
  have PB_2 := Blk.cell PB 2 rfl
  have PB_f0 := Blk.free PB 0
  have PB_f1 := Blk.free PB 1
  have PB_f2 := Blk.free PB 2
  have DB_0 := Blk.cell DB 0 rfl
  have DB_1 := Blk.cell DB 1 rfl
  have DB_2 := Blk.cell DB 2 rfl
  have DB_f0 := Blk.free DB 0
  have DB_f1 := Blk.free DB 1
  have DB_f2 := Blk.free DB 2
  go_enter Tryz.func59, Tryz.ntmps59
  go_wp2_with fail
  with_reducible refine (dyTaken_no (b := b) (x := x) (h.on (by go_grown)) hn ho).mono ?_
  rintro e w1 ⟨b1, q1, A1, c1, x1, rfl, hd1, m1, hb⟩
  clear PB_0 PB_1 PB_2 PB_f0 PB_f1 PB_f2
  clear DB_0 DB_1 DB_2 DB_f0 DB_f1 DB_f2
  have hs1 := hb.size
  try simp only [World.size_alloc, World.size_setCell] at hs1
  replace bw : Below w.heap.size w w1 := dy_end (by go_grown) hb
  replace PB := Blk.on PB hb
  replace DB := Blk.on DB hb
  clear hb
  have PB_0 := Blk.cell PB 0 rfl
  have PB_1 := Blk.cell PB 1 rfl
  have PB_2 := Blk.cell PB 2 rfl
  have PB_f0 := Blk.free PB 0
  have PB_f1 := Blk.free PB 1
  have PB_f2 := Blk.free PB 2
  have DB_0 := Blk.cell DB 0 rfl
  have DB_1 := Blk.cell DB 1 rfl
  have DB_2 := Blk.cell DB 2 rfl
  have DB_f0 := Blk.free DB 0
  have DB_f1 := Blk.free DB 1
  have DB_f2 := Blk.free DB 2
  go_wp2_with fail
  obtain ⟨e1, e2, e3⟩ := Dn.uniq Dn.zero hd1 (Lim.nil _) m1.2.2
  refine bodyPost_ret (v := .tuple #[dyV false none 0 0 0, .int .i64 2]) (by simp [results, Tryz.results59, go_sem, DB_0, DB_1, DB_2]) rfl ?_
  exact ⟨false, [], none, 0, 0, rfl, Dn.zero, lv_nil _, by go_grown⟩

set_option maxRecDepth 100000 in
set_option maxHeartbeats 4000000 in
theorem dNorm_yes (h : Lv w A n c l) (hn : n ≤ 4096) (hT : Tab w) (ho : okE x = true) :
    Calls Tryz.prog 16 #[dyV b A n c x] w (DyK (doneR (nfl b (val 18446744073709551616 l) x)).1 (doneR (nfl b (val 18446744073709551616 l) x)).2 w) := by
  have PB := Blk.new w [.bool b, .slice A n c, .int .i64 x] 24
  have DB := Blk.new (w.alloc (.cells #[.bool b, .slice A n c, .int .i64 x] 24)) [.bool false, .slice none 0 0, .int .i64 0] 24
  simp only [World.size_alloc] at DB
  replace PB := Blk.alloc PB (.cells #[.bool false, .slice none 0 0, .int .i64 0] 24)
  have bw : Below w.heap.size w ((w.alloc (.cells #[.bool b, .slice A n c, .int .i64 x] 24)).alloc (.cells #[.bool false, .slice none 0 0, .int .i64 0] 24)) := by go_grown
  have PB_0 := Blk.cell PB 0 rfl
  have PB_1 := Blk.cell PB 1 rfl
  have PB_2 := Blk.cell PB 2 rfl
  have PB_f0 := Blk.free PB 0
  have PB_f1 := Blk.free PB 1
  have PB_f2 := Blk.free PB 2
  have DB_0 := Blk.cell DB 0 rfl
  have DB_1 := Blk.cell DB 1 rfl
  have DB_2 := Blk.cell DB 2 rfl
  have DB_f0 := Blk.free DB 0
  have DB_f1 := Blk.free DB 1
  have DB_f2 := Blk.free DB 2
  go_enter Tryz.func16, Tryz.ntmps16
  go_wp2_with fail
  with_reducible refine (handed_copied (b := b) (x := x) (h.on (by go_grown)) hn (hT.onD (by go_grown)) ho).mono ?_
  rintro e w1 ⟨b1, q1, A1, c1, x1, rfl, hd1, m1, hb⟩
  clear PB_0 PB_1 PB_2 PB_f0 PB_f1 PB_f2
  clear DB_0 DB_1 DB_2 DB_f0 DB_f1 DB_f2
  have hs1 := hb.size
  try simp only [World.size_alloc, World.size_setCell] at hs1
  replace bw : Below w.heap.size w w1 := dy_end (by go_grown) hb
  replace PB := Blk.on PB hb
  replace DB := Blk.on DB hb
  clear hb
  have PB_0 := Blk.cell PB 0 rfl
  have PB_1 := Blk.cell PB 1 rfl
  have PB_2 := Blk.cell PB 2 rfl
  have PB_f0 := Blk.free PB 0
  have PB_f1 := Blk.free PB 1
  have PB_f2 := Blk.free PB 2
  have DB_0 := Blk.cell DB 0 rfl
  have DB_1 := Blk.cell DB 1 rfl
  have DB_2 := Blk.cell DB 2 rfl
  have DB_f0 := Blk.free DB 0
  have DB_f1 := Blk.free DB 1
  have DB_f2 := Blk.free DB 2
  go_wp2_with fail
  refine bodyPost_ret (v := .tuple #[dyV b1 A1 q1.length c1 x1, .int .i64 (doneR (nfl b (val 18446744073709551616 l) x)).2]) (by simp [results, Tryz.results16, go_sem, DB_0, DB_1, DB_2]) rfl ?_
  exact ⟨b1, q1, A1, c1, x1, rfl, hd1, m1.put DB _ _ _ _ _, by go_grown⟩

set_option maxRecDepth 100000 in
set_option maxHeartbeats 4000000 in
theorem dNorm_no (h : Lv w A n c l) (hn : n ≤ 4096) (ho : okE x = false) :
    Calls Tryz.prog 16 #[dyV b A n c x] w (DyK zeroN 2 w) := by
  have PB := Blk.new w [.bool b, .slice A n c, .int .i64 x] 24
  have DB := Blk.new (w.alloc (.cells #[.bool b, .slice A n c, .int .i64 x] 24)) [.bool false, .slice none 0 0, .int .i64 0] 24
  simp only [World.size_alloc] at DB
  replace PB := Blk.alloc PB (.cells #[.bool false, .slice none 0 0, .int .i64 0] 24)
  have bw : Below w.heap.size w ((w.alloc (.cells #[.bool b, .slice A n c, .int .i64 x] 24)).alloc (.cells #[.bool false, .slice none 0 0, .int .i64 0] 24)) := by go_grown
  have PB_0 := Blk.cell PB 0 rfl
  have PB_1 := Blk.cell PB 1 rfl
  have PB_2 := Blk.cell PB 2 rfl
  have PB_f0 := Blk.free PB 0
  have PB_f1 := Blk.free PB 1
  have PB_f2 := Blk.free PB 2
  have DB_0 := Blk.cell DB 0 rfl
  have DB_1 := Blk.cell DB 1 rfl
  have DB_2 := Blk.cell DB 2 rfl
  have DB_f0 := Blk.free DB 0
  have DB_f1 := Blk.free DB 1
  have DB_f2 := Blk.free DB 2
  go_enter Tryz.func16, Tryz.ntmps16
  go_wp2_with fail
  with_reducible refine (handed_no (b := b) (x := x) (h.on (by go_grown)) hn ho _).mono ?_
  rintro e w1 ⟨b1, q1, A1, c1, x1, rfl, hd1, m1, hb⟩
  clear PB_0 PB_1 PB_2 PB_f0 PB_f1 PB_f2
  clear DB_0 DB_1 DB_2 DB_f0 DB_f1 DB_f2
  have hs1 := hb.size
  try simp only [World.size_alloc, World.size_setCell] at hs1
  replace bw : Below w.heap.size w w1 := dy_end (by go_grown) hb
  replace PB := Blk.on PB hb
  replace DB := Blk.on DB hb
  clear hb
  have PB_0 := Blk.cell PB 0 rfl
  have PB_1 := Blk.cell PB 1 rfl
  have PB_2 := Blk.cell PB 2 rfl
  have PB_f0 := Blk.free PB 0
  have PB_f1 := Blk.free PB 1
  have PB_f2 := Blk.free PB 2
  have DB_0 := Blk.cell DB 0 rfl
  have DB_1 := Blk.cell DB 1 rfl
  have DB_2 := Blk.cell DB 2 rfl
  have DB_f0 := Blk.free DB 0
  have DB_f1 := Blk.free DB 1
  have DB_f2 := Blk.free DB 2
  go_wp2_with fail
  refine bodyPost_ret (v := .tuple #[dyV b1 A1 q1.length c1 x1, .int .i64 2]) (by simp [results, Tryz.results16, go_sem, DB_0, DB_1, DB_2]) rfl ?_
  exact ⟨b1, q1, A1, c1, x1, rfl, hd1, m1.put DB _ _ _ _ _, by go_grown⟩

set_option maxRecDepth 100000 in
set_option maxHeartbeats 4000000 in
theorem dNeg_yes (h : Lv w A n c l) (hn : n ≤ 4096) (hT : Tab w) (ho : okE x = true) :
    Calls Tryz.prog 17 #[dyV b A n c x] w (DyK (doneR (negN (nfl b (val 18446744073709551616 l) x))).1 (doneR (negN (nfl b (val 18446744073709551616 l) x))).2 w) := by
  have PB := Blk.new w [.bool b, .slice A n c, .int .i64 x] 24
  have DB := Blk.new (w.alloc (.cells #[.bool b, .slice A n c, .int .i64 x] 24)) [.bool false, .slice none 0 0, .int .i64 0] 24
  simp only [World.size_alloc] at DB
  replace PB := Blk.alloc PB (.cells #[.bool false, .slice none 0 0, .int .i64 0] 24)
  have bw : Below w.heap.size w ((w.alloc (.cells #[.bool b, .slice A n c, .int .i64 x] 24)).alloc (.cells #[.bool false, .slice none 0 0, .int .i64 0] 24)) := by go_grown
  have PB_0 := Blk.cell PB 0 rfl
  have PB_1 := Blk.cell PB 1 rfl
  have PB_2 := Blk.cell PB 2 rfl
  have PB_f0 := Blk.free PB 0
  have PB_f1 := Blk.free PB 1
  have PB_f2 := Blk.free PB 2
  have DB_0 := Blk.cell DB 0 rfl
  have DB_1 := Blk.cell DB 1 rfl
  have DB_2 := Blk.cell DB 2 rfl
  have DB_f0 := Blk.free DB 0
  have DB_f1 := Blk.free DB 1
  have DB_f2 := Blk.free DB 2
  go_enter Tryz.func17, Tryz.ntmps17
  go_wp2_with fail
  with_reducible refine (handed_neg (b := b) (x := x) (h.on (by go_grown)) hn (hT.onD (by go_grown)) ho).mono ?_
  rintro e w1 ⟨b1, q1, A1, c1, x1, rfl, hd1, m1, hb⟩
  clear PB_0 PB_1 PB_2 PB_f0 PB_f1 PB_f2
  clear DB_0 DB_1 DB_2 DB_f0 DB_f1 DB_f2
  have hs1 := hb.size
  try simp only [World.size_alloc, World.size_setCell] at hs1
  replace bw : Below w.heap.size w w1 := dy_end (by go_grown) hb
  replace PB := Blk.on PB hb
  replace DB := Blk.on DB hb
  clear hb
  have PB_0 := Blk.cell PB 0 rfl
  have PB_1 := Blk.cell PB 1 rfl
  have PB_2 := Blk.cell PB 2 rfl
  have PB_f0 := Blk.free PB 0
  have PB_f1 := Blk.free PB 1
  have PB_f2 := Blk.free PB 2
  have DB_0 := Blk.cell DB 0 rfl
  have DB_1 := Blk.cell DB 1 rfl
  have DB_2 := Blk.cell DB 2 rfl
  have DB_f0 := Blk.free DB 0
  have DB_f1 := Blk.free DB 1
  have DB_f2 := Blk.free DB 2
  go_wp2_with fail
  refine bodyPost_ret (v := .tuple #[dyV b1 A1 q1.length c1 x1, .int .i64 (doneR (negN (nfl b (val 18446744073709551616 l) x))).2]) (by simp [results, Tryz.results17, go_sem, DB_0, DB_1, DB_2]) rfl ?_
  exact ⟨b1, q1, A1, c1, x1, rfl, hd1, m1.put DB _ _ _ _ _, by go_grown⟩

set_option maxRecDepth 100000 in
set_option maxHeartbeats 4000000 in
theorem dNeg_no (h : Lv w A n c l) (hn : n ≤ 4096) (ho : okE x = false) :
    Calls Tryz.prog 17 #[dyV b A n c x] w (DyK zeroN 2 w) := by
  have PB := Blk.new w [.bool b, .slice A n c, .int .i64 x] 24
  have DB := Blk.new (w.alloc (.cells #[.bool b, .slice A n c, .int .i64 x] 24)) [.bool false, .slice none 0 0, .int .i64 0] 24
  simp only [World.size_alloc] at DB
  replace PB := Blk.alloc PB (.cells #[.bool false, .slice none 0 0, .int .i64 0] 24)
  have bw : Below w.heap.size w ((w.alloc (.cells #[.bool b, .slice A n c, .int .i64 x] 24)).alloc (.cells #[.bool false, .slice none 0 0, .int .i64 0] 24)) := by go_grown
  have PB_0 := Blk.cell PB 0 rfl
  have PB_1 := Blk.cell PB 1 rfl
  have PB_2 := Blk.cell PB 2 rfl
  have PB_f0 := Blk.free PB 0
  have PB_f1 := Blk.free PB 1
  have PB_f2 := Blk.free PB 2
  have DB_0 := Blk.cell DB 0 rfl
  have DB_1 := Blk.cell DB 1 rfl
  have DB_2 := Blk.cell DB 2 rfl
  have DB_f0 := Blk.free DB 0
  have DB_f1 := Blk.free DB 1
  have DB_f2 := Blk.free DB 2
  go_enter Tryz.func17, Tryz.ntmps17
  go_wp2_with fail
  with_reducible refine (handed_no (b := b) (x := x) (h.on (by go_grown)) hn ho _).mono ?_
  rintro e w1 ⟨b1, q1, A1, c1, x1, rfl, hd1, m1, hb⟩
  clear PB_0 PB_1 PB_2 PB_f0 PB_f1 PB_f2
  clear DB_0 DB_1 DB_2 DB_f0 DB_f1 DB_f2
  have hs1 := hb.size
  try simp only [World.size_alloc, World.size_setCell] at hs1
  replace bw : Below w.heap.size w w1 := dy_end (by go_grown) hb
  replace PB := Blk.on PB hb
  replace DB := Blk.on DB hb
  clear hb
  have PB_0 := Blk.cell PB 0 rfl
  have PB_1 := Blk.cell PB 1 rfl
  have PB_2 := Blk.cell PB 2 rfl
  have PB_f0 := Blk.free PB 0
  have PB_f1 := Blk.free PB 1
  have PB_f2 := Blk.free PB 2
  have DB_0 := Blk.cell DB 0 rfl
  have DB_1 := Blk.cell DB 1 rfl
  have DB_2 := Blk.cell DB 2 rfl
  have DB_f0 := Blk.free DB 0
  have DB_f1 := Blk.free DB 1
  have DB_f2 := Blk.free DB 2
  go_wp2_with fail
  refine bodyPost_ret (v := .tuple #[dyV b1 A1 q1.length c1 x1, .int .i64 2]) (by simp [results, Tryz.results17, go_sem, DB_0, DB_1, DB_2]) rfl ?_
  exact ⟨b1, q1, A1, c1, x1, rfl, hd1, m1.put DB _ _ _ _ _, by go_grown⟩

set_option maxRecDepth 100000 in
set_option maxHeartbeats 4000000 in
theorem dAbs_yes (h : Lv w A n c l) (hn : n ≤ 4096) (hT : Tab w) (ho : okE x = true) :
    Calls Tryz.prog 18 #[dyV b A n c x] w (DyK (doneR (absN (nfl b (val 18446744073709551616 l) x))).1 (doneR (absN (nfl b (val 18446744073709551616 l) x))).2 w) := by
  have PB := Blk.new w [.bool b, .slice A n c, .int .i64 x] 24
  have DB := Blk.new (w.alloc (.cells #[.bool b, .slice A n c, .int .i64 x] 24)) [.bool false, .slice none 0 0, .int .i64 0] 24
  simp only [World.size_alloc] at DB
  replace PB := Blk.alloc PB (.cells #[.bool false, .slice none 0 0, .int .i64 0] 24)
  have bw : Below w.heap.size w ((w.alloc (.cells #[.bool b, .slice A n c, .int .i64 x] 24)).alloc (.cells #[.bool false, .slice none 0 0, .int .i64 0] 24)) := by go_grown
  have PB_0 := Blk.cell PB 0 rfl
  have PB_1 := Blk.cell PB 1 rfl
  have PB_2 := Blk.cell PB 2 rfl
  have PB_f0 := Blk.free PB 0
  have PB_f1 := Blk.free PB 1
  have PB_f2 := Blk.free PB 2
  have DB_0 := Blk.cell DB 0 rfl
  have DB_1 := Blk.cell DB 1 rfl
  have DB_2 := Blk.cell DB 2 rfl
  have DB_f0 := Blk.free DB 0
  have DB_f1 := Blk.free DB 1
  have DB_f2 := Blk.free DB 2
  go_enter Tryz.func18, Tryz.ntmps18
  go_wp2_with fail
  with_reducible refine (handed_abs (b := b) (x := x) (h.on (by go_grown)) hn (hT.onD (by go_grown)) ho).mono ?_
  rintro e w1 ⟨b1, q1, A1, c1, x1, rfl, hd1, m1, hb⟩
  clear PB_0 PB_1 PB_2 PB_f0 PB_f1 PB_f2
  clear DB_0 DB_1 DB_2 DB_f0 DB_f1 DB_f2
  have hs1 := hb.size
  try simp only [World.size_alloc, World.size_setCell] at hs1
  replace bw : Below w.heap.size w w1 := dy_end (by go_grown) hb
  replace PB := Blk.on PB hb
  replace DB := Blk.on DB hb
  clear hb
  have PB_0 := Blk.cell PB 0 rfl
  have PB_1 := Blk.cell PB 1 rfl
  have PB_2 := Blk.cell PB 2 rfl
  have PB_f0 := Blk.free PB 0
  have PB_f1 := Blk.free PB 1
  have PB_f2 := Blk.free PB 2
  have DB_0 := Blk.cell DB 0 rfl
  have DB_1 := Blk.cell DB 1 rfl
  have DB_2 := Blk.cell DB 2 rfl
  have DB_f0 := Blk.free DB 0
  have DB_f1 := Blk.free DB 1
  have DB_f2 := Blk.free DB 2
  go_wp2_with fail
  refine bodyPost_ret (v := .tuple #[dyV b1 A1 q1.length c1 x1, .int .i64 (doneR (absN (nfl b (val 18446744073709551616 l) x))).2]) (by simp [results, Tryz.results18, go_sem, DB_0, DB_1, DB_2]) rfl ?_
  exact ⟨b1, q1, A1, c1, x1, rfl, hd1, m1.put DB _ _ _ _ _, by go_grown⟩

set_option maxRecDepth 100000 in
set_option maxHeartbeats 4000000 in
theorem dAbs_no (h : Lv w A n c l) (hn : n ≤ 4096) (ho : okE x = false) :
    Calls Tryz.prog 18 #[dyV b A n c x] w (DyK zeroN 2 w) := by
  have PB := Blk.new w [.bool b, .slice A n c, .int .i64 x] 24
  have DB := Blk.new (w.alloc (.cells #[.bool b, .slice A n c, .int .i64 x] 24)) [.bool false, .slice none 0 0, .int .i64 0] 24
  simp only [World.size_alloc] at DB
  replace PB := Blk.alloc PB (.cells #[.bool false, .slice none 0 0, .int .i64 0] 24)
  have bw : Below w.heap.size w ((w.alloc (.cells #[.bool b, .slice A n c, .int .i64 x] 24)).alloc (.cells #[.bool false, .slice none 0 0, .int .i64 0] 24)) := by go_grown
  have PB_0 := Blk.cell PB 0 rfl
  have PB_1 := Blk.cell PB 1 rfl
  have PB_2 := Blk.cell PB 2 rfl
  have PB_f0 := Blk.free PB 0
  have PB_f1 := Blk.free PB 1
  have PB_f2 := Blk.free PB 2
  have DB_0 := Blk.cell DB 0 rfl
  have DB_1 := Blk.cell DB 1 rfl
  have DB_2 := Blk.cell DB 2 rfl
  have DB_f0 := Blk.free DB 0
  have DB_f1 := Blk.free DB 1
  have DB_f2 := Blk.free DB 2
  go_enter Tryz.func18, Tryz.ntmps18
  go_wp2_with fail
  with_reducible refine (handed_no (b := b) (x := x) (h.on (by go_grown)) hn ho _).mono ?_
  rintro e w1 ⟨b1, q1, A1, c1, x1, rfl, hd1, m1, hb⟩
  clear PB_0 PB_1 PB_2 PB_f0 PB_f1 PB_f2
  clear DB_0 DB_1 DB_2 DB_f0 DB_f1 DB_f2
  have hs1 := hb.size
  try simp only [World.size_alloc, World.size_setCell] at hs1
  replace bw : Below w.heap.size w w1 := dy_end (by go_grown) hb
  replace PB := Blk.on PB hb
  replace DB := Blk.on DB hb
  clear hb
  have PB_0 := Blk.cell PB 0 rfl
  have PB_1 := Blk.cell PB 1 rfl
  have PB_2 := Blk.cell PB 2 rfl
  have PB_f0 := Blk.free PB 0
  have PB_f1 := Blk.free PB 1
  have PB_f2 := Blk.free PB 2
  have DB_0 := Blk.cell DB 0 rfl
  have DB_1 := Blk.cell DB 1 rfl
  have DB_2 := Blk.cell DB 2 rfl
  have DB_f0 := Blk.free DB 0
  have DB_f1 := Blk.free DB 1
  have DB_f2 := Blk.free DB 2
  go_wp2_with fail
  refine bodyPost_ret (v := .tuple #[dyV b1 A1 q1.length c1 x1, .int .i64 2]) (by simp [results, Tryz.results18, go_sem, DB_0, DB_1, DB_2]) rfl ?_
  exact ⟨b1, q1, A1, c1, x1, rfl, hd1, m1.put DB _ _ _ _ _, by go_grown⟩

set_option maxRecDepth 100000 in
set_option maxHeartbeats 4000000 in
theorem dShift_yes (h : Lv w A n c l) (hn : n ≤ 4096) (hT : Tab w) (ho : okE x = true) (k : Int) (k0 : -9223372036854775808 ≤ k) (k1 : k ≤ 9223372036854775807) :
    Calls Tryz.prog 44 #[dyV b A n c x, .int .i64 k] w (DyK (shR (nfl b (val 18446744073709551616 l) x) k).1 (shR (nfl b (val 18446744073709551616 l) x) k).2 w) := by
  have PB := Blk.new w [.bool b, .slice A n c, .int .i64 x] 24
  have KB := Blk.new (w.alloc (.cells #[.bool b, .slice A n c, .int .i64 x] 24)) [.int .i64 k] 3
  simp only [World.size_alloc] at KB
  replace PB := Blk.alloc PB (.cells #[.int .i64 k] 3)
  have DB := Blk.new ((w.alloc (.cells #[.bool b, .slice A n c, .int .i64 x] 24)).alloc (.cells #[.int .i64 k] 3)) [.bool false, .slice none 0 0, .int .i64 0] 24
  simp only [World.size_alloc] at DB
  replace PB := Blk.alloc PB (.cells #[.bool false, .slice none 0 0, .int .i64 0] 24)
  replace KB := Blk.alloc KB (.cells #[.bool false, .slice none 0 0, .int .i64 0] 24)
  have bw : Below w.heap.size w (((w.alloc (.cells #[.bool b, .slice A n c, .int .i64 x] 24)).alloc (.cells #[.int .i64 k] 3)).alloc (.cells #[.bool false, .slice none 0 0, .int .i64 0] 24)) := by go_grown
  have PB_0 := Blk.cell PB 0 rfl
  have PB_1 := Blk.cell PB 1 rfl
  have PB_2 := Blk.cell PB 2 rfl
  have PB_f0 := Blk.free PB 0
  have PB_f1 := Blk.free PB 1
  have PB_f2 := Blk.free PB 2
  have KB_0 := Blk.cell KB 0 rfl
  have KB_f0 := Blk.free KB 0
  have DB_0 := Blk.cell DB 0 rfl
  have DB_1 := Blk.cell DB 1 rfl
  have DB_2 := Blk.cell DB 2 rfl
  have DB_f0 := Blk.free DB 0
  have DB_f1 := Blk.free DB 1
  have DB_f2 := Blk.free DB 2
  go_enter Tryz.func44, Tryz.ntmps44
  go_wp2_with fail
  with_reducible refine (handed_shift (b := b) (x := x) (h.on (by go_grown)) hn (hT.onD (by go_grown)) ho k _ (by simp) KB_0 k0 k1).mono ?_
  rintro e w1 ⟨b1, q1, A1, c1, x1, rfl, hd1, m1, hb⟩
  clear PB_0 PB_1 PB_2 PB_f0 PB_f1 PB_f2
  clear KB_0 KB_f0
  clear DB_0 DB_1 DB_2 DB_f0 DB_f1 DB_f2
  have hs1 := hb.size
  try simp only [World.size_alloc, World.size_setCell] at hs1
  replace bw : Below w.heap.size w w1 := dy_end (by go_grown) hb
  replace PB := Blk.on PB hb
  replace KB := Blk.on KB hb
  replace DB := Blk.on DB hb
  clear hb
  have PB_0 := Blk.cell PB 0 rfl
  have PB_1 := Blk.cell PB 1 rfl
  have PB_2 := Blk.cell PB 2 rfl
  have PB_f0 := Blk.free PB 0
  have PB_f1 := Blk.free PB 1
  have PB_f2 := Blk.free PB 2
  have KB_0 := Blk.cell KB 0 rfl
  have KB_f0 := Blk.free KB 0
  have DB_0 := Blk.cell DB 0 rfl
  have DB_1 := Blk.cell DB 1 rfl
  have DB_2 := Blk.cell DB 2 rfl
  have DB_f0 := Blk.free DB 0
  have DB_f1 := Blk.free DB 1
  have DB_f2 := Blk.free DB 2
  go_wp2_with fail
  refine bodyPost_ret (v := .tuple #[dyV b1 A1 q1.length c1 x1, .int .i64 (shR (nfl b (val 18446744073709551616 l) x) k).2]) (by simp [results, Tryz.results44, go_sem, DB_0, DB_1, DB_2]) rfl ?_
  exact ⟨b1, q1, A1, c1, x1, rfl, hd1, m1.put DB _ _ _ _ _, by go_grown⟩

set_option maxRecDepth 100000 in
set_option maxHeartbeats 4000000 in
theorem dShift_no (h : Lv w A n c l) (hn : n ≤ 4096) (ho : okE x = false) (k : Int) :
    Calls Tryz.prog 44 #[dyV b A n c x, .int .i64 k] w (DyK zeroN 2 w) := by
  have PB := Blk.new w [.bool b, .slice A n c, .int .i64 x] 24
  have KB := Blk.new (w.alloc (.cells #[.bool b, .slice A n c, .int .i64 x] 24)) [.int .i64 k] 3
  simp only [World.size_alloc] at KB
  replace PB := Blk.alloc PB (.cells #[.int .i64 k] 3)
  have DB := Blk.new ((w.alloc (.cells #[.bool b, .slice A n c, .int .i64 x] 24)).alloc (.cells #[.int .i64 k] 3)) [.bool false, .slice none 0 0, .int .i64 0] 24
  simp only [World.size_alloc] at DB
  replace PB := Blk.alloc PB (.cells #[.bool false, .slice none 0 0, .int .i64 0] 24)
  replace KB := Blk.alloc KB (.cells #[.bool false, .slice none 0 0, .int .i64 0] 24)
  have bw : Below w.heap.size w (((w.alloc (.cells #[.bool b, .slice A n c, .int .i64 x] 24)).alloc (.cells #[.int .i64 k] 3)).alloc (.cells #[.bool false, .slice none 0 0, .int .i64 0] 24)) := by go_grown
  have PB_0 := Blk.cell PB 0 rfl
  have PB_1 := Blk.cell PB 1 rfl
  have PB_2 := Blk.cell PB 2 rfl
  have PB_f0 := Blk.free PB 0
  have PB_f1 := Blk.free PB 1
  have PB_f2 := Blk.free PB 2
  have KB_0 := Blk.cell KB 0 rfl
  have KB_f0 := Blk.free KB 0
  have DB_0 := Blk.cell DB 0 rfl
  have DB_1 := Blk.cell DB 1 rfl
  have DB_2 := Blk.cell DB 2 rfl
  have DB_f0 := Blk.free DB 0
  have DB_f1 := Blk.free DB 1
  have DB_f2 := Blk.free DB 2
  go_enter Tryz.func44, Tryz.ntmps44
  go_wp2_with fail
  with_reducible refine (handed_no (b := b) (x := x) (h.on (by go_grown)) hn ho _).mono ?_
  rintro e w1 ⟨b1, q1, A1, c1, x1, rfl, hd1, m1, hb⟩
  clear PB_0 PB_1 PB_2 PB_f0 PB_f1 PB_f2
  clear KB_0 KB_f0
  clear DB_0 DB_1 DB_2 DB_f0 DB_f1 DB_f2
  have hs1 := hb.size
  try simp only [World.size_alloc, World.size_setCell] at hs1
  replace bw : Below w.heap.size w w1 := dy_end (by go_grown) hb
  replace PB := Blk.on PB hb
  replace KB := Blk.on KB hb
  replace DB := Blk.on DB hb
  clear hb
  have PB_0 := Blk.cell PB 0 rfl
  have PB_1 := Blk.cell PB 1 rfl
  have PB_2 := Blk.cell PB 2 rfl
  have PB_f0 := Blk.free PB 0
  have PB_f1 := Blk.free PB 1
  have PB_f2 := Blk.free PB 2
  have KB_0 := Blk.cell KB 0 rfl
  have KB_f0 := Blk.free KB 0
  have DB_0 := Blk.cell DB 0 rfl
  have DB_1 := Blk.cell DB 1 rfl
  have DB_2 := Blk.cell DB 2 rfl
  have DB_f0 := Blk.free DB 0
  have DB_f1 := Blk.free DB 1
  have DB_f2 := Blk.free DB 2
  go_wp2_with fail
  refine bodyPost_ret (v := .tuple #[dyV b1 A1 q1.length c1 x1, .int .i64 2]) (by simp [results, Tryz.results44, go_sem, DB_0, DB_1, DB_2]) rfl ?_
  exact ⟨b1, q1, A1, c1, x1, rfl, hd1, m1.put DB _ _ _ _ _, by go_grown⟩

end
end Go.Proofs.YtknomchkfamajaaGreatDoor
