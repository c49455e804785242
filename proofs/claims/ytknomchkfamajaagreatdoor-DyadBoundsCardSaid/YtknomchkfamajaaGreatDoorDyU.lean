/-
  Layer 3, the laws, part one: words of the laws. (Written by wip/tools/gen_dyu.py.)
-/
import Derived.Test.YtknomchkfamajaaGreatDoorDyT
import Derived.Test.YtknomchkfamajaaGreatDoorDyS
import Derived.Lib.QuietBelow
namespace Go.Proofs.YtknomchkfamajaaGreatDoor
open Go.RowKit Go.Sort Go.Bw
set_option linter.unusedVariables false
set_option linter.unusedSimpArgs false

section
variable {b : Bool} {A : Option Addr} {n c : Nat} {x : Int} {l : List Int} {w : World}
variable {b2 : Bool} {A2 : Option Addr} {n2 c2 : Nat} {x2 : Int} {l2 : List Int}
section
variable {d d2 : Nf} (hd : Dn b l x d) (h : Lv w A l.length c l) (hd2 : Dn b2 l2 x2 d2) (h2 : Lv w A2 l2.length c2 l2) (hT : Tab w)
include hd h
theorem dText_dA (hT : Tab w) (ho : okE x = true) (hb : b = false) (he : x = 0) {S : ByteArray} (hS : (⟨(txt d.man).toArray⟩ : ByteArray) = S) :
    Calls Tryz.prog 100 #[dyV b A l.length c x] w fun e w' => e = .returned (.tuple #[.string S, .int .i64 0]) ∧ Below w.heap.size w w' := by
  have e := hd.is h.2.2
  have := dText_A (b := b) (x := x) h hd.2.1 hT ho (by rw [e, hd.neg]; exact hb) (by rw [e, hd.exp]; exact he)
  rw [e, hS] at this
  exact this
theorem dText_dB (hT : Tab w) (hP : PowT w) (ho : okE x = true) (hb : b = false) (he : x ≠ 0) {S : ByteArray} (hS : ((⟨(txt d.man).toArray⟩ : ByteArray) ++ ((⟨#[112]⟩ : ByteArray) ++ ⟨(Lib.itoa d.exp).toArray⟩)) = S) :
    Calls Tryz.prog 100 #[dyV b A l.length c x] w fun e w' => e = .returned (.tuple #[.string S, .int .i64 0]) ∧ Below w.heap.size w w' := by
  have e := hd.is h.2.2
  have := dText_B (b := b) (x := x) h hd.2.1 hT hP ho (by rw [e, hd.neg]; exact hb) (by rw [e, hd.exp]; exact he)
  rw [e, hS] at this
  exact this
theorem dText_dC (hT : Tab w) (hP : PowT w) (ho : okE x = true) (hb : b = true) (he : x ≠ 0) {S : ByteArray} (hS : (((⟨#[45]⟩ : ByteArray) ++ ⟨(txt d.man).toArray⟩) ++ ((⟨#[112]⟩ : ByteArray) ++ ⟨(Lib.itoa d.exp).toArray⟩)) = S) :
    Calls Tryz.prog 100 #[dyV b A l.length c x] w fun e w' => e = .returned (.tuple #[.string S, .int .i64 0]) ∧ Below w.heap.size w w' := by
  have e := hd.is h.2.2
  have := dText_C (b := b) (x := x) h hd.2.1 hT hP ho (by rw [e, hd.neg]; exact hb) (by rw [e, hd.exp]; exact he)
  rw [e, hS] at this
  exact this
theorem dFloat_dn (hT : Tab w) (ho : okE x = true) : Calls Tryz.prog 31 #[dyV b A l.length c x] w fun e w' => e = .returned (.tuple #[.float .f64 (fw d), .int .i64 0]) ∧ Below w.heap.size w w' := by
  have := dFloat_yes (b := b) (x := x) h hd.2.1 hT ho
  rw [hd.is h.2.2] at this
  exact this
theorem dNeg_dn (hT : Tab w) (ho : okE x = true) : Calls Tryz.prog 17 #[dyV b A l.length c x] w (DyK (doneR (negN d)).1 (doneR (negN d)).2 w) := by
  have := dNeg_yes (b := b) (x := x) h hd.2.1 hT ho
  rw [hd.is h.2.2] at this
  exact this
theorem dSign_dn (hT : Tab w) (ho : okE x = true) : Calls Tryz.prog 21 #[dyV b A l.length c x] w fun e w' => e = .returned (.int .i64 (sgn d)) ∧ Below w.heap.size w w' := by
  have := dSign_yes (b := b) (x := x) h hd.2.1 hT ho
  rw [hd.is h.2.2] at this
  exact this
theorem dNorm_dn (hT : Tab w) (ho : okE x = true) : Calls Tryz.prog 16 #[dyV b A l.length c x] w (DyK (doneR d).1 (doneR d).2 w) := by
  have := dNorm_yes (b := b) (x := x) h hd.2.1 hT ho
  rw [hd.is h.2.2] at this
  exact this
include hd2 h2 hT
theorem dAdd_dn (ho : okE x = true) (ho2 : okE x2 = true) (hN : farN d d2 = true ∨ Near d d2) : Calls Tryz.prog 38 #[dyV b A l.length c x, dyV b2 A2 l2.length c2 x2] w (DyK (addR d d2).1 (addR d d2).2 w) := by
  have := dAdd_yes (b := b) (x := x) (b2 := b2) (x2 := x2) h hd.2.1 h2 hd2.2.1 hT ho ho2 (by rw [hd.is h.2.2, hd2.is h2.2.2]; exact hN)
  rw [hd.is h.2.2, hd2.is h2.2.2] at this
  exact this
theorem dSub_dn (ho : okE x = true) (ho2 : okE x2 = true) (hN : farN d (negN d2) = true ∨ Near d (negN d2)) : Calls Tryz.prog 40 #[dyV b A l.length c x, dyV b2 A2 l2.length c2 x2] w (DyK (addR d (negN d2)).1 (addR d (negN d2)).2 w) := by
  have := dSub_yes (b := b) (x := x) (b2 := b2) (x2 := x2) h hd.2.1 h2 hd2.2.1 hT ho ho2 (by rw [hd.is h.2.2, hd2.is h2.2.2]; exact hN)
  rw [hd.is h.2.2, hd2.is h2.2.2] at this
  exact this
theorem dMul_dn (ho : okE x = true) (ho2 : okE x2 = true) (hv : (d.man : Int) * d2.man < 18446744073709551616 ^ 4096) : Calls Tryz.prog 42 #[dyV b A l.length c x, dyV b2 A2 l2.length c2 x2] w (DyK (doneR (mulN d d2)).1 (doneR (mulN d d2)).2 w) := by
  have := dMul_yes (b := b) (x := x) (b2 := b2) (x2 := x2) h hd.2.1 h2 hd2.2.1 hT ho ho2 (by rw [← hd.man h.2.2, ← hd2.man h2.2.2]; exact hv)
  rw [hd.is h.2.2, hd2.is h2.2.2] at this
  exact this
end
set_option maxRecDepth 100000 in
set_option maxHeartbeats 4000000 in
theorem lnum_any (k : Int) (w : World) : Calls Tryz.prog 23 #[.int .i64 k] w fun e w' => e = .returned (.int .i64 k) ∧ w = w' := by
  go_enter Tryz.func23, Tryz.ntmps23
  go_wp2_with fail
  go_ret
  exact ⟨rfl, rfl⟩

set_option maxRecDepth 100000 in
set_option maxHeartbeats 4000000 in
theorem lof_yes (y : Nat) (hn : y ≤ 18446744073709551615) (hc : cls (y : Int) ≤ 3) (hT : Tab w) :
    Calls Tryz.prog 51 #[.float .f64 y] w (DyP (nfl (pneg y) (pman y) (pexp y)) w) := by
  have DB := Blk.new w [.bool false, .slice none 0 0, .int .i64 0] 24
  have bw : Below w.heap.size w (w.alloc (.cells #[.bool false, .slice none 0 0, .int .i64 0] 24)) := by go_grown
  have DB_0 := Blk.cell DB 0 rfl
  have DB_1 := Blk.cell DB 1 rfl
  have DB_2 := Blk.cell DB 2 rfl
  have DB_f0 := Blk.free DB 0
  have DB_f1 := Blk.free DB 1
  have DB_f2 := Blk.free DB 2
  go_enter Tryz.func51, Tryz.ntmps51
  go_wp2_with fail
  with_reducible refine (dOf_yes y hn hc (hT.onD (by go_grown))).mono ?_
  rintro e w1 ⟨b1, q1, A1, c1, x1, rfl, hd1, m1, hb⟩
  clear DB_0 DB_1 DB_2 DB_f0 DB_f1 DB_f2
  have hs1 := hb.size
  try simp only [World.size_alloc, World.size_setCell] at hs1
  replace bw : Below w.heap.size w w1 := dy_end (by go_grown) hb
  replace DB := Blk.on DB hb
  clear hb
  have DB_0 := Blk.cell DB 0 rfl
  have DB_1 := Blk.cell DB 1 rfl
  have DB_2 := Blk.cell DB 2 rfl
  have DB_f0 := Blk.free DB 0
  have DB_f1 := Blk.free DB 1
  have DB_f2 := Blk.free DB 2
  replace m1 := Lv.alloc m1 (.cells #[.bool b1, .slice A1 q1.length c1, .int .i64 x1] 24)
  replace DB := Blk.alloc DB (.cells #[.bool b1, .slice A1 q1.length c1, .int .i64 x1] 24)
  have TB := Blk.new w1 [.bool b1, .slice A1 q1.length c1, .int .i64 x1] 24
  have DB_v0_0 := Blk.cell DB 0 rfl
  have DB_v0_1 := Blk.cell DB 1 rfl
  have DB_v0_2 := Blk.cell DB 2 rfl
  have DB_v0_f0 := Blk.free DB 0
  have DB_v0_f1 := Blk.free DB 1
  have DB_v0_f2 := Blk.free DB 2
  have TB_0 := Blk.cell TB 0 rfl
  have TB_1 := Blk.cell TB 1 rfl
  have TB_2 := Blk.cell TB 2 rfl
  have TB_f0 := Blk.free TB 0
  have TB_f1 := Blk.free TB 1
  have TB_f2 := Blk.free TB 2
  go_wp2_with fail
  refine bodyPost_ret (v := dyV b1 A1 q1.length c1 x1) (by simp [results, Tryz.results51, go_sem, DB_0, DB_1, DB_2, DB_f0, DB_f1, DB_f2, DB_v0_0, DB_v0_1, DB_v0_2, DB_v0_f0, DB_v0_f1, DB_v0_f2]) rfl ?_
  exact ⟨b1, q1, A1, c1, x1, rfl, hd1, m1.put DB _ _ _ _ _, by go_grown⟩

set_option maxRecDepth 100000 in
set_option maxHeartbeats 4000000 in
theorem lhalf_any (k : Int) (w : World) :
    Calls Tryz.prog 53 #[.int .i64 k] w (DyP (ansR false 1 k).1 w) := by
  have DB := Blk.new w [.bool false, .slice none 0 0, .int .i64 0] 24
  have bw : Below w.heap.size w (w.alloc (.cells #[.bool false, .slice none 0 0, .int .i64 0] 24)) := by go_grown
  have DB_0 := Blk.cell DB 0 rfl
  have DB_1 := Blk.cell DB 1 rfl
  have DB_2 := Blk.cell DB 2 rfl
  have DB_f0 := Blk.free DB 0
  have DB_f1 := Blk.free DB 1
  have DB_f2 := Blk.free DB 2
  go_enter Tryz.func53, Tryz.ntmps53
  go_wp2_with fail
  with_reducible refine (dHalf_any k _).mono ?_
  rintro e w1 ⟨b1, q1, A1, c1, x1, rfl, hd1, m1, hb⟩
  clear DB_0 DB_1 DB_2 DB_f0 DB_f1 DB_f2
  have hs1 := hb.size
  try simp only [World.size_alloc, World.size_setCell] at hs1
  replace bw : Below w.heap.size w w1 := dy_end (by go_grown) hb
  replace DB := Blk.on DB hb
  clear hb
  have DB_0 := Blk.cell DB 0 rfl
  have DB_1 := Blk.cell DB 1 rfl
  have DB_2 := Blk.cell DB 2 rfl
  have DB_f0 := Blk.free DB 0
  have DB_f1 := Blk.free DB 1
  have DB_f2 := Blk.free DB 2
  replace m1 := Lv.alloc m1 (.cells #[.bool b1, .slice A1 q1.length c1, .int .i64 x1] 24)
  replace DB := Blk.alloc DB (.cells #[.bool b1, .slice A1 q1.length c1, .int .i64 x1] 24)
  have TB := Blk.new w1 [.bool b1, .slice A1 q1.length c1, .int .i64 x1] 24
  have DB_v0_0 := Blk.cell DB 0 rfl
  have DB_v0_1 := Blk.cell DB 1 rfl
  have DB_v0_2 := Blk.cell DB 2 rfl
  have DB_v0_f0 := Blk.free DB 0
  have DB_v0_f1 := Blk.free DB 1
  have DB_v0_f2 := Blk.free DB 2
  have TB_0 := Blk.cell TB 0 rfl
  have TB_1 := Blk.cell TB 1 rfl
  have TB_2 := Blk.cell TB 2 rfl
  have TB_f0 := Blk.free TB 0
  have TB_f1 := Blk.free TB 1
  have TB_f2 := Blk.free TB 2
  go_wp2_with fail
  refine bodyPost_ret (v := dyV b1 A1 q1.length c1 x1) (by simp [results, Tryz.results53, go_sem, DB_0, DB_1, DB_2, DB_f0, DB_f1, DB_f2, DB_v0_0, DB_v0_1, DB_v0_2, DB_v0_f0, DB_v0_f1, DB_v0_f2]) rfl ?_
  exact ⟨b1, q1, A1, c1, x1, rfl, hd1, m1.put DB _ _ _ _ _, by go_grown⟩

set_option maxRecDepth 100000 in
set_option maxHeartbeats 4000000 in
theorem ltext_A {d : Nf} (hd : Dn b l x d) (h : Lv w A l.length c l) (hT : Tab w) (ho : okE x = true) (hb9 : b = false) (he : x = 0) {S : ByteArray} (hS : (⟨(txt d.man).toArray⟩ : ByteArray) = S) :
    Calls Tryz.prog 56 #[dyV b A l.length c x, .int .i64 0, .string S] w fun e w' => e = .returned (.bool true) ∧ Below w.heap.size w w' := by
  have PB := Blk.new w [.bool b, .slice A l.length c, .int .i64 x] 24
  have bw : Below w.heap.size w (w.alloc (.cells #[.bool b, .slice A l.length c, .int .i64 x] 24)) := by go_grown
  have PB_0 := Blk.cell PB 0 rfl
  have PB_1 := Blk.cell PB 1 rfl
  have PB_2 := Blk.cell PB 2 rfl
  have PB_f0 := Blk.free PB 0
  have PB_f1 := Blk.free PB 1
  have PB_f2 := Blk.free PB 2
  have HS := Lib.hid hS
  clear hS
  have HE := Lib.hid he
  have HB9 := Lib.hid hb9
  clear he hb9
  go_enter Tryz.func56, Tryz.ntmps56
  go_wp2_with fail
  with_reducible refine (dText_dA hd (h.on (by go_grown)) (hT.onD (by go_grown)) ho HB9.out HE.out HS.out).mono ?_
  rintro e w1 ⟨rfl, hb⟩
  clear PB_0 PB_1 PB_2 PB_f0 PB_f1 PB_f2
  have hs1 := hb.size
  try simp only [World.size_alloc, World.size_setCell] at hs1
  replace bw : Below w.heap.size w w1 := dy_end (by go_grown) hb
  replace PB := Blk.on PB hb
  clear hb
  have PB_0 := Blk.cell PB 0 rfl
  have PB_1 := Blk.cell PB 1 rfl
  have PB_2 := Blk.cell PB 2 rfl
  have PB_f0 := Blk.free PB 0
  have PB_f1 := Blk.free PB 1
  have PB_f2 := Blk.free PB 2
  go_wp2_with fail
  with_reducible refine (lnum_any 0 _).mono ?_
  rintro e v0 ⟨rfl, rfl⟩
  go_wp2_with fail
  with_reducible refine (lnum_any 0 _).mono ?_
  rintro e v1 ⟨rfl, rfl⟩
  go_wp2_with fail
  go_ret
  exact ⟨rfl, by go_grown⟩

set_option maxRecDepth 100000 in
set_option maxHeartbeats 4000000 in
theorem ltext_B {d : Nf} (hd : Dn b l x d) (h : Lv w A l.length c l) (hT : Tab w) (hP : PowT w) (ho : okE x = true) (hb9 : b = false) (he : x ≠ 0) {S : ByteArray} (hS : ((⟨(txt d.man).toArray⟩ : ByteArray) ++ ((⟨#[112]⟩ : ByteArray) ++ ⟨(Lib.itoa d.exp).toArray⟩)) = S) :
    Calls Tryz.prog 56 #[dyV b A l.length c x, .int .i64 0, .string S] w fun e w' => e = .returned (.bool true) ∧ Below w.heap.size w w' := by
  have PB := Blk.new w [.bool b, .slice A l.length c, .int .i64 x] 24
  have bw : Below w.heap.size w (w.alloc (.cells #[.bool b, .slice A l.length c, .int .i64 x] 24)) := by go_grown
  have PB_0 := Blk.cell PB 0 rfl
  have PB_1 := Blk.cell PB 1 rfl
  have PB_2 := Blk.cell PB 2 rfl
  have PB_f0 := Blk.free PB 0
  have PB_f1 := Blk.free PB 1
  have PB_f2 := Blk.free PB 2
  have HS := Lib.hid hS
  clear hS
  have HE := Lib.hid he
  have HB9 := Lib.hid hb9
  clear he hb9
  go_enter Tryz.func56, Tryz.ntmps56
  go_wp2_with fail
  with_reducible refine (dText_dB hd (h.on (by go_grown)) (hT.onD (by go_grown)) (hP.on (by go_grown)) ho HB9.out HE.out HS.out).mono ?_
  rintro e w1 ⟨rfl, hb⟩
  clear PB_0 PB_1 PB_2 PB_f0 PB_f1 PB_f2
  have hs1 := hb.size
  try simp only [World.size_alloc, World.size_setCell] at hs1
  replace bw : Below w.heap.size w w1 := dy_end (by go_grown) hb
  replace PB := Blk.on PB hb
  clear hb
  have PB_0 := Blk.cell PB 0 rfl
  have PB_1 := Blk.cell PB 1 rfl
  have PB_2 := Blk.cell PB 2 rfl
  have PB_f0 := Blk.free PB 0
  have PB_f1 := Blk.free PB 1
  have PB_f2 := Blk.free PB 2
  go_wp2_with fail
  with_reducible refine (lnum_any 0 _).mono ?_
  rintro e v0 ⟨rfl, rfl⟩
  go_wp2_with fail
  with_reducible refine (lnum_any 0 _).mono ?_
  rintro e v1 ⟨rfl, rfl⟩
  go_wp2_with fail
  go_ret
  exact ⟨rfl, by go_grown⟩

set_option maxRecDepth 100000 in
set_option maxHeartbeats 4000000 in
theorem ltext_C {d : Nf} (hd : Dn b l x d) (h : Lv w A l.length c l) (hT : Tab w) (hP : PowT w) (ho : okE x = true) (hb9 : b = true) (he : x ≠ 0) {S : ByteArray} (hS : (((⟨#[45]⟩ : ByteArray) ++ ⟨(txt d.man).toArray⟩) ++ ((⟨#[112]⟩ : ByteArray) ++ ⟨(Lib.itoa d.exp).toArray⟩)) = S) :
    Calls Tryz.prog 56 #[dyV b A l.length c x, .int .i64 0, .string S] w fun e w' => e = .returned (.bool true) ∧ Below w.heap.size w w' := by
  have PB := Blk.new w [.bool b, .slice A l.length c, .int .i64 x] 24
  have bw : Below w.heap.size w (w.alloc (.cells #[.bool b, .slice A l.length c, .int .i64 x] 24)) := by go_grown
  have PB_0 := Blk.cell PB 0 rfl
  have PB_1 := Blk.cell PB 1 rfl
  have PB_2 := Blk.cell PB 2 rfl
  have PB_f0 := Blk.free PB 0
  have PB_f1 := Blk.free PB 1
  have PB_f2 := Blk.free PB 2
  have HS := Lib.hid hS
  clear hS
  have HE := Lib.hid he
  have HB9 := Lib.hid hb9
  clear he hb9
  go_enter Tryz.func56, Tryz.ntmps56
  go_wp2_with fail
  with_reducible refine (dText_dC hd (h.on (by go_grown)) (hT.onD (by go_grown)) (hP.on (by go_grown)) ho HB9.out HE.out HS.out).mono ?_
  rintro e w1 ⟨rfl, hb⟩
  clear PB_0 PB_1 PB_2 PB_f0 PB_f1 PB_f2
  have hs1 := hb.size
  try simp only [World.size_alloc, World.size_setCell] at hs1
  replace bw : Below w.heap.size w w1 := dy_end (by go_grown) hb
  replace PB := Blk.on PB hb
  clear hb
  have PB_0 := Blk.cell PB 0 rfl
  have PB_1 := Blk.cell PB 1 rfl
  have PB_2 := Blk.cell PB 2 rfl
  have PB_f0 := Blk.free PB 0
  have PB_f1 := Blk.free PB 1
  have PB_f2 := Blk.free PB 2
  go_wp2_with fail
  with_reducible refine (lnum_any 0 _).mono ?_
  rintro e v0 ⟨rfl, rfl⟩
  go_wp2_with fail
  with_reducible refine (lnum_any 0 _).mono ?_
  rintro e v1 ⟨rfl, rfl⟩
  go_wp2_with fail
  go_ret
  exact ⟨rfl, by go_grown⟩

set_option maxRecDepth 100000 in
set_option maxHeartbeats 4000000 in
theorem lfloat_true {d : Nf} (hd : Dn b l x d) (h : Lv w A l.length c l) (hT : Tab w) (ho : okE x = true) {y : Nat} (hW : fw d = y) :
    Calls Tryz.prog 54 #[dyV b A l.length c x, .int .i64 0, .float .f64 y] w fun e w' => e = .returned (.bool true) ∧ Below w.heap.size w w' := by
  have PB := Blk.new w [.bool b, .slice A l.length c, .int .i64 x] 24
  have bw : Below w.heap.size w (w.alloc (.cells #[.bool b, .slice A l.length c, .int .i64 x] 24)) := by go_grown
  have PB_0 := Blk.cell PB 0 rfl
  have PB_1 := Blk.cell PB 1 rfl
  have PB_2 := Blk.cell PB 2 rfl
  have PB_f0 := Blk.free PB 0
  have PB_f1 := Blk.free PB 1
  have PB_f2 := Blk.free PB 2
  have p1 := fun W (mm : Lv W A l.length c l) (tt : Tab W) => dFloat_dn hd mm tt ho
  rw [hW] at p1
  clear hW
  have hy := run_float64bits y
  go_enter Tryz.func54, Tryz.ntmps54
  go_wp2_with fail
  with_reducible refine (p1 _ (h.on (by go_grown)) (hT.onD (by go_grown))).mono ?_
  rintro e w1 ⟨rfl, hb⟩
  clear PB_0 PB_1 PB_2 PB_f0 PB_f1 PB_f2
  have hs1 := hb.size
  try simp only [World.size_alloc, World.size_setCell] at hs1
  replace bw : Below w.heap.size w w1 := dy_end (by go_grown) hb
  replace PB := Blk.on PB hb
  clear hb
  have PB_0 := Blk.cell PB 0 rfl
  have PB_1 := Blk.cell PB 1 rfl
  have PB_2 := Blk.cell PB 2 rfl
  have PB_f0 := Blk.free PB 0
  have PB_f1 := Blk.free PB 1
  have PB_f2 := Blk.free PB 2
  go_wp2_with fail
  with_reducible refine (lnum_any 0 _).mono ?_
  rintro e v0 ⟨rfl, rfl⟩
  go_wp2_with fail
  with_reducible refine (lnum_any 0 _).mono ?_
  rintro e v1 ⟨rfl, rfl⟩
  go_wp2_with fail
  go_ret
  exact ⟨rfl, by go_grown⟩

end
end Go.Proofs.YtknomchkfamajaaGreatDoor
