/-
  Layer 11, walks: a reflection made and done, by the program. (Written by wip/tools/gen_bpc.py.)
-/
import Derived.Test.YtbaeabmmokgomaaNP1
import Derived.Test.YtbaeabmmokgomaaNP2
namespace Go.Proofs.Ytbaeabmmokgomaa
open Go.RowKit Go.Bw
set_option linter.unusedVariables false
set_option linter.unusedSimpArgs false
attribute [local go_sem] run_store_float
/-- what the closure answers -/
def DoP (w : World) (ba bs m n N i : Nat) (X : List Int) (F : List Int → Option Nat → Nat → Option Nat) (e : Ending) (w' : World) : Prop :=
  ∃ (gv t1 be : Nat) (v : List Int) (A3 : Option Addr) (c3 : Nat) (L3 : List Int) (s3 g3 cap3 hr : Nat) (Wm W8 : World), e = .returned (.tuple #[rV (some ⟨gv, 0, none⟩) i i t1, .float .f64 be, .int .i64 0]) ∧ FL w' (some ⟨gv, 0, none⟩) i i v ∧ (w.heap.size ≤ gv ∧ gv < w'.heap.size) ∧ Is v i (mkV X) ∧ af t1 = mkT X ∧ af be = mkB X ∧ t1 ≤ 18446744073709551615 ∧ be ≤ 18446744073709551615 ∧
    FL w' A3 N c3 L3 ∧ (∀ x, A3 = some x → w.heap.size ≤ x.block ∧ x.block < w'.heap.size) ∧ Is L3 N (F v (af t1)) ∧ Mbx w' ba m n A3 N c3 ∧ Vbx w' bs (Vu.all s3 m n) ∧ St w' w.heap.size s3 g3 cap3 n L3 ∧ w.grownBy Wm (some ba) ∧ Wm.grownBy W8 (some bs) ∧ W8.grownBy w' (some hr) ∧ w.heap.size ≤ hr
set_option maxRecDepth 100000 in
set_option maxHeartbeats 16000000 in
theorem do_left {w : World} {AX A : Option Addr} {m n N c i cX ba bs p f : Nat} {X l : List Int} {v0 : Vu} (hX : FL w AX i cX X) (hi0 : 0 < i) (hi5 : i ≤ 512) (h : FL w A N c l) (hN : N = m * n) (hm : m ≤ 512) (hn : n ≤ 512) (hp : p + i ≤ m) (hf : f ≤ n) (xa : Mbx w ba m n A N c) (xs : Vbx w bs v0) (hne : ba ≠ bs) (hab : ∀ x, A = some x → x.block < w.heap.size) :
    Calls Try.prog 27 #[.func (.func 30) #[] #[], .int .i64 p, .int .i64 f, .slice AX i cX, .pointer (some ⟨ba, 0, none⟩), .pointer (some ⟨bs, 0, none⟩)] w (DoP w ba bs m n N i X (fun v t => tg (lP (eqA t (some 0)) p i f (n - f)) (lF l v n p i t) l n)) := by
  have h9A := hab
  have n4 : N ≤ 262144 := by rw [hN]; exact Nat.le_trans (Nat.mul_le_mul hm hn) (by decide)
  have bz := (Below.refl _ w).alloc (Nat.le_refl _) (.cells #[.slice none 0 0, .float .f64 0] 51)
  have DR := Blk.new w [.slice none 0 0, .float .f64 0] 51
  have hr1 := Lib.hid (World.size_alloc w (.cells #[.slice none 0 0, .float .f64 0] 51))
  have la := Blk.lt xa
  have ls := Blk.lt xs
  replace hX := hX.on bz
  replace h := h.on bz
  replace xa := Blk.on xa bz
  replace xs := Blk.on xs bz
  have HN := Lib.hid hN
  clear hN
  go_enter Try.func27, Try.ntmps27
  go_upto_region 1 with fail
  generalize w.alloc (.cells #[.slice none 0 0, .float .f64 0] 51) = W1 at DR bz hX h xa xs hr1 ⊢
  have pk := gMake_any hX hi0 (by omega)
  obtain ⟨r0, r1, f0, f1⟩ := Rbx.cells DR
  go_wp2_with fail
  with_reducible refine pk.mono ?_
  rintro e w2 ⟨gv, t1, be, v, rfl, RV, hgv, IV, hmt, hmb, bt, bb, hb⟩
  clear pk r0 r1 f0 f1 hX
  replace DR := DR.on hb
  replace h := h.on hb
  replace xa := Blk.on xa hb
  replace xs := Blk.on xs hb
  replace bz := bz.trans (hb.mono bz.size)
  have hs2 := Lib.hid hb.size
  clear hb
  have FV := RV.fl IV.wd (by rw [IV.len]; unfold maxLen; omega)
  rw [IV.len] at FV
  have lv := RV.lt
  have HIV := Lib.hid IV
  have HMT := Lib.hid hmt
  have HMB := Lib.hid hmb
  have hvr : Hid (w.heap.size < gv) := Lib.hid (by have := hr1.out; omega)
  clear IV hmt hmb RV
  obtain ⟨r0, r1, f0, f1⟩ := Rbx.cells DR
  have hgr : w2.grownBy ((w2.setCell ⟨w.heap.size, 0, none⟩ (.slice (some ⟨gv, 0, none⟩) i i)).setCell ⟨w.heap.size, 1, none⟩ (.float .f64 t1)) (some w.heap.size) := grown_setCell (grown_setCell (World.grownBy.refl w2 _) _ _) _ _
  have DR2 := Blk.set_ (Blk.set_ DR 0 (.slice (some ⟨gv, 0, none⟩) i i)) 1 (.float .f64 t1)
  have FV2 := FV.farB hgr (fun x q => by injection q with q; subst q; have := hvr.out; show gv ≠ _; omega)
  have bz2 := bz.grown hgr bz.size (fun b q => by injection q with q; omega)
  have xa2 := Blk.grown xa hgr (by simp; omega)
  have xs2 := Blk.grown xs hgr (by simp; omega)
  have h2 := fl_far9 h hgr (fun x q => by intro e9; injection e9 with e9; have := h9A x q; omega)
  have hsz2 := Lib.hid (Nat.le_trans lv hgr.size)
  clear h hgr DR FV bz xa xs lv
  go_upto_region 2 with fail
  clear r0 r1 f0 f1
  generalize ((w2.setCell ⟨w.heap.size, 0, none⟩ (.slice (some ⟨gv, 0, none⟩) i i)).setCell ⟨w.heap.size, 1, none⟩ (.float .f64 t1)) = W3 at DR2 FV2 bz2 xa2 xs2 h2 hsz2 ⊢
  have pl := Lib.hid (gLeft_yes (M := m) (q := n) (p := p) (f := f) h2 FV2 bt hm hn HN.out hi0 hp hf (fun x q => by injection q with q; subst q; have := hsz2.out; show gv < _; omega))
  obtain ⟨y0, y1, y2, _, _, _⟩ := Mbx.cells xa2
  obtain ⟨r0, r1, f0, f1⟩ := Rbx.cells DR2
  go_wp2_with fail
  with_reducible refine pl.out.mono ?_
  rintro e w4 ⟨g3, c3, L3, rfl, hO3, I3, hb⟩
  clear pl y0 y1 y2 r0 r1 f0 f1 h2
  replace DR2 := DR2.on hb
  replace xa2 := Blk.on xa2 hb
  replace xs2 := Blk.on xs2 hb
  replace FV2 := FV2.on hb
  replace bz2 := bz2.trans (hb.mono bz2.size)
  have hs4 := Lib.hid hb.size
  clear hb
  have HI3 := Lib.hid I3
  have F3 := hO3.fl I3.wd
  rw [I3.len] at F3
  have hg3 := hO3.gt rfl
  have hA3 : Hid (w.heap.size < g3 ∧ g3 < w4.heap.size) := Lib.hid ⟨by have h9 : W3.heap.size ≤ g3 := hg3.1; have := bz2.size; have := hsz2.out; have := hvr.out; omega, hg3.2⟩
  clear I3 hO3 hg3
  obtain ⟨y0, y1, y2, y3, y4, y5⟩ := Mbx.cells xa2
  have hga : w4.grownBy (((w4.setCell ⟨ba, 0, none⟩ (.int .i64 m)).setCell ⟨ba, 1, none⟩ (.int .i64 n)).setCell ⟨ba, 2, none⟩ (.slice (some ⟨g3, 0, none⟩) N c3)) (some ba) := grown_setCell (grown_setCell (grown_setCell (World.grownBy.refl w4 _) 0 _) 1 _) 2 _
  have Hg1 : Hid (w.grownBy (((w4.setCell ⟨ba, 0, none⟩ (.int .i64 m)).setCell ⟨ba, 1, none⟩ (.int .i64 n)).setCell ⟨ba, 2, none⟩ (.slice (some ⟨g3, 0, none⟩) N c3)) (some ba)) := Lib.hid (grown_setCell (grown_setCell (grown_setCell (grown_below bz2 (some ba)) 0 _) 1 _) 2 _)
  have xa5 := Mbx.put xa2 m n (some ⟨g3, 0, none⟩) N c3
  have xs5 := Blk.grown xs2 hga (by simp; omega)
  have DR5 := Blk.grown DR2 hga (by simp; omega)
  have FV5 := FV2.farB hga (fun x q => by injection q with q; subst q; have := hvr.out; show gv ≠ _; omega)
  have F5 := F3.farB hga (fun x q => by injection q with q; subst q; have := hA3.out; show g3 ≠ _; omega)
  have hs5 := Lib.hid hga.size
  have HA5 : Hid (w.heap.size < g3 ∧ g3 < ((((w4.setCell ⟨ba, 0, none⟩ (.int .i64 m)).setCell ⟨ba, 1, none⟩ (.int .i64 n)).setCell ⟨ba, 2, none⟩ (.slice (some ⟨g3, 0, none⟩) N c3))).heap.size) := Lib.hid ⟨hA3.out.1, Nat.lt_of_lt_of_le hA3.out.2 hs5.out⟩
  have HZ5 : Hid (gv < ((((w4.setCell ⟨ba, 0, none⟩ (.int .i64 m)).setCell ⟨ba, 1, none⟩ (.int .i64 n)).setCell ⟨ba, 2, none⟩ (.slice (some ⟨g3, 0, none⟩) N c3))).heap.size ∧ w.heap.size < ((((w4.setCell ⟨ba, 0, none⟩ (.int .i64 m)).setCell ⟨ba, 1, none⟩ (.int .i64 n)).setCell ⟨ba, 2, none⟩ (.slice (some ⟨g3, 0, none⟩) N c3))).heap.size) := Lib.hid ⟨by have := hsz2.out; have := hs4.out; have := hs5.out; omega, by have := HA5.out; omega⟩
  clear hga DR2 xa2 xs2 FV2 F3 bz2 hA3 hs5 hs4 hsz2
  go_upto_region 5 with fail
  clear y0 y1 y2 y3 y4 y5
  generalize (((w4.setCell ⟨ba, 0, none⟩ (.int .i64 m)).setCell ⟨ba, 1, none⟩ (.int .i64 n)).setCell ⟨ba, 2, none⟩ (.slice (some ⟨g3, 0, none⟩) N c3)) = W5 at Hg1 xa5 xs5 DR5 FV5 F5 HA5 HZ5 ⊢
  obtain ⟨y0, y1, y2, y3, y4, y5⟩ := Mbx.cells xa5
  have po := Lib.hid (Of_yes F5 (R := (m : Int)) (C := (n : Int)) (decide_eq_true ⟨by omega, by omega, by omega, by omega⟩) (by rw [HN.out]; push_cast; rfl))
  go_wp2_with fail
  with_reducible refine po.out.mono ?_
  rintro e w6 ⟨s6, g6, cap6, rfl, S6, hb⟩
  rw [Int.toNat_natCast] at S6
  clear po y0 y1 y2 y3 y4 y5
  replace DR5 := DR5.on hb
  replace xa5 := Blk.on xa5 hb
  replace xs5 := Blk.on xs5 hb
  replace FV5 := FV5.on hb
  replace F5 := F5.on hb
  have hs6 := Lib.hid hb.size
  have hg6 : W5.heap.size ≤ g6 ∧ g6 < w6.heap.size := S6.own.gt rfl
  have hv6 : W5.heap.size ≤ s6 := S6.lo
  obtain ⟨k0, k1, k2, k3, k4, k5, k6, k7, k8⟩ := Vbx.cells xs5
  obtain ⟨f0, f1, f2, f3, f4, f5, f6, f7, f8⟩ := Vbx.free xs5
  have hgs := set9_grown9 w6 bs (.pointer (Vu.all s6 (m : Int) (n : Int)).p) (.int .i64 (Vu.all s6 (m : Int) (n : Int)).f0) (.int .i64 (Vu.all s6 (m : Int) (n : Int)).f1) (.int .i64 (Vu.all s6 (m : Int) (n : Int)).d0) (.int .i64 (Vu.all s6 (m : Int) (n : Int)).d1) (.int .i64 (Vu.all s6 (m : Int) (n : Int)).r0) (.int .i64 (Vu.all s6 (m : Int) (n : Int)).r1) (.int .i64 (Vu.all s6 (m : Int) (n : Int)).R) (.int .i64 (Vu.all s6 (m : Int) (n : Int)).C)
  have Hg2 : Hid (W5.grownBy (((((((((w6.setCell ⟨bs, 0, none⟩ (.pointer (Vu.all s6 (m : Int) (n : Int)).p)).setCell ⟨bs, 1, none⟩ (.int .i64 (Vu.all s6 (m : Int) (n : Int)).f0)).setCell ⟨bs, 2, none⟩ (.int .i64 (Vu.all s6 (m : Int) (n : Int)).f1)).setCell ⟨bs, 3, none⟩ (.int .i64 (Vu.all s6 (m : Int) (n : Int)).d0)).setCell ⟨bs, 4, none⟩ (.int .i64 (Vu.all s6 (m : Int) (n : Int)).d1)).setCell ⟨bs, 5, none⟩ (.int .i64 (Vu.all s6 (m : Int) (n : Int)).r0)).setCell ⟨bs, 6, none⟩ (.int .i64 (Vu.all s6 (m : Int) (n : Int)).r1)).setCell ⟨bs, 7, none⟩ (.int .i64 (Vu.all s6 (m : Int) (n : Int)).R)).setCell ⟨bs, 8, none⟩ (.int .i64 (Vu.all s6 (m : Int) (n : Int)).C)) (some bs)) := Lib.hid (grown_trans (grown_below hb _) hgs)
  have xs7 := Vbx.put xs5 (Vu.all s6 m n)
  have xa7 := Blk.grown xa5 hgs (by simp; omega)
  have DR7 := Blk.grown DR5 hgs (by simp; omega)
  have FV7 := FV5.farB hgs (fun x q => by injection q with q; subst q; have := hvr.out; show gv ≠ _; omega)
  have F7 := F5.farB hgs (fun x q => by injection q with q; subst q; have := HA5.out; show g3 ≠ _; omega)
  have S7 := S6.farG9 hgs (by have := HZ5.out; simp; omega) (by have := HZ5.out; simp; omega)
  have hs7 := Lib.hid hgs.size
  clear hb hgs xs5 xa5 DR5 FV5 F5 S6
  go_upto_region 8 with fail
  clear k0 k1 k2 k3 k4 k5 k6 k7 k8 f0 f1 f2 f3 f4 f5 f6 f7 f8
  generalize (((((((((w6.setCell ⟨bs, 0, none⟩ (.pointer (Vu.all s6 (m : Int) (n : Int)).p)).setCell ⟨bs, 1, none⟩ (.int .i64 (Vu.all s6 (m : Int) (n : Int)).f0)).setCell ⟨bs, 2, none⟩ (.int .i64 (Vu.all s6 (m : Int) (n : Int)).f1)).setCell ⟨bs, 3, none⟩ (.int .i64 (Vu.all s6 (m : Int) (n : Int)).d0)).setCell ⟨bs, 4, none⟩ (.int .i64 (Vu.all s6 (m : Int) (n : Int)).d1)).setCell ⟨bs, 5, none⟩ (.int .i64 (Vu.all s6 (m : Int) (n : Int)).r0)).setCell ⟨bs, 6, none⟩ (.int .i64 (Vu.all s6 (m : Int) (n : Int)).r1)).setCell ⟨bs, 7, none⟩ (.int .i64 (Vu.all s6 (m : Int) (n : Int)).R)).setCell ⟨bs, 8, none⟩ (.int .i64 (Vu.all s6 (m : Int) (n : Int)).C)) = W7 at Hg2 xs7 xa7 DR7 FV7 F7 S7 hs7 ⊢
  obtain ⟨r0, r1, f0, f1⟩ := Rbx.cells DR7
  go_wp2_with fail
  have hgr : W7.grownBy ((W7.setCell ⟨w.heap.size, 0, none⟩ (.slice (some ⟨gv, 0, none⟩) i i)).setCell ⟨w.heap.size, 1, none⟩ (.float .f64 t1)) (some w.heap.size) := grown_setCell (grown_setCell (World.grownBy.refl W7 _) _ _) _ _
  have DY := Blk.set_ (Blk.set_ DR7 0 (.slice (some ⟨gv, 0, none⟩) i i)) 1 (.float .f64 t1)
  have x0 := Blk.cell DY 0 rfl
  have x1 := Blk.cell DY 1 rfl
  have hz := hgr.size
  refine bodyPost_ret (v := .tuple #[rV (some ⟨gv, 0, none⟩) i i t1, .float .f64 be, .int .i64 0]) (by simp [results, Try.results27, go_sem, x0, x1]) rfl ?_
  have q6 := hs6.out
  have q7 := hs7.out
  have q5 := HZ5.out
  have q3 := HA5.out
  have qv := hvr.out
  exact ⟨gv, t1, be, v, some ⟨g3, 0, none⟩, c3, L3, s6, g6, cap6, w.heap.size, W5, W7, rfl, FV7.farB hgr (fun x q => by injection q with q; subst q; show gv ≠ _; omega), ⟨by omega, by omega⟩, HIV.out, HMT.out, HMB.out, bt, bb, F7.farB hgr (fun x q => by injection q with q; subst q; show g3 ≠ _; omega), (fun x q => by injection q with q; subst q; exact ⟨by show _ ≤ g3; omega, by show g3 < _; omega⟩), HI3.out, Blk.grown xa7 hgr (by simp; omega), Blk.grown xs7 hgr (by simp; omega), (S7.farG9 hgr (by simp; omega) (by simp; omega)).lower (by omega), Hg1.out, Hg2.out, hgr, Nat.le_refl _⟩
set_option maxRecDepth 100000 in
set_option maxHeartbeats 16000000 in
theorem do_right {w : World} {AX A : Option Addr} {m n N c i cX ba bs p f : Nat} {X l : List Int} {v0 : Vu} (hX : FL w AX i cX X) (hi0 : 0 < i) (hi5 : i ≤ 512) (h : FL w A N c l) (hN : N = m * n) (hm : m ≤ 512) (hn : n ≤ 512) (hp : p + i ≤ n) (hf : f ≤ m) (xa : Mbx w ba m n A N c) (xs : Vbx w bs v0) (hne : ba ≠ bs) (hab : ∀ x, A = some x → x.block < w.heap.size) :
    Calls Try.prog 27 #[.func (.func 35) #[] #[], .int .i64 p, .int .i64 f, .slice AX i cX, .pointer (some ⟨ba, 0, none⟩), .pointer (some ⟨bs, 0, none⟩)] w (DoP w ba bs m n N i X (fun v t => tg (rP (eqA t (some 0)) p i f (m - f)) (rF l v n p i t) l n)) := by
  have h9A := hab
  have n4 : N ≤ 262144 := by rw [hN]; exact Nat.le_trans (Nat.mul_le_mul hm hn) (by decide)
  have bz := (Below.refl _ w).alloc (Nat.le_refl _) (.cells #[.slice none 0 0, .float .f64 0] 51)
  have DR := Blk.new w [.slice none 0 0, .float .f64 0] 51
  have hr1 := Lib.hid (World.size_alloc w (.cells #[.slice none 0 0, .float .f64 0] 51))
  have la := Blk.lt xa
  have ls := Blk.lt xs
  replace hX := hX.on bz
  replace h := h.on bz
  replace xa := Blk.on xa bz
  replace xs := Blk.on xs bz
  have HN := Lib.hid hN
  clear hN
  go_enter Try.func27, Try.ntmps27
  go_upto_region 1 with fail
  generalize w.alloc (.cells #[.slice none 0 0, .float .f64 0] 51) = W1 at DR bz hX h xa xs hr1 ⊢
  have pk := gMake_any hX hi0 (by omega)
  obtain ⟨r0, r1, f0, f1⟩ := Rbx.cells DR
  go_wp2_with fail
  with_reducible refine pk.mono ?_
  rintro e w2 ⟨gv, t1, be, v, rfl, RV, hgv, IV, hmt, hmb, bt, bb, hb⟩
  clear pk r0 r1 f0 f1 hX
  replace DR := DR.on hb
  replace h := h.on hb
  replace xa := Blk.on xa hb
  replace xs := Blk.on xs hb
  replace bz := bz.trans (hb.mono bz.size)
  have hs2 := Lib.hid hb.size
  clear hb
  have FV := RV.fl IV.wd (by rw [IV.len]; unfold maxLen; omega)
  rw [IV.len] at FV
  have lv := RV.lt
  have HIV := Lib.hid IV
  have HMT := Lib.hid hmt
  have HMB := Lib.hid hmb
  have hvr : Hid (w.heap.size < gv) := Lib.hid (by have := hr1.out; omega)
  clear IV hmt hmb RV
  obtain ⟨r0, r1, f0, f1⟩ := Rbx.cells DR
  have hgr : w2.grownBy ((w2.setCell ⟨w.heap.size, 0, none⟩ (.slice (some ⟨gv, 0, none⟩) i i)).setCell ⟨w.heap.size, 1, none⟩ (.float .f64 t1)) (some w.heap.size) := grown_setCell (grown_setCell (World.grownBy.refl w2 _) _ _) _ _
  have DR2 := Blk.set_ (Blk.set_ DR 0 (.slice (some ⟨gv, 0, none⟩) i i)) 1 (.float .f64 t1)
  have FV2 := FV.farB hgr (fun x q => by injection q with q; subst q; have := hvr.out; show gv ≠ _; omega)
  have bz2 := bz.grown hgr bz.size (fun b q => by injection q with q; omega)
  have xa2 := Blk.grown xa hgr (by simp; omega)
  have xs2 := Blk.grown xs hgr (by simp; omega)
  have h2 := fl_far9 h hgr (fun x q => by intro e9; injection e9 with e9; have := h9A x q; omega)
  have hsz2 := Lib.hid (Nat.le_trans lv hgr.size)
  clear h hgr DR FV bz xa xs lv
  go_upto_region 2 with fail
  clear r0 r1 f0 f1
  generalize ((w2.setCell ⟨w.heap.size, 0, none⟩ (.slice (some ⟨gv, 0, none⟩) i i)).setCell ⟨w.heap.size, 1, none⟩ (.float .f64 t1)) = W3 at DR2 FV2 bz2 xa2 xs2 h2 hsz2 ⊢
  have pl := Lib.hid (gRight_yes (M := m) (q := n) (p := p) (f := f) h2 FV2 bt hm hn HN.out hi0 hp hf (fun x q => by injection q with q; subst q; have := hsz2.out; show gv < _; omega))
  obtain ⟨y0, y1, y2, _, _, _⟩ := Mbx.cells xa2
  obtain ⟨r0, r1, f0, f1⟩ := Rbx.cells DR2
  go_wp2_with fail
  with_reducible refine pl.out.mono ?_
  rintro e w4 ⟨g3, c3, L3, rfl, hO3, I3, hb⟩
  clear pl y0 y1 y2 r0 r1 f0 f1 h2
  replace DR2 := DR2.on hb
  replace xa2 := Blk.on xa2 hb
  replace xs2 := Blk.on xs2 hb
  replace FV2 := FV2.on hb
  replace bz2 := bz2.trans (hb.mono bz2.size)
  have hs4 := Lib.hid hb.size
  clear hb
  have HI3 := Lib.hid I3
  have F3 := hO3.fl I3.wd
  rw [I3.len] at F3
  have hg3 := hO3.gt rfl
  have hA3 : Hid (w.heap.size < g3 ∧ g3 < w4.heap.size) := Lib.hid ⟨by have h9 : W3.heap.size ≤ g3 := hg3.1; have := bz2.size; have := hsz2.out; have := hvr.out; omega, hg3.2⟩
  clear I3 hO3 hg3
  obtain ⟨y0, y1, y2, y3, y4, y5⟩ := Mbx.cells xa2
  have hga : w4.grownBy (((w4.setCell ⟨ba, 0, none⟩ (.int .i64 m)).setCell ⟨ba, 1, none⟩ (.int .i64 n)).setCell ⟨ba, 2, none⟩ (.slice (some ⟨g3, 0, none⟩) N c3)) (some ba) := grown_setCell (grown_setCell (grown_setCell (World.grownBy.refl w4 _) 0 _) 1 _) 2 _
  have Hg1 : Hid (w.grownBy (((w4.setCell ⟨ba, 0, none⟩ (.int .i64 m)).setCell ⟨ba, 1, none⟩ (.int .i64 n)).setCell ⟨ba, 2, none⟩ (.slice (some ⟨g3, 0, none⟩) N c3)) (some ba)) := Lib.hid (grown_setCell (grown_setCell (grown_setCell (grown_below bz2 (some ba)) 0 _) 1 _) 2 _)
  have xa5 := Mbx.put xa2 m n (some ⟨g3, 0, none⟩) N c3
  have xs5 := Blk.grown xs2 hga (by simp; omega)
  have DR5 := Blk.grown DR2 hga (by simp; omega)
  have FV5 := FV2.farB hga (fun x q => by injection q with q; subst q; have := hvr.out; show gv ≠ _; omega)
  have F5 := F3.farB hga (fun x q => by injection q with q; subst q; have := hA3.out; show g3 ≠ _; omega)
  have hs5 := Lib.hid hga.size
  have HA5 : Hid (w.heap.size < g3 ∧ g3 < ((((w4.setCell ⟨ba, 0, none⟩ (.int .i64 m)).setCell ⟨ba, 1, none⟩ (.int .i64 n)).setCell ⟨ba, 2, none⟩ (.slice (some ⟨g3, 0, none⟩) N c3))).heap.size) := Lib.hid ⟨hA3.out.1, Nat.lt_of_lt_of_le hA3.out.2 hs5.out⟩
  have HZ5 : Hid (gv < ((((w4.setCell ⟨ba, 0, none⟩ (.int .i64 m)).setCell ⟨ba, 1, none⟩ (.int .i64 n)).setCell ⟨ba, 2, none⟩ (.slice (some ⟨g3, 0, none⟩) N c3))).heap.size ∧ w.heap.size < ((((w4.setCell ⟨ba, 0, none⟩ (.int .i64 m)).setCell ⟨ba, 1, none⟩ (.int .i64 n)).setCell ⟨ba, 2, none⟩ (.slice (some ⟨g3, 0, none⟩) N c3))).heap.size) := Lib.hid ⟨by have := hsz2.out; have := hs4.out; have := hs5.out; omega, by have := HA5.out; omega⟩
  clear hga DR2 xa2 xs2 FV2 F3 bz2 hA3 hs5 hs4 hsz2
  go_upto_region 5 with fail
  clear y0 y1 y2 y3 y4 y5
  generalize (((w4.setCell ⟨ba, 0, none⟩ (.int .i64 m)).setCell ⟨ba, 1, none⟩ (.int .i64 n)).setCell ⟨ba, 2, none⟩ (.slice (some ⟨g3, 0, none⟩) N c3)) = W5 at Hg1 xa5 xs5 DR5 FV5 F5 HA5 HZ5 ⊢
  obtain ⟨y0, y1, y2, y3, y4, y5⟩ := Mbx.cells xa5
  have po := Lib.hid (Of_yes F5 (R := (m : Int)) (C := (n : Int)) (decide_eq_true ⟨by omega, by omega, by omega, by omega⟩) (by rw [HN.out]; push_cast; rfl))
  go_wp2_with fail
  with_reducible refine po.out.mono ?_
  rintro e w6 ⟨s6, g6, cap6, rfl, S6, hb⟩
  rw [Int.toNat_natCast] at S6
  clear po y0 y1 y2 y3 y4 y5
  replace DR5 := DR5.on hb
  replace xa5 := Blk.on xa5 hb
  replace xs5 := Blk.on xs5 hb
  replace FV5 := FV5.on hb
  replace F5 := F5.on hb
  have hs6 := Lib.hid hb.size
  have hg6 : W5.heap.size ≤ g6 ∧ g6 < w6.heap.size := S6.own.gt rfl
  have hv6 : W5.heap.size ≤ s6 := S6.lo
  obtain ⟨k0, k1, k2, k3, k4, k5, k6, k7, k8⟩ := Vbx.cells xs5
  obtain ⟨f0, f1, f2, f3, f4, f5, f6, f7, f8⟩ := Vbx.free xs5
  have hgs := set9_grown9 w6 bs (.pointer (Vu.all s6 (m : Int) (n : Int)).p) (.int .i64 (Vu.all s6 (m : Int) (n : Int)).f0) (.int .i64 (Vu.all s6 (m : Int) (n : Int)).f1) (.int .i64 (Vu.all s6 (m : Int) (n : Int)).d0) (.int .i64 (Vu.all s6 (m : Int) (n : Int)).d1) (.int .i64 (Vu.all s6 (m : Int) (n : Int)).r0) (.int .i64 (Vu.all s6 (m : Int) (n : Int)).r1) (.int .i64 (Vu.all s6 (m : Int) (n : Int)).R) (.int .i64 (Vu.all s6 (m : Int) (n : Int)).C)
  have Hg2 : Hid (W5.grownBy (((((((((w6.setCell ⟨bs, 0, none⟩ (.pointer (Vu.all s6 (m : Int) (n : Int)).p)).setCell ⟨bs, 1, none⟩ (.int .i64 (Vu.all s6 (m : Int) (n : Int)).f0)).setCell ⟨bs, 2, none⟩ (.int .i64 (Vu.all s6 (m : Int) (n : Int)).f1)).setCell ⟨bs, 3, none⟩ (.int .i64 (Vu.all s6 (m : Int) (n : Int)).d0)).setCell ⟨bs, 4, none⟩ (.int .i64 (Vu.all s6 (m : Int) (n : Int)).d1)).setCell ⟨bs, 5, none⟩ (.int .i64 (Vu.all s6 (m : Int) (n : Int)).r0)).setCell ⟨bs, 6, none⟩ (.int .i64 (Vu.all s6 (m : Int) (n : Int)).r1)).setCell ⟨bs, 7, none⟩ (.int .i64 (Vu.all s6 (m : Int) (n : Int)).R)).setCell ⟨bs, 8, none⟩ (.int .i64 (Vu.all s6 (m : Int) (n : Int)).C)) (some bs)) := Lib.hid (grown_trans (grown_below hb _) hgs)
  have xs7 := Vbx.put xs5 (Vu.all s6 m n)
  have xa7 := Blk.grown xa5 hgs (by simp; omega)
  have DR7 := Blk.grown DR5 hgs (by simp; omega)
  have FV7 := FV5.farB hgs (fun x q => by injection q with q; subst q; have := hvr.out; show gv ≠ _; omega)
  have F7 := F5.farB hgs (fun x q => by injection q with q; subst q; have := HA5.out; show g3 ≠ _; omega)
  have S7 := S6.farG9 hgs (by have := HZ5.out; simp; omega) (by have := HZ5.out; simp; omega)
  have hs7 := Lib.hid hgs.size
  clear hb hgs xs5 xa5 DR5 FV5 F5 S6
  go_upto_region 8 with fail
  clear k0 k1 k2 k3 k4 k5 k6 k7 k8 f0 f1 f2 f3 f4 f5 f6 f7 f8
  generalize (((((((((w6.setCell ⟨bs, 0, none⟩ (.pointer (Vu.all s6 (m : Int) (n : Int)).p)).setCell ⟨bs, 1, none⟩ (.int .i64 (Vu.all s6 (m : Int) (n : Int)).f0)).setCell ⟨bs, 2, none⟩ (.int .i64 (Vu.all s6 (m : Int) (n : Int)).f1)).setCell ⟨bs, 3, none⟩ (.int .i64 (Vu.all s6 (m : Int) (n : Int)).d0)).setCell ⟨bs, 4, none⟩ (.int .i64 (Vu.all s6 (m : Int) (n : Int)).d1)).setCell ⟨bs, 5, none⟩ (.int .i64 (Vu.all s6 (m : Int) (n : Int)).r0)).setCell ⟨bs, 6, none⟩ (.int .i64 (Vu.all s6 (m : Int) (n : Int)).r1)).setCell ⟨bs, 7, none⟩ (.int .i64 (Vu.all s6 (m : Int) (n : Int)).R)).setCell ⟨bs, 8, none⟩ (.int .i64 (Vu.all s6 (m : Int) (n : Int)).C)) = W7 at Hg2 xs7 xa7 DR7 FV7 F7 S7 hs7 ⊢
  obtain ⟨r0, r1, f0, f1⟩ := Rbx.cells DR7
  go_wp2_with fail
  have hgr : W7.grownBy ((W7.setCell ⟨w.heap.size, 0, none⟩ (.slice (some ⟨gv, 0, none⟩) i i)).setCell ⟨w.heap.size, 1, none⟩ (.float .f64 t1)) (some w.heap.size) := grown_setCell (grown_setCell (World.grownBy.refl W7 _) _ _) _ _
  have DY := Blk.set_ (Blk.set_ DR7 0 (.slice (some ⟨gv, 0, none⟩) i i)) 1 (.float .f64 t1)
  have x0 := Blk.cell DY 0 rfl
  have x1 := Blk.cell DY 1 rfl
  have hz := hgr.size
  refine bodyPost_ret (v := .tuple #[rV (some ⟨gv, 0, none⟩) i i t1, .float .f64 be, .int .i64 0]) (by simp [results, Try.results27, go_sem, x0, x1]) rfl ?_
  have q6 := hs6.out
  have q7 := hs7.out
  have q5 := HZ5.out
  have q3 := HA5.out
  have qv := hvr.out
  exact ⟨gv, t1, be, v, some ⟨g3, 0, none⟩, c3, L3, s6, g6, cap6, w.heap.size, W5, W7, rfl, FV7.farB hgr (fun x q => by injection q with q; subst q; show gv ≠ _; omega), ⟨by omega, by omega⟩, HIV.out, HMT.out, HMB.out, bt, bb, F7.farB hgr (fun x q => by injection q with q; subst q; show g3 ≠ _; omega), (fun x q => by injection q with q; subst q; exact ⟨by show _ ≤ g3; omega, by show g3 < _; omega⟩), HI3.out, Blk.grown xa7 hgr (by simp; omega), Blk.grown xs7 hgr (by simp; omega), (S7.farG9 hgr (by simp; omega) (by simp; omega)).lower (by omega), Hg1.out, Hg2.out, hgr, Nat.le_refl _⟩
end Go.Proofs.Ytbaeabmmokgomaa
