/-
  Layer 7: words for the laws that cut; the law ViewSame. (Written by wip/tools/gen_vxt.py.)
-/
import Derived.Test.YtceoefgjjekgaaaVxP
import Derived.Test.YtceoefgjjekgaaaVxQ
namespace Go.Proofs.Ytceoefgjjekgaaa
open Go.RowKit Go.Bw Go.Sort Go.Shelf
set_option linter.unusedVariables false
set_option linter.unusedSimpArgs false

theorem rMat_fl {w : World} {A : Option Addr} {n cd c s B : Nat} {r : Ru} {v : Vu} {K : Int} {l : List Int} (h : Rk w A n cd r v c) (hs : Sr w B A n cd l) (hv : Vk v s c n K) : Calls Try.prog 36 #[r.V] w (MatF w v.R v.C (v.fl c l)) := by
  refine (rMatrix_any h hs hv).mono ?_
  rintro e w1 ⟨A3, c3, rfl, ho, hb⟩
  exact ⟨A3, c3, rfl, ⟨rfl, ho.nums, wd_fl (fun hp => hs.wd) hv.none_⟩, hb⟩
theorem sameL_comm (a b : List Int) : sameL a b = sameL b a := by unfold sameL; congr 1; exact propext eq_comm
theorem sameV_comm (v : Vu) (c : Nat) (l : List Int) (u : Vu) (c2 : Nat) (l2 : List Int) : sameV u c2 l2 v c l = sameV v c l u c2 l2 := by
  unfold sameV
  rw [sameL_comm, show ((u.p == none) != (v.p == none)) = ((v.p == none) != (u.p == none)) by cases (u.p == none) <;> cases (v.p == none) <;> rfl, show (u.R != v.R) = (v.R != u.R) by simp only [bne]; rw [Bool.beq_comm], show (u.C != v.C) = (v.C != u.C) by simp only [bne]; rw [Bool.beq_comm]]
theorem same_want {v : Vu} {c : Nat} {l : List Int} {s2 : Nat} {R2 C2 : Int} {l2 : List Int} (hf : (Vu.all s2 R2 C2).fl C2.toNat l2 = l2) :
    sameV v c l (Vu.all s2 R2 C2) C2.toNat l2 = ((!(v.p == none)) && sameM v.R v.C (v.fl c l) R2 C2 l2) := by
  unfold sameV sameM
  rw [hf]
  have e : ((Vu.all s2 R2 C2).p == none) = false := rfl
  rw [e]
  show (if ((v.p == none) != false || v.R != R2 || v.C != C2) = true then false else sameL (v.fl c l) l2) = (!(v.p == none) && (v.R == R2 && v.C == C2 && sameL (v.fl c l) l2))
  cases (v.p == none) <;> by_cases h1 : v.R = R2 <;> by_cases h2 : v.C = C2 <;> simp [h1, h2]
theorem SL.more {w : World} {B : Nat} {A : Option Addr} {n c : Nat} {ss : List Sp} (h : SL w B A n c ss) : SL w w.heap.size A n c ss := by
  obtain ⟨h1, h2, h3, h4, h5⟩ := h
  refine ⟨h1, h2, h3, Nat.le_refl _, fun hn => ?_⟩
  obtain ⟨ad, e, hb, hc⟩ := h5 hn
  exact ⟨ad, e, Nat.lt_of_lt_of_le hb h4, hc⟩
theorem selfV (v : Vu) (c : Nat) (l : List Int) : sameV v c l v c l = true := by unfold sameV; rw [sameL_refl]; simp

section
variable {w : World} {R C R2 C2 : Int} {A A2 : Option Addr} {n c n2 c2 : Nat} {l l2 : List Int} {A9 : Option Addr} {m c9 : Nat} {ss : List Sp}
set_option maxRecDepth 100000 in
set_option maxHeartbeats 8000000 in
theorem same_1 (h : FL w A n c l) (h2 : FL w A2 n2 c2 l2) (hL : SL w w.heap.size A9 m c9 ss) (hb1 : bigB n = true) :
    Calls Try.prog 8 #[mV R C A n c, mV R2 C2 A2 n2 c2, .slice A9 m c9] w (Ans w (.bool true)) := by
  have pb := fun W => big_any R C A n c h.max W
  have pb2 := fun W => big_any R2 C2 A2 n2 c2 h2.max W
  have pM := fun W => May_any R C A n c W h.max
  have pM2 := fun W => May_any R2 C2 A2 n2 c2 W h2.max
  have hll := h.1
  have hll2 := h2.1
  have hmm9 := hL.2.1
  rw [hb1] at pb
  clear hb1
  have DM := (Blk.new w [.int .i64 R, .int .i64 C, .slice A n c] 24).alloc (.cells #[.int .i64 R2, .int .i64 C2, .slice A2 n2 c2] 24)
  have DN := Blk.new (w.alloc (.cells #[.int .i64 R, .int .i64 C, .slice A n c] 24)) [.int .i64 R2, .int .i64 C2, .slice A2 n2 c2] 24
  rw [World.size_alloc] at DN
  have bz := ((Below.refl _ w).alloc (Nat.le_refl _) (.cells #[.int .i64 R, .int .i64 C, .slice A n c] 24)).alloc (by simp) (.cells #[.int .i64 R2, .int .i64 C2, .slice A2 n2 c2] 24)
  have hF := h.lo.on bz
  have hG := h2.lo.on bz
  replace hL := hL.on bz
  clear h h2
  go_enter Try.func8, Try.ntmps8
  obtain ⟨c0, c1, c2x, f0, f1, f2⟩ := Mbx.cells DM
  obtain ⟨d0, d1, d2, e0, e1, e2⟩ := Mbx.cells DN
  go_wp2_with fail
  with_reducible refine (pb _).mono ?_
  rintro e w1 ⟨rfl, hb⟩
  replace DM := DM.on hb
  replace DN := DN.on hb
  replace hF := hF.on hb
  replace hG := hG.on hb
  replace hL := hL.on hb
  replace bz := bz.trans (hb.mono bz.size)
  clear hb c0 c1 c2x f0 f1 f2 d0 d1 d2 e0 e1 e2
  go_wp2_with fail
  with_reducible refine (known_any _).mono ?_
  rintro e w2 ⟨rfl, hb⟩
  replace DM := DM.on hb
  replace DN := DN.on hb
  replace hF := hF.on hb
  replace hG := hG.on hb
  replace hL := hL.on hb
  replace bz := bz.trans (hb.mono bz.size)
  go_wp2_with fail
  go_ret
  exact ⟨rfl, bz⟩
set_option maxRecDepth 100000 in
set_option maxHeartbeats 8000000 in
theorem same_2 (h : FL w A n c l) (h2 : FL w A2 n2 c2 l2) (hL : SL w w.heap.size A9 m c9 ss) (hb1 : bigB n = false) (hb2 : bigB n2 = true) :
    Calls Try.prog 8 #[mV R C A n c, mV R2 C2 A2 n2 c2, .slice A9 m c9] w (Ans w (.bool true)) := by
  have pb := fun W => big_any R C A n c h.max W
  have pb2 := fun W => big_any R2 C2 A2 n2 c2 h2.max W
  have pM := fun W => May_any R C A n c W h.max
  have pM2 := fun W => May_any R2 C2 A2 n2 c2 W h2.max
  have hll := h.1
  have hll2 := h2.1
  have hmm9 := hL.2.1
  rw [hb1] at pb
  rw [hb2] at pb2
  clear hb1 hb2
  have DM := (Blk.new w [.int .i64 R, .int .i64 C, .slice A n c] 24).alloc (.cells #[.int .i64 R2, .int .i64 C2, .slice A2 n2 c2] 24)
  have DN := Blk.new (w.alloc (.cells #[.int .i64 R, .int .i64 C, .slice A n c] 24)) [.int .i64 R2, .int .i64 C2, .slice A2 n2 c2] 24
  rw [World.size_alloc] at DN
  have bz := ((Below.refl _ w).alloc (Nat.le_refl _) (.cells #[.int .i64 R, .int .i64 C, .slice A n c] 24)).alloc (by simp) (.cells #[.int .i64 R2, .int .i64 C2, .slice A2 n2 c2] 24)
  have hF := h.lo.on bz
  have hG := h2.lo.on bz
  replace hL := hL.on bz
  clear h h2
  go_enter Try.func8, Try.ntmps8
  obtain ⟨c0, c1, c2x, f0, f1, f2⟩ := Mbx.cells DM
  obtain ⟨d0, d1, d2, e0, e1, e2⟩ := Mbx.cells DN
  go_wp2_with fail
  with_reducible refine (pb _).mono ?_
  rintro e w1 ⟨rfl, hb⟩
  replace DM := DM.on hb
  replace DN := DN.on hb
  replace hF := hF.on hb
  replace hG := hG.on hb
  replace hL := hL.on hb
  replace bz := bz.trans (hb.mono bz.size)
  clear hb c0 c1 c2x f0 f1 f2 d0 d1 d2 e0 e1 e2
  obtain ⟨c0, c1, c2x, f0, f1, f2⟩ := Mbx.cells DM
  obtain ⟨d0, d1, d2, e0, e1, e2⟩ := Mbx.cells DN
  go_wp2_with fail
  with_reducible refine (pb2 _).mono ?_
  rintro e w2 ⟨rfl, hb⟩
  replace DM := DM.on hb
  replace DN := DN.on hb
  replace hF := hF.on hb
  replace hG := hG.on hb
  replace hL := hL.on hb
  replace bz := bz.trans (hb.mono bz.size)
  clear hb c0 c1 c2x f0 f1 f2 d0 d1 d2 e0 e1 e2
  go_wp2_with fail
  with_reducible refine (known_any _).mono ?_
  rintro e w3 ⟨rfl, hb⟩
  replace DM := DM.on hb
  replace DN := DN.on hb
  replace hF := hF.on hb
  replace hG := hG.on hb
  replace hL := hL.on hb
  replace bz := bz.trans (hb.mono bz.size)
  go_wp2_with fail
  go_ret
  exact ⟨rfl, bz⟩
set_option maxRecDepth 100000 in
set_option maxHeartbeats 8000000 in
theorem same_3 (h : FL w A n c l) (h2 : FL w A2 n2 c2 l2) (hL : SL w w.heap.size A9 m c9 ss) (hb1 : bigB n = false) (hb2 : bigB n2 = false) (hm : decide ((12 : Int) < m) = true) :
    Calls Try.prog 8 #[mV R C A n c, mV R2 C2 A2 n2 c2, .slice A9 m c9] w (Ans w (.bool true)) := by
  have pb := fun W => big_any R C A n c h.max W
  have pb2 := fun W => big_any R2 C2 A2 n2 c2 h2.max W
  have pM := fun W => May_any R C A n c W h.max
  have pM2 := fun W => May_any R2 C2 A2 n2 c2 W h2.max
  have hll := h.1
  have hll2 := h2.1
  have hmm9 := hL.2.1
  rw [hb1] at pb
  rw [hb2] at pb2
  clear hb1 hb2
  have DM := (Blk.new w [.int .i64 R, .int .i64 C, .slice A n c] 24).alloc (.cells #[.int .i64 R2, .int .i64 C2, .slice A2 n2 c2] 24)
  have DN := Blk.new (w.alloc (.cells #[.int .i64 R, .int .i64 C, .slice A n c] 24)) [.int .i64 R2, .int .i64 C2, .slice A2 n2 c2] 24
  rw [World.size_alloc] at DN
  have bz := ((Below.refl _ w).alloc (Nat.le_refl _) (.cells #[.int .i64 R, .int .i64 C, .slice A n c] 24)).alloc (by simp) (.cells #[.int .i64 R2, .int .i64 C2, .slice A2 n2 c2] 24)
  have hF := h.lo.on bz
  have hG := h2.lo.on bz
  replace hL := hL.on bz
  clear h h2
  go_enter Try.func8, Try.ntmps8
  obtain ⟨c0, c1, c2x, f0, f1, f2⟩ := Mbx.cells DM
  obtain ⟨d0, d1, d2, e0, e1, e2⟩ := Mbx.cells DN
  go_wp2_with fail
  with_reducible refine (pb _).mono ?_
  rintro e w1 ⟨rfl, hb⟩
  replace DM := DM.on hb
  replace DN := DN.on hb
  replace hF := hF.on hb
  replace hG := hG.on hb
  replace hL := hL.on hb
  replace bz := bz.trans (hb.mono bz.size)
  clear hb c0 c1 c2x f0 f1 f2 d0 d1 d2 e0 e1 e2
  obtain ⟨c0, c1, c2x, f0, f1, f2⟩ := Mbx.cells DM
  obtain ⟨d0, d1, d2, e0, e1, e2⟩ := Mbx.cells DN
  go_wp2_with fail
  with_reducible refine (pb2 _).mono ?_
  rintro e w2 ⟨rfl, hb⟩
  replace DM := DM.on hb
  replace DN := DN.on hb
  replace hF := hF.on hb
  replace hG := hG.on hb
  replace hL := hL.on hb
  replace bz := bz.trans (hb.mono bz.size)
  clear hb c0 c1 c2x f0 f1 f2 d0 d1 d2 e0 e1 e2
  go_wp2_with fail
  with_reducible refine (known_any _).mono ?_
  rintro e w3 ⟨rfl, hb⟩
  replace DM := DM.on hb
  replace DN := DN.on hb
  replace hF := hF.on hb
  replace hG := hG.on hb
  replace hL := hL.on hb
  replace bz := bz.trans (hb.mono bz.size)
  go_wp2_with fail
  go_ret
  exact ⟨rfl, bz⟩
set_option maxRecDepth 100000 in
set_option maxHeartbeats 8000000 in
theorem same_4 (h : FL w A n c l) (h2 : FL w A2 n2 c2 l2) (hL : SL w w.heap.size A9 m c9 ss) (hb1 : bigB n = false) (hb2 : bigB n2 = false) (hm : decide ((12 : Int) < m) = false) (hm1 : mayB R C n = false) :
    Calls Try.prog 8 #[mV R C A n c, mV R2 C2 A2 n2 c2, .slice A9 m c9] w (Ans w (.bool true)) := by
  have pb := fun W => big_any R C A n c h.max W
  have pb2 := fun W => big_any R2 C2 A2 n2 c2 h2.max W
  have pM := fun W => May_any R C A n c W h.max
  have pM2 := fun W => May_any R2 C2 A2 n2 c2 W h2.max
  have hll := h.1
  have hll2 := h2.1
  have hmm9 := hL.2.1
  rw [hb1] at pb
  rw [hb2] at pb2
  rw [hm1] at pM
  clear hb1 hb2 hm1
  have DM := (Blk.new w [.int .i64 R, .int .i64 C, .slice A n c] 24).alloc (.cells #[.int .i64 R2, .int .i64 C2, .slice A2 n2 c2] 24)
  have DN := Blk.new (w.alloc (.cells #[.int .i64 R, .int .i64 C, .slice A n c] 24)) [.int .i64 R2, .int .i64 C2, .slice A2 n2 c2] 24
  rw [World.size_alloc] at DN
  have bz := ((Below.refl _ w).alloc (Nat.le_refl _) (.cells #[.int .i64 R, .int .i64 C, .slice A n c] 24)).alloc (by simp) (.cells #[.int .i64 R2, .int .i64 C2, .slice A2 n2 c2] 24)
  have hF := h.lo.on bz
  have hG := h2.lo.on bz
  replace hL := hL.on bz
  clear h h2
  go_enter Try.func8, Try.ntmps8
  obtain ⟨c0, c1, c2x, f0, f1, f2⟩ := Mbx.cells DM
  obtain ⟨d0, d1, d2, e0, e1, e2⟩ := Mbx.cells DN
  go_wp2_with fail
  with_reducible refine (pb _).mono ?_
  rintro e w1 ⟨rfl, hb⟩
  replace DM := DM.on hb
  replace DN := DN.on hb
  replace hF := hF.on hb
  replace hG := hG.on hb
  replace hL := hL.on hb
  replace bz := bz.trans (hb.mono bz.size)
  clear hb c0 c1 c2x f0 f1 f2 d0 d1 d2 e0 e1 e2
  obtain ⟨c0, c1, c2x, f0, f1, f2⟩ := Mbx.cells DM
  obtain ⟨d0, d1, d2, e0, e1, e2⟩ := Mbx.cells DN
  go_wp2_with fail
  with_reducible refine (pb2 _).mono ?_
  rintro e w2 ⟨rfl, hb⟩
  replace DM := DM.on hb
  replace DN := DN.on hb
  replace hF := hF.on hb
  replace hG := hG.on hb
  replace hL := hL.on hb
  replace bz := bz.trans (hb.mono bz.size)
  clear hb c0 c1 c2x f0 f1 f2 d0 d1 d2 e0 e1 e2
  obtain ⟨c0, c1, c2x, f0, f1, f2⟩ := Mbx.cells DM
  obtain ⟨d0, d1, d2, e0, e1, e2⟩ := Mbx.cells DN
  go_wp2_with fail
  with_reducible refine (pM _).mono ?_
  rintro e w3 ⟨rfl, hb⟩
  replace DM := DM.on hb
  replace DN := DN.on hb
  replace hF := hF.on hb
  replace hG := hG.on hb
  replace hL := hL.on hb
  replace bz := bz.trans (hb.mono bz.size)
  clear hb c0 c1 c2x f0 f1 f2 d0 d1 d2 e0 e1 e2
  go_wp2_with fail
  with_reducible refine (known_any _).mono ?_
  rintro e w4 ⟨rfl, hb⟩
  replace DM := DM.on hb
  replace DN := DN.on hb
  replace hF := hF.on hb
  replace hG := hG.on hb
  replace hL := hL.on hb
  replace bz := bz.trans (hb.mono bz.size)
  go_wp2_with fail
  go_ret
  exact ⟨rfl, bz⟩
set_option maxRecDepth 100000 in
set_option maxHeartbeats 8000000 in
theorem same_5 (h : FL w A n c l) (h2 : FL w A2 n2 c2 l2) (hL : SL w w.heap.size A9 m c9 ss) (hb1 : bigB n = false) (hb2 : bigB n2 = false) (hm : decide ((12 : Int) < m) = false) (hm1 : mayB R C n = true) (hm2 : mayB R2 C2 n2 = false) :
    Calls Try.prog 8 #[mV R C A n c, mV R2 C2 A2 n2 c2, .slice A9 m c9] w (Ans w (.bool true)) := by
  have pb := fun W => big_any R C A n c h.max W
  have pb2 := fun W => big_any R2 C2 A2 n2 c2 h2.max W
  have pM := fun W => May_any R C A n c W h.max
  have pM2 := fun W => May_any R2 C2 A2 n2 c2 W h2.max
  have hll := h.1
  have hll2 := h2.1
  have hmm9 := hL.2.1
  rw [hb1] at pb
  rw [hb2] at pb2
  rw [hm1] at pM
  rw [hm2] at pM2
  clear hb1 hb2 hm1 hm2
  have DM := (Blk.new w [.int .i64 R, .int .i64 C, .slice A n c] 24).alloc (.cells #[.int .i64 R2, .int .i64 C2, .slice A2 n2 c2] 24)
  have DN := Blk.new (w.alloc (.cells #[.int .i64 R, .int .i64 C, .slice A n c] 24)) [.int .i64 R2, .int .i64 C2, .slice A2 n2 c2] 24
  rw [World.size_alloc] at DN
  have bz := ((Below.refl _ w).alloc (Nat.le_refl _) (.cells #[.int .i64 R, .int .i64 C, .slice A n c] 24)).alloc (by simp) (.cells #[.int .i64 R2, .int .i64 C2, .slice A2 n2 c2] 24)
  have hF := h.lo.on bz
  have hG := h2.lo.on bz
  replace hL := hL.on bz
  clear h h2
  go_enter Try.func8, Try.ntmps8
  obtain ⟨c0, c1, c2x, f0, f1, f2⟩ := Mbx.cells DM
  obtain ⟨d0, d1, d2, e0, e1, e2⟩ := Mbx.cells DN
  go_wp2_with fail
  with_reducible refine (pb _).mono ?_
  rintro e w1 ⟨rfl, hb⟩
  replace DM := DM.on hb
  replace DN := DN.on hb
  replace hF := hF.on hb
  replace hG := hG.on hb
  replace hL := hL.on hb
  replace bz := bz.trans (hb.mono bz.size)
  clear hb c0 c1 c2x f0 f1 f2 d0 d1 d2 e0 e1 e2
  obtain ⟨c0, c1, c2x, f0, f1, f2⟩ := Mbx.cells DM
  obtain ⟨d0, d1, d2, e0, e1, e2⟩ := Mbx.cells DN
  go_wp2_with fail
  with_reducible refine (pb2 _).mono ?_
  rintro e w2 ⟨rfl, hb⟩
  replace DM := DM.on hb
  replace DN := DN.on hb
  replace hF := hF.on hb
  replace hG := hG.on hb
  replace hL := hL.on hb
  replace bz := bz.trans (hb.mono bz.size)
  clear hb c0 c1 c2x f0 f1 f2 d0 d1 d2 e0 e1 e2
  obtain ⟨c0, c1, c2x, f0, f1, f2⟩ := Mbx.cells DM
  obtain ⟨d0, d1, d2, e0, e1, e2⟩ := Mbx.cells DN
  go_wp2_with fail
  with_reducible refine (pM _).mono ?_
  rintro e w3 ⟨rfl, hb⟩
  replace DM := DM.on hb
  replace DN := DN.on hb
  replace hF := hF.on hb
  replace hG := hG.on hb
  replace hL := hL.on hb
  replace bz := bz.trans (hb.mono bz.size)
  clear hb c0 c1 c2x f0 f1 f2 d0 d1 d2 e0 e1 e2
  obtain ⟨c0, c1, c2x, f0, f1, f2⟩ := Mbx.cells DM
  obtain ⟨d0, d1, d2, e0, e1, e2⟩ := Mbx.cells DN
  go_wp2_with fail
  with_reducible refine (pM2 _).mono ?_
  rintro e w4 ⟨rfl, hb⟩
  replace DM := DM.on hb
  replace DN := DN.on hb
  replace hF := hF.on hb
  replace hG := hG.on hb
  replace hL := hL.on hb
  replace bz := bz.trans (hb.mono bz.size)
  clear hb c0 c1 c2x f0 f1 f2 d0 d1 d2 e0 e1 e2
  go_wp2_with fail
  with_reducible refine (known_any _).mono ?_
  rintro e w5 ⟨rfl, hb⟩
  replace DM := DM.on hb
  replace DN := DN.on hb
  replace hF := hF.on hb
  replace hG := hG.on hb
  replace hL := hL.on hb
  replace bz := bz.trans (hb.mono bz.size)
  go_wp2_with fail
  go_ret
  exact ⟨rfl, bz⟩
set_option maxRecDepth 100000 in
set_option maxHeartbeats 8000000 in
theorem same_6 (h : FL w A n c l) (h2 : FL w A2 n2 c2 l2) (hL : SL w w.heap.size A9 m c9 ss) (hb1 : bigB n = false) (hb2 : bigB n2 = false) (hm : decide ((12 : Int) < m) = false) (hm1 : mayB R C n = true) (hm2 : mayB R2 C2 n2 = true) :
    Calls Try.prog 8 #[mV R C A n c, mV R2 C2 A2 n2 c2, .slice A9 m c9] w (Ans w (.bool true)) := by
  have pb := fun W => big_any R C A n c h.max W
  have pb2 := fun W => big_any R2 C2 A2 n2 c2 h2.max W
  have pM := fun W => May_any R C A n c W h.max
  have pM2 := fun W => May_any R2 C2 A2 n2 c2 W h2.max
  have hll := h.1
  have hll2 := h2.1
  have hmm9 := hL.2.1
  rw [hb1] at pb
  rw [hb2] at pb2
  rw [hm1] at pM
  rw [hm2] at pM2
  have q1 := Bool.and_eq_true_iff.1 hm1
  have q2 := Bool.and_eq_true_iff.1 hm2
  have hs1 : szB R C = true := q1.1
  have hl1 : (n : Int) = R * C := of_decide_eq_true q1.2
  have hs2 : szB R2 C2 = true := q2.1
  have hl2 : (n2 : Int) = R2 * C2 := of_decide_eq_true q2.2
  have hm12 : m ≤ 12 := by have := of_decide_eq_false hm; omega
  have pO1 := fun (W : World) (hF : FL W A n c l) => open_yes hF hs1 hl1
  have pO2 := fun (W : World) (hF : FL W A2 n2 c2 l2) => open_yes hF hs2 hl2
  obtain ⟨⟨R0, R1, C0, C1⟩, p0, p1⟩ := szB_bd hs2
  have HFL := Lib.hid (show ∀ s, (Vu.all s R2 C2).fl C2.toNat l2 = l2 from fun s => all_fl s R0 R1 C0 C1 (by rw [hll2]; exact hl2))
  clear hb1 hb2 hm1 hm2 q1 q2 hs1 hl1 hs2 hl2 R0 R1 C0 C1 p0 p1
  have DM := (Blk.new w [.int .i64 R, .int .i64 C, .slice A n c] 24).alloc (.cells #[.int .i64 R2, .int .i64 C2, .slice A2 n2 c2] 24)
  have DN := Blk.new (w.alloc (.cells #[.int .i64 R, .int .i64 C, .slice A n c] 24)) [.int .i64 R2, .int .i64 C2, .slice A2 n2 c2] 24
  rw [World.size_alloc] at DN
  have bz := ((Below.refl _ w).alloc (Nat.le_refl _) (.cells #[.int .i64 R, .int .i64 C, .slice A n c] 24)).alloc (by simp) (.cells #[.int .i64 R2, .int .i64 C2, .slice A2 n2 c2] 24)
  have hF := h.lo.on bz
  have hG := h2.lo.on bz
  replace hL := hL.on bz
  clear h h2
  go_enter Try.func8, Try.ntmps8
  obtain ⟨c0, c1, c2x, f0, f1, f2⟩ := Mbx.cells DM
  obtain ⟨d0, d1, d2, e0, e1, e2⟩ := Mbx.cells DN
  go_wp2_with fail
  with_reducible refine (pb _).mono ?_
  rintro e w1 ⟨rfl, hb⟩
  replace DM := DM.on hb
  replace DN := DN.on hb
  replace hF := hF.on hb
  replace hG := hG.on hb
  replace hL := hL.on hb
  replace bz := bz.trans (hb.mono bz.size)
  clear hb c0 c1 c2x f0 f1 f2 d0 d1 d2 e0 e1 e2
  obtain ⟨c0, c1, c2x, f0, f1, f2⟩ := Mbx.cells DM
  obtain ⟨d0, d1, d2, e0, e1, e2⟩ := Mbx.cells DN
  go_wp2_with fail
  with_reducible refine (pb2 _).mono ?_
  rintro e w2 ⟨rfl, hb⟩
  replace DM := DM.on hb
  replace DN := DN.on hb
  replace hF := hF.on hb
  replace hG := hG.on hb
  replace hL := hL.on hb
  replace bz := bz.trans (hb.mono bz.size)
  clear hb c0 c1 c2x f0 f1 f2 d0 d1 d2 e0 e1 e2
  obtain ⟨c0, c1, c2x, f0, f1, f2⟩ := Mbx.cells DM
  obtain ⟨d0, d1, d2, e0, e1, e2⟩ := Mbx.cells DN
  go_wp2_with fail
  with_reducible refine (pM _).mono ?_
  rintro e w3 ⟨rfl, hb⟩
  replace DM := DM.on hb
  replace DN := DN.on hb
  replace hF := hF.on hb
  replace hG := hG.on hb
  replace hL := hL.on hb
  replace bz := bz.trans (hb.mono bz.size)
  clear hb c0 c1 c2x f0 f1 f2 d0 d1 d2 e0 e1 e2
  obtain ⟨c0, c1, c2x, f0, f1, f2⟩ := Mbx.cells DM
  obtain ⟨d0, d1, d2, e0, e1, e2⟩ := Mbx.cells DN
  go_wp2_with fail
  with_reducible refine (pM2 _).mono ?_
  rintro e w4 ⟨rfl, hb⟩
  replace DM := DM.on hb
  replace DN := DN.on hb
  replace hF := hF.on hb
  replace hG := hG.on hb
  replace hL := hL.on hb
  replace bz := bz.trans (hb.mono bz.size)
  clear hb c0 c1 c2x f0 f1 f2 d0 d1 d2 e0 e1 e2
  clear pb pb2 pM pM2
  obtain ⟨c0, c1, c2x, f0, f1, f2⟩ := Mbx.cells DM
  obtain ⟨d0, d1, d2, e0, e1, e2⟩ := Mbx.cells DN
  have hz0 := DN.lt
  go_wp2_with fail
  with_reducible refine (pO1 _ hF.fl).mono ?_
  rintro e w5 ⟨s, g, cap, A5, c5, r, rfl, hT, hP, hlow, hb⟩
  replace DM := DM.on hb
  replace DN := DN.on hb
  replace hF := hF.on hb
  replace hG := hG.on hb
  replace hL := hL.on hb
  replace bz := bz.trans (hb.mono bz.size)
  clear hb c0 c1 c2x f0 f1 f2 d0 d1 d2 e0 e1 e2
  have hlt : s < w5.heap.size ∧ g < w5.heap.size ∧ ∀ a, A5 = some a → a.block < w5.heap.size := ⟨hT.st.lt, hT.st.gt.2, fun a e => (hT.sr.own.gt e).2⟩
  obtain ⟨HD7, eHD7⟩ : ∃ H, w5.heap.size = H := ⟨_, rfl⟩
  have D7 := (Blk.new w5 (Vu.all s R C).L 30).alloc (.cells (Ru.L r).toArray 51)
  have D8 := Blk.new (w5.alloc (.cells (Vu.all s R C).L.toArray 30)) (Ru.L r) 51
  rw [World.size_alloc, eHD7] at D8
  rw [eHD7] at D7
  have hzD7 := DN.lt
  rw [eHD7] at hzD7
  replace DM := DM.on ((Below.refl _ _).alloc (Nat.le_refl _) (.cells (Vu.all s R C).L.toArray 30))
  replace DN := DN.on ((Below.refl _ _).alloc (Nat.le_refl _) (.cells (Vu.all s R C).L.toArray 30))
  replace hF := hF.on ((Below.refl _ _).alloc (Nat.le_refl _) (.cells (Vu.all s R C).L.toArray 30))
  replace hG := hG.on ((Below.refl _ _).alloc (Nat.le_refl _) (.cells (Vu.all s R C).L.toArray 30))
  replace hL := hL.on ((Below.refl _ _).alloc (Nat.le_refl _) (.cells (Vu.all s R C).L.toArray 30))
  replace hT := hT.on ((Below.refl _ _).alloc (Nat.le_refl _) (.cells (Vu.all s R C).L.toArray 30))
  replace hP := hP.on ((Below.refl _ _).alloc (Nat.le_refl _) (.cells (Vu.all s R C).L.toArray 30))
  replace bz := bz.alloc bz.size (.cells (Vu.all s R C).L.toArray 30)
  replace DM := DM.on ((Below.refl _ _).alloc (Nat.le_refl _) (.cells (Ru.L r).toArray 51))
  replace DN := DN.on ((Below.refl _ _).alloc (Nat.le_refl _) (.cells (Ru.L r).toArray 51))
  replace hF := hF.on ((Below.refl _ _).alloc (Nat.le_refl _) (.cells (Ru.L r).toArray 51))
  replace hG := hG.on ((Below.refl _ _).alloc (Nat.le_refl _) (.cells (Ru.L r).toArray 51))
  replace hL := hL.on ((Below.refl _ _).alloc (Nat.le_refl _) (.cells (Ru.L r).toArray 51))
  replace hT := hT.on ((Below.refl _ _).alloc (Nat.le_refl _) (.cells (Ru.L r).toArray 51))
  replace hP := hP.on ((Below.refl _ _).alloc (Nat.le_refl _) (.cells (Ru.L r).toArray 51))
  replace bz := bz.alloc bz.size (.cells (Ru.L r).toArray 51)
  rw [eHD7] at hlt
  simp only [eHD7] at hlow
  obtain ⟨c0, c1, c2x, f0, f1, f2⟩ := Mbx.cells DM
  obtain ⟨d0, d1, d2, e0, e1, e2⟩ := Mbx.cells DN
  have hz1 := D8.lt
  go_wp2_with fail
  with_reducible refine (pO2 _ hG.fl).mono ?_
  rintro e w6 ⟨s2, g2, cap2, A6, c6, r2, rfl, hT2, hP2, hlow2, hb⟩
  replace DM := DM.on hb
  replace DN := DN.on hb
  replace hF := hF.on hb
  replace hG := hG.on hb
  replace hL := hL.on hb
  replace hT := hT.on hb
  replace hP := hP.on hb
  replace D7 := D7.on hb
  replace D8 := D8.on hb
  replace bz := bz.trans (hb.mono bz.size)
  clear hb c0 c1 c2x f0 f1 f2 d0 d1 d2 e0 e1 e2
  have hlt2 : HD7 + 1 < s2 ∧ HD7 + 1 < g2 ∧ ∀ a, A6 = some a → HD7 + 1 < a.block := ⟨by have := hT2.st.lo; omega, by have := hT2.st.gt.1; omega, fun a e => by have := (hT2.sr.own.gt e).1; omega⟩
  have hlow3 : ∀ a, r2.A2 = some a → HD7 + 1 < a.block := fun a e => by have := (hlow2 a e).1; omega
  clear hlow2 hz1
  obtain ⟨HD10, eHD10⟩ : ∃ H, w6.heap.size = H := ⟨_, rfl⟩
  have D10 := (Blk.new w6 (Vu.all s2 R2 C2).L 30).alloc (.cells (Ru.L r2).toArray 51)
  have D11 := Blk.new (w6.alloc (.cells (Vu.all s2 R2 C2).L.toArray 30)) (Ru.L r2) 51
  rw [World.size_alloc, eHD10] at D11
  rw [eHD10] at D10
  have hzD10 := D8.lt
  rw [eHD10] at hzD10
  replace DM := DM.on ((Below.refl _ _).alloc (Nat.le_refl _) (.cells (Vu.all s2 R2 C2).L.toArray 30))
  replace DN := DN.on ((Below.refl _ _).alloc (Nat.le_refl _) (.cells (Vu.all s2 R2 C2).L.toArray 30))
  replace hF := hF.on ((Below.refl _ _).alloc (Nat.le_refl _) (.cells (Vu.all s2 R2 C2).L.toArray 30))
  replace hG := hG.on ((Below.refl _ _).alloc (Nat.le_refl _) (.cells (Vu.all s2 R2 C2).L.toArray 30))
  replace hL := hL.on ((Below.refl _ _).alloc (Nat.le_refl _) (.cells (Vu.all s2 R2 C2).L.toArray 30))
  replace hT := hT.on ((Below.refl _ _).alloc (Nat.le_refl _) (.cells (Vu.all s2 R2 C2).L.toArray 30))
  replace hP := hP.on ((Below.refl _ _).alloc (Nat.le_refl _) (.cells (Vu.all s2 R2 C2).L.toArray 30))
  replace D7 := D7.on ((Below.refl _ _).alloc (Nat.le_refl _) (.cells (Vu.all s2 R2 C2).L.toArray 30))
  replace D8 := D8.on ((Below.refl _ _).alloc (Nat.le_refl _) (.cells (Vu.all s2 R2 C2).L.toArray 30))
  replace hT2 := hT2.on ((Below.refl _ _).alloc (Nat.le_refl _) (.cells (Vu.all s2 R2 C2).L.toArray 30))
  replace hP2 := hP2.on ((Below.refl _ _).alloc (Nat.le_refl _) (.cells (Vu.all s2 R2 C2).L.toArray 30))
  replace bz := bz.alloc bz.size (.cells (Vu.all s2 R2 C2).L.toArray 30)
  replace DM := DM.on ((Below.refl _ _).alloc (Nat.le_refl _) (.cells (Ru.L r2).toArray 51))
  replace DN := DN.on ((Below.refl _ _).alloc (Nat.le_refl _) (.cells (Ru.L r2).toArray 51))
  replace hF := hF.on ((Below.refl _ _).alloc (Nat.le_refl _) (.cells (Ru.L r2).toArray 51))
  replace hG := hG.on ((Below.refl _ _).alloc (Nat.le_refl _) (.cells (Ru.L r2).toArray 51))
  replace hL := hL.on ((Below.refl _ _).alloc (Nat.le_refl _) (.cells (Ru.L r2).toArray 51))
  replace hT := hT.on ((Below.refl _ _).alloc (Nat.le_refl _) (.cells (Ru.L r2).toArray 51))
  replace hP := hP.on ((Below.refl _ _).alloc (Nat.le_refl _) (.cells (Ru.L r2).toArray 51))
  replace D7 := D7.on ((Below.refl _ _).alloc (Nat.le_refl _) (.cells (Ru.L r2).toArray 51))
  replace D8 := D8.on ((Below.refl _ _).alloc (Nat.le_refl _) (.cells (Ru.L r2).toArray 51))
  replace hT2 := hT2.on ((Below.refl _ _).alloc (Nat.le_refl _) (.cells (Ru.L r2).toArray 51))
  replace hP2 := hP2.on ((Below.refl _ _).alloc (Nat.le_refl _) (.cells (Ru.L r2).toArray 51))
  replace bz := bz.alloc bz.size (.cells (Ru.L r2).toArray 51)
  obtain ⟨cD7_0, cD7_1, cD7_2, cD7_3, cD7_4, cD7_5, cD7_6, cD7_7, cD7_8⟩ := Vbx.cells D7
  obtain ⟨cD8_0, cD8_1, cD8_2, cD8_3, cD8_4⟩ := Rbx.cells D8
  have hz2 := D8.lt
  go_wp2_with fail
  with_reducible refine (cut_any hT hP hL.more hm12).mono ?_
  rintro e w7 ⟨r3, rfl, hT3, hP3, hlw, hb⟩
  replace DM := DM.on hb
  replace DN := DN.on hb
  replace hF := hF.on hb
  replace hG := hG.on hb
  replace hL := hL.on hb
  replace hT := hT.on hb
  replace hP := hP.on hb
  replace D7 := D7.on hb
  replace D8 := D8.on hb
  replace hT2 := hT2.on hb
  replace hP2 := hP2.on hb
  replace D10 := D10.on hb
  replace D11 := D11.on hb
  replace bz := bz.trans (hb.mono bz.size)
  replace hT := hT3
  clear hT3
  have hA3 : ∀ a, r3.A2 = some a → a.block ≠ HD7 ∧ a.block ≠ HD7 + 1 := fun a e => by
    rcases hlw with h9 | h9
    · rw [h9] at e; have := hlow a e; omega
    · have := h9 a e; omega
  clear hb hlw cD7_0 cD7_1 cD7_2 cD7_3 cD7_4 cD7_5 cD7_6 cD7_7 cD7_8 cD8_0 cD8_1 cD8_2 cD8_3 cD8_4
  obtain ⟨V3, hV3⟩ : ∃ V, cutV (Vu.all s R C) ss = V := ⟨_, rfl⟩
  simp only [hV3] at hP3 ⊢
  clear hV3
  obtain ⟨fc0, fc1, fc2, fc3, fc4, fc5, fc6, fc7, fc8⟩ := Vbx.cells D7
  obtain ⟨fr0, fr1, fr2, fr3, fr4, fr5, fr6, fr7, fr8⟩ := Vbx.free D7
  obtain ⟨hc0, hc1, hc2, hc3, hc4⟩ := Rbx.cells D8
  obtain ⟨hr0, hr1, hr2, hr3, hr4⟩ := Rbx.free D8
  go_upto_region 6 with fail
  clear fc0 fr0 fc1 fr1 fc2 fr2 fc3 fr3 fc4 fr4 fc5 fr5 fc6 fr6 fc7 fr7 fc8 fr8
  have hgS := set9_grown w7 (HD7) (.pointer (V3).p) (.int .i64 (V3).f0) (.int .i64 (V3).f1) (.int .i64 (V3).d0) (.int .i64 (V3).d1) (.int .i64 (V3).r0) (.int .i64 (V3).r1) (.int .i64 (V3).R) (.int .i64 (V3).C)
  replace D7 := Vbx.put D7 (V3)
  replace DM := DM.grown hgS (by simp <;> omega)
  replace DN := DN.grown hgS (by simp <;> omega)
  replace hF := hF.grown hgS (by omega)
  replace hG := hG.grown hgS (by omega)
  replace hL := hL.grown hgS (by omega)
  replace hT := hT.grown hgS (by omega) (by omega) (fun a e => by have := hlt.2.2 a e; omega)
  replace hP := hP.grown hgS (fun _ a e => by have := hlow a e; omega)
  replace D8 := D8.grown hgS (by simp <;> omega)
  replace hT2 := hT2.grown hgS (by omega) (by omega) (fun a e => by have := hlt2.2.2 a e; omega)
  replace hP2 := hP2.grown hgS (fun _ a e => by have := hlow3 a e; omega)
  replace D10 := D10.grown hgS (by simp <;> omega)
  replace D11 := D11.grown hgS (by simp <;> omega)
  replace hP3 := hP3.grown hgS (fun _ a e => by have := hA3 a e; omega)
  replace bz := bz.grown hgS bz.size (fun k e => by cases e; omega)
  clear hc0 hr0 hc1 hr1 hc2 hr2 hc3 hr3 hc4 hr4
  have hgS := set5_grown (((((((((w7.setCell ⟨HD7, 0, none⟩ (.pointer (V3).p)).setCell ⟨HD7, 1, none⟩ (.int .i64 (V3).f0)).setCell ⟨HD7, 2, none⟩ (.int .i64 (V3).f1)).setCell ⟨HD7, 3, none⟩ (.int .i64 (V3).d0)).setCell ⟨HD7, 4, none⟩ (.int .i64 (V3).d1)).setCell ⟨HD7, 5, none⟩ (.int .i64 (V3).r0)).setCell ⟨HD7, 6, none⟩ (.int .i64 (V3).r1)).setCell ⟨HD7, 7, none⟩ (.int .i64 (V3).R)).setCell ⟨HD7, 8, none⟩ (.int .i64 (V3).C)) (HD7 + 1) (.slice (r3).A (r3).n (r3).c) (.int .i64 (r3).R) (.int .i64 (r3).C) (.slice (r3).A2 (r3).n2 (r3).c2) (.bool (r3).b)
  replace D8 := Rbx.put D8 (r3)
  replace DM := DM.grown hgS (by simp <;> omega)
  replace DN := DN.grown hgS (by simp <;> omega)
  replace hF := hF.grown hgS (by omega)
  replace hG := hG.grown hgS (by omega)
  replace hL := hL.grown hgS (by omega)
  replace hT := hT.grown hgS (by omega) (by omega) (fun a e => by have := hlt.2.2 a e; omega)
  replace hP := hP.grown hgS (fun _ a e => by have := hlow a e; omega)
  replace D7 := D7.grown hgS (by simp <;> omega)
  replace hT2 := hT2.grown hgS (by omega) (by omega) (fun a e => by have := hlt2.2.2 a e; omega)
  replace hP2 := hP2.grown hgS (fun _ a e => by have := hlow3 a e; omega)
  replace D10 := D10.grown hgS (by simp <;> omega)
  replace D11 := D11.grown hgS (by simp <;> omega)
  replace hP3 := hP3.grown hgS (fun _ a e => by have := hA3 a e; omega)
  replace bz := bz.grown hgS bz.size (fun k e => by cases e; omega)
  generalize ((((((((((((((w7.setCell ⟨HD7, 0, none⟩ (.pointer (V3).p)).setCell ⟨HD7, 1, none⟩ (.int .i64 (V3).f0)).setCell ⟨HD7, 2, none⟩ (.int .i64 (V3).f1)).setCell ⟨HD7, 3, none⟩ (.int .i64 (V3).d0)).setCell ⟨HD7, 4, none⟩ (.int .i64 (V3).d1)).setCell ⟨HD7, 5, none⟩ (.int .i64 (V3).r0)).setCell ⟨HD7, 6, none⟩ (.int .i64 (V3).r1)).setCell ⟨HD7, 7, none⟩ (.int .i64 (V3).R)).setCell ⟨HD7, 8, none⟩ (.int .i64 (V3).C)).setCell ⟨HD7 + 1, 0, none⟩ (.slice (r3).A (r3).n (r3).c)).setCell ⟨HD7 + 1, 1, none⟩ (.int .i64 (r3).R)).setCell ⟨HD7 + 1, 2, none⟩ (.int .i64 (r3).C)).setCell ⟨HD7 + 1, 3, none⟩ (.slice (r3).A2 (r3).n2 (r3).c2)).setCell ⟨HD7 + 1, 4, none⟩ (.bool (r3).b)) = W5 at DM DN hF hG hL hT hP D7 D8 hT2 hP2 D10 D11 hP3 bz ⊢
  clear hgS
  have hw := same_want (v := V3) (c := C.toNat) (l := l) (HFL.out s2)
  have hb3 := hP3.rk.b
  replace DM := DM.drew
  replace DN := DN.drew
  replace hF := hF.drew
  replace hG := hG.drew
  replace hL := hL.drew
  replace hT := hT.drew
  replace hP := hP.drew
  replace D7 := D7.drew
  replace D8 := D8.drew
  replace hT2 := hT2.drew
  replace hP2 := hP2.drew
  replace D10 := D10.drew
  replace D11 := D11.drew
  replace hP3 := hP3.drew
  replace bz := bz.drew
  obtain ⟨rA, rn, rc, rR, rC, rA2, rn2, rc2, b9⟩ := r3
  simp only at hb3
  cases b9
  · have hw2 : sameV V3 C.toNat l (Vu.all s2 R2 C2) C2.toNat l2 = false := by rw [hw, ← hb3]; rfl
    clear hw hb3
    refine wp_region_held_drew (S := fun w9 : World => Rbx w9 (HD7 + 1) ⟨rA, rn, rc, rR, rC, rA2, rn2, rc2, false⟩ ∧ Rbx w9 (HD10 + 1) r2) (by kernel_rfl) ⟨D8, D11⟩ (fun hS => ?_)
    refine wpAnyH_take (i := 0) (v := ?v0_1) rfl (by kernel_rfl) (by kernel_rfl) (by kernel_rfl) (fun _ _ _ h => h) (Or.inl ⟨by rfl, ?hy0_1⟩) (by assumption) ?rest0_1
    case hy0_1 => (intro w9 hSw; clear hSw; go_simp; try with_reducible rfl)
    try simp only [Act.put, List.setIfInBounds_toArray, List.set_cons_zero, List.set_cons_succ, List.getElem_toArray, List.getElem_cons_zero, List.getElem_cons_succ]
    refine wpAnyH_take (i := 1) (v := ?v1_2) rfl (by kernel_rfl) (by kernel_rfl) (by kernel_rfl) (fun _ _ _ h => h) (Or.inl ⟨by rfl, ?hy1_2⟩) (by assumption) ?rest1_2
    case hy1_2 => (intro w9 hSw; obtain ⟨sr, sr2⟩ := hSw; obtain ⟨k0, k1, k2, k3, k4⟩ := Rbx.cells sr; obtain ⟨q0, q1, q2, q3, q4⟩ := Rbx.cells sr2; go_simp; try with_reducible rfl)
    try simp only [Act.put, List.setIfInBounds_toArray, List.set_cons_zero, List.set_cons_succ, List.getElem_toArray, List.getElem_cons_zero, List.getElem_cons_succ]
    refine wpAnyH_take (i := 2) (v := ?v2_3) rfl (by kernel_rfl) (by kernel_rfl) (by kernel_rfl) (fun _ _ _ h => h) (Or.inl ⟨by rfl, ?hy2_3⟩) (by assumption) ?rest2_3
    case hy2_3 => (intro w9 hSw; clear hSw; go_simp; try with_reducible rfl)
    try simp only [Act.put, List.setIfInBounds_toArray, List.set_cons_zero, List.set_cons_succ, List.getElem_toArray, List.getElem_cons_zero, List.getElem_cons_succ]
    refine wpAnyH_take (i := 3) (v := undef) rfl (by kernel_rfl) (by kernel_rfl) (by kernel_rfl) (fun _ _ _ h => h) (Or.inr ⟨by rfl, rfl⟩) (by assumption) ?_
    try simp only [Act.put, List.setIfInBounds_toArray, List.set_cons_zero, List.set_cons_succ, List.getElem_toArray, List.getElem_cons_zero, List.getElem_cons_succ]
    refine wpAnyH_take (i := 4) (v := undef) rfl (by kernel_rfl) (by kernel_rfl) (by kernel_rfl) (fun _ _ _ h => h) (Or.inr ⟨by rfl, rfl⟩) (by assumption) ?_
    try simp only [Act.put, List.setIfInBounds_toArray, List.set_cons_zero, List.set_cons_succ, List.getElem_toArray, List.getElem_cons_zero, List.getElem_cons_succ]
    refine wpAnyH_take (i := 5) (v := undef) rfl (by kernel_rfl) (by kernel_rfl) (by kernel_rfl) (fun _ _ _ h => h) (Or.inr ⟨by rfl, rfl⟩) (by assumption) ?_
    try simp only [Act.put, List.setIfInBounds_toArray, List.set_cons_zero, List.set_cons_succ, List.getElem_toArray, List.getElem_cons_zero, List.getElem_cons_succ]
    refine wpAnyH_take (i := 6) (v := undef) rfl (by kernel_rfl) (by kernel_rfl) (by kernel_rfl) (fun _ _ _ h => h) (Or.inr ⟨by rfl, rfl⟩) (by assumption) ?_
    try simp only [Act.put, List.setIfInBounds_toArray, List.set_cons_zero, List.set_cons_succ, List.getElem_toArray, List.getElem_cons_zero, List.getElem_cons_succ]
    refine wpAnyH_take (i := 7) (v := undef) rfl (by kernel_rfl) (by kernel_rfl) (by kernel_rfl) (fun _ _ _ h => h) (Or.inr ⟨by rfl, rfl⟩) (by assumption) ?_
    try simp only [Act.put, List.setIfInBounds_toArray, List.set_cons_zero, List.set_cons_succ, List.getElem_toArray, List.getElem_cons_zero, List.getElem_cons_succ]
    refine wpAnyH_take (i := 8) (v := ?v8_4) rfl (by kernel_rfl) (by kernel_rfl) (by kernel_rfl) (fun _ _ _ h => h) (Or.inl ⟨by rfl, ?hy8_4⟩) (by assumption) ?rest8_4
    case hy8_4 => (intro w9 hSw; clear hSw; go_simp; try with_reducible rfl)
    try simp only [Act.put, List.setIfInBounds_toArray, List.set_cons_zero, List.set_cons_succ, List.getElem_toArray, List.getElem_cons_zero, List.getElem_cons_succ]
    refine wpAnyH_take (i := 9) (v := ?v9_5) rfl (by kernel_rfl) (by kernel_rfl) (by kernel_rfl) (fun _ _ _ h => h) (Or.inl ⟨by rfl, ?hy9_5⟩) (by assumption) ?rest9_5
    case hy9_5 => (intro w9 hSw; clear hSw; go_simp; try with_reducible rfl)
    try simp only [Act.put, List.setIfInBounds_toArray, List.set_cons_zero, List.set_cons_succ, List.getElem_toArray, List.getElem_cons_zero, List.getElem_cons_succ]
    refine wpAnyH_done (by kernel_rfl) ?_ _
    obtain ⟨cD7_0, cD7_1, cD7_2, cD7_3, cD7_4, cD7_5, cD7_6, cD7_7, cD7_8⟩ := Vbx.cells D7
    obtain ⟨d10_0, d10_1, d10_2, d10_3, d10_4, d10_5, d10_6, d10_7, d10_8⟩ := Vbx.cells D10
    have pS1 := fun (W : World) (B B2 : Nat) (h : St W B s g cap C.toNat l) (h2 : St W B2 s2 g2 cap2 C2.toNat l2) => Same_any hP3.vk (fun _ => ⟨h, hll⟩) hP2.vk (fun _ => ⟨h2, hll2⟩)
    have pS2 := fun (W : World) (B B2 : Nat) (h : St W B s g cap C.toNat l) (h2 : St W B2 s2 g2 cap2 C2.toNat l2) => Same_any hP2.vk (fun _ => ⟨h2, hll2⟩) hP3.vk (fun _ => ⟨h, hll⟩)
    have pS3 := fun (W : World) (B : Nat) (h : St W B s g cap C.toNat l) => Same_any hP3.vk (fun _ => ⟨h, hll⟩) hP3.vk (fun _ => ⟨h, hll⟩)
    simp only [sameV_comm V3, hw2] at pS2
    simp only [hw2] at pS1
    simp only [selfV] at pS3
    go_wp2_with fail
    with_reducible refine (pS1 _ _ _ hT.st hT2.st).mono ?_
    rintro e w8 ⟨rfl, hb⟩
    replace DM := DM.on hb
    replace DN := DN.on hb
    replace hF := hF.on hb
    replace hG := hG.on hb
    replace hL := hL.on hb
    replace hT := hT.on hb
    replace hP := hP.on hb
    replace D7 := D7.on hb
    replace D8 := D8.on hb
    replace hT2 := hT2.on hb
    replace hP2 := hP2.on hb
    replace D10 := D10.on hb
    replace D11 := D11.on hb
    replace hP3 := hP3.on hb
    replace bz := bz.trans (hb.mono bz.size)
    clear hb cD7_0 cD7_1 cD7_2 cD7_3 cD7_4 cD7_5 cD7_6 cD7_7 cD7_8 d10_0 d10_1 d10_2 d10_3 d10_4 d10_5 d10_6 d10_7 d10_8
    obtain ⟨cD7_0, cD7_1, cD7_2, cD7_3, cD7_4, cD7_5, cD7_6, cD7_7, cD7_8⟩ := Vbx.cells D7
    obtain ⟨d10_0, d10_1, d10_2, d10_3, d10_4, d10_5, d10_6, d10_7, d10_8⟩ := Vbx.cells D10
    go_wp2_with fail
    with_reducible refine (pS2 _ _ _ hT.st hT2.st).mono ?_
    rintro e w9 ⟨rfl, hb⟩
    replace DM := DM.on hb
    replace DN := DN.on hb
    replace hF := hF.on hb
    replace hG := hG.on hb
    replace hL := hL.on hb
    replace hT := hT.on hb
    replace hP := hP.on hb
    replace D7 := D7.on hb
    replace D8 := D8.on hb
    replace hT2 := hT2.on hb
    replace hP2 := hP2.on hb
    replace D10 := D10.on hb
    replace D11 := D11.on hb
    replace hP3 := hP3.on hb
    replace bz := bz.trans (hb.mono bz.size)
    clear hb cD7_0 cD7_1 cD7_2 cD7_3 cD7_4 cD7_5 cD7_6 cD7_7 cD7_8 d10_0 d10_1 d10_2 d10_3 d10_4 d10_5 d10_6 d10_7 d10_8
    obtain ⟨cD7_0, cD7_1, cD7_2, cD7_3, cD7_4, cD7_5, cD7_6, cD7_7, cD7_8⟩ := Vbx.cells D7
    go_wp2_with fail
    with_reducible refine (pS3 _ _ hT.st).mono ?_
    rintro e w10 ⟨rfl, hb⟩
    replace DM := DM.on hb
    replace DN := DN.on hb
    replace hF := hF.on hb
    replace hG := hG.on hb
    replace hL := hL.on hb
    replace hT := hT.on hb
    replace hP := hP.on hb
    replace D7 := D7.on hb
    replace D8 := D8.on hb
    replace hT2 := hT2.on hb
    replace hP2 := hP2.on hb
    replace D10 := D10.on hb
    replace D11 := D11.on hb
    replace hP3 := hP3.on hb
    replace bz := bz.trans (hb.mono bz.size)
    clear hb cD7_0 cD7_1 cD7_2 cD7_3 cD7_4 cD7_5 cD7_6 cD7_7 cD7_8
    go_wp2_with fail
    with_reducible refine (known_any _).mono ?_
    rintro e w11 ⟨rfl, hb⟩
    replace DM := DM.on hb
    replace DN := DN.on hb
    replace hF := hF.on hb
    replace hG := hG.on hb
    replace hL := hL.on hb
    replace hT := hT.on hb
    replace hP := hP.on hb
    replace D7 := D7.on hb
    replace D8 := D8.on hb
    replace hT2 := hT2.on hb
    replace hP2 := hP2.on hb
    replace D10 := D10.on hb
    replace D11 := D11.on hb
    replace hP3 := hP3.on hb
    replace bz := bz.trans (hb.mono bz.size)
    go_wp2_with fail
    go_ret
    exact ⟨rfl, bz⟩
  · have hw2 : sameV V3 C.toNat l (Vu.all s2 R2 C2) C2.toNat l2 = sameM V3.R V3.C (V3.fl C.toNat l) R2 C2 l2 := by rw [hw, ← hb3]; rfl
    clear hw hb3
    have pE := fun (W : World) (X Y : Nat) (A A2 : Option Addr) (h : FL W A X Y (V3.fl C.toNat l)) (cc dd : Nat) (h2 : FL W A2 cc dd l2) => SameMatrix_any V3.R V3.C R2 C2 h h2
    obtain ⟨WANT, hWANT⟩ : ∃ b, sameM V3.R V3.C (V3.fl C.toNat l) R2 C2 l2 = b := ⟨_, rfl⟩
    simp only [hWANT] at pE hw2
    have hbb : (WANT == WANT) = true := by simp
    clear hWANT
    refine wp_region_held_drew (S := fun w9 : World => Rbx w9 (HD7 + 1) ⟨rA, rn, rc, rR, rC, rA2, rn2, rc2, true⟩ ∧ Rbx w9 (HD10 + 1) r2) (by kernel_rfl) ⟨D8, D11⟩ (fun hS => ?_)
    refine wpAnyH_take (i := 0) (v := ?v0_6) rfl (by kernel_rfl) (by kernel_rfl) (by kernel_rfl) (fun _ _ _ h => h) (Or.inl ⟨by rfl, ?hy0_6⟩) (by assumption) ?rest0_6
    case hy0_6 => (intro w9 hSw; clear hSw; go_simp; try with_reducible rfl)
    try simp only [Act.put, List.setIfInBounds_toArray, List.set_cons_zero, List.set_cons_succ, List.getElem_toArray, List.getElem_cons_zero, List.getElem_cons_succ]
    refine wpAnyH_take (i := 1) (v := ?v1_7) rfl (by kernel_rfl) (by kernel_rfl) (by kernel_rfl) (fun _ _ _ h => h) (Or.inl ⟨by rfl, ?hy1_7⟩) (by assumption) ?rest1_7
    case hy1_7 => (intro w9 hSw; obtain ⟨sr, sr2⟩ := hSw; obtain ⟨k0, k1, k2, k3, k4⟩ := Rbx.cells sr; obtain ⟨q0, q1, q2, q3, q4⟩ := Rbx.cells sr2; go_simp; try with_reducible rfl)
    try simp only [Act.put, List.setIfInBounds_toArray, List.set_cons_zero, List.set_cons_succ, List.getElem_toArray, List.getElem_cons_zero, List.getElem_cons_succ]
    refine wpAnyH_take (i := 2) (v := ?v2_8) rfl (by kernel_rfl) (by kernel_rfl) (by kernel_rfl) (fun _ _ _ h => h) (Or.inl ⟨by rfl, ?hy2_8⟩) (by assumption) ?rest2_8
    case hy2_8 => (intro w9 hSw; clear hSw; go_simp; try with_reducible rfl)
    try simp only [Act.put, List.setIfInBounds_toArray, List.set_cons_zero, List.set_cons_succ, List.getElem_toArray, List.getElem_cons_zero, List.getElem_cons_succ]
    refine wpAnyH_take (i := 3) (v := ?v3_9) rfl (by kernel_rfl) (by kernel_rfl) (by kernel_rfl) (fun _ _ _ h => h) (Or.inl ⟨by rfl, ?hy3_9⟩) (by assumption) ?rest3_9
    case hy3_9 => (intro w9 hSw; obtain ⟨sr, sr2⟩ := hSw; obtain ⟨k0, k1, k2, k3, k4⟩ := Rbx.cells sr; obtain ⟨q0, q1, q2, q3, q4⟩ := Rbx.cells sr2; go_simp; try with_reducible rfl)
    try simp only [Act.put, List.setIfInBounds_toArray, List.set_cons_zero, List.set_cons_succ, List.getElem_toArray, List.getElem_cons_zero, List.getElem_cons_succ]
    refine wpAnyH_take (i := 5) (v := ?v5_10) rfl (by kernel_rfl) (by kernel_rfl) (by kernel_rfl) (fun _ _ _ h => h) (Or.inl ⟨by rfl, ?hy5_10⟩) (by assumption) ?rest5_10
    case hy5_10 => (intro w9 hSw; obtain ⟨sr, sr2⟩ := hSw; obtain ⟨k0, k1, k2, k3, k4⟩ := Rbx.cells sr; obtain ⟨q0, q1, q2, q3, q4⟩ := Rbx.cells sr2; go_simp; try with_reducible rfl)
    try simp only [Act.put, List.setIfInBounds_toArray, List.set_cons_zero, List.set_cons_succ, List.getElem_toArray, List.getElem_cons_zero, List.getElem_cons_succ]
    refine wpAnyH_ready (rs := [4]) (by kernel_rfl) (by simp) ?_
    refine AllReadyH.cons rfl (fun K hK => ?_) AllReadyH.nil
    go_simp
    with_reducible refine (rMat_fl hP3.rk hT.sr hP3.vk).mono ?_
    rintro e w8 ⟨A7, c7, rfl, hX, hb⟩
    replace DM := DM.on hb
    replace DN := DN.on hb
    replace hF := hF.on hb
    replace hG := hG.on hb
    replace hL := hL.on hb
    replace hT := hT.on hb
    replace hP := hP.on hb
    replace D7 := D7.on hb
    replace D8 := D8.on hb
    replace hT2 := hT2.on hb
    replace hP2 := hP2.on hb
    replace D10 := D10.on hb
    replace D11 := D11.on hb
    replace hP3 := hP3.on hb
    replace bz := bz.trans (hb.mono bz.size)
    clear hb
    refine hK.out _ _ ⟨D8, D11⟩ (fun hH => ?_)
    clear hK K hS
    have hS := hH
    clear hH
    try simp only [Act.put, List.setIfInBounds_toArray, List.set_cons_zero, List.set_cons_succ, List.getElem_toArray, List.getElem_cons_zero, List.getElem_cons_succ]
    refine wpAnyH_ready (rs := [6]) (by kernel_rfl) (by simp) ?_
    refine AllReadyH.cons rfl (fun K hK => ?_) AllReadyH.nil
    go_simp
    with_reducible refine (rMat_fl hP2.rk hT2.sr hP2.vk).mono ?_
    rintro e w9 ⟨A8, c8, rfl, hY, hb⟩
    replace DM := DM.on hb
    replace DN := DN.on hb
    replace hF := hF.on hb
    replace hG := hG.on hb
    replace hL := hL.on hb
    replace hT := hT.on hb
    replace hP := hP.on hb
    replace D7 := D7.on hb
    replace D8 := D8.on hb
    replace hT2 := hT2.on hb
    replace hP2 := hP2.on hb
    replace D10 := D10.on hb
    replace D11 := D11.on hb
    replace hP3 := hP3.on hb
    replace hX := hX.on hb
    replace bz := bz.trans (hb.mono bz.size)
    clear hb
    simp only [HFL.out s2, hll2] at hY
    try simp only [HFL.out s2]
    refine hK.out _ _ ⟨D8, D11⟩ (fun hH => ?_)
    clear hK K hS
    have hS := hH
    clear hH
    try simp only [Act.put, List.setIfInBounds_toArray, List.set_cons_zero, List.set_cons_succ, List.getElem_toArray, List.getElem_cons_zero, List.getElem_cons_succ]
    refine wpAnyH_ready (rs := [7]) (by kernel_rfl) (by simp) ?_
    refine AllReadyH.cons rfl (fun K hK => ?_) AllReadyH.nil
    go_simp
    with_reducible refine (pE _ _ _ _ _ hX _ _ hY).mono ?_
    rintro e w10 ⟨rfl, hb⟩
    replace DM := DM.on hb
    replace DN := DN.on hb
    replace hF := hF.on hb
    replace hG := hG.on hb
    replace hL := hL.on hb
    replace hT := hT.on hb
    replace hP := hP.on hb
    replace D7 := D7.on hb
    replace D8 := D8.on hb
    replace hT2 := hT2.on hb
    replace hP2 := hP2.on hb
    replace D10 := D10.on hb
    replace D11 := D11.on hb
    replace hP3 := hP3.on hb
    replace hX := hX.on hb
    replace hY := hY.on hb
    replace bz := bz.trans (hb.mono bz.size)
    clear hb
    refine hK.out _ _ ⟨D8, D11⟩ (fun hH => ?_)
    clear hK K hS
    have hS := hH
    clear hH
    try simp only [Act.put, List.setIfInBounds_toArray, List.set_cons_zero, List.set_cons_succ, List.getElem_toArray, List.getElem_cons_zero, List.getElem_cons_succ]
    refine wpAnyH_take (i := 8) (v := ?v8_11) rfl (by kernel_rfl) (by kernel_rfl) (by kernel_rfl) (fun _ _ _ h => h) (Or.inl ⟨by rfl, ?hy8_11⟩) (by assumption) ?rest8_11
    case hy8_11 => (intro w9 hSw; clear hSw; go_simp; try with_reducible rfl)
    try simp only [Act.put, List.setIfInBounds_toArray, List.set_cons_zero, List.set_cons_succ, List.getElem_toArray, List.getElem_cons_zero, List.getElem_cons_succ]
    refine wpAnyH_take (i := 9) (v := ?v9_12) rfl (by kernel_rfl) (by kernel_rfl) (by kernel_rfl) (fun _ _ _ h => h) (Or.inl ⟨by rfl, ?hy9_12⟩) (by assumption) ?rest9_12
    case hy9_12 => (intro w9 hSw; clear hSw; go_simp; try with_reducible rfl)
    try simp only [Act.put, List.setIfInBounds_toArray, List.set_cons_zero, List.set_cons_succ, List.getElem_toArray, List.getElem_cons_zero, List.getElem_cons_succ]
    refine wpAnyH_done (by kernel_rfl) ?_ _
    obtain ⟨cD7_0, cD7_1, cD7_2, cD7_3, cD7_4, cD7_5, cD7_6, cD7_7, cD7_8⟩ := Vbx.cells D7
    obtain ⟨d10_0, d10_1, d10_2, d10_3, d10_4, d10_5, d10_6, d10_7, d10_8⟩ := Vbx.cells D10
    have pS1 := fun (W : World) (B B2 : Nat) (h : St W B s g cap C.toNat l) (h2 : St W B2 s2 g2 cap2 C2.toNat l2) => Same_any hP3.vk (fun _ => ⟨h, hll⟩) hP2.vk (fun _ => ⟨h2, hll2⟩)
    have pS2 := fun (W : World) (B B2 : Nat) (h : St W B s g cap C.toNat l) (h2 : St W B2 s2 g2 cap2 C2.toNat l2) => Same_any hP2.vk (fun _ => ⟨h2, hll2⟩) hP3.vk (fun _ => ⟨h, hll⟩)
    have pS3 := fun (W : World) (B : Nat) (h : St W B s g cap C.toNat l) => Same_any hP3.vk (fun _ => ⟨h, hll⟩) hP3.vk (fun _ => ⟨h, hll⟩)
    simp only [sameV_comm V3, hw2] at pS2
    simp only [hw2] at pS1
    simp only [selfV] at pS3
    go_wp2_with fail
    with_reducible refine (pS1 _ _ _ hT.st hT2.st).mono ?_
    rintro e w11 ⟨rfl, hb⟩
    replace DM := DM.on hb
    replace DN := DN.on hb
    replace hF := hF.on hb
    replace hG := hG.on hb
    replace hL := hL.on hb
    replace hT := hT.on hb
    replace hP := hP.on hb
    replace D7 := D7.on hb
    replace D8 := D8.on hb
    replace hT2 := hT2.on hb
    replace hP2 := hP2.on hb
    replace D10 := D10.on hb
    replace D11 := D11.on hb
    replace hP3 := hP3.on hb
    replace hX := hX.on hb
    replace hY := hY.on hb
    replace bz := bz.trans (hb.mono bz.size)
    clear hb cD7_0 cD7_1 cD7_2 cD7_3 cD7_4 cD7_5 cD7_6 cD7_7 cD7_8 d10_0 d10_1 d10_2 d10_3 d10_4 d10_5 d10_6 d10_7 d10_8
    obtain ⟨cD7_0, cD7_1, cD7_2, cD7_3, cD7_4, cD7_5, cD7_6, cD7_7, cD7_8⟩ := Vbx.cells D7
    obtain ⟨d10_0, d10_1, d10_2, d10_3, d10_4, d10_5, d10_6, d10_7, d10_8⟩ := Vbx.cells D10
    go_wp2_with fail
    with_reducible refine (pS2 _ _ _ hT.st hT2.st).mono ?_
    rintro e w12 ⟨rfl, hb⟩
    replace DM := DM.on hb
    replace DN := DN.on hb
    replace hF := hF.on hb
    replace hG := hG.on hb
    replace hL := hL.on hb
    replace hT := hT.on hb
    replace hP := hP.on hb
    replace D7 := D7.on hb
    replace D8 := D8.on hb
    replace hT2 := hT2.on hb
    replace hP2 := hP2.on hb
    replace D10 := D10.on hb
    replace D11 := D11.on hb
    replace hP3 := hP3.on hb
    replace hX := hX.on hb
    replace hY := hY.on hb
    replace bz := bz.trans (hb.mono bz.size)
    clear hb cD7_0 cD7_1 cD7_2 cD7_3 cD7_4 cD7_5 cD7_6 cD7_7 cD7_8 d10_0 d10_1 d10_2 d10_3 d10_4 d10_5 d10_6 d10_7 d10_8
    obtain ⟨cD7_0, cD7_1, cD7_2, cD7_3, cD7_4, cD7_5, cD7_6, cD7_7, cD7_8⟩ := Vbx.cells D7
    go_wp2_with fail
    with_reducible refine (pS3 _ _ hT.st).mono ?_
    rintro e w13 ⟨rfl, hb⟩
    replace DM := DM.on hb
    replace DN := DN.on hb
    replace hF := hF.on hb
    replace hG := hG.on hb
    replace hL := hL.on hb
    replace hT := hT.on hb
    replace hP := hP.on hb
    replace D7 := D7.on hb
    replace D8 := D8.on hb
    replace hT2 := hT2.on hb
    replace hP2 := hP2.on hb
    replace D10 := D10.on hb
    replace D11 := D11.on hb
    replace hP3 := hP3.on hb
    replace hX := hX.on hb
    replace hY := hY.on hb
    replace bz := bz.trans (hb.mono bz.size)
    clear hb cD7_0 cD7_1 cD7_2 cD7_3 cD7_4 cD7_5 cD7_6 cD7_7 cD7_8
    go_wp2_with fail
    with_reducible refine (known_any _).mono ?_
    rintro e w14 ⟨rfl, hb⟩
    replace DM := DM.on hb
    replace DN := DN.on hb
    replace hF := hF.on hb
    replace hG := hG.on hb
    replace hL := hL.on hb
    replace hT := hT.on hb
    replace hP := hP.on hb
    replace D7 := D7.on hb
    replace D8 := D8.on hb
    replace hT2 := hT2.on hb
    replace hP2 := hP2.on hb
    replace D10 := D10.on hb
    replace D11 := D11.on hb
    replace hP3 := hP3.on hb
    replace hX := hX.on hb
    replace hY := hY.on hb
    replace bz := bz.trans (hb.mono bz.size)
    go_wp2_with fail
    go_ret
    exact ⟨rfl, bz⟩
theorem law_same (h : FL w A n c l) (h2 : FL w A2 n2 c2 l2) (hL : SL w w.heap.size A9 m c9 ss) : Calls Try.prog 8 #[mV R C A n c, mV R2 C2 A2 n2 c2, .slice A9 m c9] w (Ans w (.bool true)) := by
  cases hb1 : bigB n
  · cases hb2 : bigB n2
    · cases hm : decide ((12 : Int) < m)
      · cases hm1 : mayB R C n
        · exact same_4 h h2 hL hb1 hb2 hm hm1
        · cases hm2 : mayB R2 C2 n2
          · exact same_5 h h2 hL hb1 hb2 hm hm1 hm2
          · exact same_6 h h2 hL hb1 hb2 hm hm1 hm2
      · exact same_3 h h2 hL hb1 hb2 hm
    · exact same_2 h h2 hL hb1 hb2
  · exact same_1 h h2 hL hb1
end
end Go.Proofs.Ytceoefgjjekgaaa
