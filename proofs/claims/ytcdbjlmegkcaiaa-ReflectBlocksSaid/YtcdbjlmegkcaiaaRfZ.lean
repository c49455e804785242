/-
  Layer 9: the law of several reflections at once. (Written by wip/tools/gen_rfz.py.)
-/
import Derived.Test.YtcdbjlmegkcaiaaRfX
import Derived.Test.YtcdbjlmegkcaiaaRfY
import Derived.Test.YtcdbjlmegkcaiaaRfM
namespace Go.Proofs.Ytcdbjlmegkcaiaa
open Go.RowKit Go.Bw
set_option linter.unusedVariables false
set_option linter.unusedSimpArgs false
attribute [local go_sem] run_store_float

abbrev RTrue (w : World) (e : Ending) (w' : World) : Prop := e = .returned (.bool true) ∧ Below w.heap.size w w'

set_option maxRecDepth 100000 in
set_option maxHeartbeats 16000000 in
theorem few_any {R C : Int} {A : Option Addr} {n c : Nat} {l : List Int} {w : World} (h : FL w A n c l) : Calls Try.prog 12 #[mV R C A n c] w (Ans w (.bool (decide (n ≤ 400)))) := by
  have hmx := h.max
  have bz := (Below.refl _ w).alloc (Nat.le_refl _) (.cells #[.int .i64 R, .int .i64 C, .slice A n c] 36)
  obtain ⟨b, hb⟩ : ∃ b, decide (n ≤ 400) = b := ⟨_, rfl⟩
  have hb2 : decide ((n : Int) ≤ 400) = b := by rw [← hb]; exact decide_eq_decide.2 (by omega)
  rw [hb]
  clear h hb
  go_enter Try.func12, Try.ntmps12
  go_wp2_with fail
  go_ret
  exact ⟨by first | rfl | simp [hb2], bz⟩

set_option maxRecDepth 100000 in
set_option maxHeartbeats 8000000 in
theorem blk_e0 {w : World} {A TA LA : Option Addr} {n c tn tc9 k kc : Nat} {R C TR TC : Int} {l tl : List Int} {hs : List Re} (h : FL w A n c l) (ht : FL w TA tn tc9 tl) (hL : Rl w LA k kc hs) (hn4 : 400 < n) : Calls Try.prog 6 #[mV R C A n c, mV TR TC TA tn tc9, .slice LA k kc] w (RTrue w) := by
  have hn1 := h.max
  have ht1 := ht.max
  have hk1 := hL.2.1
  have hlenN := hL.1
  have pf := fun (W : World) (hh : FL W A n c l) => few_any (R := R) (C := C) hh
  have pt := fun (W : World) (hh : FL W TA tn tc9 tl) => few_any (R := TR) (C := TC) hh
  have bz := ((Below.refl _ w).alloc (Nat.le_refl _) (.cells #[.int .i64 R, .int .i64 C, .slice A n c] 36)).alloc (by simp) (.cells #[.int .i64 TR, .int .i64 TC, .slice TA tn tc9] 36)
  have DM := (Blk.new w [.int .i64 R, .int .i64 C, .slice A n c] 36).alloc (.cells #[.int .i64 TR, .int .i64 TC, .slice TA tn tc9] 36)
  have DT := Blk.new (w.alloc (.cells #[.int .i64 R, .int .i64 C, .slice A n c] 36)) [.int .i64 TR, .int .i64 TC, .slice TA tn tc9] 36
  rw [World.size_alloc] at DT
  replace h := h.on bz
  replace ht := ht.on bz
  replace hL := hL.on bz
  rw [decide_eq_false (by omega)] at pf
  go_enter Try.func6, Try.ntmps6
  obtain ⟨y0, y1, y2, y3, y4, y5⟩ := Mbx.cells DM
  obtain ⟨u0, u1, u2, u3, u4, u5⟩ := Mbx.cells DT
  go_wp2_with fail
  with_reducible refine (pf _ h).mono ?_
  rintro e w1 ⟨rfl, hb⟩
  clear y0 y1 y2 y3 y4 y5 u0 u1 u2 u3 u4 u5 pf
  replace h := h.on hb
  replace ht := ht.on hb
  replace hL := hL.on hb
  replace DM := DM.on hb
  replace DT := DT.on hb
  replace bz := bz.trans (hb.mono bz.size)
  clear hb
  go_wp2_with fail
  with_reducible refine (known_any _).mono ?_
  rintro e w9 ⟨rfl, hb9⟩
  go_wp2_with fail
  go_ret
  exact ⟨rfl, bz.trans (hb9.mono bz.size)⟩
set_option maxRecDepth 100000 in
set_option maxHeartbeats 8000000 in
theorem blk_e1 {w : World} {A TA LA : Option Addr} {n c tn tc9 k kc : Nat} {R C TR TC : Int} {l tl : List Int} {hs : List Re} (h : FL w A n c l) (ht : FL w TA tn tc9 tl) (hL : Rl w LA k kc hs) (hn4 : n ≤ 400) (ht4 : 400 < tn) : Calls Try.prog 6 #[mV R C A n c, mV TR TC TA tn tc9, .slice LA k kc] w (RTrue w) := by
  have hn1 := h.max
  have ht1 := ht.max
  have hk1 := hL.2.1
  have hlenN := hL.1
  have pf := fun (W : World) (hh : FL W A n c l) => few_any (R := R) (C := C) hh
  have pt := fun (W : World) (hh : FL W TA tn tc9 tl) => few_any (R := TR) (C := TC) hh
  have bz := ((Below.refl _ w).alloc (Nat.le_refl _) (.cells #[.int .i64 R, .int .i64 C, .slice A n c] 36)).alloc (by simp) (.cells #[.int .i64 TR, .int .i64 TC, .slice TA tn tc9] 36)
  have DM := (Blk.new w [.int .i64 R, .int .i64 C, .slice A n c] 36).alloc (.cells #[.int .i64 TR, .int .i64 TC, .slice TA tn tc9] 36)
  have DT := Blk.new (w.alloc (.cells #[.int .i64 R, .int .i64 C, .slice A n c] 36)) [.int .i64 TR, .int .i64 TC, .slice TA tn tc9] 36
  rw [World.size_alloc] at DT
  replace h := h.on bz
  replace ht := ht.on bz
  replace hL := hL.on bz
  rw [decide_eq_true hn4] at pf
  rw [decide_eq_false (by omega)] at pt
  go_enter Try.func6, Try.ntmps6
  obtain ⟨y0, y1, y2, y3, y4, y5⟩ := Mbx.cells DM
  obtain ⟨u0, u1, u2, u3, u4, u5⟩ := Mbx.cells DT
  go_wp2_with fail
  with_reducible refine (pf _ h).mono ?_
  rintro e w1 ⟨rfl, hb⟩
  clear y0 y1 y2 y3 y4 y5 u0 u1 u2 u3 u4 u5 pf
  replace h := h.on hb
  replace ht := ht.on hb
  replace hL := hL.on hb
  replace DM := DM.on hb
  replace DT := DT.on hb
  replace bz := bz.trans (hb.mono bz.size)
  clear hb
  obtain ⟨y0, y1, y2, y3, y4, y5⟩ := Mbx.cells DM
  obtain ⟨u0, u1, u2, u3, u4, u5⟩ := Mbx.cells DT
  go_wp2_with fail
  with_reducible refine (pt _ ht).mono ?_
  rintro e w2 ⟨rfl, hb⟩
  clear y0 y1 y2 y3 y4 y5 u0 u1 u2 u3 u4 u5 pt
  replace h := h.on hb
  replace ht := ht.on hb
  replace hL := hL.on hb
  replace DM := DM.on hb
  replace DT := DT.on hb
  replace bz := bz.trans (hb.mono bz.size)
  clear hb
  go_wp2_with fail
  with_reducible refine (known_any _).mono ?_
  rintro e w9 ⟨rfl, hb9⟩
  go_wp2_with fail
  go_ret
  exact ⟨rfl, bz.trans (hb9.mono bz.size)⟩
set_option maxRecDepth 100000 in
set_option maxHeartbeats 8000000 in
theorem blk_e2 {w : World} {A TA LA : Option Addr} {n c tn tc9 k kc : Nat} {R C TR TC : Int} {l tl : List Int} {hs : List Re} (h : FL w A n c l) (ht : FL w TA tn tc9 tl) (hL : Rl w LA k kc hs) (hn4 : n ≤ 400) (ht4 : tn ≤ 400) (hk20 : 20 < k) : Calls Try.prog 6 #[mV R C A n c, mV TR TC TA tn tc9, .slice LA k kc] w (RTrue w) := by
  have hn1 := h.max
  have ht1 := ht.max
  have hk1 := hL.2.1
  have hlenN := hL.1
  have pf := fun (W : World) (hh : FL W A n c l) => few_any (R := R) (C := C) hh
  have pt := fun (W : World) (hh : FL W TA tn tc9 tl) => few_any (R := TR) (C := TC) hh
  have bz := ((Below.refl _ w).alloc (Nat.le_refl _) (.cells #[.int .i64 R, .int .i64 C, .slice A n c] 36)).alloc (by simp) (.cells #[.int .i64 TR, .int .i64 TC, .slice TA tn tc9] 36)
  have DM := (Blk.new w [.int .i64 R, .int .i64 C, .slice A n c] 36).alloc (.cells #[.int .i64 TR, .int .i64 TC, .slice TA tn tc9] 36)
  have DT := Blk.new (w.alloc (.cells #[.int .i64 R, .int .i64 C, .slice A n c] 36)) [.int .i64 TR, .int .i64 TC, .slice TA tn tc9] 36
  rw [World.size_alloc] at DT
  replace h := h.on bz
  replace ht := ht.on bz
  replace hL := hL.on bz
  rw [decide_eq_true hn4] at pf
  rw [decide_eq_true ht4] at pt
  have hk21 : (20 : Int) < k := by omega
  go_enter Try.func6, Try.ntmps6
  obtain ⟨y0, y1, y2, y3, y4, y5⟩ := Mbx.cells DM
  obtain ⟨u0, u1, u2, u3, u4, u5⟩ := Mbx.cells DT
  go_wp2_with fail
  with_reducible refine (pf _ h).mono ?_
  rintro e w1 ⟨rfl, hb⟩
  clear y0 y1 y2 y3 y4 y5 u0 u1 u2 u3 u4 u5 pf
  replace h := h.on hb
  replace ht := ht.on hb
  replace hL := hL.on hb
  replace DM := DM.on hb
  replace DT := DT.on hb
  replace bz := bz.trans (hb.mono bz.size)
  clear hb
  obtain ⟨y0, y1, y2, y3, y4, y5⟩ := Mbx.cells DM
  obtain ⟨u0, u1, u2, u3, u4, u5⟩ := Mbx.cells DT
  go_wp2_with fail
  with_reducible refine (pt _ ht).mono ?_
  rintro e w2 ⟨rfl, hb⟩
  clear y0 y1 y2 y3 y4 y5 u0 u1 u2 u3 u4 u5 pt
  replace h := h.on hb
  replace ht := ht.on hb
  replace hL := hL.on hb
  replace DM := DM.on hb
  replace DT := DT.on hb
  replace bz := bz.trans (hb.mono bz.size)
  clear hb
  go_wp2_with fail
  with_reducible refine (known_any _).mono ?_
  rintro e w9 ⟨rfl, hb9⟩
  go_wp2_with fail
  go_ret
  exact ⟨rfl, bz.trans (hb9.mono bz.size)⟩
set_option maxRecDepth 100000 in
set_option maxHeartbeats 8000000 in
theorem blk_b1 {w : World} {A TA LA : Option Addr} {n c tn tc9 k kc : Nat} {R C TR TC : Int} {l tl : List Int} {hs : List Re} (h : FL w A n c l) (ht : FL w TA tn tc9 tl) (hL : Rl w LA k kc hs) (hn4 : n ≤ 400) (ht4 : tn ≤ 400) (hk20 : k ≤ 20) (hA : mayB R C n = false) : Calls Try.prog 6 #[mV R C A n c, mV TR TC TA tn tc9, .slice LA k kc] w (RTrue w) := by
  have hn1 := h.max
  have ht1 := ht.max
  have hk1 := hL.2.1
  have hlenN := hL.1
  have pf := fun (W : World) (hh : FL W A n c l) => few_any (R := R) (C := C) hh
  have pt := fun (W : World) (hh : FL W TA tn tc9 tl) => few_any (R := TR) (C := TC) hh
  have bz := ((Below.refl _ w).alloc (Nat.le_refl _) (.cells #[.int .i64 R, .int .i64 C, .slice A n c] 36)).alloc (by simp) (.cells #[.int .i64 TR, .int .i64 TC, .slice TA tn tc9] 36)
  have DM := (Blk.new w [.int .i64 R, .int .i64 C, .slice A n c] 36).alloc (.cells #[.int .i64 TR, .int .i64 TC, .slice TA tn tc9] 36)
  have DT := Blk.new (w.alloc (.cells #[.int .i64 R, .int .i64 C, .slice A n c] 36)) [.int .i64 TR, .int .i64 TC, .slice TA tn tc9] 36
  rw [World.size_alloc] at DT
  replace h := h.on bz
  replace ht := ht.on bz
  replace hL := hL.on bz
  rw [decide_eq_true hn4] at pf
  rw [decide_eq_true ht4] at pt
  have hk21 : ¬ (20 : Int) < k := by omega
  have pmA := fun W => rMay_any (R := R) (C := C) (A := A) (n := n) (c := c) hn1 W
  rw [hA] at pmA
  have pg := fun (W : World) (h1 : FL W A n c l) (h2 : FL W TA tn tc9 tl) (h3 : Rl W LA k kc hs) => gBlock_no (R := R) (C := C) (TR := TR) (TC := TC) (E := 2) h1 h2 h3 (by unfold blkC; rw [hA]; rfl) (by decide)
  clear hA
  go_enter Try.func6, Try.ntmps6
  obtain ⟨y0, y1, y2, y3, y4, y5⟩ := Mbx.cells DM
  obtain ⟨u0, u1, u2, u3, u4, u5⟩ := Mbx.cells DT
  go_wp2_with fail
  with_reducible refine (pf _ h).mono ?_
  rintro e w1 ⟨rfl, hb⟩
  clear y0 y1 y2 y3 y4 y5 u0 u1 u2 u3 u4 u5 pf
  replace h := h.on hb
  replace ht := ht.on hb
  replace hL := hL.on hb
  replace DM := DM.on hb
  replace DT := DT.on hb
  replace bz := bz.trans (hb.mono bz.size)
  clear hb
  obtain ⟨y0, y1, y2, y3, y4, y5⟩ := Mbx.cells DM
  obtain ⟨u0, u1, u2, u3, u4, u5⟩ := Mbx.cells DT
  go_wp2_with fail
  with_reducible refine (pt _ ht).mono ?_
  rintro e w2 ⟨rfl, hb⟩
  clear y0 y1 y2 y3 y4 y5 u0 u1 u2 u3 u4 u5 pt
  replace h := h.on hb
  replace ht := ht.on hb
  replace hL := hL.on hb
  replace DM := DM.on hb
  replace DT := DT.on hb
  replace bz := bz.trans (hb.mono bz.size)
  clear hb
  go_wp2_with fail
  with_reducible refine (total_any hL).mono ?_
  rintro e w9 ⟨z, rfl, rfl⟩
  by_cases hz : 400 < z
  · skip
    go_wp2_with fail
    with_reducible refine (known_any _).mono ?_
    rintro e w9 ⟨rfl, hb9⟩
    go_wp2_with fail
    go_ret
    exact ⟨rfl, bz.trans (hb9.mono bz.size)⟩
  · skip
    obtain ⟨y0, y1, y2, y3, y4, y5⟩ := Mbx.cells DM
    obtain ⟨u0, u1, u2, u3, u4, u5⟩ := Mbx.cells DT
    go_wp2_with fail
    with_reducible refine (pg _ h ht hL).mono ?_
    rintro e w3 ⟨rfl, hb⟩
    clear y0 y1 y2 y3 y4 y5 u0 u1 u2 u3 u4 u5 pg
    replace h := h.on hb
    replace ht := ht.on hb
    replace hL := hL.on hb
    replace DM := DM.on hb
    replace DT := DT.on hb
    replace bz := bz.trans (hb.mono bz.size)
    clear hb
    have DX := Blk.new w3 [.int .i64 0, .int .i64 0, .slice none 0 0] 36
    have hbA := (Below.refl _ w3).alloc (Nat.le_refl _) (.cells #[.int .i64 0, .int .i64 0, .slice none 0 0] 36)
    replace h := h.on hbA
    replace ht := ht.on hbA
    replace hL := hL.on hbA
    replace DM := DM.on hbA
    replace DT := DT.on hbA
    clear hbA
    replace bz := bz.alloc bz.size (.cells #[.int .i64 0, .int .i64 0, .slice none 0 0] 36)
    obtain ⟨BX, hBX⟩ : ∃ b, w3.heap.size = b := ⟨_, rfl⟩
    rw [hBX] at DX
    obtain ⟨y0, y1, y2, y3, y4, y5⟩ := Mbx.cells DM
    obtain ⟨u0, u1, u2, u3, u4, u5⟩ := Mbx.cells DT
    go_wp2_with fail
    with_reducible refine (pmA _).mono ?_
    rintro e w4 ⟨rfl, hb⟩
    clear y0 y1 y2 y3 y4 y5 u0 u1 u2 u3 u4 u5 pmA
    replace h := h.on hb
    replace ht := ht.on hb
    replace hL := hL.on hb
    replace DM := DM.on hb
    replace DT := DT.on hb
    replace DX := DX.on hb
    replace bz := bz.trans (hb.mono bz.size)
    clear hb
    obtain ⟨v0, v1, v2, _, _, _⟩ := Mbx.cells DX
    go_wp2_with fail
    with_reducible refine (rSameM_any (R := 0) (C := 0) (FL.nil _) (FL.nil _) (fun k hk => by omega)).mono ?_
    rintro e w5 ⟨rfl, hb⟩
    clear v0 v1 v2
    replace h := h.on hb
    replace ht := ht.on hb
    replace hL := hL.on hb
    replace DM := DM.on hb
    replace DT := DT.on hb
    replace DX := DX.on hb
    replace bz := bz.trans (hb.mono bz.size)
    clear hb
    go_wp2_with fail
    with_reducible refine (known_any _).mono ?_
    rintro e w9 ⟨rfl, hb9⟩
    go_wp2_with fail
    go_ret
    exact ⟨rfl, bz.trans (hb9.mono bz.size)⟩
set_option maxRecDepth 100000 in
set_option maxHeartbeats 8000000 in
theorem blk_b2 {w : World} {A TA LA : Option Addr} {n c tn tc9 k kc : Nat} {R C TR TC : Int} {l tl : List Int} {hs : List Re} (h : FL w A n c l) (ht : FL w TA tn tc9 tl) (hL : Rl w LA k kc hs) (hn4 : n ≤ 400) (ht4 : tn ≤ 400) (hk20 : k ≤ 20) (hA : mayB R C n = true) (hT : mayB TR TC tn = false) : Calls Try.prog 6 #[mV R C A n c, mV TR TC TA tn tc9, .slice LA k kc] w (RTrue w) := by
  have hn1 := h.max
  have ht1 := ht.max
  have hk1 := hL.2.1
  have hlenN := hL.1
  have pf := fun (W : World) (hh : FL W A n c l) => few_any (R := R) (C := C) hh
  have pt := fun (W : World) (hh : FL W TA tn tc9 tl) => few_any (R := TR) (C := TC) hh
  have bz := ((Below.refl _ w).alloc (Nat.le_refl _) (.cells #[.int .i64 R, .int .i64 C, .slice A n c] 36)).alloc (by simp) (.cells #[.int .i64 TR, .int .i64 TC, .slice TA tn tc9] 36)
  have DM := (Blk.new w [.int .i64 R, .int .i64 C, .slice A n c] 36).alloc (.cells #[.int .i64 TR, .int .i64 TC, .slice TA tn tc9] 36)
  have DT := Blk.new (w.alloc (.cells #[.int .i64 R, .int .i64 C, .slice A n c] 36)) [.int .i64 TR, .int .i64 TC, .slice TA tn tc9] 36
  rw [World.size_alloc] at DT
  replace h := h.on bz
  replace ht := ht.on bz
  replace hL := hL.on bz
  rw [decide_eq_true hn4] at pf
  rw [decide_eq_true ht4] at pt
  have hk21 : ¬ (20 : Int) < k := by omega
  have pmA := fun W => rMay_any (R := R) (C := C) (A := A) (n := n) (c := c) hn1 W
  rw [hA] at pmA
  have pmT := fun W => rMay_any (R := TR) (C := TC) (A := TA) (n := tn) (c := tc9) ht1 W
  rw [hT] at pmT
  have pg := fun (W : World) (h1 : FL W A n c l) (h2 : FL W TA tn tc9 tl) (h3 : Rl W LA k kc hs) => gBlock_no (R := R) (C := C) (TR := TR) (TC := TC) (E := 2) h1 h2 h3 (by unfold blkC; rw [hA, hT]; rfl) (by decide)
  clear hA hT
  go_enter Try.func6, Try.ntmps6
  obtain ⟨y0, y1, y2, y3, y4, y5⟩ := Mbx.cells DM
  obtain ⟨u0, u1, u2, u3, u4, u5⟩ := Mbx.cells DT
  go_wp2_with fail
  with_reducible refine (pf _ h).mono ?_
  rintro e w1 ⟨rfl, hb⟩
  clear y0 y1 y2 y3 y4 y5 u0 u1 u2 u3 u4 u5 pf
  replace h := h.on hb
  replace ht := ht.on hb
  replace hL := hL.on hb
  replace DM := DM.on hb
  replace DT := DT.on hb
  replace bz := bz.trans (hb.mono bz.size)
  clear hb
  obtain ⟨y0, y1, y2, y3, y4, y5⟩ := Mbx.cells DM
  obtain ⟨u0, u1, u2, u3, u4, u5⟩ := Mbx.cells DT
  go_wp2_with fail
  with_reducible refine (pt _ ht).mono ?_
  rintro e w2 ⟨rfl, hb⟩
  clear y0 y1 y2 y3 y4 y5 u0 u1 u2 u3 u4 u5 pt
  replace h := h.on hb
  replace ht := ht.on hb
  replace hL := hL.on hb
  replace DM := DM.on hb
  replace DT := DT.on hb
  replace bz := bz.trans (hb.mono bz.size)
  clear hb
  go_wp2_with fail
  with_reducible refine (total_any hL).mono ?_
  rintro e w9 ⟨z, rfl, rfl⟩
  by_cases hz : 400 < z
  · skip
    go_wp2_with fail
    with_reducible refine (known_any _).mono ?_
    rintro e w9 ⟨rfl, hb9⟩
    go_wp2_with fail
    go_ret
    exact ⟨rfl, bz.trans (hb9.mono bz.size)⟩
  · skip
    obtain ⟨y0, y1, y2, y3, y4, y5⟩ := Mbx.cells DM
    obtain ⟨u0, u1, u2, u3, u4, u5⟩ := Mbx.cells DT
    go_wp2_with fail
    with_reducible refine (pg _ h ht hL).mono ?_
    rintro e w3 ⟨rfl, hb⟩
    clear y0 y1 y2 y3 y4 y5 u0 u1 u2 u3 u4 u5 pg
    replace h := h.on hb
    replace ht := ht.on hb
    replace hL := hL.on hb
    replace DM := DM.on hb
    replace DT := DT.on hb
    replace bz := bz.trans (hb.mono bz.size)
    clear hb
    have DX := Blk.new w3 [.int .i64 0, .int .i64 0, .slice none 0 0] 36
    have hbA := (Below.refl _ w3).alloc (Nat.le_refl _) (.cells #[.int .i64 0, .int .i64 0, .slice none 0 0] 36)
    replace h := h.on hbA
    replace ht := ht.on hbA
    replace hL := hL.on hbA
    replace DM := DM.on hbA
    replace DT := DT.on hbA
    clear hbA
    replace bz := bz.alloc bz.size (.cells #[.int .i64 0, .int .i64 0, .slice none 0 0] 36)
    obtain ⟨BX, hBX⟩ : ∃ b, w3.heap.size = b := ⟨_, rfl⟩
    rw [hBX] at DX
    obtain ⟨y0, y1, y2, y3, y4, y5⟩ := Mbx.cells DM
    obtain ⟨u0, u1, u2, u3, u4, u5⟩ := Mbx.cells DT
    go_wp2_with fail
    with_reducible refine (pmA _).mono ?_
    rintro e w4 ⟨rfl, hb⟩
    clear y0 y1 y2 y3 y4 y5 u0 u1 u2 u3 u4 u5 pmA
    replace h := h.on hb
    replace ht := ht.on hb
    replace hL := hL.on hb
    replace DM := DM.on hb
    replace DT := DT.on hb
    replace DX := DX.on hb
    replace bz := bz.trans (hb.mono bz.size)
    clear hb
    obtain ⟨y0, y1, y2, y3, y4, y5⟩ := Mbx.cells DM
    obtain ⟨u0, u1, u2, u3, u4, u5⟩ := Mbx.cells DT
    go_wp2_with fail
    with_reducible refine (pmT _).mono ?_
    rintro e w5 ⟨rfl, hb⟩
    clear y0 y1 y2 y3 y4 y5 u0 u1 u2 u3 u4 u5 pmT
    replace h := h.on hb
    replace ht := ht.on hb
    replace hL := hL.on hb
    replace DM := DM.on hb
    replace DT := DT.on hb
    replace DX := DX.on hb
    replace bz := bz.trans (hb.mono bz.size)
    clear hb
    obtain ⟨v0, v1, v2, _, _, _⟩ := Mbx.cells DX
    go_wp2_with fail
    with_reducible refine (rSameM_any (R := 0) (C := 0) (FL.nil _) (FL.nil _) (fun k hk => by omega)).mono ?_
    rintro e w6 ⟨rfl, hb⟩
    clear v0 v1 v2
    replace h := h.on hb
    replace ht := ht.on hb
    replace hL := hL.on hb
    replace DM := DM.on hb
    replace DT := DT.on hb
    replace DX := DX.on hb
    replace bz := bz.trans (hb.mono bz.size)
    clear hb
    go_wp2_with fail
    with_reducible refine (known_any _).mono ?_
    rintro e w9 ⟨rfl, hb9⟩
    go_wp2_with fail
    go_ret
    exact ⟨rfl, bz.trans (hb9.mono bz.size)⟩
set_option maxRecDepth 100000 in
set_option maxHeartbeats 8000000 in
theorem blk_b3 {w : World} {A TA LA : Option Addr} {n c tn tc9 k kc : Nat} {R C TR TC : Int} {l tl : List Int} {hs : List Re} (h : FL w A n c l) (ht : FL w TA tn tc9 tl) (hL : Rl w LA k kc hs) (hn4 : n ≤ 400) (ht4 : tn ≤ 400) (hk20 : k ≤ 20) (hA : mayB R C n = true) (hT : mayB TR TC tn = true) (hG : togB hs = false) : Calls Try.prog 6 #[mV R C A n c, mV TR TC TA tn tc9, .slice LA k kc] w (RTrue w) := by
  have hn1 := h.max
  have ht1 := ht.max
  have hk1 := hL.2.1
  have hlenN := hL.1
  have pf := fun (W : World) (hh : FL W A n c l) => few_any (R := R) (C := C) hh
  have pt := fun (W : World) (hh : FL W TA tn tc9 tl) => few_any (R := TR) (C := TC) hh
  have bz := ((Below.refl _ w).alloc (Nat.le_refl _) (.cells #[.int .i64 R, .int .i64 C, .slice A n c] 36)).alloc (by simp) (.cells #[.int .i64 TR, .int .i64 TC, .slice TA tn tc9] 36)
  have DM := (Blk.new w [.int .i64 R, .int .i64 C, .slice A n c] 36).alloc (.cells #[.int .i64 TR, .int .i64 TC, .slice TA tn tc9] 36)
  have DT := Blk.new (w.alloc (.cells #[.int .i64 R, .int .i64 C, .slice A n c] 36)) [.int .i64 TR, .int .i64 TC, .slice TA tn tc9] 36
  rw [World.size_alloc] at DT
  replace h := h.on bz
  replace ht := ht.on bz
  replace hL := hL.on bz
  rw [decide_eq_true hn4] at pf
  rw [decide_eq_true ht4] at pt
  have hk21 : ¬ (20 : Int) < k := by omega
  have pmA := fun W => rMay_any (R := R) (C := C) (A := A) (n := n) (c := c) hn1 W
  rw [hA] at pmA
  have pmT := fun W => rMay_any (R := TR) (C := TC) (A := TA) (n := tn) (c := tc9) ht1 W
  rw [hT] at pmT
  have HG := Lib.hid hG
  clear hG
  have pg := fun (W : World) (h1 : FL W A n c l) (h2 : FL W TA tn tc9 tl) (h3 : Rl W LA k kc hs) => gBlock_no (R := R) (C := C) (TR := TR) (TC := TC) (E := 2) h1 h2 h3 (by unfold blkC; rw [hA, hT, HG.out]; rfl) (by decide)
  clear hA hT
  go_enter Try.func6, Try.ntmps6
  obtain ⟨y0, y1, y2, y3, y4, y5⟩ := Mbx.cells DM
  obtain ⟨u0, u1, u2, u3, u4, u5⟩ := Mbx.cells DT
  go_wp2_with fail
  with_reducible refine (pf _ h).mono ?_
  rintro e w1 ⟨rfl, hb⟩
  clear y0 y1 y2 y3 y4 y5 u0 u1 u2 u3 u4 u5 pf
  replace h := h.on hb
  replace ht := ht.on hb
  replace hL := hL.on hb
  replace DM := DM.on hb
  replace DT := DT.on hb
  replace bz := bz.trans (hb.mono bz.size)
  clear hb
  obtain ⟨y0, y1, y2, y3, y4, y5⟩ := Mbx.cells DM
  obtain ⟨u0, u1, u2, u3, u4, u5⟩ := Mbx.cells DT
  go_wp2_with fail
  with_reducible refine (pt _ ht).mono ?_
  rintro e w2 ⟨rfl, hb⟩
  clear y0 y1 y2 y3 y4 y5 u0 u1 u2 u3 u4 u5 pt
  replace h := h.on hb
  replace ht := ht.on hb
  replace hL := hL.on hb
  replace DM := DM.on hb
  replace DT := DT.on hb
  replace bz := bz.trans (hb.mono bz.size)
  clear hb
  go_wp2_with fail
  with_reducible refine (total_any hL).mono ?_
  rintro e w9 ⟨z, rfl, rfl⟩
  by_cases hz : 400 < z
  · skip
    go_wp2_with fail
    with_reducible refine (known_any _).mono ?_
    rintro e w9 ⟨rfl, hb9⟩
    go_wp2_with fail
    go_ret
    exact ⟨rfl, bz.trans (hb9.mono bz.size)⟩
  · skip
    obtain ⟨y0, y1, y2, y3, y4, y5⟩ := Mbx.cells DM
    obtain ⟨u0, u1, u2, u3, u4, u5⟩ := Mbx.cells DT
    go_wp2_with fail
    with_reducible refine (pg _ h ht hL).mono ?_
    rintro e w3 ⟨rfl, hb⟩
    clear y0 y1 y2 y3 y4 y5 u0 u1 u2 u3 u4 u5 pg
    replace h := h.on hb
    replace ht := ht.on hb
    replace hL := hL.on hb
    replace DM := DM.on hb
    replace DT := DT.on hb
    replace bz := bz.trans (hb.mono bz.size)
    clear hb
    have DX := Blk.new w3 [.int .i64 0, .int .i64 0, .slice none 0 0] 36
    have hbA := (Below.refl _ w3).alloc (Nat.le_refl _) (.cells #[.int .i64 0, .int .i64 0, .slice none 0 0] 36)
    replace h := h.on hbA
    replace ht := ht.on hbA
    replace hL := hL.on hbA
    replace DM := DM.on hbA
    replace DT := DT.on hbA
    clear hbA
    replace bz := bz.alloc bz.size (.cells #[.int .i64 0, .int .i64 0, .slice none 0 0] 36)
    obtain ⟨BX, hBX⟩ : ∃ b, w3.heap.size = b := ⟨_, rfl⟩
    rw [hBX] at DX
    obtain ⟨y0, y1, y2, y3, y4, y5⟩ := Mbx.cells DM
    obtain ⟨u0, u1, u2, u3, u4, u5⟩ := Mbx.cells DT
    go_wp2_with fail
    with_reducible refine (pmA _).mono ?_
    rintro e w4 ⟨rfl, hb⟩
    clear y0 y1 y2 y3 y4 y5 u0 u1 u2 u3 u4 u5 pmA
    replace h := h.on hb
    replace ht := ht.on hb
    replace hL := hL.on hb
    replace DM := DM.on hb
    replace DT := DT.on hb
    replace DX := DX.on hb
    replace bz := bz.trans (hb.mono bz.size)
    clear hb
    obtain ⟨y0, y1, y2, y3, y4, y5⟩ := Mbx.cells DM
    obtain ⟨u0, u1, u2, u3, u4, u5⟩ := Mbx.cells DT
    go_wp2_with fail
    with_reducible refine (pmT _).mono ?_
    rintro e w5 ⟨rfl, hb⟩
    clear y0 y1 y2 y3 y4 y5 u0 u1 u2 u3 u4 u5 pmT
    replace h := h.on hb
    replace ht := ht.on hb
    replace hL := hL.on hb
    replace DM := DM.on hb
    replace DT := DT.on hb
    replace DX := DX.on hb
    replace bz := bz.trans (hb.mono bz.size)
    clear hb
    go_wp2_with fail
    with_reducible refine (rAlike_any hL (by omega) HG.out).mono ?_
    rintro e w6 ⟨rfl, hb⟩
    replace h := h.on hb
    replace ht := ht.on hb
    replace hL := hL.on hb
    replace DM := DM.on hb
    replace DT := DT.on hb
    replace DX := DX.on hb
    replace bz := bz.trans (hb.mono bz.size)
    clear hb
    obtain ⟨v0, v1, v2, _, _, _⟩ := Mbx.cells DX
    go_wp2_with fail
    with_reducible refine (rSameM_any (R := 0) (C := 0) (FL.nil _) (FL.nil _) (fun k hk => by omega)).mono ?_
    rintro e w7 ⟨rfl, hb⟩
    clear v0 v1 v2
    replace h := h.on hb
    replace ht := ht.on hb
    replace hL := hL.on hb
    replace DM := DM.on hb
    replace DT := DT.on hb
    replace DX := DX.on hb
    replace bz := bz.trans (hb.mono bz.size)
    clear hb
    go_wp2_with fail
    with_reducible refine (known_any _).mono ?_
    rintro e w9 ⟨rfl, hb9⟩
    go_wp2_with fail
    go_ret
    exact ⟨rfl, bz.trans (hb9.mono bz.size)⟩
set_option maxRecDepth 100000 in
set_option maxHeartbeats 8000000 in
theorem blk_b4 {w : World} {A TA LA : Option Addr} {n c tn tc9 k kc : Nat} {R C TR TC : Int} {l tl : List Int} {hs : List Re} (h : FL w A n c l) (ht : FL w TA tn tc9 tl) (hL : Rl w LA k kc hs) (hn4 : n ≤ 400) (ht4 : tn ≤ 400) (hk20 : k ≤ 20) (hA : mayB R C n = true) (hT : mayB TR TC tn = true) (hG : togB hs = true) (e1 : TR ≠ (k : Int)) : Calls Try.prog 6 #[mV R C A n c, mV TR TC TA tn tc9, .slice LA k kc] w (RTrue w) := by
  have hn1 := h.max
  have ht1 := ht.max
  have hk1 := hL.2.1
  have hlenN := hL.1
  have pf := fun (W : World) (hh : FL W A n c l) => few_any (R := R) (C := C) hh
  have pt := fun (W : World) (hh : FL W TA tn tc9 tl) => few_any (R := TR) (C := TC) hh
  have bz := ((Below.refl _ w).alloc (Nat.le_refl _) (.cells #[.int .i64 R, .int .i64 C, .slice A n c] 36)).alloc (by simp) (.cells #[.int .i64 TR, .int .i64 TC, .slice TA tn tc9] 36)
  have DM := (Blk.new w [.int .i64 R, .int .i64 C, .slice A n c] 36).alloc (.cells #[.int .i64 TR, .int .i64 TC, .slice TA tn tc9] 36)
  have DT := Blk.new (w.alloc (.cells #[.int .i64 R, .int .i64 C, .slice A n c] 36)) [.int .i64 TR, .int .i64 TC, .slice TA tn tc9] 36
  rw [World.size_alloc] at DT
  replace h := h.on bz
  replace ht := ht.on bz
  replace hL := hL.on bz
  rw [decide_eq_true hn4] at pf
  rw [decide_eq_true ht4] at pt
  have hk21 : ¬ (20 : Int) < k := by omega
  have pmA := fun W => rMay_any (R := R) (C := C) (A := A) (n := n) (c := c) hn1 W
  rw [hA] at pmA
  have pmT := fun W => rMay_any (R := TR) (C := TC) (A := TA) (n := tn) (c := tc9) ht1 W
  rw [hT] at pmT
  have HG := Lib.hid hG
  clear hG
  have pg := fun (W : World) (h1 : FL W A n c l) (h2 : FL W TA tn tc9 tl) (h3 : Rl W LA k kc hs) => gBlock_no (R := R) (C := C) (TR := TR) (TC := TC) (E := 8) h1 h2 h3 (by unfold blkC; rw [hA, hT, HG.out, if_pos (show (true && true && true) = true from rfl), if_neg (fun h9 => e1 h9.1)]) (by decide)
  clear hA hT
  go_enter Try.func6, Try.ntmps6
  obtain ⟨y0, y1, y2, y3, y4, y5⟩ := Mbx.cells DM
  obtain ⟨u0, u1, u2, u3, u4, u5⟩ := Mbx.cells DT
  go_wp2_with fail
  with_reducible refine (pf _ h).mono ?_
  rintro e w1 ⟨rfl, hb⟩
  clear y0 y1 y2 y3 y4 y5 u0 u1 u2 u3 u4 u5 pf
  replace h := h.on hb
  replace ht := ht.on hb
  replace hL := hL.on hb
  replace DM := DM.on hb
  replace DT := DT.on hb
  replace bz := bz.trans (hb.mono bz.size)
  clear hb
  obtain ⟨y0, y1, y2, y3, y4, y5⟩ := Mbx.cells DM
  obtain ⟨u0, u1, u2, u3, u4, u5⟩ := Mbx.cells DT
  go_wp2_with fail
  with_reducible refine (pt _ ht).mono ?_
  rintro e w2 ⟨rfl, hb⟩
  clear y0 y1 y2 y3 y4 y5 u0 u1 u2 u3 u4 u5 pt
  replace h := h.on hb
  replace ht := ht.on hb
  replace hL := hL.on hb
  replace DM := DM.on hb
  replace DT := DT.on hb
  replace bz := bz.trans (hb.mono bz.size)
  clear hb
  go_wp2_with fail
  with_reducible refine (total_any hL).mono ?_
  rintro e w9 ⟨z, rfl, rfl⟩
  by_cases hz : 400 < z
  · skip
    go_wp2_with fail
    with_reducible refine (known_any _).mono ?_
    rintro e w9 ⟨rfl, hb9⟩
    go_wp2_with fail
    go_ret
    exact ⟨rfl, bz.trans (hb9.mono bz.size)⟩
  · skip
    obtain ⟨y0, y1, y2, y3, y4, y5⟩ := Mbx.cells DM
    obtain ⟨u0, u1, u2, u3, u4, u5⟩ := Mbx.cells DT
    go_wp2_with fail
    with_reducible refine (pg _ h ht hL).mono ?_
    rintro e w3 ⟨rfl, hb⟩
    clear y0 y1 y2 y3 y4 y5 u0 u1 u2 u3 u4 u5 pg
    replace h := h.on hb
    replace ht := ht.on hb
    replace hL := hL.on hb
    replace DM := DM.on hb
    replace DT := DT.on hb
    replace bz := bz.trans (hb.mono bz.size)
    clear hb
    have DX := Blk.new w3 [.int .i64 0, .int .i64 0, .slice none 0 0] 36
    have hbA := (Below.refl _ w3).alloc (Nat.le_refl _) (.cells #[.int .i64 0, .int .i64 0, .slice none 0 0] 36)
    replace h := h.on hbA
    replace ht := ht.on hbA
    replace hL := hL.on hbA
    replace DM := DM.on hbA
    replace DT := DT.on hbA
    clear hbA
    replace bz := bz.alloc bz.size (.cells #[.int .i64 0, .int .i64 0, .slice none 0 0] 36)
    obtain ⟨BX, hBX⟩ : ∃ b, w3.heap.size = b := ⟨_, rfl⟩
    rw [hBX] at DX
    obtain ⟨y0, y1, y2, y3, y4, y5⟩ := Mbx.cells DM
    obtain ⟨u0, u1, u2, u3, u4, u5⟩ := Mbx.cells DT
    go_wp2_with fail
    with_reducible refine (pmA _).mono ?_
    rintro e w4 ⟨rfl, hb⟩
    clear y0 y1 y2 y3 y4 y5 u0 u1 u2 u3 u4 u5 pmA
    replace h := h.on hb
    replace ht := ht.on hb
    replace hL := hL.on hb
    replace DM := DM.on hb
    replace DT := DT.on hb
    replace DX := DX.on hb
    replace bz := bz.trans (hb.mono bz.size)
    clear hb
    obtain ⟨y0, y1, y2, y3, y4, y5⟩ := Mbx.cells DM
    obtain ⟨u0, u1, u2, u3, u4, u5⟩ := Mbx.cells DT
    go_wp2_with fail
    with_reducible refine (pmT _).mono ?_
    rintro e w5 ⟨rfl, hb⟩
    clear y0 y1 y2 y3 y4 y5 u0 u1 u2 u3 u4 u5 pmT
    replace h := h.on hb
    replace ht := ht.on hb
    replace hL := hL.on hb
    replace DM := DM.on hb
    replace DT := DT.on hb
    replace DX := DX.on hb
    replace bz := bz.trans (hb.mono bz.size)
    clear hb
    go_wp2_with fail
    with_reducible refine (rAlike_any hL (by omega) HG.out).mono ?_
    rintro e w6 ⟨rfl, hb⟩
    replace h := h.on hb
    replace ht := ht.on hb
    replace hL := hL.on hb
    replace DM := DM.on hb
    replace DT := DT.on hb
    replace DX := DX.on hb
    replace bz := bz.trans (hb.mono bz.size)
    clear hb
    go_wp2_with fail
    replace h := h.drew
    replace ht := ht.drew
    replace hL := hL.drew
    replace DM := DM.drew
    replace DT := DT.drew
    replace DX := DX.drew
    replace bz := bz.drew
    have e2 : (TR != (k : Int)) = true := by simpa using e1
    have e3 : (TR == (k : Int)) = false := by simpa using e1
    refine wp_region_held_drew (S := fun w9 : World => Mbx w9 w.heap.size R C A n c ∧ Mbx w9 (w.heap.size + 1) TR TC TA tn tc9) (by kernel_rfl) ⟨DM, DT⟩ (fun hS => ?_)
    generalize w6.drew = wl at hS h ht hL DM DT DX  bz ⊢
    refine wpAnyH_take (i := 0) (v := ?v0_102) rfl (by kernel_rfl) (by kernel_rfl) (by kernel_rfl) (fun _ _ _ h => h) (Or.inl ⟨by rfl, ?hy0_102⟩) (by assumption) ?rest0_102
    case hy0_102 => (intro w9 hSw; clear hSw; go_simp; try with_reducible rfl)
    try simp only [Act.put, List.setIfInBounds_toArray, List.set_cons_zero, List.set_cons_succ, List.getElem_toArray, List.getElem_cons_zero, List.getElem_cons_succ]
    refine wpAnyH_take (i := 1) (v := ?v1_103) rfl (by kernel_rfl) (by kernel_rfl) (by kernel_rfl) (fun _ _ _ h => h) (Or.inl ⟨by rfl, ?hy1_103⟩) (by assumption) ?rest1_103
    case hy1_103 => (intro w9 hSw; obtain ⟨ma1, ma2⟩ := hSw; obtain ⟨y0, y1, y2, _, _, _⟩ := Mbx.cells ma1; obtain ⟨u0, u1, u2, _, _, _⟩ := Mbx.cells ma2; go_simp; try with_reducible rfl)
    try simp only [Act.put, List.setIfInBounds_toArray, List.set_cons_zero, List.set_cons_succ, List.getElem_toArray, List.getElem_cons_zero, List.getElem_cons_succ]
    refine wpAnyH_take (i := 2) (v := ?v2_104) rfl (by kernel_rfl) (by kernel_rfl) (by kernel_rfl) (fun _ _ _ h => h) (Or.inl ⟨by rfl, ?hy2_104⟩) (by assumption) ?rest2_104
    case hy2_104 => (intro w9 hSw; clear hSw; go_simp; try with_reducible rfl)
    try simp only [Act.put, List.setIfInBounds_toArray, List.set_cons_zero, List.set_cons_succ, List.getElem_toArray, List.getElem_cons_zero, List.getElem_cons_succ]
    refine wpAnyH_take (i := 3) (v := ?v3_105) rfl (by kernel_rfl) (by kernel_rfl) (by kernel_rfl) (fun _ _ _ h => h) (Or.inl ⟨by rfl, ?hy3_105⟩) (by assumption) ?rest3_105
    case hy3_105 => (intro w9 hSw; obtain ⟨ma1, ma2⟩ := hSw; obtain ⟨y0, y1, y2, _, _, _⟩ := Mbx.cells ma1; obtain ⟨u0, u1, u2, _, _, _⟩ := Mbx.cells ma2; go_simp; try with_reducible rfl)
    try simp only [Act.put, List.setIfInBounds_toArray, List.set_cons_zero, List.set_cons_succ, List.getElem_toArray, List.getElem_cons_zero, List.getElem_cons_succ]
    refine wpAnyH_take (i := 4) (v := ?v4_106) rfl (by kernel_rfl) (by kernel_rfl) (by kernel_rfl) (fun _ _ _ h => h) (Or.inl ⟨by rfl, ?hy4_106⟩) (by assumption) ?rest4_106
    case hy4_106 => (intro w9 hSw; clear hSw; go_simp; try with_reducible rfl)
    try simp only [Act.put, List.setIfInBounds_toArray, List.set_cons_zero, List.set_cons_succ, List.getElem_toArray, List.getElem_cons_zero, List.getElem_cons_succ]
    refine wpAnyH_take (i := 5) (v := ?v5_107) rfl (by kernel_rfl) (by kernel_rfl) (by kernel_rfl) (fun _ _ _ h => h) (Or.inl ⟨by rfl, ?hy5_107⟩) (by assumption) ?rest5_107
    case hy5_107 => (intro w9 hSw; clear hSw; go_simp; try with_reducible rfl)
    try simp only [Act.put, List.setIfInBounds_toArray, List.set_cons_zero, List.set_cons_succ, List.getElem_toArray, List.getElem_cons_zero, List.getElem_cons_succ]
    refine wpAnyH_take (i := 6) (v := undef) rfl (by kernel_rfl) (by kernel_rfl) (by kernel_rfl) (fun _ _ _ h => h) (Or.inr ⟨by rfl, rfl⟩) (by assumption) ?_
    try simp only [Act.put, List.setIfInBounds_toArray, List.set_cons_zero, List.set_cons_succ, List.getElem_toArray, List.getElem_cons_zero, List.getElem_cons_succ]
    refine wpAnyH_take (i := 7) (v := undef) rfl (by kernel_rfl) (by kernel_rfl) (by kernel_rfl) (fun _ _ _ h => h) (Or.inr ⟨by rfl, rfl⟩) (by assumption) ?_
    try simp only [Act.put, List.setIfInBounds_toArray, List.set_cons_zero, List.set_cons_succ, List.getElem_toArray, List.getElem_cons_zero, List.getElem_cons_succ]
    refine wpAnyH_take (i := 8) (v := undef) rfl (by kernel_rfl) (by kernel_rfl) (by kernel_rfl) (fun _ _ _ h => h) (Or.inr ⟨by rfl, rfl⟩) (by assumption) ?_
    try simp only [Act.put, List.setIfInBounds_toArray, List.set_cons_zero, List.set_cons_succ, List.getElem_toArray, List.getElem_cons_zero, List.getElem_cons_succ]
    refine wpAnyH_take (i := 9) (v := undef) rfl (by kernel_rfl) (by kernel_rfl) (by kernel_rfl) (fun _ _ _ h => h) (Or.inr ⟨by rfl, rfl⟩) (by assumption) ?_
    try simp only [Act.put, List.setIfInBounds_toArray, List.set_cons_zero, List.set_cons_succ, List.getElem_toArray, List.getElem_cons_zero, List.getElem_cons_succ]
    refine wpAnyH_take (i := 10) (v := undef) rfl (by kernel_rfl) (by kernel_rfl) (by kernel_rfl) (fun _ _ _ h => h) (Or.inr ⟨by rfl, rfl⟩) (by assumption) ?_
    try simp only [Act.put, List.setIfInBounds_toArray, List.set_cons_zero, List.set_cons_succ, List.getElem_toArray, List.getElem_cons_zero, List.getElem_cons_succ]
    refine wpAnyH_take (i := 11) (v := ?v11_108) rfl (by kernel_rfl) (by kernel_rfl) (by kernel_rfl) (fun _ _ _ h => h) (Or.inl ⟨by rfl, ?hy11_108⟩) (by assumption) ?rest11_108
    case hy11_108 => (intro w9 hSw; clear hSw; go_simp; try with_reducible rfl)
    try simp only [Act.put, List.setIfInBounds_toArray, List.set_cons_zero, List.set_cons_succ, List.getElem_toArray, List.getElem_cons_zero, List.getElem_cons_succ]
    refine wpAnyH_take (i := 12) (v := ?v12_109) rfl (by kernel_rfl) (by kernel_rfl) (by kernel_rfl) (fun _ _ _ h => h) (Or.inl ⟨by rfl, ?hy12_109⟩) (by assumption) ?rest12_109
    case hy12_109 => (intro w9 hSw; clear hSw; go_simp; try with_reducible rfl)
    try simp only [Act.put, List.setIfInBounds_toArray, List.set_cons_zero, List.set_cons_succ, List.getElem_toArray, List.getElem_cons_zero, List.getElem_cons_succ]
    refine wpAnyH_take (i := 13) (v := undef) rfl (by kernel_rfl) (by kernel_rfl) (by kernel_rfl) (fun _ _ _ h => h) (Or.inr ⟨by rfl, rfl⟩) (by assumption) ?_
    try simp only [Act.put, List.setIfInBounds_toArray, List.set_cons_zero, List.set_cons_succ, List.getElem_toArray, List.getElem_cons_zero, List.getElem_cons_succ]
    refine wpAnyH_take (i := 14) (v := undef) rfl (by kernel_rfl) (by kernel_rfl) (by kernel_rfl) (fun _ _ _ h => h) (Or.inr ⟨by rfl, rfl⟩) (by assumption) ?_
    try simp only [Act.put, List.setIfInBounds_toArray, List.set_cons_zero, List.set_cons_succ, List.getElem_toArray, List.getElem_cons_zero, List.getElem_cons_succ]
    refine wpAnyH_take (i := 15) (v := undef) rfl (by kernel_rfl) (by kernel_rfl) (by kernel_rfl) (fun _ _ _ h => h) (Or.inr ⟨by rfl, rfl⟩) (by assumption) ?_
    try simp only [Act.put, List.setIfInBounds_toArray, List.set_cons_zero, List.set_cons_succ, List.getElem_toArray, List.getElem_cons_zero, List.getElem_cons_succ]
    refine wpAnyH_take (i := 16) (v := undef) rfl (by kernel_rfl) (by kernel_rfl) (by kernel_rfl) (fun _ _ _ h => h) (Or.inr ⟨by rfl, rfl⟩) (by assumption) ?_
    try simp only [Act.put, List.setIfInBounds_toArray, List.set_cons_zero, List.set_cons_succ, List.getElem_toArray, List.getElem_cons_zero, List.getElem_cons_succ]
    refine wpAnyH_take (i := 17) (v := undef) rfl (by kernel_rfl) (by kernel_rfl) (by kernel_rfl) (fun _ _ _ h => h) (Or.inr ⟨by rfl, rfl⟩) (by assumption) ?_
    try simp only [Act.put, List.setIfInBounds_toArray, List.set_cons_zero, List.set_cons_succ, List.getElem_toArray, List.getElem_cons_zero, List.getElem_cons_succ]
    refine wpAnyH_take (i := 18) (v := undef) rfl (by kernel_rfl) (by kernel_rfl) (by kernel_rfl) (fun _ _ _ h => h) (Or.inr ⟨by rfl, rfl⟩) (by assumption) ?_
    try simp only [Act.put, List.setIfInBounds_toArray, List.set_cons_zero, List.set_cons_succ, List.getElem_toArray, List.getElem_cons_zero, List.getElem_cons_succ]
    refine wpAnyH_take (i := 19) (v := undef) rfl (by kernel_rfl) (by kernel_rfl) (by kernel_rfl) (fun _ _ _ h => h) (Or.inr ⟨by rfl, rfl⟩) (by assumption) ?_
    try simp only [Act.put, List.setIfInBounds_toArray, List.set_cons_zero, List.set_cons_succ, List.getElem_toArray, List.getElem_cons_zero, List.getElem_cons_succ]
    refine wpAnyH_take (i := 20) (v := undef) rfl (by kernel_rfl) (by kernel_rfl) (by kernel_rfl) (fun _ _ _ h => h) (Or.inr ⟨by rfl, rfl⟩) (by assumption) ?_
    try simp only [Act.put, List.setIfInBounds_toArray, List.set_cons_zero, List.set_cons_succ, List.getElem_toArray, List.getElem_cons_zero, List.getElem_cons_succ]
    refine wpAnyH_take (i := 21) (v := ?v21_110) rfl (by kernel_rfl) (by kernel_rfl) (by kernel_rfl) (fun _ _ _ h => h) (Or.inl ⟨by rfl, ?hy21_110⟩) (by assumption) ?rest21_110
    case hy21_110 => (intro w9 hSw; clear hSw; go_simp; try with_reducible rfl)
    try simp only [Act.put, List.setIfInBounds_toArray, List.set_cons_zero, List.set_cons_succ, List.getElem_toArray, List.getElem_cons_zero, List.getElem_cons_succ]
    refine wpAnyH_done (by kernel_rfl) ?_ _
    obtain ⟨v0, v1, v2, _, _, _⟩ := Mbx.cells DX
    go_wp2_with fail
    with_reducible refine (rSameM_any (R := 0) (C := 0) (FL.nil _) (FL.nil _) (fun k hk => by omega)).mono ?_
    rintro e w7 ⟨rfl, hb⟩
    clear v0 v1 v2
    replace h := h.on hb
    replace ht := ht.on hb
    replace hL := hL.on hb
    replace DM := DM.on hb
    replace DT := DT.on hb
    replace DX := DX.on hb
    replace bz := bz.trans (hb.mono bz.size)
    clear hb
    go_wp2_with fail
    with_reducible refine (known_any _).mono ?_
    rintro e w9 ⟨rfl, hb9⟩
    go_wp2_with fail
    go_ret
    exact ⟨rfl, bz.trans (hb9.mono bz.size)⟩
set_option maxRecDepth 100000 in
set_option maxHeartbeats 8000000 in
theorem blk_b5 {w : World} {A TA LA : Option Addr} {n c tn tc9 k kc : Nat} {R C TC : Int} {l tl : List Int} {hs : List Re} (h : FL w A n c l) (ht : FL w TA tn tc9 tl) (hL : Rl w LA k kc hs) (hn4 : n ≤ 400) (ht4 : tn ≤ 400) (hk20 : k ≤ 20) (hA : mayB R C n = true) (hT : mayB k TC tn = true) (hG : togB hs = true) (e1 : TC ≠ (k : Int)) : Calls Try.prog 6 #[mV R C A n c, mV k TC TA tn tc9, .slice LA k kc] w (RTrue w) := by
  have hn1 := h.max
  have ht1 := ht.max
  have hk1 := hL.2.1
  have hlenN := hL.1
  have pf := fun (W : World) (hh : FL W A n c l) => few_any (R := R) (C := C) hh
  have pt := fun (W : World) (hh : FL W TA tn tc9 tl) => few_any (R := k) (C := TC) hh
  have bz := ((Below.refl _ w).alloc (Nat.le_refl _) (.cells #[.int .i64 R, .int .i64 C, .slice A n c] 36)).alloc (by simp) (.cells #[.int .i64 k, .int .i64 TC, .slice TA tn tc9] 36)
  have DM := (Blk.new w [.int .i64 R, .int .i64 C, .slice A n c] 36).alloc (.cells #[.int .i64 k, .int .i64 TC, .slice TA tn tc9] 36)
  have DT := Blk.new (w.alloc (.cells #[.int .i64 R, .int .i64 C, .slice A n c] 36)) [.int .i64 k, .int .i64 TC, .slice TA tn tc9] 36
  rw [World.size_alloc] at DT
  replace h := h.on bz
  replace ht := ht.on bz
  replace hL := hL.on bz
  rw [decide_eq_true hn4] at pf
  rw [decide_eq_true ht4] at pt
  have hk21 : ¬ (20 : Int) < k := by omega
  have pmA := fun W => rMay_any (R := R) (C := C) (A := A) (n := n) (c := c) hn1 W
  rw [hA] at pmA
  have pmT := fun W => rMay_any (R := k) (C := TC) (A := TA) (n := tn) (c := tc9) ht1 W
  rw [hT] at pmT
  have HG := Lib.hid hG
  clear hG
  have pg := fun (W : World) (h1 : FL W A n c l) (h2 : FL W TA tn tc9 tl) (h3 : Rl W LA k kc hs) => gBlock_no (R := R) (C := C) (TR := k) (TC := TC) (E := 8) h1 h2 h3 (by unfold blkC; rw [hA, hT, HG.out, if_pos (show (true && true && true) = true from rfl), if_neg (fun h9 => e1 h9.2.1)]) (by decide)
  clear hA hT
  go_enter Try.func6, Try.ntmps6
  obtain ⟨y0, y1, y2, y3, y4, y5⟩ := Mbx.cells DM
  obtain ⟨u0, u1, u2, u3, u4, u5⟩ := Mbx.cells DT
  go_wp2_with fail
  with_reducible refine (pf _ h).mono ?_
  rintro e w1 ⟨rfl, hb⟩
  clear y0 y1 y2 y3 y4 y5 u0 u1 u2 u3 u4 u5 pf
  replace h := h.on hb
  replace ht := ht.on hb
  replace hL := hL.on hb
  replace DM := DM.on hb
  replace DT := DT.on hb
  replace bz := bz.trans (hb.mono bz.size)
  clear hb
  obtain ⟨y0, y1, y2, y3, y4, y5⟩ := Mbx.cells DM
  obtain ⟨u0, u1, u2, u3, u4, u5⟩ := Mbx.cells DT
  go_wp2_with fail
  with_reducible refine (pt _ ht).mono ?_
  rintro e w2 ⟨rfl, hb⟩
  clear y0 y1 y2 y3 y4 y5 u0 u1 u2 u3 u4 u5 pt
  replace h := h.on hb
  replace ht := ht.on hb
  replace hL := hL.on hb
  replace DM := DM.on hb
  replace DT := DT.on hb
  replace bz := bz.trans (hb.mono bz.size)
  clear hb
  go_wp2_with fail
  with_reducible refine (total_any hL).mono ?_
  rintro e w9 ⟨z, rfl, rfl⟩
  by_cases hz : 400 < z
  · skip
    go_wp2_with fail
    with_reducible refine (known_any _).mono ?_
    rintro e w9 ⟨rfl, hb9⟩
    go_wp2_with fail
    go_ret
    exact ⟨rfl, bz.trans (hb9.mono bz.size)⟩
  · skip
    obtain ⟨y0, y1, y2, y3, y4, y5⟩ := Mbx.cells DM
    obtain ⟨u0, u1, u2, u3, u4, u5⟩ := Mbx.cells DT
    go_wp2_with fail
    with_reducible refine (pg _ h ht hL).mono ?_
    rintro e w3 ⟨rfl, hb⟩
    clear y0 y1 y2 y3 y4 y5 u0 u1 u2 u3 u4 u5 pg
    replace h := h.on hb
    replace ht := ht.on hb
    replace hL := hL.on hb
    replace DM := DM.on hb
    replace DT := DT.on hb
    replace bz := bz.trans (hb.mono bz.size)
    clear hb
    have DX := Blk.new w3 [.int .i64 0, .int .i64 0, .slice none 0 0] 36
    have hbA := (Below.refl _ w3).alloc (Nat.le_refl _) (.cells #[.int .i64 0, .int .i64 0, .slice none 0 0] 36)
    replace h := h.on hbA
    replace ht := ht.on hbA
    replace hL := hL.on hbA
    replace DM := DM.on hbA
    replace DT := DT.on hbA
    clear hbA
    replace bz := bz.alloc bz.size (.cells #[.int .i64 0, .int .i64 0, .slice none 0 0] 36)
    obtain ⟨BX, hBX⟩ : ∃ b, w3.heap.size = b := ⟨_, rfl⟩
    rw [hBX] at DX
    obtain ⟨y0, y1, y2, y3, y4, y5⟩ := Mbx.cells DM
    obtain ⟨u0, u1, u2, u3, u4, u5⟩ := Mbx.cells DT
    go_wp2_with fail
    with_reducible refine (pmA _).mono ?_
    rintro e w4 ⟨rfl, hb⟩
    clear y0 y1 y2 y3 y4 y5 u0 u1 u2 u3 u4 u5 pmA
    replace h := h.on hb
    replace ht := ht.on hb
    replace hL := hL.on hb
    replace DM := DM.on hb
    replace DT := DT.on hb
    replace DX := DX.on hb
    replace bz := bz.trans (hb.mono bz.size)
    clear hb
    obtain ⟨y0, y1, y2, y3, y4, y5⟩ := Mbx.cells DM
    obtain ⟨u0, u1, u2, u3, u4, u5⟩ := Mbx.cells DT
    go_wp2_with fail
    with_reducible refine (pmT _).mono ?_
    rintro e w5 ⟨rfl, hb⟩
    clear y0 y1 y2 y3 y4 y5 u0 u1 u2 u3 u4 u5 pmT
    replace h := h.on hb
    replace ht := ht.on hb
    replace hL := hL.on hb
    replace DM := DM.on hb
    replace DT := DT.on hb
    replace DX := DX.on hb
    replace bz := bz.trans (hb.mono bz.size)
    clear hb
    go_wp2_with fail
    with_reducible refine (rAlike_any hL (by omega) HG.out).mono ?_
    rintro e w6 ⟨rfl, hb⟩
    replace h := h.on hb
    replace ht := ht.on hb
    replace hL := hL.on hb
    replace DM := DM.on hb
    replace DT := DT.on hb
    replace DX := DX.on hb
    replace bz := bz.trans (hb.mono bz.size)
    clear hb
    go_wp2_with fail
    replace h := h.drew
    replace ht := ht.drew
    replace hL := hL.drew
    replace DM := DM.drew
    replace DT := DT.drew
    replace DX := DX.drew
    replace bz := bz.drew
    have e2 : (TC != (k : Int)) = true := by simpa using e1
    have e3 : (TC == (k : Int)) = false := by simpa using e1
    refine wp_region_held_drew (S := fun w9 : World => Mbx w9 w.heap.size R C A n c ∧ Mbx w9 (w.heap.size + 1) k TC TA tn tc9) (by kernel_rfl) ⟨DM, DT⟩ (fun hS => ?_)
    generalize w6.drew = wl at hS h ht hL DM DT DX  bz ⊢
    refine wpAnyH_take (i := 0) (v := ?v0_111) rfl (by kernel_rfl) (by kernel_rfl) (by kernel_rfl) (fun _ _ _ h => h) (Or.inl ⟨by rfl, ?hy0_111⟩) (by assumption) ?rest0_111
    case hy0_111 => (intro w9 hSw; clear hSw; go_simp; try with_reducible rfl)
    try simp only [Act.put, List.setIfInBounds_toArray, List.set_cons_zero, List.set_cons_succ, List.getElem_toArray, List.getElem_cons_zero, List.getElem_cons_succ]
    refine wpAnyH_take (i := 1) (v := ?v1_112) rfl (by kernel_rfl) (by kernel_rfl) (by kernel_rfl) (fun _ _ _ h => h) (Or.inl ⟨by rfl, ?hy1_112⟩) (by assumption) ?rest1_112
    case hy1_112 => (intro w9 hSw; obtain ⟨ma1, ma2⟩ := hSw; obtain ⟨y0, y1, y2, _, _, _⟩ := Mbx.cells ma1; obtain ⟨u0, u1, u2, _, _, _⟩ := Mbx.cells ma2; go_simp; try with_reducible rfl)
    try simp only [Act.put, List.setIfInBounds_toArray, List.set_cons_zero, List.set_cons_succ, List.getElem_toArray, List.getElem_cons_zero, List.getElem_cons_succ]
    refine wpAnyH_take (i := 2) (v := ?v2_113) rfl (by kernel_rfl) (by kernel_rfl) (by kernel_rfl) (fun _ _ _ h => h) (Or.inl ⟨by rfl, ?hy2_113⟩) (by assumption) ?rest2_113
    case hy2_113 => (intro w9 hSw; clear hSw; go_simp; try with_reducible rfl)
    try simp only [Act.put, List.setIfInBounds_toArray, List.set_cons_zero, List.set_cons_succ, List.getElem_toArray, List.getElem_cons_zero, List.getElem_cons_succ]
    refine wpAnyH_take (i := 3) (v := ?v3_114) rfl (by kernel_rfl) (by kernel_rfl) (by kernel_rfl) (fun _ _ _ h => h) (Or.inl ⟨by rfl, ?hy3_114⟩) (by assumption) ?rest3_114
    case hy3_114 => (intro w9 hSw; obtain ⟨ma1, ma2⟩ := hSw; obtain ⟨y0, y1, y2, _, _, _⟩ := Mbx.cells ma1; obtain ⟨u0, u1, u2, _, _, _⟩ := Mbx.cells ma2; go_simp; try with_reducible rfl)
    try simp only [Act.put, List.setIfInBounds_toArray, List.set_cons_zero, List.set_cons_succ, List.getElem_toArray, List.getElem_cons_zero, List.getElem_cons_succ]
    refine wpAnyH_take (i := 4) (v := ?v4_115) rfl (by kernel_rfl) (by kernel_rfl) (by kernel_rfl) (fun _ _ _ h => h) (Or.inl ⟨by rfl, ?hy4_115⟩) (by assumption) ?rest4_115
    case hy4_115 => (intro w9 hSw; clear hSw; go_simp; try with_reducible rfl)
    try simp only [Act.put, List.setIfInBounds_toArray, List.set_cons_zero, List.set_cons_succ, List.getElem_toArray, List.getElem_cons_zero, List.getElem_cons_succ]
    refine wpAnyH_take (i := 5) (v := ?v5_116) rfl (by kernel_rfl) (by kernel_rfl) (by kernel_rfl) (fun _ _ _ h => h) (Or.inl ⟨by rfl, ?hy5_116⟩) (by assumption) ?rest5_116
    case hy5_116 => (intro w9 hSw; clear hSw; go_simp; try with_reducible rfl)
    try simp only [Act.put, List.setIfInBounds_toArray, List.set_cons_zero, List.set_cons_succ, List.getElem_toArray, List.getElem_cons_zero, List.getElem_cons_succ]
    refine wpAnyH_take (i := 6) (v := ?v6_117) rfl (by kernel_rfl) (by kernel_rfl) (by kernel_rfl) (fun _ _ _ h => h) (Or.inl ⟨by rfl, ?hy6_117⟩) (by assumption) ?rest6_117
    case hy6_117 => (intro w9 hSw; clear hSw; go_simp; try with_reducible rfl)
    try simp only [Act.put, List.setIfInBounds_toArray, List.set_cons_zero, List.set_cons_succ, List.getElem_toArray, List.getElem_cons_zero, List.getElem_cons_succ]
    refine wpAnyH_take (i := 7) (v := ?v7_118) rfl (by kernel_rfl) (by kernel_rfl) (by kernel_rfl) (fun _ _ _ h => h) (Or.inl ⟨by rfl, ?hy7_118⟩) (by assumption) ?rest7_118
    case hy7_118 => (intro w9 hSw; obtain ⟨ma1, ma2⟩ := hSw; obtain ⟨y0, y1, y2, _, _, _⟩ := Mbx.cells ma1; obtain ⟨u0, u1, u2, _, _, _⟩ := Mbx.cells ma2; go_simp; try with_reducible rfl)
    try simp only [Act.put, List.setIfInBounds_toArray, List.set_cons_zero, List.set_cons_succ, List.getElem_toArray, List.getElem_cons_zero, List.getElem_cons_succ]
    refine wpAnyH_take (i := 8) (v := ?v8_119) rfl (by kernel_rfl) (by kernel_rfl) (by kernel_rfl) (fun _ _ _ h => h) (Or.inl ⟨by rfl, ?hy8_119⟩) (by assumption) ?rest8_119
    case hy8_119 => (intro w9 hSw; clear hSw; go_simp; try with_reducible rfl)
    try simp only [Act.put, List.setIfInBounds_toArray, List.set_cons_zero, List.set_cons_succ, List.getElem_toArray, List.getElem_cons_zero, List.getElem_cons_succ]
    refine wpAnyH_take (i := 9) (v := ?v9_120) rfl (by kernel_rfl) (by kernel_rfl) (by kernel_rfl) (fun _ _ _ h => h) (Or.inl ⟨by rfl, ?hy9_120⟩) (by assumption) ?rest9_120
    case hy9_120 => (intro w9 hSw; obtain ⟨ma1, ma2⟩ := hSw; obtain ⟨y0, y1, y2, _, _, _⟩ := Mbx.cells ma1; obtain ⟨u0, u1, u2, _, _, _⟩ := Mbx.cells ma2; go_simp; try with_reducible rfl)
    try simp only [Act.put, List.setIfInBounds_toArray, List.set_cons_zero, List.set_cons_succ, List.getElem_toArray, List.getElem_cons_zero, List.getElem_cons_succ]
    refine wpAnyH_take (i := 10) (v := ?v10_121) rfl (by kernel_rfl) (by kernel_rfl) (by kernel_rfl) (fun _ _ _ h => h) (Or.inl ⟨by rfl, ?hy10_121⟩) (by assumption) ?rest10_121
    case hy10_121 => (intro w9 hSw; clear hSw; go_simp; try with_reducible rfl)
    try simp only [Act.put, List.setIfInBounds_toArray, List.set_cons_zero, List.set_cons_succ, List.getElem_toArray, List.getElem_cons_zero, List.getElem_cons_succ]
    refine wpAnyH_take (i := 11) (v := ?v11_122) rfl (by kernel_rfl) (by kernel_rfl) (by kernel_rfl) (fun _ _ _ h => h) (Or.inl ⟨by rfl, ?hy11_122⟩) (by assumption) ?rest11_122
    case hy11_122 => (intro w9 hSw; clear hSw; go_simp; try with_reducible rfl)
    try simp only [Act.put, List.setIfInBounds_toArray, List.set_cons_zero, List.set_cons_succ, List.getElem_toArray, List.getElem_cons_zero, List.getElem_cons_succ]
    refine wpAnyH_take (i := 12) (v := ?v12_123) rfl (by kernel_rfl) (by kernel_rfl) (by kernel_rfl) (fun _ _ _ h => h) (Or.inl ⟨by rfl, ?hy12_123⟩) (by assumption) ?rest12_123
    case hy12_123 => (intro w9 hSw; clear hSw; go_simp; try with_reducible rfl)
    try simp only [Act.put, List.setIfInBounds_toArray, List.set_cons_zero, List.set_cons_succ, List.getElem_toArray, List.getElem_cons_zero, List.getElem_cons_succ]
    refine wpAnyH_take (i := 13) (v := undef) rfl (by kernel_rfl) (by kernel_rfl) (by kernel_rfl) (fun _ _ _ h => h) (Or.inr ⟨by rfl, rfl⟩) (by assumption) ?_
    try simp only [Act.put, List.setIfInBounds_toArray, List.set_cons_zero, List.set_cons_succ, List.getElem_toArray, List.getElem_cons_zero, List.getElem_cons_succ]
    refine wpAnyH_take (i := 14) (v := undef) rfl (by kernel_rfl) (by kernel_rfl) (by kernel_rfl) (fun _ _ _ h => h) (Or.inr ⟨by rfl, rfl⟩) (by assumption) ?_
    try simp only [Act.put, List.setIfInBounds_toArray, List.set_cons_zero, List.set_cons_succ, List.getElem_toArray, List.getElem_cons_zero, List.getElem_cons_succ]
    refine wpAnyH_take (i := 15) (v := undef) rfl (by kernel_rfl) (by kernel_rfl) (by kernel_rfl) (fun _ _ _ h => h) (Or.inr ⟨by rfl, rfl⟩) (by assumption) ?_
    try simp only [Act.put, List.setIfInBounds_toArray, List.set_cons_zero, List.set_cons_succ, List.getElem_toArray, List.getElem_cons_zero, List.getElem_cons_succ]
    refine wpAnyH_take (i := 16) (v := undef) rfl (by kernel_rfl) (by kernel_rfl) (by kernel_rfl) (fun _ _ _ h => h) (Or.inr ⟨by rfl, rfl⟩) (by assumption) ?_
    try simp only [Act.put, List.setIfInBounds_toArray, List.set_cons_zero, List.set_cons_succ, List.getElem_toArray, List.getElem_cons_zero, List.getElem_cons_succ]
    refine wpAnyH_take (i := 17) (v := undef) rfl (by kernel_rfl) (by kernel_rfl) (by kernel_rfl) (fun _ _ _ h => h) (Or.inr ⟨by rfl, rfl⟩) (by assumption) ?_
    try simp only [Act.put, List.setIfInBounds_toArray, List.set_cons_zero, List.set_cons_succ, List.getElem_toArray, List.getElem_cons_zero, List.getElem_cons_succ]
    refine wpAnyH_take (i := 18) (v := undef) rfl (by kernel_rfl) (by kernel_rfl) (by kernel_rfl) (fun _ _ _ h => h) (Or.inr ⟨by rfl, rfl⟩) (by assumption) ?_
    try simp only [Act.put, List.setIfInBounds_toArray, List.set_cons_zero, List.set_cons_succ, List.getElem_toArray, List.getElem_cons_zero, List.getElem_cons_succ]
    refine wpAnyH_take (i := 19) (v := undef) rfl (by kernel_rfl) (by kernel_rfl) (by kernel_rfl) (fun _ _ _ h => h) (Or.inr ⟨by rfl, rfl⟩) (by assumption) ?_
    try simp only [Act.put, List.setIfInBounds_toArray, List.set_cons_zero, List.set_cons_succ, List.getElem_toArray, List.getElem_cons_zero, List.getElem_cons_succ]
    refine wpAnyH_take (i := 20) (v := undef) rfl (by kernel_rfl) (by kernel_rfl) (by kernel_rfl) (fun _ _ _ h => h) (Or.inr ⟨by rfl, rfl⟩) (by assumption) ?_
    try simp only [Act.put, List.setIfInBounds_toArray, List.set_cons_zero, List.set_cons_succ, List.getElem_toArray, List.getElem_cons_zero, List.getElem_cons_succ]
    refine wpAnyH_take (i := 21) (v := ?v21_124) rfl (by kernel_rfl) (by kernel_rfl) (by kernel_rfl) (fun _ _ _ h => h) (Or.inl ⟨by rfl, ?hy21_124⟩) (by assumption) ?rest21_124
    case hy21_124 => (intro w9 hSw; clear hSw; go_simp; try with_reducible rfl)
    try simp only [Act.put, List.setIfInBounds_toArray, List.set_cons_zero, List.set_cons_succ, List.getElem_toArray, List.getElem_cons_zero, List.getElem_cons_succ]
    refine wpAnyH_done (by kernel_rfl) ?_ _
    obtain ⟨v0, v1, v2, _, _, _⟩ := Mbx.cells DX
    go_wp2_with fail
    with_reducible refine (rSameM_any (R := 0) (C := 0) (FL.nil _) (FL.nil _) (fun k hk => by omega)).mono ?_
    rintro e w7 ⟨rfl, hb⟩
    clear v0 v1 v2
    replace h := h.on hb
    replace ht := ht.on hb
    replace hL := hL.on hb
    replace DM := DM.on hb
    replace DT := DT.on hb
    replace DX := DX.on hb
    replace bz := bz.trans (hb.mono bz.size)
    clear hb
    go_wp2_with fail
    with_reducible refine (known_any _).mono ?_
    rintro e w9 ⟨rfl, hb9⟩
    go_wp2_with fail
    go_ret
    exact ⟨rfl, bz.trans (hb9.mono bz.size)⟩
set_option maxRecDepth 100000 in
set_option maxHeartbeats 8000000 in
theorem blk_b6 {w : World} {A TA LA : Option Addr} {n c tn tc9 k kc m : Nat} {R C : Int} {l tl : List Int} {hs : List Re} (h : FL w A n c l) (ht : FL w TA tn tc9 tl) (hL : Rl w LA k kc hs) (hn4 : n ≤ 400) (ht4 : tn ≤ 400) (hk20 : k ≤ 20) (hA : mayB R C n = true) (hT : mayB k k tn = true) (hG : togB hs = true) (hlen : ∀ e ∈ hs, e.l.length = m) (hk0 : 0 < k) (e1 : R ≠ (m : Int)) : Calls Try.prog 6 #[mV R C A n c, mV k k TA tn tc9, .slice LA k kc] w (RTrue w) := by
  have hn1 := h.max
  have ht1 := ht.max
  have hk1 := hL.2.1
  have hlenN := hL.1
  have pf := fun (W : World) (hh : FL W A n c l) => few_any (R := R) (C := C) hh
  have pt := fun (W : World) (hh : FL W TA tn tc9 tl) => few_any (R := k) (C := k) hh
  have bz := ((Below.refl _ w).alloc (Nat.le_refl _) (.cells #[.int .i64 R, .int .i64 C, .slice A n c] 36)).alloc (by simp) (.cells #[.int .i64 k, .int .i64 k, .slice TA tn tc9] 36)
  have DM := (Blk.new w [.int .i64 R, .int .i64 C, .slice A n c] 36).alloc (.cells #[.int .i64 k, .int .i64 k, .slice TA tn tc9] 36)
  have DT := Blk.new (w.alloc (.cells #[.int .i64 R, .int .i64 C, .slice A n c] 36)) [.int .i64 k, .int .i64 k, .slice TA tn tc9] 36
  rw [World.size_alloc] at DT
  replace h := h.on bz
  replace ht := ht.on bz
  replace hL := hL.on bz
  rw [decide_eq_true hn4] at pf
  rw [decide_eq_true ht4] at pt
  have hk21 : ¬ (20 : Int) < k := by omega
  have pmA := fun W => rMay_any (R := R) (C := C) (A := A) (n := n) (c := c) hn1 W
  rw [hA] at pmA
  have pmT := fun W => rMay_any (R := k) (C := k) (A := TA) (n := tn) (c := tc9) ht1 W
  rw [hT] at pmT
  have HG := Lib.hid hG
  clear hG
  have pg := fun (W : World) (h1 : FL W A n c l) (h2 : FL W TA tn tc9 tl) (h3 : Rl W LA k kc hs) => gBlock_no (R := R) (C := C) (TR := k) (TC := k) (E := 8) h1 h2 h3 (by unfold blkC; rw [hA, hT, HG.out, if_pos (show (true && true && true) = true from rfl), if_neg (fun h9 => e1 (by
        obtain ⟨e, he⟩ : ∃ e, e ∈ hs := by
          rcases hs with _ | ⟨e, hs⟩
          · rw [← hlenN] at hk0; cases hk0
          · exact ⟨e, List.mem_cons_self ..⟩
        have h8 := List.all_eq_true.1 h9.2.2 e he
        have h7 := of_decide_eq_true h8
        rw [hlen e he] at h7
        exact h7.symm))]) (by decide)
  obtain ⟨ad, rfl⟩ : ∃ ad, LA = some ad := by obtain ⟨e, ad, ea, _, hA9, _⟩ := hL.at_ hk0; exact ⟨ad, hA9⟩
  have HLEN := Lib.hid hlen
  clear hlen
  clear hA hT
  go_enter Try.func6, Try.ntmps6
  obtain ⟨y0, y1, y2, y3, y4, y5⟩ := Mbx.cells DM
  obtain ⟨u0, u1, u2, u3, u4, u5⟩ := Mbx.cells DT
  go_wp2_with fail
  with_reducible refine (pf _ h).mono ?_
  rintro e w1 ⟨rfl, hb⟩
  clear y0 y1 y2 y3 y4 y5 u0 u1 u2 u3 u4 u5 pf
  replace h := h.on hb
  replace ht := ht.on hb
  replace hL := hL.on hb
  replace DM := DM.on hb
  replace DT := DT.on hb
  replace bz := bz.trans (hb.mono bz.size)
  clear hb
  obtain ⟨y0, y1, y2, y3, y4, y5⟩ := Mbx.cells DM
  obtain ⟨u0, u1, u2, u3, u4, u5⟩ := Mbx.cells DT
  go_wp2_with fail
  with_reducible refine (pt _ ht).mono ?_
  rintro e w2 ⟨rfl, hb⟩
  clear y0 y1 y2 y3 y4 y5 u0 u1 u2 u3 u4 u5 pt
  replace h := h.on hb
  replace ht := ht.on hb
  replace hL := hL.on hb
  replace DM := DM.on hb
  replace DT := DT.on hb
  replace bz := bz.trans (hb.mono bz.size)
  clear hb
  go_wp2_with fail
  with_reducible refine (total_any hL).mono ?_
  rintro e w9 ⟨z, rfl, rfl⟩
  by_cases hz : 400 < z
  · skip
    go_wp2_with fail
    with_reducible refine (known_any _).mono ?_
    rintro e w9 ⟨rfl, hb9⟩
    go_wp2_with fail
    go_ret
    exact ⟨rfl, bz.trans (hb9.mono bz.size)⟩
  · skip
    obtain ⟨y0, y1, y2, y3, y4, y5⟩ := Mbx.cells DM
    obtain ⟨u0, u1, u2, u3, u4, u5⟩ := Mbx.cells DT
    go_wp2_with fail
    with_reducible refine (pg _ h ht hL).mono ?_
    rintro e w3 ⟨rfl, hb⟩
    clear y0 y1 y2 y3 y4 y5 u0 u1 u2 u3 u4 u5 pg
    replace h := h.on hb
    replace ht := ht.on hb
    replace hL := hL.on hb
    replace DM := DM.on hb
    replace DT := DT.on hb
    replace bz := bz.trans (hb.mono bz.size)
    clear hb
    have DX := Blk.new w3 [.int .i64 0, .int .i64 0, .slice none 0 0] 36
    have hbA := (Below.refl _ w3).alloc (Nat.le_refl _) (.cells #[.int .i64 0, .int .i64 0, .slice none 0 0] 36)
    replace h := h.on hbA
    replace ht := ht.on hbA
    replace hL := hL.on hbA
    replace DM := DM.on hbA
    replace DT := DT.on hbA
    clear hbA
    replace bz := bz.alloc bz.size (.cells #[.int .i64 0, .int .i64 0, .slice none 0 0] 36)
    obtain ⟨BX, hBX⟩ : ∃ b, w3.heap.size = b := ⟨_, rfl⟩
    rw [hBX] at DX
    obtain ⟨y0, y1, y2, y3, y4, y5⟩ := Mbx.cells DM
    obtain ⟨u0, u1, u2, u3, u4, u5⟩ := Mbx.cells DT
    go_wp2_with fail
    with_reducible refine (pmA _).mono ?_
    rintro e w4 ⟨rfl, hb⟩
    clear y0 y1 y2 y3 y4 y5 u0 u1 u2 u3 u4 u5 pmA
    replace h := h.on hb
    replace ht := ht.on hb
    replace hL := hL.on hb
    replace DM := DM.on hb
    replace DT := DT.on hb
    replace DX := DX.on hb
    replace bz := bz.trans (hb.mono bz.size)
    clear hb
    obtain ⟨y0, y1, y2, y3, y4, y5⟩ := Mbx.cells DM
    obtain ⟨u0, u1, u2, u3, u4, u5⟩ := Mbx.cells DT
    go_wp2_with fail
    with_reducible refine (pmT _).mono ?_
    rintro e w5 ⟨rfl, hb⟩
    clear y0 y1 y2 y3 y4 y5 u0 u1 u2 u3 u4 u5 pmT
    replace h := h.on hb
    replace ht := ht.on hb
    replace hL := hL.on hb
    replace DM := DM.on hb
    replace DT := DT.on hb
    replace DX := DX.on hb
    replace bz := bz.trans (hb.mono bz.size)
    clear hb
    go_wp2_with fail
    with_reducible refine (rAlike_any hL (by omega) HG.out).mono ?_
    rintro e w6 ⟨rfl, hb⟩
    replace h := h.on hb
    replace ht := ht.on hb
    replace hL := hL.on hb
    replace DM := DM.on hb
    replace DT := DT.on hb
    replace DX := DX.on hb
    replace bz := bz.trans (hb.mono bz.size)
    clear hb
    go_wp2_with fail
    obtain ⟨e, he, _, _⟩ := hL.get hk0
    have hem := HLEN.out e (List.mem_of_getElem? he)
    obtain ⟨q0, _, _⟩ := hL.cells hk0 he rfl hem
    rw [show ad.add (0 * 2) = ad from rfl] at q0
    clear he hem
    replace h := h.drew
    replace ht := ht.drew
    replace hL := hL.drew
    replace DM := DM.drew
    replace DT := DT.drew
    replace DX := DX.drew
    replace bz := bz.drew
    have e2 : (R != (m : Int)) = true := by simpa using e1
    have e3 : (R == (m : Int)) = false := by simpa using e1
    replace q0 : w6.drew.cell? ad = _ := q0
    refine wp_region_held_drew (S := fun w9 : World => Mbx w9 w.heap.size R C A n c ∧ Mbx w9 (w.heap.size + 1) k k TA tn tc9 ∧ w9.cell? ad = some (.slice e.A m e.c)) (by kernel_rfl) ⟨DM, DT, q0⟩ (fun hS => ?_)
    generalize w6.drew = wl at hS h ht hL DM DT DX q0 bz ⊢
    refine wpAnyH_take (i := 0) (v := ?v0_125) rfl (by kernel_rfl) (by kernel_rfl) (by kernel_rfl) (fun _ _ _ h => h) (Or.inl ⟨by rfl, ?hy0_125⟩) (by assumption) ?rest0_125
    case hy0_125 => (intro w9 hSw; clear hSw; go_simp; try with_reducible rfl)
    try simp only [Act.put, List.setIfInBounds_toArray, List.set_cons_zero, List.set_cons_succ, List.getElem_toArray, List.getElem_cons_zero, List.getElem_cons_succ]
    refine wpAnyH_take (i := 1) (v := ?v1_126) rfl (by kernel_rfl) (by kernel_rfl) (by kernel_rfl) (fun _ _ _ h => h) (Or.inl ⟨by rfl, ?hy1_126⟩) (by assumption) ?rest1_126
    case hy1_126 => (intro w9 hSw; obtain ⟨ma1, ma2, ma3⟩ := hSw; obtain ⟨y0, y1, y2, _, _, _⟩ := Mbx.cells ma1; obtain ⟨u0, u1, u2, _, _, _⟩ := Mbx.cells ma2; go_simp; try with_reducible rfl)
    try simp only [Act.put, List.setIfInBounds_toArray, List.set_cons_zero, List.set_cons_succ, List.getElem_toArray, List.getElem_cons_zero, List.getElem_cons_succ]
    refine wpAnyH_take (i := 2) (v := ?v2_127) rfl (by kernel_rfl) (by kernel_rfl) (by kernel_rfl) (fun _ _ _ h => h) (Or.inl ⟨by rfl, ?hy2_127⟩) (by assumption) ?rest2_127
    case hy2_127 => (intro w9 hSw; clear hSw; go_simp; try with_reducible rfl)
    try simp only [Act.put, List.setIfInBounds_toArray, List.set_cons_zero, List.set_cons_succ, List.getElem_toArray, List.getElem_cons_zero, List.getElem_cons_succ]
    refine wpAnyH_take (i := 3) (v := ?v3_128) rfl (by kernel_rfl) (by kernel_rfl) (by kernel_rfl) (fun _ _ _ h => h) (Or.inl ⟨by rfl, ?hy3_128⟩) (by assumption) ?rest3_128
    case hy3_128 => (intro w9 hSw; obtain ⟨ma1, ma2, ma3⟩ := hSw; obtain ⟨y0, y1, y2, _, _, _⟩ := Mbx.cells ma1; obtain ⟨u0, u1, u2, _, _, _⟩ := Mbx.cells ma2; go_simp; try with_reducible rfl)
    try simp only [Act.put, List.setIfInBounds_toArray, List.set_cons_zero, List.set_cons_succ, List.getElem_toArray, List.getElem_cons_zero, List.getElem_cons_succ]
    refine wpAnyH_take (i := 4) (v := ?v4_129) rfl (by kernel_rfl) (by kernel_rfl) (by kernel_rfl) (fun _ _ _ h => h) (Or.inl ⟨by rfl, ?hy4_129⟩) (by assumption) ?rest4_129
    case hy4_129 => (intro w9 hSw; clear hSw; go_simp; try with_reducible rfl)
    try simp only [Act.put, List.setIfInBounds_toArray, List.set_cons_zero, List.set_cons_succ, List.getElem_toArray, List.getElem_cons_zero, List.getElem_cons_succ]
    refine wpAnyH_take (i := 5) (v := ?v5_130) rfl (by kernel_rfl) (by kernel_rfl) (by kernel_rfl) (fun _ _ _ h => h) (Or.inl ⟨by rfl, ?hy5_130⟩) (by assumption) ?rest5_130
    case hy5_130 => (intro w9 hSw; clear hSw; go_simp; try with_reducible rfl)
    try simp only [Act.put, List.setIfInBounds_toArray, List.set_cons_zero, List.set_cons_succ, List.getElem_toArray, List.getElem_cons_zero, List.getElem_cons_succ]
    refine wpAnyH_take (i := 6) (v := ?v6_131) rfl (by kernel_rfl) (by kernel_rfl) (by kernel_rfl) (fun _ _ _ h => h) (Or.inl ⟨by rfl, ?hy6_131⟩) (by assumption) ?rest6_131
    case hy6_131 => (intro w9 hSw; clear hSw; go_simp; try with_reducible rfl)
    try simp only [Act.put, List.setIfInBounds_toArray, List.set_cons_zero, List.set_cons_succ, List.getElem_toArray, List.getElem_cons_zero, List.getElem_cons_succ]
    refine wpAnyH_take (i := 7) (v := ?v7_132) rfl (by kernel_rfl) (by kernel_rfl) (by kernel_rfl) (fun _ _ _ h => h) (Or.inl ⟨by rfl, ?hy7_132⟩) (by assumption) ?rest7_132
    case hy7_132 => (intro w9 hSw; obtain ⟨ma1, ma2, ma3⟩ := hSw; obtain ⟨y0, y1, y2, _, _, _⟩ := Mbx.cells ma1; obtain ⟨u0, u1, u2, _, _, _⟩ := Mbx.cells ma2; go_simp; try with_reducible rfl)
    try simp only [Act.put, List.setIfInBounds_toArray, List.set_cons_zero, List.set_cons_succ, List.getElem_toArray, List.getElem_cons_zero, List.getElem_cons_succ]
    refine wpAnyH_take (i := 8) (v := ?v8_133) rfl (by kernel_rfl) (by kernel_rfl) (by kernel_rfl) (fun _ _ _ h => h) (Or.inl ⟨by rfl, ?hy8_133⟩) (by assumption) ?rest8_133
    case hy8_133 => (intro w9 hSw; clear hSw; go_simp; try with_reducible rfl)
    try simp only [Act.put, List.setIfInBounds_toArray, List.set_cons_zero, List.set_cons_succ, List.getElem_toArray, List.getElem_cons_zero, List.getElem_cons_succ]
    refine wpAnyH_take (i := 9) (v := ?v9_134) rfl (by kernel_rfl) (by kernel_rfl) (by kernel_rfl) (fun _ _ _ h => h) (Or.inl ⟨by rfl, ?hy9_134⟩) (by assumption) ?rest9_134
    case hy9_134 => (intro w9 hSw; obtain ⟨ma1, ma2, ma3⟩ := hSw; obtain ⟨y0, y1, y2, _, _, _⟩ := Mbx.cells ma1; obtain ⟨u0, u1, u2, _, _, _⟩ := Mbx.cells ma2; go_simp; try with_reducible rfl)
    try simp only [Act.put, List.setIfInBounds_toArray, List.set_cons_zero, List.set_cons_succ, List.getElem_toArray, List.getElem_cons_zero, List.getElem_cons_succ]
    refine wpAnyH_take (i := 10) (v := ?v10_135) rfl (by kernel_rfl) (by kernel_rfl) (by kernel_rfl) (fun _ _ _ h => h) (Or.inl ⟨by rfl, ?hy10_135⟩) (by assumption) ?rest10_135
    case hy10_135 => (intro w9 hSw; clear hSw; go_simp; try with_reducible rfl)
    try simp only [Act.put, List.setIfInBounds_toArray, List.set_cons_zero, List.set_cons_succ, List.getElem_toArray, List.getElem_cons_zero, List.getElem_cons_succ]
    refine wpAnyH_take (i := 11) (v := ?v11_136) rfl (by kernel_rfl) (by kernel_rfl) (by kernel_rfl) (fun _ _ _ h => h) (Or.inl ⟨by rfl, ?hy11_136⟩) (by assumption) ?rest11_136
    case hy11_136 => (intro w9 hSw; clear hSw; go_simp; try with_reducible rfl)
    try simp only [Act.put, List.setIfInBounds_toArray, List.set_cons_zero, List.set_cons_succ, List.getElem_toArray, List.getElem_cons_zero, List.getElem_cons_succ]
    refine wpAnyH_take (i := 12) (v := ?v12_137) rfl (by kernel_rfl) (by kernel_rfl) (by kernel_rfl) (fun _ _ _ h => h) (Or.inl ⟨by rfl, ?hy12_137⟩) (by assumption) ?rest12_137
    case hy12_137 => (intro w9 hSw; clear hSw; go_simp; try with_reducible rfl)
    try simp only [Act.put, List.setIfInBounds_toArray, List.set_cons_zero, List.set_cons_succ, List.getElem_toArray, List.getElem_cons_zero, List.getElem_cons_succ]
    refine wpAnyH_take (i := 13) (v := ?v13_138) rfl (by kernel_rfl) (by kernel_rfl) (by kernel_rfl) (fun _ _ _ h => h) (Or.inl ⟨by rfl, ?hy13_138⟩) (by assumption) ?rest13_138
    case hy13_138 => (intro w9 hSw; clear hSw; go_simp; try with_reducible rfl)
    try simp only [Act.put, List.setIfInBounds_toArray, List.set_cons_zero, List.set_cons_succ, List.getElem_toArray, List.getElem_cons_zero, List.getElem_cons_succ]
    refine wpAnyH_take (i := 14) (v := ?v14_139) rfl (by kernel_rfl) (by kernel_rfl) (by kernel_rfl) (fun _ _ _ h => h) (Or.inl ⟨by rfl, ?hy14_139⟩) (by assumption) ?rest14_139
    case hy14_139 => (intro w9 hSw; obtain ⟨ma1, ma2, ma3⟩ := hSw; obtain ⟨y0, y1, y2, _, _, _⟩ := Mbx.cells ma1; obtain ⟨u0, u1, u2, _, _, _⟩ := Mbx.cells ma2; go_simp; try with_reducible rfl)
    try simp only [Act.put, List.setIfInBounds_toArray, List.set_cons_zero, List.set_cons_succ, List.getElem_toArray, List.getElem_cons_zero, List.getElem_cons_succ]
    refine wpAnyH_take (i := 15) (v := ?v15_140) rfl (by kernel_rfl) (by kernel_rfl) (by kernel_rfl) (fun _ _ _ h => h) (Or.inl ⟨by rfl, ?hy15_140⟩) (by assumption) ?rest15_140
    case hy15_140 => (intro w9 hSw; clear hSw; go_simp; try with_reducible rfl)
    try simp only [Act.put, List.setIfInBounds_toArray, List.set_cons_zero, List.set_cons_succ, List.getElem_toArray, List.getElem_cons_zero, List.getElem_cons_succ]
    refine wpAnyH_take (i := 16) (v := ?v16_141) rfl (by kernel_rfl) (by kernel_rfl) (by kernel_rfl) (fun _ _ _ h => h) (Or.inl ⟨by rfl, ?hy16_141⟩) (by assumption) ?rest16_141
    case hy16_141 => (intro w9 hSw; clear hSw; go_simp; try with_reducible rfl)
    try simp only [Act.put, List.setIfInBounds_toArray, List.set_cons_zero, List.set_cons_succ, List.getElem_toArray, List.getElem_cons_zero, List.getElem_cons_succ]
    refine wpAnyH_take (i := 17) (v := ?v17_142) rfl (by kernel_rfl) (by kernel_rfl) (by kernel_rfl) (fun _ _ _ h => h) (Or.inl ⟨by rfl, ?hy17_142⟩) (by assumption) ?rest17_142
    case hy17_142 => (intro w9 hSw; clear hSw; go_simp; try with_reducible rfl)
    try simp only [Act.put, List.setIfInBounds_toArray, List.set_cons_zero, List.set_cons_succ, List.getElem_toArray, List.getElem_cons_zero, List.getElem_cons_succ]
    refine wpAnyH_take (i := 18) (v := ?v18_143) rfl (by kernel_rfl) (by kernel_rfl) (by kernel_rfl) (fun _ _ _ h => h) (Or.inl ⟨by rfl, ?hy18_143⟩) (by assumption) ?rest18_143
    case hy18_143 => (intro w9 hSw; obtain ⟨ma1, ma2, ma3⟩ := hSw; obtain ⟨y0, y1, y2, _, _, _⟩ := Mbx.cells ma1; obtain ⟨u0, u1, u2, _, _, _⟩ := Mbx.cells ma2; go_simp; try with_reducible rfl)
    try simp only [Act.put, List.setIfInBounds_toArray, List.set_cons_zero, List.set_cons_succ, List.getElem_toArray, List.getElem_cons_zero, List.getElem_cons_succ]
    refine wpAnyH_take (i := 19) (v := ?v19_144) rfl (by kernel_rfl) (by kernel_rfl) (by kernel_rfl) (fun _ _ _ h => h) (Or.inl ⟨by rfl, ?hy19_144⟩) (by assumption) ?rest19_144
    case hy19_144 => (intro w9 hSw; obtain ⟨ma1, ma2, ma3⟩ := hSw; obtain ⟨y0, y1, y2, _, _, _⟩ := Mbx.cells ma1; obtain ⟨u0, u1, u2, _, _, _⟩ := Mbx.cells ma2; go_simp; try with_reducible rfl)
    try simp only [Act.put, List.setIfInBounds_toArray, List.set_cons_zero, List.set_cons_succ, List.getElem_toArray, List.getElem_cons_zero, List.getElem_cons_succ]
    refine wpAnyH_take (i := 20) (v := ?v20_145) rfl (by kernel_rfl) (by kernel_rfl) (by kernel_rfl) (fun _ _ _ h => h) (Or.inl ⟨by rfl, ?hy20_145⟩) (by assumption) ?rest20_145
    case hy20_145 => (intro w9 hSw; clear hSw; go_simp; try with_reducible rfl)
    try simp only [Act.put, List.setIfInBounds_toArray, List.set_cons_zero, List.set_cons_succ, List.getElem_toArray, List.getElem_cons_zero, List.getElem_cons_succ]
    refine wpAnyH_take (i := 21) (v := ?v21_146) rfl (by kernel_rfl) (by kernel_rfl) (by kernel_rfl) (fun _ _ _ h => h) (Or.inl ⟨by rfl, ?hy21_146⟩) (by assumption) ?rest21_146
    case hy21_146 => (intro w9 hSw; clear hSw; go_simp; try with_reducible rfl)
    try simp only [Act.put, List.setIfInBounds_toArray, List.set_cons_zero, List.set_cons_succ, List.getElem_toArray, List.getElem_cons_zero, List.getElem_cons_succ]
    refine wpAnyH_done (by kernel_rfl) ?_ _
    clear q0
    obtain ⟨v0, v1, v2, _, _, _⟩ := Mbx.cells DX
    go_wp2_with fail
    with_reducible refine (rSameM_any (R := 0) (C := 0) (FL.nil _) (FL.nil _) (fun k hk => by omega)).mono ?_
    rintro e w7 ⟨rfl, hb⟩
    clear v0 v1 v2
    replace h := h.on hb
    replace ht := ht.on hb
    replace hL := hL.on hb
    replace DM := DM.on hb
    replace DT := DT.on hb
    replace DX := DX.on hb
    replace bz := bz.trans (hb.mono bz.size)
    clear hb
    go_wp2_with fail
    with_reducible refine (known_any _).mono ?_
    rintro e w9 ⟨rfl, hb9⟩
    go_wp2_with fail
    go_ret
    exact ⟨rfl, bz.trans (hb9.mono bz.size)⟩
set_option maxRecDepth 100000 in
set_option maxHeartbeats 8000000 in
theorem blk_b7 {w : World} {A TA LA : Option Addr} {n c tn tc9 k kc M Q : Nat}  {l tl : List Int} {hs : List Re} (h : FL w A n c l) (ht : FL w TA tn tc9 tl) (hL : Rl w LA k kc hs) (hn4 : n ≤ 400) (ht4 : tn ≤ 400) (hk20 : k ≤ 20) (hA : mayB M Q n = true) (hT : mayB k k tn = true) (hG : togB hs = true) (hlen : ∀ e ∈ hs, e.l.length = M) (hk0 : 0 < k) (hM0 : 0 < M) (hQ0 : 0 < Q) (hM : M ≤ 512) (hQ : Q ≤ 512) (hn : n = M * Q) (htn : tn = k * k) : Calls Try.prog 6 #[mV M Q A n c, mV k k TA tn tc9, .slice LA k kc] w (RTrue w) := by
  have hn1 := h.max
  have ht1 := ht.max
  have hk1 := hL.2.1
  have hlenN := hL.1
  have pf := fun (W : World) (hh : FL W A n c l) => few_any (R := M) (C := Q) hh
  have pt := fun (W : World) (hh : FL W TA tn tc9 tl) => few_any (R := k) (C := k) hh
  have bz := ((Below.refl _ w).alloc (Nat.le_refl _) (.cells #[.int .i64 M, .int .i64 Q, .slice A n c] 36)).alloc (by simp) (.cells #[.int .i64 k, .int .i64 k, .slice TA tn tc9] 36)
  have DM := (Blk.new w [.int .i64 M, .int .i64 Q, .slice A n c] 36).alloc (.cells #[.int .i64 k, .int .i64 k, .slice TA tn tc9] 36)
  have DT := Blk.new (w.alloc (.cells #[.int .i64 M, .int .i64 Q, .slice A n c] 36)) [.int .i64 k, .int .i64 k, .slice TA tn tc9] 36
  rw [World.size_alloc] at DT
  replace h := h.on bz
  replace ht := ht.on bz
  replace hL := hL.on bz
  rw [decide_eq_true hn4] at pf
  rw [decide_eq_true ht4] at pt
  have hk21 : ¬ (20 : Int) < k := by omega
  have pmA := fun W => rMay_any (R := M) (C := Q) (A := A) (n := n) (c := c) hn1 W
  rw [hA] at pmA
  have pmT := fun W => rMay_any (R := k) (C := k) (A := TA) (n := tn) (c := tc9) ht1 W
  rw [hT] at pmT
  have HG := Lib.hid hG
  clear hG
  have pg := fun (W : World) (h1 : FL W A n c l) (h2 : FL W TA tn tc9 tl) (h3 : Rl W LA k kc hs) => gBlock_yes (M := M) (Q := Q) h1 h2 h3 hM hQ (by omega) hn htn HG.out hlen hM0 hk0
  obtain ⟨ad, rfl⟩ : ∃ ad, LA = some ad := by obtain ⟨e, ad, ea, _, hA9, _⟩ := hL.at_ hk0; exact ⟨ad, hA9⟩
  have HLEN := Lib.hid hlen
  clear hlen
  have HN := Lib.hid hn
  have HTN := Lib.hid htn
  clear hn htn
  clear hA hT
  go_enter Try.func6, Try.ntmps6
  obtain ⟨y0, y1, y2, y3, y4, y5⟩ := Mbx.cells DM
  obtain ⟨u0, u1, u2, u3, u4, u5⟩ := Mbx.cells DT
  go_wp2_with fail
  with_reducible refine (pf _ h).mono ?_
  rintro e w1 ⟨rfl, hb⟩
  clear y0 y1 y2 y3 y4 y5 u0 u1 u2 u3 u4 u5 pf
  replace h := h.on hb
  replace ht := ht.on hb
  replace hL := hL.on hb
  replace DM := DM.on hb
  replace DT := DT.on hb
  replace bz := bz.trans (hb.mono bz.size)
  clear hb
  obtain ⟨y0, y1, y2, y3, y4, y5⟩ := Mbx.cells DM
  obtain ⟨u0, u1, u2, u3, u4, u5⟩ := Mbx.cells DT
  go_wp2_with fail
  with_reducible refine (pt _ ht).mono ?_
  rintro e w2 ⟨rfl, hb⟩
  clear y0 y1 y2 y3 y4 y5 u0 u1 u2 u3 u4 u5 pt
  replace h := h.on hb
  replace ht := ht.on hb
  replace hL := hL.on hb
  replace DM := DM.on hb
  replace DT := DT.on hb
  replace bz := bz.trans (hb.mono bz.size)
  clear hb
  go_wp2_with fail
  with_reducible refine (total_any hL).mono ?_
  rintro e w9 ⟨z, rfl, rfl⟩
  by_cases hz : 400 < z
  · skip
    go_wp2_with fail
    with_reducible refine (known_any _).mono ?_
    rintro e w9 ⟨rfl, hb9⟩
    go_wp2_with fail
    go_ret
    exact ⟨rfl, bz.trans (hb9.mono bz.size)⟩
  · skip
    obtain ⟨y0, y1, y2, y3, y4, y5⟩ := Mbx.cells DM
    obtain ⟨u0, u1, u2, u3, u4, u5⟩ := Mbx.cells DT
    go_wp2_with fail
    with_reducible refine (pg _ h ht hL).mono ?_
    rintro e w3 ⟨G, cap, XL, rfl, hO, hI, hb⟩
    clear y0 y1 y2 y3 y4 y5 u0 u1 u2 u3 u4 u5 pg
    replace h := h.on hb
    replace ht := ht.on hb
    replace hL := hL.on hb
    replace DM := DM.on hb
    replace DT := DT.on hb
    replace bz := bz.trans (hb.mono bz.size)
    clear hb
    have FX := hO.fl hI.wd
    rw [hI.len] at FX
    clear hO
    have DX := Blk.new w3 [.int .i64 M, .int .i64 Q, .slice (some ⟨G, 0, none⟩) n cap] 36
    have hbA := (Below.refl _ w3).alloc (Nat.le_refl _) (.cells #[.int .i64 M, .int .i64 Q, .slice (some ⟨G, 0, none⟩) n cap] 36)
    replace h := h.on hbA
    replace ht := ht.on hbA
    replace hL := hL.on hbA
    replace DM := DM.on hbA
    replace DT := DT.on hbA
    replace FX := FX.on hbA
    clear hbA
    replace bz := bz.alloc bz.size (.cells #[.int .i64 M, .int .i64 Q, .slice (some ⟨G, 0, none⟩) n cap] 36)
    obtain ⟨BX, hBX⟩ : ∃ b, w3.heap.size = b := ⟨_, rfl⟩
    rw [hBX] at DX
    obtain ⟨y0, y1, y2, y3, y4, y5⟩ := Mbx.cells DM
    obtain ⟨u0, u1, u2, u3, u4, u5⟩ := Mbx.cells DT
    go_wp2_with fail
    with_reducible refine (pmA _).mono ?_
    rintro e w4 ⟨rfl, hb⟩
    clear y0 y1 y2 y3 y4 y5 u0 u1 u2 u3 u4 u5 pmA
    replace h := h.on hb
    replace ht := ht.on hb
    replace hL := hL.on hb
    replace DM := DM.on hb
    replace DT := DT.on hb
    replace FX := FX.on hb
    replace DX := DX.on hb
    replace bz := bz.trans (hb.mono bz.size)
    clear hb
    obtain ⟨y0, y1, y2, y3, y4, y5⟩ := Mbx.cells DM
    obtain ⟨u0, u1, u2, u3, u4, u5⟩ := Mbx.cells DT
    go_wp2_with fail
    with_reducible refine (pmT _).mono ?_
    rintro e w5 ⟨rfl, hb⟩
    clear y0 y1 y2 y3 y4 y5 u0 u1 u2 u3 u4 u5 pmT
    replace h := h.on hb
    replace ht := ht.on hb
    replace hL := hL.on hb
    replace DM := DM.on hb
    replace DT := DT.on hb
    replace FX := FX.on hb
    replace DX := DX.on hb
    replace bz := bz.trans (hb.mono bz.size)
    clear hb
    go_wp2_with fail
    with_reducible refine (rAlike_any hL (by omega) HG.out).mono ?_
    rintro e w6 ⟨rfl, hb⟩
    replace h := h.on hb
    replace ht := ht.on hb
    replace hL := hL.on hb
    replace DM := DM.on hb
    replace DT := DT.on hb
    replace FX := FX.on hb
    replace DX := DX.on hb
    replace bz := bz.trans (hb.mono bz.size)
    clear hb
    go_wp2_with fail
    obtain ⟨e, he, _, _⟩ := hL.get hk0
    have hem := HLEN.out e (List.mem_of_getElem? he)
    obtain ⟨q0, _, _⟩ := hL.cells hk0 he rfl hem
    rw [show ad.add (0 * 2) = ad from rfl] at q0
    clear he hem
    replace h := h.drew
    replace ht := ht.drew
    replace hL := hL.drew
    replace DM := DM.drew
    replace DT := DT.drew
    replace FX := FX.drew
    replace DX := DX.drew
    replace bz := bz.drew
    replace q0 : w6.drew.cell? ad = _ := q0
    refine wp_region_held_drew (S := fun w9 : World => Mbx w9 w.heap.size M Q A n c ∧ Mbx w9 (w.heap.size + 1) k k TA tn tc9 ∧ w9.cell? ad = some (.slice e.A M e.c)) (by kernel_rfl) ⟨DM, DT, q0⟩ (fun hS => ?_)
    generalize w6.drew = wl at hS h ht hL DM DT FX DX q0 bz ⊢
    refine wpAnyH_take (i := 0) (v := ?v0_147) rfl (by kernel_rfl) (by kernel_rfl) (by kernel_rfl) (fun _ _ _ h => h) (Or.inl ⟨by rfl, ?hy0_147⟩) (by assumption) ?rest0_147
    case hy0_147 => (intro w9 hSw; clear hSw; go_simp; try with_reducible rfl)
    try simp only [Act.put, List.setIfInBounds_toArray, List.set_cons_zero, List.set_cons_succ, List.getElem_toArray, List.getElem_cons_zero, List.getElem_cons_succ]
    refine wpAnyH_take (i := 1) (v := ?v1_148) rfl (by kernel_rfl) (by kernel_rfl) (by kernel_rfl) (fun _ _ _ h => h) (Or.inl ⟨by rfl, ?hy1_148⟩) (by assumption) ?rest1_148
    case hy1_148 => (intro w9 hSw; obtain ⟨ma1, ma2, ma3⟩ := hSw; obtain ⟨y0, y1, y2, _, _, _⟩ := Mbx.cells ma1; obtain ⟨u0, u1, u2, _, _, _⟩ := Mbx.cells ma2; go_simp; try with_reducible rfl)
    try simp only [Act.put, List.setIfInBounds_toArray, List.set_cons_zero, List.set_cons_succ, List.getElem_toArray, List.getElem_cons_zero, List.getElem_cons_succ]
    refine wpAnyH_take (i := 2) (v := ?v2_149) rfl (by kernel_rfl) (by kernel_rfl) (by kernel_rfl) (fun _ _ _ h => h) (Or.inl ⟨by rfl, ?hy2_149⟩) (by assumption) ?rest2_149
    case hy2_149 => (intro w9 hSw; clear hSw; go_simp; try with_reducible rfl)
    try simp only [Act.put, List.setIfInBounds_toArray, List.set_cons_zero, List.set_cons_succ, List.getElem_toArray, List.getElem_cons_zero, List.getElem_cons_succ]
    refine wpAnyH_take (i := 3) (v := ?v3_150) rfl (by kernel_rfl) (by kernel_rfl) (by kernel_rfl) (fun _ _ _ h => h) (Or.inl ⟨by rfl, ?hy3_150⟩) (by assumption) ?rest3_150
    case hy3_150 => (intro w9 hSw; obtain ⟨ma1, ma2, ma3⟩ := hSw; obtain ⟨y0, y1, y2, _, _, _⟩ := Mbx.cells ma1; obtain ⟨u0, u1, u2, _, _, _⟩ := Mbx.cells ma2; go_simp; try with_reducible rfl)
    try simp only [Act.put, List.setIfInBounds_toArray, List.set_cons_zero, List.set_cons_succ, List.getElem_toArray, List.getElem_cons_zero, List.getElem_cons_succ]
    refine wpAnyH_take (i := 4) (v := ?v4_151) rfl (by kernel_rfl) (by kernel_rfl) (by kernel_rfl) (fun _ _ _ h => h) (Or.inl ⟨by rfl, ?hy4_151⟩) (by assumption) ?rest4_151
    case hy4_151 => (intro w9 hSw; clear hSw; go_simp; try with_reducible rfl)
    try simp only [Act.put, List.setIfInBounds_toArray, List.set_cons_zero, List.set_cons_succ, List.getElem_toArray, List.getElem_cons_zero, List.getElem_cons_succ]
    refine wpAnyH_take (i := 5) (v := ?v5_152) rfl (by kernel_rfl) (by kernel_rfl) (by kernel_rfl) (fun _ _ _ h => h) (Or.inl ⟨by rfl, ?hy5_152⟩) (by assumption) ?rest5_152
    case hy5_152 => (intro w9 hSw; clear hSw; go_simp; try with_reducible rfl)
    try simp only [Act.put, List.setIfInBounds_toArray, List.set_cons_zero, List.set_cons_succ, List.getElem_toArray, List.getElem_cons_zero, List.getElem_cons_succ]
    refine wpAnyH_take (i := 6) (v := ?v6_153) rfl (by kernel_rfl) (by kernel_rfl) (by kernel_rfl) (fun _ _ _ h => h) (Or.inl ⟨by rfl, ?hy6_153⟩) (by assumption) ?rest6_153
    case hy6_153 => (intro w9 hSw; clear hSw; go_simp; try with_reducible rfl)
    try simp only [Act.put, List.setIfInBounds_toArray, List.set_cons_zero, List.set_cons_succ, List.getElem_toArray, List.getElem_cons_zero, List.getElem_cons_succ]
    refine wpAnyH_take (i := 7) (v := ?v7_154) rfl (by kernel_rfl) (by kernel_rfl) (by kernel_rfl) (fun _ _ _ h => h) (Or.inl ⟨by rfl, ?hy7_154⟩) (by assumption) ?rest7_154
    case hy7_154 => (intro w9 hSw; obtain ⟨ma1, ma2, ma3⟩ := hSw; obtain ⟨y0, y1, y2, _, _, _⟩ := Mbx.cells ma1; obtain ⟨u0, u1, u2, _, _, _⟩ := Mbx.cells ma2; go_simp; try with_reducible rfl)
    try simp only [Act.put, List.setIfInBounds_toArray, List.set_cons_zero, List.set_cons_succ, List.getElem_toArray, List.getElem_cons_zero, List.getElem_cons_succ]
    refine wpAnyH_take (i := 8) (v := ?v8_155) rfl (by kernel_rfl) (by kernel_rfl) (by kernel_rfl) (fun _ _ _ h => h) (Or.inl ⟨by rfl, ?hy8_155⟩) (by assumption) ?rest8_155
    case hy8_155 => (intro w9 hSw; clear hSw; go_simp; try with_reducible rfl)
    try simp only [Act.put, List.setIfInBounds_toArray, List.set_cons_zero, List.set_cons_succ, List.getElem_toArray, List.getElem_cons_zero, List.getElem_cons_succ]
    refine wpAnyH_take (i := 9) (v := ?v9_156) rfl (by kernel_rfl) (by kernel_rfl) (by kernel_rfl) (fun _ _ _ h => h) (Or.inl ⟨by rfl, ?hy9_156⟩) (by assumption) ?rest9_156
    case hy9_156 => (intro w9 hSw; obtain ⟨ma1, ma2, ma3⟩ := hSw; obtain ⟨y0, y1, y2, _, _, _⟩ := Mbx.cells ma1; obtain ⟨u0, u1, u2, _, _, _⟩ := Mbx.cells ma2; go_simp; try with_reducible rfl)
    try simp only [Act.put, List.setIfInBounds_toArray, List.set_cons_zero, List.set_cons_succ, List.getElem_toArray, List.getElem_cons_zero, List.getElem_cons_succ]
    refine wpAnyH_take (i := 10) (v := ?v10_157) rfl (by kernel_rfl) (by kernel_rfl) (by kernel_rfl) (fun _ _ _ h => h) (Or.inl ⟨by rfl, ?hy10_157⟩) (by assumption) ?rest10_157
    case hy10_157 => (intro w9 hSw; clear hSw; go_simp; try with_reducible rfl)
    try simp only [Act.put, List.setIfInBounds_toArray, List.set_cons_zero, List.set_cons_succ, List.getElem_toArray, List.getElem_cons_zero, List.getElem_cons_succ]
    refine wpAnyH_take (i := 11) (v := ?v11_158) rfl (by kernel_rfl) (by kernel_rfl) (by kernel_rfl) (fun _ _ _ h => h) (Or.inl ⟨by rfl, ?hy11_158⟩) (by assumption) ?rest11_158
    case hy11_158 => (intro w9 hSw; clear hSw; go_simp; try with_reducible rfl)
    try simp only [Act.put, List.setIfInBounds_toArray, List.set_cons_zero, List.set_cons_succ, List.getElem_toArray, List.getElem_cons_zero, List.getElem_cons_succ]
    refine wpAnyH_take (i := 12) (v := ?v12_159) rfl (by kernel_rfl) (by kernel_rfl) (by kernel_rfl) (fun _ _ _ h => h) (Or.inl ⟨by rfl, ?hy12_159⟩) (by assumption) ?rest12_159
    case hy12_159 => (intro w9 hSw; clear hSw; go_simp; try with_reducible rfl)
    try simp only [Act.put, List.setIfInBounds_toArray, List.set_cons_zero, List.set_cons_succ, List.getElem_toArray, List.getElem_cons_zero, List.getElem_cons_succ]
    refine wpAnyH_take (i := 13) (v := ?v13_160) rfl (by kernel_rfl) (by kernel_rfl) (by kernel_rfl) (fun _ _ _ h => h) (Or.inl ⟨by rfl, ?hy13_160⟩) (by assumption) ?rest13_160
    case hy13_160 => (intro w9 hSw; clear hSw; go_simp; try with_reducible rfl)
    try simp only [Act.put, List.setIfInBounds_toArray, List.set_cons_zero, List.set_cons_succ, List.getElem_toArray, List.getElem_cons_zero, List.getElem_cons_succ]
    refine wpAnyH_take (i := 14) (v := ?v14_161) rfl (by kernel_rfl) (by kernel_rfl) (by kernel_rfl) (fun _ _ _ h => h) (Or.inl ⟨by rfl, ?hy14_161⟩) (by assumption) ?rest14_161
    case hy14_161 => (intro w9 hSw; obtain ⟨ma1, ma2, ma3⟩ := hSw; obtain ⟨y0, y1, y2, _, _, _⟩ := Mbx.cells ma1; obtain ⟨u0, u1, u2, _, _, _⟩ := Mbx.cells ma2; go_simp; try with_reducible rfl)
    try simp only [Act.put, List.setIfInBounds_toArray, List.set_cons_zero, List.set_cons_succ, List.getElem_toArray, List.getElem_cons_zero, List.getElem_cons_succ]
    refine wpAnyH_take (i := 15) (v := ?v15_162) rfl (by kernel_rfl) (by kernel_rfl) (by kernel_rfl) (fun _ _ _ h => h) (Or.inl ⟨by rfl, ?hy15_162⟩) (by assumption) ?rest15_162
    case hy15_162 => (intro w9 hSw; clear hSw; go_simp; try with_reducible rfl)
    try simp only [Act.put, List.setIfInBounds_toArray, List.set_cons_zero, List.set_cons_succ, List.getElem_toArray, List.getElem_cons_zero, List.getElem_cons_succ]
    refine wpAnyH_take (i := 16) (v := ?v16_163) rfl (by kernel_rfl) (by kernel_rfl) (by kernel_rfl) (fun _ _ _ h => h) (Or.inl ⟨by rfl, ?hy16_163⟩) (by assumption) ?rest16_163
    case hy16_163 => (intro w9 hSw; clear hSw; go_simp; try with_reducible rfl)
    try simp only [Act.put, List.setIfInBounds_toArray, List.set_cons_zero, List.set_cons_succ, List.getElem_toArray, List.getElem_cons_zero, List.getElem_cons_succ]
    refine wpAnyH_take (i := 17) (v := ?v17_164) rfl (by kernel_rfl) (by kernel_rfl) (by kernel_rfl) (fun _ _ _ h => h) (Or.inl ⟨by rfl, ?hy17_164⟩) (by assumption) ?rest17_164
    case hy17_164 => (intro w9 hSw; clear hSw; go_simp; try with_reducible rfl)
    try simp only [Act.put, List.setIfInBounds_toArray, List.set_cons_zero, List.set_cons_succ, List.getElem_toArray, List.getElem_cons_zero, List.getElem_cons_succ]
    refine wpAnyH_take (i := 18) (v := ?v18_165) rfl (by kernel_rfl) (by kernel_rfl) (by kernel_rfl) (fun _ _ _ h => h) (Or.inl ⟨by rfl, ?hy18_165⟩) (by assumption) ?rest18_165
    case hy18_165 => (intro w9 hSw; obtain ⟨ma1, ma2, ma3⟩ := hSw; obtain ⟨y0, y1, y2, _, _, _⟩ := Mbx.cells ma1; obtain ⟨u0, u1, u2, _, _, _⟩ := Mbx.cells ma2; go_simp; try with_reducible rfl)
    try simp only [Act.put, List.setIfInBounds_toArray, List.set_cons_zero, List.set_cons_succ, List.getElem_toArray, List.getElem_cons_zero, List.getElem_cons_succ]
    refine wpAnyH_take (i := 19) (v := ?v19_166) rfl (by kernel_rfl) (by kernel_rfl) (by kernel_rfl) (fun _ _ _ h => h) (Or.inl ⟨by rfl, ?hy19_166⟩) (by assumption) ?rest19_166
    case hy19_166 => (intro w9 hSw; obtain ⟨ma1, ma2, ma3⟩ := hSw; obtain ⟨y0, y1, y2, _, _, _⟩ := Mbx.cells ma1; obtain ⟨u0, u1, u2, _, _, _⟩ := Mbx.cells ma2; go_simp; try with_reducible rfl)
    try simp only [Act.put, List.setIfInBounds_toArray, List.set_cons_zero, List.set_cons_succ, List.getElem_toArray, List.getElem_cons_zero, List.getElem_cons_succ]
    refine wpAnyH_take (i := 20) (v := ?v20_167) rfl (by kernel_rfl) (by kernel_rfl) (by kernel_rfl) (fun _ _ _ h => h) (Or.inl ⟨by rfl, ?hy20_167⟩) (by assumption) ?rest20_167
    case hy20_167 => (intro w9 hSw; clear hSw; go_simp; try with_reducible rfl)
    try simp only [Act.put, List.setIfInBounds_toArray, List.set_cons_zero, List.set_cons_succ, List.getElem_toArray, List.getElem_cons_zero, List.getElem_cons_succ]
    refine wpAnyH_take (i := 21) (v := ?v21_168) rfl (by kernel_rfl) (by kernel_rfl) (by kernel_rfl) (fun _ _ _ h => h) (Or.inl ⟨by rfl, ?hy21_168⟩) (by assumption) ?rest21_168
    case hy21_168 => (intro w9 hSw; clear hSw; go_simp; try with_reducible rfl)
    try simp only [Act.put, List.setIfInBounds_toArray, List.set_cons_zero, List.set_cons_succ, List.getElem_toArray, List.getElem_cons_zero, List.getElem_cons_succ]
    refine wpAnyH_done (by kernel_rfl) ?_ _
    clear q0
    go_wp2_with fail
    replace h := h.drew
    replace ht := ht.drew
    replace hL := hL.drew
    replace DM := DM.drew
    replace DT := DT.drew
    replace FX := FX.drew
    replace DX := DX.drew
    replace bz := bz.drew
    refine wp_region_held_drew (S := fun w9 : World => Mbx w9 w.heap.size M Q A n c ∧ Mbx w9 (w.heap.size + 1) k k TA tn tc9 ∧ Mbx w9 BX M Q (some ⟨G, 0, none⟩) n cap) (by kernel_rfl) ⟨DM, DT, DX⟩ (fun hS => ?_)
    generalize wl.drew = wd at hS h ht hL DM DT FX DX  bz ⊢
    refine wpAnyH_take (i := 0) (v := ?v0_169) rfl (by kernel_rfl) (by kernel_rfl) (by kernel_rfl) (fun _ _ _ h => h) (Or.inl ⟨by rfl, ?hy0_169⟩) (by assumption) ?rest0_169
    case hy0_169 => (intro w9 hSw; obtain ⟨ma1, ma2, ma3⟩ := hSw; obtain ⟨y0, y1, y2, _, _, _⟩ := Mbx.cells ma1; obtain ⟨u0, u1, u2, _, _, _⟩ := Mbx.cells ma2; obtain ⟨v0, v1, v2, _, _, _⟩ := Mbx.cells ma3; go_simp; try with_reducible rfl)
    try simp only [Act.put, List.setIfInBounds_toArray, List.set_cons_zero, List.set_cons_succ, List.getElem_toArray, List.getElem_cons_zero, List.getElem_cons_succ]
    refine wpAnyH_take (i := 1) (v := ?v1_170) rfl (by kernel_rfl) (by kernel_rfl) (by kernel_rfl) (fun _ _ _ h => h) (Or.inl ⟨by rfl, ?hy1_170⟩) (by assumption) ?rest1_170
    case hy1_170 => (intro w9 hSw; obtain ⟨ma1, ma2, ma3⟩ := hSw; obtain ⟨y0, y1, y2, _, _, _⟩ := Mbx.cells ma1; obtain ⟨u0, u1, u2, _, _, _⟩ := Mbx.cells ma2; obtain ⟨v0, v1, v2, _, _, _⟩ := Mbx.cells ma3; go_simp; try with_reducible rfl)
    try simp only [Act.put, List.setIfInBounds_toArray, List.set_cons_zero, List.set_cons_succ, List.getElem_toArray, List.getElem_cons_zero, List.getElem_cons_succ]
    refine wpAnyH_take (i := 2) (v := ?v2_171) rfl (by kernel_rfl) (by kernel_rfl) (by kernel_rfl) (fun _ _ _ h => h) (Or.inl ⟨by rfl, ?hy2_171⟩) (by assumption) ?rest2_171
    case hy2_171 => (intro w9 hSw; obtain ⟨ma1, ma2, ma3⟩ := hSw; obtain ⟨y0, y1, y2, _, _, _⟩ := Mbx.cells ma1; obtain ⟨u0, u1, u2, _, _, _⟩ := Mbx.cells ma2; obtain ⟨v0, v1, v2, _, _, _⟩ := Mbx.cells ma3; go_simp; try with_reducible rfl)
    try simp only [Act.put, List.setIfInBounds_toArray, List.set_cons_zero, List.set_cons_succ, List.getElem_toArray, List.getElem_cons_zero, List.getElem_cons_succ]
    refine wpAnyH_take (i := 3) (v := ?v3_172) rfl (by kernel_rfl) (by kernel_rfl) (by kernel_rfl) (fun _ _ _ h => h) (Or.inl ⟨by rfl, ?hy3_172⟩) (by assumption) ?rest3_172
    case hy3_172 => (intro w9 hSw; clear hSw; go_simp; try with_reducible rfl)
    try simp only [Act.put, List.setIfInBounds_toArray, List.set_cons_zero, List.set_cons_succ, List.getElem_toArray, List.getElem_cons_zero, List.getElem_cons_succ]
    refine wpAnyH_ready (rs := [4]) (by kernel_rfl) (by simp) ?_
    refine AllReadyH.cons rfl (fun K hK => ?_) AllReadyH.nil
    go_simp
    with_reducible refine (rBlock_yes (M := M) (Q := Q) h ht hL hM hQ (by omega) HN.out HTN.out HLEN.out hM0 hk0 hQ0).mono ?_
    rintro e w7 ⟨A2, c2, L2, rfl, hO2, hI2, hb⟩
    replace h := h.on hb
    replace ht := ht.on hb
    replace hL := hL.on hb
    replace DM := DM.on hb
    replace DT := DT.on hb
    replace FX := FX.on hb
    replace DX := DX.on hb
    replace bz := bz.trans (hb.mono bz.size)
    clear hb
    have F2 := hO2.fl hI2.wd
    rw [hI2.len] at F2
    clear hO2
    clear hS; refine hK.out _ _ ⟨DM, DT, DX⟩ (fun hS => ?_); clear hK K
    try simp only [Act.put, List.setIfInBounds_toArray, List.set_cons_zero, List.set_cons_succ, List.getElem_toArray, List.getElem_cons_zero, List.getElem_cons_succ]
    refine wpAnyH_ready (rs := [5]) (by kernel_rfl) (by simp) ?_
    refine AllReadyH.cons rfl (fun K hK => ?_) AllReadyH.nil
    go_simp
    with_reducible refine (rSameM_any FX F2 (fun k hk => (hI.at_ k hk).trans (hI2.at_ k hk).symm)).mono ?_
    rintro e w8 ⟨rfl, hb⟩
    replace h := h.on hb
    replace ht := ht.on hb
    replace hL := hL.on hb
    replace DM := DM.on hb
    replace DT := DT.on hb
    replace FX := FX.on hb
    replace DX := DX.on hb
    replace F2 := F2.on hb
    replace bz := bz.trans (hb.mono bz.size)
    clear hb
    clear hS; refine hK.out _ _ ⟨DM, DT, DX⟩ (fun hS => ?_); clear hK K
    try simp only [Act.put, List.setIfInBounds_toArray, List.set_cons_zero, List.set_cons_succ, List.getElem_toArray, List.getElem_cons_zero, List.getElem_cons_succ]
    refine wpAnyH_take (i := 6) (v := ?v6_173) rfl (by kernel_rfl) (by kernel_rfl) (by kernel_rfl) (fun _ _ _ h => h) (Or.inl ⟨by rfl, ?hy6_173⟩) (by assumption) ?rest6_173
    case hy6_173 => (intro w9 hSw; clear hSw; go_simp; try with_reducible rfl)
    try simp only [Act.put, List.setIfInBounds_toArray, List.set_cons_zero, List.set_cons_succ, List.getElem_toArray, List.getElem_cons_zero, List.getElem_cons_succ]
    refine wpAnyH_ready (rs := [7]) (by kernel_rfl) (by simp) ?_
    refine AllReadyH.cons rfl (fun K hK => ?_) AllReadyH.nil
    go_simp
    with_reducible refine (known_any _).mono ?_
    rintro e w9 ⟨rfl, hb⟩
    replace h := h.on hb
    replace ht := ht.on hb
    replace hL := hL.on hb
    replace DM := DM.on hb
    replace DT := DT.on hb
    replace FX := FX.on hb
    replace DX := DX.on hb
    replace F2 := F2.on hb
    replace bz := bz.trans (hb.mono bz.size)
    clear hb
    clear hS; refine hK.out _ _ ⟨DM, DT, DX⟩ (fun hS => ?_); clear hK K
    try simp only [Act.put, List.setIfInBounds_toArray, List.set_cons_zero, List.set_cons_succ, List.getElem_toArray, List.getElem_cons_zero, List.getElem_cons_succ]
    refine wpAnyH_take (i := 8) (v := ?v8_174) rfl (by kernel_rfl) (by kernel_rfl) (by kernel_rfl) (fun _ _ _ h => h) (Or.inl ⟨by rfl, ?hy8_174⟩) (by assumption) ?rest8_174
    case hy8_174 => (intro w9 hSw; clear hSw; go_simp; try with_reducible rfl)
    try simp only [Act.put, List.setIfInBounds_toArray, List.set_cons_zero, List.set_cons_succ, List.getElem_toArray, List.getElem_cons_zero, List.getElem_cons_succ]
    refine wpAnyH_take (i := 9) (v := ?v9_175) rfl (by kernel_rfl) (by kernel_rfl) (by kernel_rfl) (fun _ _ _ h => h) (Or.inl ⟨by rfl, ?hy9_175⟩) (by assumption) ?rest9_175
    case hy9_175 => (intro w9 hSw; clear hSw; go_simp; try with_reducible rfl)
    try simp only [Act.put, List.setIfInBounds_toArray, List.set_cons_zero, List.set_cons_succ, List.getElem_toArray, List.getElem_cons_zero, List.getElem_cons_succ]
    refine wpAnyH_done (by kernel_rfl) ?_ _
    go_wp2_with fail
    go_ret
    exact ⟨by first | rfl | simp, bz⟩
set_option maxRecDepth 100000 in
set_option maxHeartbeats 8000000 in
theorem blk_b8 {w : World} {A TA LA : Option Addr} {n c tn tc9 k kc M : Nat}  {l tl : List Int} {hs : List Re} (h : FL w A n c l) (ht : FL w TA tn tc9 tl) (hL : Rl w LA k kc hs) (hn4 : n ≤ 400) (ht4 : tn ≤ 400) (hk20 : k ≤ 20) (hA : mayB M 0 n = true) (hT : mayB k k tn = true) (hG : togB hs = true) (hlen : ∀ e ∈ hs, e.l.length = M) (hk0 : 0 < k) (hM0 : 0 < M) (hM : M ≤ 512) (hn : n = M * 0) (htn : tn = k * k) : Calls Try.prog 6 #[mV M 0 A n c, mV k k TA tn tc9, .slice LA k kc] w (RTrue w) := by
  have hn1 := h.max
  have ht1 := ht.max
  have hk1 := hL.2.1
  have hlenN := hL.1
  have pf := fun (W : World) (hh : FL W A n c l) => few_any (R := M) (C := 0) hh
  have pt := fun (W : World) (hh : FL W TA tn tc9 tl) => few_any (R := k) (C := k) hh
  have bz := ((Below.refl _ w).alloc (Nat.le_refl _) (.cells #[.int .i64 M, .int .i64 0, .slice A n c] 36)).alloc (by simp) (.cells #[.int .i64 k, .int .i64 k, .slice TA tn tc9] 36)
  have DM := (Blk.new w [.int .i64 M, .int .i64 0, .slice A n c] 36).alloc (.cells #[.int .i64 k, .int .i64 k, .slice TA tn tc9] 36)
  have DT := Blk.new (w.alloc (.cells #[.int .i64 M, .int .i64 0, .slice A n c] 36)) [.int .i64 k, .int .i64 k, .slice TA tn tc9] 36
  rw [World.size_alloc] at DT
  replace h := h.on bz
  replace ht := ht.on bz
  replace hL := hL.on bz
  rw [decide_eq_true hn4] at pf
  rw [decide_eq_true ht4] at pt
  have hk21 : ¬ (20 : Int) < k := by omega
  have pmA := fun W => rMay_any (R := M) (C := 0) (A := A) (n := n) (c := c) hn1 W
  rw [hA] at pmA
  have pmT := fun W => rMay_any (R := k) (C := k) (A := TA) (n := tn) (c := tc9) ht1 W
  rw [hT] at pmT
  have HG := Lib.hid hG
  clear hG
  have pg := fun (W : World) (h1 : FL W A n c l) (h2 : FL W TA tn tc9 tl) (h3 : Rl W LA k kc hs) => gBlock_yes (M := M) (Q := 0) h1 h2 h3 hM (by omega) (by omega) hn htn HG.out hlen hM0 hk0
  simp only [show ((0 : Nat) : Int) = 0 from rfl] at pg
  obtain ⟨ad, rfl⟩ : ∃ ad, LA = some ad := by obtain ⟨e, ad, ea, _, hA9, _⟩ := hL.at_ hk0; exact ⟨ad, hA9⟩
  have HLEN := Lib.hid hlen
  clear hlen
  have HN := Lib.hid hn
  have HTN := Lib.hid htn
  clear hn htn
  clear hA hT
  go_enter Try.func6, Try.ntmps6
  obtain ⟨y0, y1, y2, y3, y4, y5⟩ := Mbx.cells DM
  obtain ⟨u0, u1, u2, u3, u4, u5⟩ := Mbx.cells DT
  go_wp2_with fail
  with_reducible refine (pf _ h).mono ?_
  rintro e w1 ⟨rfl, hb⟩
  clear y0 y1 y2 y3 y4 y5 u0 u1 u2 u3 u4 u5 pf
  replace h := h.on hb
  replace ht := ht.on hb
  replace hL := hL.on hb
  replace DM := DM.on hb
  replace DT := DT.on hb
  replace bz := bz.trans (hb.mono bz.size)
  clear hb
  obtain ⟨y0, y1, y2, y3, y4, y5⟩ := Mbx.cells DM
  obtain ⟨u0, u1, u2, u3, u4, u5⟩ := Mbx.cells DT
  go_wp2_with fail
  with_reducible refine (pt _ ht).mono ?_
  rintro e w2 ⟨rfl, hb⟩
  clear y0 y1 y2 y3 y4 y5 u0 u1 u2 u3 u4 u5 pt
  replace h := h.on hb
  replace ht := ht.on hb
  replace hL := hL.on hb
  replace DM := DM.on hb
  replace DT := DT.on hb
  replace bz := bz.trans (hb.mono bz.size)
  clear hb
  go_wp2_with fail
  with_reducible refine (total_any hL).mono ?_
  rintro e w9 ⟨z, rfl, rfl⟩
  by_cases hz : 400 < z
  · skip
    go_wp2_with fail
    with_reducible refine (known_any _).mono ?_
    rintro e w9 ⟨rfl, hb9⟩
    go_wp2_with fail
    go_ret
    exact ⟨rfl, bz.trans (hb9.mono bz.size)⟩
  · skip
    obtain ⟨y0, y1, y2, y3, y4, y5⟩ := Mbx.cells DM
    obtain ⟨u0, u1, u2, u3, u4, u5⟩ := Mbx.cells DT
    go_wp2_with fail
    with_reducible refine (pg _ h ht hL).mono ?_
    rintro e w3 ⟨G, cap, XL, rfl, hO, hI, hb⟩
    clear y0 y1 y2 y3 y4 y5 u0 u1 u2 u3 u4 u5 pg
    replace h := h.on hb
    replace ht := ht.on hb
    replace hL := hL.on hb
    replace DM := DM.on hb
    replace DT := DT.on hb
    replace bz := bz.trans (hb.mono bz.size)
    clear hb
    have FX := hO.fl hI.wd
    rw [hI.len] at FX
    clear hO
    have DX := Blk.new w3 [.int .i64 M, .int .i64 0, .slice (some ⟨G, 0, none⟩) n cap] 36
    have hbA := (Below.refl _ w3).alloc (Nat.le_refl _) (.cells #[.int .i64 M, .int .i64 0, .slice (some ⟨G, 0, none⟩) n cap] 36)
    replace h := h.on hbA
    replace ht := ht.on hbA
    replace hL := hL.on hbA
    replace DM := DM.on hbA
    replace DT := DT.on hbA
    replace FX := FX.on hbA
    clear hbA
    replace bz := bz.alloc bz.size (.cells #[.int .i64 M, .int .i64 0, .slice (some ⟨G, 0, none⟩) n cap] 36)
    obtain ⟨BX, hBX⟩ : ∃ b, w3.heap.size = b := ⟨_, rfl⟩
    rw [hBX] at DX
    obtain ⟨y0, y1, y2, y3, y4, y5⟩ := Mbx.cells DM
    obtain ⟨u0, u1, u2, u3, u4, u5⟩ := Mbx.cells DT
    go_wp2_with fail
    with_reducible refine (pmA _).mono ?_
    rintro e w4 ⟨rfl, hb⟩
    clear y0 y1 y2 y3 y4 y5 u0 u1 u2 u3 u4 u5 pmA
    replace h := h.on hb
    replace ht := ht.on hb
    replace hL := hL.on hb
    replace DM := DM.on hb
    replace DT := DT.on hb
    replace FX := FX.on hb
    replace DX := DX.on hb
    replace bz := bz.trans (hb.mono bz.size)
    clear hb
    obtain ⟨y0, y1, y2, y3, y4, y5⟩ := Mbx.cells DM
    obtain ⟨u0, u1, u2, u3, u4, u5⟩ := Mbx.cells DT
    go_wp2_with fail
    with_reducible refine (pmT _).mono ?_
    rintro e w5 ⟨rfl, hb⟩
    clear y0 y1 y2 y3 y4 y5 u0 u1 u2 u3 u4 u5 pmT
    replace h := h.on hb
    replace ht := ht.on hb
    replace hL := hL.on hb
    replace DM := DM.on hb
    replace DT := DT.on hb
    replace FX := FX.on hb
    replace DX := DX.on hb
    replace bz := bz.trans (hb.mono bz.size)
    clear hb
    go_wp2_with fail
    with_reducible refine (rAlike_any hL (by omega) HG.out).mono ?_
    rintro e w6 ⟨rfl, hb⟩
    replace h := h.on hb
    replace ht := ht.on hb
    replace hL := hL.on hb
    replace DM := DM.on hb
    replace DT := DT.on hb
    replace FX := FX.on hb
    replace DX := DX.on hb
    replace bz := bz.trans (hb.mono bz.size)
    clear hb
    go_wp2_with fail
    obtain ⟨e, he, _, _⟩ := hL.get hk0
    have hem := HLEN.out e (List.mem_of_getElem? he)
    obtain ⟨q0, _, _⟩ := hL.cells hk0 he rfl hem
    rw [show ad.add (0 * 2) = ad from rfl] at q0
    clear he hem
    replace h := h.drew
    replace ht := ht.drew
    replace hL := hL.drew
    replace DM := DM.drew
    replace DT := DT.drew
    replace FX := FX.drew
    replace DX := DX.drew
    replace bz := bz.drew
    replace q0 : w6.drew.cell? ad = _ := q0
    refine wp_region_held_drew (S := fun w9 : World => Mbx w9 w.heap.size M 0 A n c ∧ Mbx w9 (w.heap.size + 1) k k TA tn tc9 ∧ w9.cell? ad = some (.slice e.A M e.c)) (by kernel_rfl) ⟨DM, DT, q0⟩ (fun hS => ?_)
    generalize w6.drew = wl at hS h ht hL DM DT FX DX q0 bz ⊢
    refine wpAnyH_take (i := 0) (v := ?v0_176) rfl (by kernel_rfl) (by kernel_rfl) (by kernel_rfl) (fun _ _ _ h => h) (Or.inl ⟨by rfl, ?hy0_176⟩) (by assumption) ?rest0_176
    case hy0_176 => (intro w9 hSw; clear hSw; go_simp; try with_reducible rfl)
    try simp only [Act.put, List.setIfInBounds_toArray, List.set_cons_zero, List.set_cons_succ, List.getElem_toArray, List.getElem_cons_zero, List.getElem_cons_succ]
    refine wpAnyH_take (i := 1) (v := ?v1_177) rfl (by kernel_rfl) (by kernel_rfl) (by kernel_rfl) (fun _ _ _ h => h) (Or.inl ⟨by rfl, ?hy1_177⟩) (by assumption) ?rest1_177
    case hy1_177 => (intro w9 hSw; obtain ⟨ma1, ma2, ma3⟩ := hSw; obtain ⟨y0, y1, y2, _, _, _⟩ := Mbx.cells ma1; obtain ⟨u0, u1, u2, _, _, _⟩ := Mbx.cells ma2; go_simp; try with_reducible rfl)
    try simp only [Act.put, List.setIfInBounds_toArray, List.set_cons_zero, List.set_cons_succ, List.getElem_toArray, List.getElem_cons_zero, List.getElem_cons_succ]
    refine wpAnyH_take (i := 2) (v := ?v2_178) rfl (by kernel_rfl) (by kernel_rfl) (by kernel_rfl) (fun _ _ _ h => h) (Or.inl ⟨by rfl, ?hy2_178⟩) (by assumption) ?rest2_178
    case hy2_178 => (intro w9 hSw; clear hSw; go_simp; try with_reducible rfl)
    try simp only [Act.put, List.setIfInBounds_toArray, List.set_cons_zero, List.set_cons_succ, List.getElem_toArray, List.getElem_cons_zero, List.getElem_cons_succ]
    refine wpAnyH_take (i := 3) (v := ?v3_179) rfl (by kernel_rfl) (by kernel_rfl) (by kernel_rfl) (fun _ _ _ h => h) (Or.inl ⟨by rfl, ?hy3_179⟩) (by assumption) ?rest3_179
    case hy3_179 => (intro w9 hSw; obtain ⟨ma1, ma2, ma3⟩ := hSw; obtain ⟨y0, y1, y2, _, _, _⟩ := Mbx.cells ma1; obtain ⟨u0, u1, u2, _, _, _⟩ := Mbx.cells ma2; go_simp; try with_reducible rfl)
    try simp only [Act.put, List.setIfInBounds_toArray, List.set_cons_zero, List.set_cons_succ, List.getElem_toArray, List.getElem_cons_zero, List.getElem_cons_succ]
    refine wpAnyH_take (i := 4) (v := ?v4_180) rfl (by kernel_rfl) (by kernel_rfl) (by kernel_rfl) (fun _ _ _ h => h) (Or.inl ⟨by rfl, ?hy4_180⟩) (by assumption) ?rest4_180
    case hy4_180 => (intro w9 hSw; clear hSw; go_simp; try with_reducible rfl)
    try simp only [Act.put, List.setIfInBounds_toArray, List.set_cons_zero, List.set_cons_succ, List.getElem_toArray, List.getElem_cons_zero, List.getElem_cons_succ]
    refine wpAnyH_take (i := 5) (v := ?v5_181) rfl (by kernel_rfl) (by kernel_rfl) (by kernel_rfl) (fun _ _ _ h => h) (Or.inl ⟨by rfl, ?hy5_181⟩) (by assumption) ?rest5_181
    case hy5_181 => (intro w9 hSw; clear hSw; go_simp; try with_reducible rfl)
    try simp only [Act.put, List.setIfInBounds_toArray, List.set_cons_zero, List.set_cons_succ, List.getElem_toArray, List.getElem_cons_zero, List.getElem_cons_succ]
    refine wpAnyH_take (i := 6) (v := ?v6_182) rfl (by kernel_rfl) (by kernel_rfl) (by kernel_rfl) (fun _ _ _ h => h) (Or.inl ⟨by rfl, ?hy6_182⟩) (by assumption) ?rest6_182
    case hy6_182 => (intro w9 hSw; clear hSw; go_simp; try with_reducible rfl)
    try simp only [Act.put, List.setIfInBounds_toArray, List.set_cons_zero, List.set_cons_succ, List.getElem_toArray, List.getElem_cons_zero, List.getElem_cons_succ]
    refine wpAnyH_take (i := 7) (v := ?v7_183) rfl (by kernel_rfl) (by kernel_rfl) (by kernel_rfl) (fun _ _ _ h => h) (Or.inl ⟨by rfl, ?hy7_183⟩) (by assumption) ?rest7_183
    case hy7_183 => (intro w9 hSw; obtain ⟨ma1, ma2, ma3⟩ := hSw; obtain ⟨y0, y1, y2, _, _, _⟩ := Mbx.cells ma1; obtain ⟨u0, u1, u2, _, _, _⟩ := Mbx.cells ma2; go_simp; try with_reducible rfl)
    try simp only [Act.put, List.setIfInBounds_toArray, List.set_cons_zero, List.set_cons_succ, List.getElem_toArray, List.getElem_cons_zero, List.getElem_cons_succ]
    refine wpAnyH_take (i := 8) (v := ?v8_184) rfl (by kernel_rfl) (by kernel_rfl) (by kernel_rfl) (fun _ _ _ h => h) (Or.inl ⟨by rfl, ?hy8_184⟩) (by assumption) ?rest8_184
    case hy8_184 => (intro w9 hSw; clear hSw; go_simp; try with_reducible rfl)
    try simp only [Act.put, List.setIfInBounds_toArray, List.set_cons_zero, List.set_cons_succ, List.getElem_toArray, List.getElem_cons_zero, List.getElem_cons_succ]
    refine wpAnyH_take (i := 9) (v := ?v9_185) rfl (by kernel_rfl) (by kernel_rfl) (by kernel_rfl) (fun _ _ _ h => h) (Or.inl ⟨by rfl, ?hy9_185⟩) (by assumption) ?rest9_185
    case hy9_185 => (intro w9 hSw; obtain ⟨ma1, ma2, ma3⟩ := hSw; obtain ⟨y0, y1, y2, _, _, _⟩ := Mbx.cells ma1; obtain ⟨u0, u1, u2, _, _, _⟩ := Mbx.cells ma2; go_simp; try with_reducible rfl)
    try simp only [Act.put, List.setIfInBounds_toArray, List.set_cons_zero, List.set_cons_succ, List.getElem_toArray, List.getElem_cons_zero, List.getElem_cons_succ]
    refine wpAnyH_take (i := 10) (v := ?v10_186) rfl (by kernel_rfl) (by kernel_rfl) (by kernel_rfl) (fun _ _ _ h => h) (Or.inl ⟨by rfl, ?hy10_186⟩) (by assumption) ?rest10_186
    case hy10_186 => (intro w9 hSw; clear hSw; go_simp; try with_reducible rfl)
    try simp only [Act.put, List.setIfInBounds_toArray, List.set_cons_zero, List.set_cons_succ, List.getElem_toArray, List.getElem_cons_zero, List.getElem_cons_succ]
    refine wpAnyH_take (i := 11) (v := ?v11_187) rfl (by kernel_rfl) (by kernel_rfl) (by kernel_rfl) (fun _ _ _ h => h) (Or.inl ⟨by rfl, ?hy11_187⟩) (by assumption) ?rest11_187
    case hy11_187 => (intro w9 hSw; clear hSw; go_simp; try with_reducible rfl)
    try simp only [Act.put, List.setIfInBounds_toArray, List.set_cons_zero, List.set_cons_succ, List.getElem_toArray, List.getElem_cons_zero, List.getElem_cons_succ]
    refine wpAnyH_take (i := 12) (v := ?v12_188) rfl (by kernel_rfl) (by kernel_rfl) (by kernel_rfl) (fun _ _ _ h => h) (Or.inl ⟨by rfl, ?hy12_188⟩) (by assumption) ?rest12_188
    case hy12_188 => (intro w9 hSw; clear hSw; go_simp; try with_reducible rfl)
    try simp only [Act.put, List.setIfInBounds_toArray, List.set_cons_zero, List.set_cons_succ, List.getElem_toArray, List.getElem_cons_zero, List.getElem_cons_succ]
    refine wpAnyH_take (i := 13) (v := ?v13_189) rfl (by kernel_rfl) (by kernel_rfl) (by kernel_rfl) (fun _ _ _ h => h) (Or.inl ⟨by rfl, ?hy13_189⟩) (by assumption) ?rest13_189
    case hy13_189 => (intro w9 hSw; clear hSw; go_simp; try with_reducible rfl)
    try simp only [Act.put, List.setIfInBounds_toArray, List.set_cons_zero, List.set_cons_succ, List.getElem_toArray, List.getElem_cons_zero, List.getElem_cons_succ]
    refine wpAnyH_take (i := 14) (v := ?v14_190) rfl (by kernel_rfl) (by kernel_rfl) (by kernel_rfl) (fun _ _ _ h => h) (Or.inl ⟨by rfl, ?hy14_190⟩) (by assumption) ?rest14_190
    case hy14_190 => (intro w9 hSw; obtain ⟨ma1, ma2, ma3⟩ := hSw; obtain ⟨y0, y1, y2, _, _, _⟩ := Mbx.cells ma1; obtain ⟨u0, u1, u2, _, _, _⟩ := Mbx.cells ma2; go_simp; try with_reducible rfl)
    try simp only [Act.put, List.setIfInBounds_toArray, List.set_cons_zero, List.set_cons_succ, List.getElem_toArray, List.getElem_cons_zero, List.getElem_cons_succ]
    refine wpAnyH_take (i := 15) (v := ?v15_191) rfl (by kernel_rfl) (by kernel_rfl) (by kernel_rfl) (fun _ _ _ h => h) (Or.inl ⟨by rfl, ?hy15_191⟩) (by assumption) ?rest15_191
    case hy15_191 => (intro w9 hSw; clear hSw; go_simp; try with_reducible rfl)
    try simp only [Act.put, List.setIfInBounds_toArray, List.set_cons_zero, List.set_cons_succ, List.getElem_toArray, List.getElem_cons_zero, List.getElem_cons_succ]
    refine wpAnyH_take (i := 16) (v := ?v16_192) rfl (by kernel_rfl) (by kernel_rfl) (by kernel_rfl) (fun _ _ _ h => h) (Or.inl ⟨by rfl, ?hy16_192⟩) (by assumption) ?rest16_192
    case hy16_192 => (intro w9 hSw; clear hSw; go_simp; try with_reducible rfl)
    try simp only [Act.put, List.setIfInBounds_toArray, List.set_cons_zero, List.set_cons_succ, List.getElem_toArray, List.getElem_cons_zero, List.getElem_cons_succ]
    refine wpAnyH_take (i := 17) (v := ?v17_193) rfl (by kernel_rfl) (by kernel_rfl) (by kernel_rfl) (fun _ _ _ h => h) (Or.inl ⟨by rfl, ?hy17_193⟩) (by assumption) ?rest17_193
    case hy17_193 => (intro w9 hSw; clear hSw; go_simp; try with_reducible rfl)
    try simp only [Act.put, List.setIfInBounds_toArray, List.set_cons_zero, List.set_cons_succ, List.getElem_toArray, List.getElem_cons_zero, List.getElem_cons_succ]
    refine wpAnyH_take (i := 18) (v := ?v18_194) rfl (by kernel_rfl) (by kernel_rfl) (by kernel_rfl) (fun _ _ _ h => h) (Or.inl ⟨by rfl, ?hy18_194⟩) (by assumption) ?rest18_194
    case hy18_194 => (intro w9 hSw; obtain ⟨ma1, ma2, ma3⟩ := hSw; obtain ⟨y0, y1, y2, _, _, _⟩ := Mbx.cells ma1; obtain ⟨u0, u1, u2, _, _, _⟩ := Mbx.cells ma2; go_simp; try with_reducible rfl)
    try simp only [Act.put, List.setIfInBounds_toArray, List.set_cons_zero, List.set_cons_succ, List.getElem_toArray, List.getElem_cons_zero, List.getElem_cons_succ]
    refine wpAnyH_take (i := 19) (v := ?v19_195) rfl (by kernel_rfl) (by kernel_rfl) (by kernel_rfl) (fun _ _ _ h => h) (Or.inl ⟨by rfl, ?hy19_195⟩) (by assumption) ?rest19_195
    case hy19_195 => (intro w9 hSw; obtain ⟨ma1, ma2, ma3⟩ := hSw; obtain ⟨y0, y1, y2, _, _, _⟩ := Mbx.cells ma1; obtain ⟨u0, u1, u2, _, _, _⟩ := Mbx.cells ma2; go_simp; try with_reducible rfl)
    try simp only [Act.put, List.setIfInBounds_toArray, List.set_cons_zero, List.set_cons_succ, List.getElem_toArray, List.getElem_cons_zero, List.getElem_cons_succ]
    refine wpAnyH_take (i := 20) (v := ?v20_196) rfl (by kernel_rfl) (by kernel_rfl) (by kernel_rfl) (fun _ _ _ h => h) (Or.inl ⟨by rfl, ?hy20_196⟩) (by assumption) ?rest20_196
    case hy20_196 => (intro w9 hSw; clear hSw; go_simp; try with_reducible rfl)
    try simp only [Act.put, List.setIfInBounds_toArray, List.set_cons_zero, List.set_cons_succ, List.getElem_toArray, List.getElem_cons_zero, List.getElem_cons_succ]
    refine wpAnyH_take (i := 21) (v := ?v21_197) rfl (by kernel_rfl) (by kernel_rfl) (by kernel_rfl) (fun _ _ _ h => h) (Or.inl ⟨by rfl, ?hy21_197⟩) (by assumption) ?rest21_197
    case hy21_197 => (intro w9 hSw; clear hSw; go_simp; try with_reducible rfl)
    try simp only [Act.put, List.setIfInBounds_toArray, List.set_cons_zero, List.set_cons_succ, List.getElem_toArray, List.getElem_cons_zero, List.getElem_cons_succ]
    refine wpAnyH_done (by kernel_rfl) ?_ _
    clear q0
    go_wp2_with fail
    replace h := h.drew
    replace ht := ht.drew
    replace hL := hL.drew
    replace DM := DM.drew
    replace DT := DT.drew
    replace FX := FX.drew
    replace DX := DX.drew
    replace bz := bz.drew
    refine wp_region_held_drew (S := fun w9 : World => Mbx w9 w.heap.size M 0 A n c ∧ Mbx w9 (w.heap.size + 1) k k TA tn tc9 ∧ Mbx w9 BX M 0 (some ⟨G, 0, none⟩) n cap) (by kernel_rfl) ⟨DM, DT, DX⟩ (fun hS => ?_)
    generalize wl.drew = wd at hS h ht hL DM DT FX DX  bz ⊢
    refine wpAnyH_take (i := 0) (v := ?v0_198) rfl (by kernel_rfl) (by kernel_rfl) (by kernel_rfl) (fun _ _ _ h => h) (Or.inl ⟨by rfl, ?hy0_198⟩) (by assumption) ?rest0_198
    case hy0_198 => (intro w9 hSw; obtain ⟨ma1, ma2, ma3⟩ := hSw; obtain ⟨y0, y1, y2, _, _, _⟩ := Mbx.cells ma1; obtain ⟨u0, u1, u2, _, _, _⟩ := Mbx.cells ma2; obtain ⟨v0, v1, v2, _, _, _⟩ := Mbx.cells ma3; go_simp; try with_reducible rfl)
    try simp only [Act.put, List.setIfInBounds_toArray, List.set_cons_zero, List.set_cons_succ, List.getElem_toArray, List.getElem_cons_zero, List.getElem_cons_succ]
    refine wpAnyH_take (i := 1) (v := ?v1_199) rfl (by kernel_rfl) (by kernel_rfl) (by kernel_rfl) (fun _ _ _ h => h) (Or.inl ⟨by rfl, ?hy1_199⟩) (by assumption) ?rest1_199
    case hy1_199 => (intro w9 hSw; obtain ⟨ma1, ma2, ma3⟩ := hSw; obtain ⟨y0, y1, y2, _, _, _⟩ := Mbx.cells ma1; obtain ⟨u0, u1, u2, _, _, _⟩ := Mbx.cells ma2; obtain ⟨v0, v1, v2, _, _, _⟩ := Mbx.cells ma3; go_simp; try with_reducible rfl)
    try simp only [Act.put, List.setIfInBounds_toArray, List.set_cons_zero, List.set_cons_succ, List.getElem_toArray, List.getElem_cons_zero, List.getElem_cons_succ]
    refine wpAnyH_take (i := 2) (v := ?v2_200) rfl (by kernel_rfl) (by kernel_rfl) (by kernel_rfl) (fun _ _ _ h => h) (Or.inl ⟨by rfl, ?hy2_200⟩) (by assumption) ?rest2_200
    case hy2_200 => (intro w9 hSw; obtain ⟨ma1, ma2, ma3⟩ := hSw; obtain ⟨y0, y1, y2, _, _, _⟩ := Mbx.cells ma1; obtain ⟨u0, u1, u2, _, _, _⟩ := Mbx.cells ma2; obtain ⟨v0, v1, v2, _, _, _⟩ := Mbx.cells ma3; go_simp; try with_reducible rfl)
    try simp only [Act.put, List.setIfInBounds_toArray, List.set_cons_zero, List.set_cons_succ, List.getElem_toArray, List.getElem_cons_zero, List.getElem_cons_succ]
    refine wpAnyH_take (i := 3) (v := ?v3_201) rfl (by kernel_rfl) (by kernel_rfl) (by kernel_rfl) (fun _ _ _ h => h) (Or.inl ⟨by rfl, ?hy3_201⟩) (by assumption) ?rest3_201
    case hy3_201 => (intro w9 hSw; clear hSw; go_simp; try with_reducible rfl)
    try simp only [Act.put, List.setIfInBounds_toArray, List.set_cons_zero, List.set_cons_succ, List.getElem_toArray, List.getElem_cons_zero, List.getElem_cons_succ]
    refine wpAnyH_ready (rs := [4]) (by kernel_rfl) (by simp) ?_
    refine AllReadyH.cons rfl (fun K hK => ?_) AllReadyH.nil
    go_simp
    with_reducible refine (rBlock_zero (M := M) (F := tg (bP 0 0) (bF hs l tl M 0 k) l 0) h HN.out).mono ?_
    rintro e w7 ⟨A2, c2, L2, rfl, hO2, hI2, hb⟩
    replace h := h.on hb
    replace ht := ht.on hb
    replace hL := hL.on hb
    replace DM := DM.on hb
    replace DT := DT.on hb
    replace FX := FX.on hb
    replace DX := DX.on hb
    replace bz := bz.trans (hb.mono bz.size)
    clear hb
    have F2 := hO2.fl hI2.wd
    rw [hI2.len] at F2
    clear hO2
    clear hS; refine hK.out _ _ ⟨DM, DT, DX⟩ (fun hS => ?_); clear hK K
    try simp only [Act.put, List.setIfInBounds_toArray, List.set_cons_zero, List.set_cons_succ, List.getElem_toArray, List.getElem_cons_zero, List.getElem_cons_succ]
    refine wpAnyH_ready (rs := [5]) (by kernel_rfl) (by simp) ?_
    refine AllReadyH.cons rfl (fun K hK => ?_) AllReadyH.nil
    go_simp
    with_reducible refine (rSameM_any FX F2 (fun k hk => (hI.at_ k hk).trans (hI2.at_ k hk).symm)).mono ?_
    rintro e w8 ⟨rfl, hb⟩
    replace h := h.on hb
    replace ht := ht.on hb
    replace hL := hL.on hb
    replace DM := DM.on hb
    replace DT := DT.on hb
    replace FX := FX.on hb
    replace DX := DX.on hb
    replace F2 := F2.on hb
    replace bz := bz.trans (hb.mono bz.size)
    clear hb
    clear hS; refine hK.out _ _ ⟨DM, DT, DX⟩ (fun hS => ?_); clear hK K
    try simp only [Act.put, List.setIfInBounds_toArray, List.set_cons_zero, List.set_cons_succ, List.getElem_toArray, List.getElem_cons_zero, List.getElem_cons_succ]
    refine wpAnyH_take (i := 6) (v := ?v6_202) rfl (by kernel_rfl) (by kernel_rfl) (by kernel_rfl) (fun _ _ _ h => h) (Or.inl ⟨by rfl, ?hy6_202⟩) (by assumption) ?rest6_202
    case hy6_202 => (intro w9 hSw; clear hSw; go_simp; try with_reducible rfl)
    try simp only [Act.put, List.setIfInBounds_toArray, List.set_cons_zero, List.set_cons_succ, List.getElem_toArray, List.getElem_cons_zero, List.getElem_cons_succ]
    refine wpAnyH_ready (rs := [7]) (by kernel_rfl) (by simp) ?_
    refine AllReadyH.cons rfl (fun K hK => ?_) AllReadyH.nil
    go_simp
    with_reducible refine (known_any _).mono ?_
    rintro e w9 ⟨rfl, hb⟩
    replace h := h.on hb
    replace ht := ht.on hb
    replace hL := hL.on hb
    replace DM := DM.on hb
    replace DT := DT.on hb
    replace FX := FX.on hb
    replace DX := DX.on hb
    replace F2 := F2.on hb
    replace bz := bz.trans (hb.mono bz.size)
    clear hb
    clear hS; refine hK.out _ _ ⟨DM, DT, DX⟩ (fun hS => ?_); clear hK K
    try simp only [Act.put, List.setIfInBounds_toArray, List.set_cons_zero, List.set_cons_succ, List.getElem_toArray, List.getElem_cons_zero, List.getElem_cons_succ]
    refine wpAnyH_take (i := 8) (v := ?v8_203) rfl (by kernel_rfl) (by kernel_rfl) (by kernel_rfl) (fun _ _ _ h => h) (Or.inl ⟨by rfl, ?hy8_203⟩) (by assumption) ?rest8_203
    case hy8_203 => (intro w9 hSw; clear hSw; go_simp; try with_reducible rfl)
    try simp only [Act.put, List.setIfInBounds_toArray, List.set_cons_zero, List.set_cons_succ, List.getElem_toArray, List.getElem_cons_zero, List.getElem_cons_succ]
    refine wpAnyH_take (i := 9) (v := ?v9_204) rfl (by kernel_rfl) (by kernel_rfl) (by kernel_rfl) (fun _ _ _ h => h) (Or.inl ⟨by rfl, ?hy9_204⟩) (by assumption) ?rest9_204
    case hy9_204 => (intro w9 hSw; clear hSw; go_simp; try with_reducible rfl)
    try simp only [Act.put, List.setIfInBounds_toArray, List.set_cons_zero, List.set_cons_succ, List.getElem_toArray, List.getElem_cons_zero, List.getElem_cons_succ]
    refine wpAnyH_done (by kernel_rfl) ?_ _
    go_wp2_with fail
    go_ret
    exact ⟨by first | rfl | simp, bz⟩

theorem law_blocks {w : World} {A TA LA : Option Addr} {n c tn tc9 k kc : Nat} {R C TR TC : Int} {l tl : List Int} {hs : List Re} (h : FL w A n c l) (ht : FL w TA tn tc9 tl) (hL : Rl w LA k kc hs) : Calls Try.prog 6 #[mV R C A n c, mV TR TC TA tn tc9, .slice LA k kc] w (RTrue w) := by
  by_cases hn4 : n ≤ 400
  · by_cases ht4 : tn ≤ 400
    · by_cases hk20 : k ≤ 20
      · cases hA : mayB R C n
        · exact blk_b1 h ht hL hn4 ht4 hk20 hA
        · cases hT : mayB TR TC tn
          · exact blk_b2 h ht hL hn4 ht4 hk20 hA hT
          · cases hG : togB hs
            · exact blk_b3 h ht hL hn4 ht4 hk20 hA hT hG
            · by_cases e1 : TR = (k : Int)
              · subst e1
                by_cases e2 : TC = (k : Int)
                · subst e2
                  obtain ⟨m, hm0, hlen⟩ := tog_len hG
                  have hlenN := hL.1
                  have hk0 : 0 < k := by
                    rcases Nat.eq_zero_or_pos k with h9 | h9
                    · rw [h9] at hlenN
                      rw [List.eq_nil_of_length_eq_zero hlenN] at hG
                      cases hG
                    · exact h9
                  by_cases e3 : R = (m : Int)
                  · subst e3
                    obtain ⟨_, r1, c0, c1, hn⟩ := of_decide_eq_true hA
                    obtain ⟨_, _, _, _, htn⟩ := of_decide_eq_true hT
                    obtain ⟨Q, rfl⟩ := Int.eq_ofNat_of_zero_le c0
                    have hn9 : n = m * Q := Int.ofNat.inj (hn.trans (Int.natCast_mul m Q).symm)
                    have htn9 : tn = k * k := Int.ofNat.inj (htn.trans (Int.natCast_mul k k).symm)
                    rcases Nat.eq_zero_or_pos Q with h9 | h9
                    · subst h9
                      rw [show ((0 : Nat) : Int) = 0 from rfl] at hA ⊢
                      exact blk_b8 h ht hL hn4 ht4 hk20 hA hT hG hlen hk0 hm0 (by omega) hn9 htn9
                    · exact blk_b7 h ht hL hn4 ht4 hk20 hA hT hG hlen hk0 hm0 h9 (by omega) (by omega) hn9 htn9
                  · exact blk_b6 h ht hL hn4 ht4 hk20 hA hT hG hlen hk0 e3
                · exact blk_b5 h ht hL hn4 ht4 hk20 hA hT hG e2
              · exact blk_b4 h ht hL hn4 ht4 hk20 hA hT hG e1
      · exact blk_e2 h ht hL hn4 ht4 (by omega)
    · exact blk_e1 h ht hL hn4 (by omega)
  · exact blk_e0 h ht hL (by omega)
end Go.Proofs.Ytcdbjlmegkcaiaa
