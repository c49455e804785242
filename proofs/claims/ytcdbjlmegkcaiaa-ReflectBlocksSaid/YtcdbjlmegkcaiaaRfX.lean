/-
  Layer 9, walks: several reflections at once, by the program. (Written by wip/tools/gen_rfx.py.)
-/
import Derived.Test.YtcdbjlmegkcaiaaRfW
import Derived.Test.YtcdbjlmegkcaiaaVxS
namespace Go.Proofs.Ytcdbjlmegkcaiaa
open Go.RowKit Go.Bw
set_option linter.unusedVariables false
set_option linter.unusedSimpArgs false
attribute [local go_sem] run_store_float

/-- why several reflections can't be done at once -/
def blkC (ma mt tog : Bool) (tr tc k ar : Int) (hs : List Re) : Int := if (ma && mt && tog) = true then (if tr = k ∧ tc = k ∧ longB ar hs = true then 0 else 8) else 2
theorem Bl3 {w : World} {B1 B2 B3 : Bool} : Bl (w.alloc (.cells #[.bool B1, .bool B2, .bool B3] 4)) (some ⟨w.heap.size, 0, none⟩) 3 [B1, B2, B3] := ⟨rfl, by omega, fun _ => ⟨_, rfl, fun i b hi => by
  have h9 := Blk.new w [.bool B1, .bool B2, .bool B3] 4
  rw [add_at]
  rcases i with _ | _ | _ | i
  · simp at hi; subst hi; exact Blk.cell h9 0 rfl
  · simp at hi; subst hi; exact Blk.cell h9 1 rfl
  · simp at hi; subst hi; exact Blk.cell h9 2 rfl
  · simp at hi⟩⟩

set_option maxRecDepth 100000 in
set_option maxHeartbeats 16000000 in
theorem gBlock_no {w : World} {A TA LA : Option Addr} {n c tn tc9 k kc : Nat} {R C TR TC E : Int} {l tl : List Int} {hs : List Re} (h : FL w A n c l) (ht : FL w TA tn tc9 tl) (hL : Rl w LA k kc hs) (hE : blkC (mayB R C n) (mayB TR TC tn) (togB hs) TR TC k R hs = E) (hE0 : E ≠ 0) :
    Calls Try.prog 24 #[mV R C A n c, mV TR TC TA tn tc9, .slice LA k kc] w (NoP w E) := by
  have hnx := h.max
  have htx := ht.max
  have hkx := hL.2.1
  have pmA := fun W => gMay_any (R := R) (C := C) (A := A) (n := n) (c := c) hnx W
  have pmT := fun W => gMay_any (R := TR) (C := TC) (A := TA) (n := tn) (c := tc9) htx W
  obtain ⟨mA, hmA⟩ : ∃ b, mayB R C n = b := ⟨_, rfl⟩
  obtain ⟨mT, hmT⟩ : ∃ b, mayB TR TC tn = b := ⟨_, rfl⟩
  obtain ⟨tg9, htg⟩ : ∃ b, togB hs = b := ⟨_, rfl⟩
  obtain ⟨lg9, hlg⟩ : ∃ b, longB R hs = b := ⟨_, rfl⟩
  rw [hmA] at pmA
  rw [hmT] at pmT
  have HE : Hid (blkC mA mT tg9 TR TC k R hs = E) := Lib.hid (by rw [← hmA, ← hmT, ← htg]; exact hE)
  have HTG := Lib.hid htg
  have HLG := Lib.hid hlg
  clear hE hmA hmT htg hlg
  obtain ⟨B1, hB1⟩ : ∃ b, ((TR : Int) == (k : Int)) = b := ⟨_, rfl⟩
  obtain ⟨B2, hB2⟩ : ∃ b, ((TC : Int) == (k : Int)) = b := ⟨_, rfl⟩
  have HC2 : Hid ((mA && mT && tg9) = true → (if [B1, B2, lg9].all id = true then (0 : Int) else 8) = E) := Lib.hid (fun h9 => by
    rw [← HE.out]
    unfold blkC
    rw [if_pos h9, HLG.out, ← hB1, ← hB2]
    by_cases e1 : TR = (k : Int) <;> by_cases e2 : TC = (k : Int) <;> cases lg9 <;> simp [e1, e2])
  have HC0 : Hid ((mA && mT && tg9) = false → E = 2) := Lib.hid (fun h9 => by rw [← HE.out]; unfold blkC; rw [h9]; rfl)
  clear HE
  have bz := Below.refl w.heap.size w
  have DM := Blk.new w [.int .i64 R, .int .i64 C, .slice A n c] 36
  have hbA := (Below.refl _ w).alloc (Nat.le_refl _) (.cells #[.int .i64 R, .int .i64 C, .slice A n c] 36)
  replace h := h.on hbA
  replace ht := ht.on hbA
  replace hL := hL.on hbA
  clear hbA
  replace bz := bz.alloc bz.size (.cells #[.int .i64 R, .int .i64 C, .slice A n c] 36)
  have DT := Blk.new (w.alloc (.cells #[.int .i64 R, .int .i64 C, .slice A n c] 36)) [.int .i64 TR, .int .i64 TC, .slice TA tn tc9] 36
  have hbA := (Below.refl _ (w.alloc (.cells #[.int .i64 R, .int .i64 C, .slice A n c] 36))).alloc (Nat.le_refl _) (.cells #[.int .i64 TR, .int .i64 TC, .slice TA tn tc9] 36)
  replace h := h.on hbA
  replace ht := ht.on hbA
  replace hL := hL.on hbA
  replace DM := DM.on hbA
  clear hbA
  replace bz := bz.alloc bz.size (.cells #[.int .i64 TR, .int .i64 TC, .slice TA tn tc9] 36)
  have DL := Blk.new ((w.alloc (.cells #[.int .i64 R, .int .i64 C, .slice A n c] 36)).alloc (.cells #[.int .i64 TR, .int .i64 TC, .slice TA tn tc9] 36)) [.slice LA k kc] 45
  have hbA := (Below.refl _ ((w.alloc (.cells #[.int .i64 R, .int .i64 C, .slice A n c] 36)).alloc (.cells #[.int .i64 TR, .int .i64 TC, .slice TA tn tc9] 36))).alloc (Nat.le_refl _) (.cells #[.slice LA k kc] 45)
  replace h := h.on hbA
  replace ht := ht.on hbA
  replace hL := hL.on hbA
  replace DM := DM.on hbA
  replace DT := DT.on hbA
  clear hbA
  replace bz := bz.alloc bz.size (.cells #[.slice LA k kc] 45)
  have DZ := Blk.new (((w.alloc (.cells #[.int .i64 R, .int .i64 C, .slice A n c] 36)).alloc (.cells #[.int .i64 TR, .int .i64 TC, .slice TA tn tc9] 36)).alloc (.cells #[.slice LA k kc] 45)) [.int .i64 0, .int .i64 0, .slice none 0 0] 36
  have hbA := (Below.refl _ (((w.alloc (.cells #[.int .i64 R, .int .i64 C, .slice A n c] 36)).alloc (.cells #[.int .i64 TR, .int .i64 TC, .slice TA tn tc9] 36)).alloc (.cells #[.slice LA k kc] 45))).alloc (Nat.le_refl _) (.cells #[.int .i64 0, .int .i64 0, .slice none 0 0] 36)
  replace h := h.on hbA
  replace ht := ht.on hbA
  replace hL := hL.on hbA
  replace DM := DM.on hbA
  replace DT := DT.on hbA
  replace DL := DL.on hbA
  clear hbA
  replace bz := bz.alloc bz.size (.cells #[.int .i64 0, .int .i64 0, .slice none 0 0] 36)
  have DK := Blk.new ((((w.alloc (.cells #[.int .i64 R, .int .i64 C, .slice A n c] 36)).alloc (.cells #[.int .i64 TR, .int .i64 TC, .slice TA tn tc9] 36)).alloc (.cells #[.slice LA k kc] 45)).alloc (.cells #[.int .i64 0, .int .i64 0, .slice none 0 0] 36)) [.int .i64 k] 3
  have hbA := (Below.refl _ ((((w.alloc (.cells #[.int .i64 R, .int .i64 C, .slice A n c] 36)).alloc (.cells #[.int .i64 TR, .int .i64 TC, .slice TA tn tc9] 36)).alloc (.cells #[.slice LA k kc] 45)).alloc (.cells #[.int .i64 0, .int .i64 0, .slice none 0 0] 36))).alloc (Nat.le_refl _) (.cells #[.int .i64 k] 3)
  replace h := h.on hbA
  replace ht := ht.on hbA
  replace hL := hL.on hbA
  replace DM := DM.on hbA
  replace DT := DT.on hbA
  replace DL := DL.on hbA
  replace DZ := DZ.on hbA
  clear hbA
  replace bz := bz.alloc bz.size (.cells #[.int .i64 k] 3)
  simp only [World.size_alloc] at DT DL DZ DK
  go_enter Try.func24, Try.ntmps24
  go_upto_region 2 with fail
  generalize (((((w.alloc (.cells #[.int .i64 R, .int .i64 C, .slice A n c] 36)).alloc (.cells #[.int .i64 TR, .int .i64 TC, .slice TA tn tc9] 36)).alloc (.cells #[.slice LA k kc] 45)).alloc (.cells #[.int .i64 0, .int .i64 0, .slice none 0 0] 36)).alloc (.cells #[.int .i64 k] 3)) = W0 at h ht hL DM DT DL DZ DK bz ⊢
  go_cut [9] from 16 (fun s9 wx => s9 = .bool (mA && mT && tg9) ∧ FL wx A n c l ∧ FL wx TA tn tc9 tl ∧ Rl wx LA k kc hs ∧ Mbx wx w.heap.size R C A n c ∧ Mbx wx (w.heap.size + 1) TR TC TA tn tc9 ∧ Blk wx (w.heap.size + 1 + 1) [.slice LA k kc] ∧ Mbx wx (w.heap.size + 1 + 1 + 1) 0 0 none 0 0 ∧ Blk wx (w.heap.size + 1 + 1 + 1 + 1) [.int .i64 k] ∧ Below w.heap.size w wx)
  case first =>
    cases mA
    · skip
      obtain ⟨y0, y1, y2, y3, y4, y5⟩ := Mbx.cells DM
      obtain ⟨t0, t1, t2, t3, t4, t5⟩ := Mbx.cells DT
      have l0 := Blk.cell DL 0 rfl
      have k0 := Blk.cell DK 0 rfl
      go_wp2_with fail
      with_reducible refine (pmA _).mono ?_
      rintro e w1 ⟨rfl, hb⟩
      clear y0 y1 y2 y3 y4 y5 t0 t1 t2 t3 t4 t5 l0 k0
      replace h := h.on hb
      replace ht := ht.on hb
      replace hL := hL.on hb
      replace DM := DM.on hb
      replace DT := DT.on hb
      replace DL := DL.on hb
      replace DZ := DZ.on hb
      replace DK := DK.on hb
      replace bz := bz.trans (hb.mono bz.size)
      clear hb
      go_wp2_with fail
      go_meet
      case rel => exact ⟨rfl, h, ht, hL, DM, DT, DL, DZ, DK, bz⟩
    · cases mT
      · skip
        obtain ⟨y0, y1, y2, y3, y4, y5⟩ := Mbx.cells DM
        obtain ⟨t0, t1, t2, t3, t4, t5⟩ := Mbx.cells DT
        have l0 := Blk.cell DL 0 rfl
        have k0 := Blk.cell DK 0 rfl
        go_wp2_with fail
        with_reducible refine (pmA _).mono ?_
        rintro e w1 ⟨rfl, hb⟩
        clear y0 y1 y2 y3 y4 y5 t0 t1 t2 t3 t4 t5 l0 k0
        replace h := h.on hb
        replace ht := ht.on hb
        replace hL := hL.on hb
        replace DM := DM.on hb
        replace DT := DT.on hb
        replace DL := DL.on hb
        replace DZ := DZ.on hb
        replace DK := DK.on hb
        replace bz := bz.trans (hb.mono bz.size)
        clear hb
        obtain ⟨y0, y1, y2, y3, y4, y5⟩ := Mbx.cells DM
        obtain ⟨t0, t1, t2, t3, t4, t5⟩ := Mbx.cells DT
        have l0 := Blk.cell DL 0 rfl
        have k0 := Blk.cell DK 0 rfl
        go_wp2_with fail
        with_reducible refine (pmT _).mono ?_
        rintro e w2 ⟨rfl, hb⟩
        clear y0 y1 y2 y3 y4 y5 t0 t1 t2 t3 t4 t5 l0 k0
        replace h := h.on hb
        replace ht := ht.on hb
        replace hL := hL.on hb
        replace DM := DM.on hb
        replace DT := DT.on hb
        replace DL := DL.on hb
        replace DZ := DZ.on hb
        replace DK := DK.on hb
        replace bz := bz.trans (hb.mono bz.size)
        clear hb
        go_wp2_with fail
        go_meet
        case rel => exact ⟨rfl, h, ht, hL, DM, DT, DL, DZ, DK, bz⟩
      · skip
        obtain ⟨y0, y1, y2, y3, y4, y5⟩ := Mbx.cells DM
        obtain ⟨t0, t1, t2, t3, t4, t5⟩ := Mbx.cells DT
        have l0 := Blk.cell DL 0 rfl
        have k0 := Blk.cell DK 0 rfl
        go_wp2_with fail
        with_reducible refine (pmA _).mono ?_
        rintro e w1 ⟨rfl, hb⟩
        clear y0 y1 y2 y3 y4 y5 t0 t1 t2 t3 t4 t5 l0 k0
        replace h := h.on hb
        replace ht := ht.on hb
        replace hL := hL.on hb
        replace DM := DM.on hb
        replace DT := DT.on hb
        replace DL := DL.on hb
        replace DZ := DZ.on hb
        replace DK := DK.on hb
        replace bz := bz.trans (hb.mono bz.size)
        clear hb
        obtain ⟨y0, y1, y2, y3, y4, y5⟩ := Mbx.cells DM
        obtain ⟨t0, t1, t2, t3, t4, t5⟩ := Mbx.cells DT
        have l0 := Blk.cell DL 0 rfl
        have k0 := Blk.cell DK 0 rfl
        go_wp2_with fail
        with_reducible refine (pmT _).mono ?_
        rintro e w2 ⟨rfl, hb⟩
        clear y0 y1 y2 y3 y4 y5 t0 t1 t2 t3 t4 t5 l0 k0
        replace h := h.on hb
        replace ht := ht.on hb
        replace hL := hL.on hb
        replace DM := DM.on hb
        replace DT := DT.on hb
        replace DL := DL.on hb
        replace DZ := DZ.on hb
        replace DK := DK.on hb
        replace bz := bz.trans (hb.mono bz.size)
        clear hb
        obtain ⟨y0, y1, y2, y3, y4, y5⟩ := Mbx.cells DM
        obtain ⟨t0, t1, t2, t3, t4, t5⟩ := Mbx.cells DT
        have l0 := Blk.cell DL 0 rfl
        have k0 := Blk.cell DK 0 rfl
        have ptg := gtog_any hL HTG.out
        go_wp2_with fail
        with_reducible refine (ptg).mono ?_
        rintro e w3 ⟨rfl, hb⟩
        clear y0 y1 y2 y3 y4 y5 t0 t1 t2 t3 t4 t5 l0 k0 ptg
        replace h := h.on hb
        replace ht := ht.on hb
        replace hL := hL.on hb
        replace DM := DM.on hb
        replace DT := DT.on hb
        replace DL := DL.on hb
        replace DZ := DZ.on hb
        replace DK := DK.on hb
        replace bz := bz.trans (hb.mono bz.size)
        clear hb
        go_wp2_with fail
        go_meet
        case rel => exact ⟨rfl, h, ht, hL, DM, DT, DL, DZ, DK, bz⟩
  case rest =>
    clear h ht hL DM DT DL DZ DK bz
    obtain ⟨rfl, h, ht, hL, DM, DT, DL, DZ, DK, bz⟩ := hcut
    obtain ⟨gd, hgd⟩ : ∃ b, (mA && mT && tg9) = b := ⟨_, rfl⟩
    rw [hgd] at HC2 HC0 ⊢
    clear hgd
    go_upto_region 3 with fail
    go_cut [10] from 16 (fun s10 wx => s10 = .int .i64 E ∧ Mbx wx (w.heap.size + 1 + 1 + 1) 0 0 none 0 0 ∧ Below w.heap.size w wx)
    case first =>
      cases gd
      · skip
        obtain rfl := HC0.out rfl
        go_wp2_with fail
        replace h := h.drew
        replace ht := ht.drew
        replace hL := hL.drew
        replace DM := DM.drew
        replace DT := DT.drew
        replace DL := DL.drew
        replace DZ := DZ.drew
        replace DK := DK.drew
        replace bz := bz.drew
        refine wp_region_held_drew (S := fun w9 : World => Mbx w9 w.heap.size R C A n c ∧ Mbx w9 (w.heap.size + 1) TR TC TA tn tc9 ∧ Blk w9 (w.heap.size + 1 + 1) [.slice LA k kc] ∧ Blk w9 (w.heap.size + 1 + 1 + 1 + 1) [.int .i64 k]) (by kernel_rfl) ⟨DM, DT, DL, DK⟩ (fun hS => ?_)
        generalize wc.drew = wd at hS h ht hL DM DT DL DZ DK  bz ⊢
        refine wpAnyH_take (i := 0) (v := ?v0_26) rfl (by kernel_rfl) (by kernel_rfl) (by kernel_rfl) (fun _ _ _ h => h) (Or.inl ⟨by rfl, ?hy0_26⟩) (by assumption) ?rest0_26
        case hy0_26 => (intro w9 hSw; clear hSw; go_simp; try with_reducible rfl)
        try simp only [Act.put, List.setIfInBounds_toArray, List.set_cons_zero, List.set_cons_succ, List.getElem_toArray, List.getElem_cons_zero, List.getElem_cons_succ]
        refine wpAnyH_take (i := 1) (v := ?v1_27) rfl (by kernel_rfl) (by kernel_rfl) (by kernel_rfl) (fun _ _ _ h => h) (Or.inl ⟨by rfl, ?hy1_27⟩) (by assumption) ?rest1_27
        case hy1_27 => (intro w9 hSw; clear hSw; go_simp; try with_reducible rfl)
        try simp only [Act.put, List.setIfInBounds_toArray, List.set_cons_zero, List.set_cons_succ, List.getElem_toArray, List.getElem_cons_zero, List.getElem_cons_succ]
        refine wpAnyH_take (i := 2) (v := ?v2_28) rfl (by kernel_rfl) (by kernel_rfl) (by kernel_rfl) (fun _ _ _ h => h) (Or.inl ⟨by rfl, ?hy2_28⟩) (by assumption) ?rest2_28
        case hy2_28 => (intro w9 hSw; obtain ⟨ma1, ma2, ma3, ma4⟩ := hSw; obtain ⟨y0, y1, y2, _, _, _⟩ := Mbx.cells ma1; obtain ⟨t0, t1, t2, _, _, _⟩ := Mbx.cells ma2; have l0 := Blk.cell ma3 0 rfl; have k0 := Blk.cell ma4 0 rfl; go_simp; try with_reducible rfl)
        try simp only [Act.put, List.setIfInBounds_toArray, List.set_cons_zero, List.set_cons_succ, List.getElem_toArray, List.getElem_cons_zero, List.getElem_cons_succ]
        refine wpAnyH_take (i := 3) (v := ?v3_29) rfl (by kernel_rfl) (by kernel_rfl) (by kernel_rfl) (fun _ _ _ h => h) (Or.inl ⟨by rfl, ?hy3_29⟩) (by assumption) ?rest3_29
        case hy3_29 => (intro w9 hSw; obtain ⟨ma1, ma2, ma3, ma4⟩ := hSw; obtain ⟨y0, y1, y2, _, _, _⟩ := Mbx.cells ma1; obtain ⟨t0, t1, t2, _, _, _⟩ := Mbx.cells ma2; have l0 := Blk.cell ma3 0 rfl; have k0 := Blk.cell ma4 0 rfl; go_simp; try with_reducible rfl)
        try simp only [Act.put, List.setIfInBounds_toArray, List.set_cons_zero, List.set_cons_succ, List.getElem_toArray, List.getElem_cons_zero, List.getElem_cons_succ]
        refine wpAnyH_take (i := 4) (v := ?v4_30) rfl (by kernel_rfl) (by kernel_rfl) (by kernel_rfl) (fun _ _ _ h => h) (Or.inl ⟨by rfl, ?hy4_30⟩) (by assumption) ?rest4_30
        case hy4_30 => (intro w9 hSw; clear hSw; go_simp; try with_reducible rfl)
        try simp only [Act.put, List.setIfInBounds_toArray, List.set_cons_zero, List.set_cons_succ, List.getElem_toArray, List.getElem_cons_zero, List.getElem_cons_succ]
        refine wpAnyH_take (i := 5) (v := ?v5_31) rfl (by kernel_rfl) (by kernel_rfl) (by kernel_rfl) (fun _ _ _ h => h) (Or.inl ⟨by rfl, ?hy5_31⟩) (by assumption) ?rest5_31
        case hy5_31 => (intro w9 hSw; clear hSw; go_simp; try with_reducible rfl)
        try simp only [Act.put, List.setIfInBounds_toArray, List.set_cons_zero, List.set_cons_succ, List.getElem_toArray, List.getElem_cons_zero, List.getElem_cons_succ]
        refine wpAnyH_take (i := 6) (v := ?v6_32) rfl (by kernel_rfl) (by kernel_rfl) (by kernel_rfl) (fun _ _ _ h => h) (Or.inl ⟨by rfl, ?hy6_32⟩) (by assumption) ?rest6_32
        case hy6_32 => (intro w9 hSw; obtain ⟨ma1, ma2, ma3, ma4⟩ := hSw; obtain ⟨y0, y1, y2, _, _, _⟩ := Mbx.cells ma1; obtain ⟨t0, t1, t2, _, _, _⟩ := Mbx.cells ma2; have l0 := Blk.cell ma3 0 rfl; have k0 := Blk.cell ma4 0 rfl; go_simp; try with_reducible rfl)
        try simp only [Act.put, List.setIfInBounds_toArray, List.set_cons_zero, List.set_cons_succ, List.getElem_toArray, List.getElem_cons_zero, List.getElem_cons_succ]
        refine wpAnyH_take (i := 7) (v := ?v7_33) rfl (by kernel_rfl) (by kernel_rfl) (by kernel_rfl) (fun _ _ _ h => h) (Or.inl ⟨by rfl, ?hy7_33⟩) (by assumption) ?rest7_33
        case hy7_33 => (intro w9 hSw; obtain ⟨ma1, ma2, ma3, ma4⟩ := hSw; obtain ⟨y0, y1, y2, _, _, _⟩ := Mbx.cells ma1; obtain ⟨t0, t1, t2, _, _, _⟩ := Mbx.cells ma2; have l0 := Blk.cell ma3 0 rfl; have k0 := Blk.cell ma4 0 rfl; go_simp; try with_reducible rfl)
        try simp only [Act.put, List.setIfInBounds_toArray, List.set_cons_zero, List.set_cons_succ, List.getElem_toArray, List.getElem_cons_zero, List.getElem_cons_succ]
        refine wpAnyH_take (i := 8) (v := ?v8_34) rfl (by kernel_rfl) (by kernel_rfl) (by kernel_rfl) (fun _ _ _ h => h) (Or.inl ⟨by rfl, ?hy8_34⟩) (by assumption) ?rest8_34
        case hy8_34 => (intro w9 hSw; clear hSw; go_simp; try with_reducible rfl)
        try simp only [Act.put, List.setIfInBounds_toArray, List.set_cons_zero, List.set_cons_succ, List.getElem_toArray, List.getElem_cons_zero, List.getElem_cons_succ]
        refine wpAnyH_take (i := 9) (v := ?v9_35) rfl (by kernel_rfl) (by kernel_rfl) (by kernel_rfl) (fun _ _ _ h => h) (Or.inl ⟨by rfl, ?hy9_35⟩) (by assumption) ?rest9_35
        case hy9_35 => (intro w9 hSw; clear hSw; go_simp; try with_reducible rfl)
        try simp only [Act.put, List.setIfInBounds_toArray, List.set_cons_zero, List.set_cons_succ, List.getElem_toArray, List.getElem_cons_zero, List.getElem_cons_succ]
        refine wpAnyH_take (i := 10) (v := ?v10_36) rfl (by kernel_rfl) (by kernel_rfl) (by kernel_rfl) (fun _ _ _ h => h) (Or.inl ⟨by rfl, ?hy10_36⟩) (by assumption) ?rest10_36
        case hy10_36 => (intro w9 hSw; obtain ⟨ma1, ma2, ma3, ma4⟩ := hSw; obtain ⟨y0, y1, y2, _, _, _⟩ := Mbx.cells ma1; obtain ⟨t0, t1, t2, _, _, _⟩ := Mbx.cells ma2; have l0 := Blk.cell ma3 0 rfl; have k0 := Blk.cell ma4 0 rfl; go_simp; try with_reducible rfl)
        try simp only [Act.put, List.setIfInBounds_toArray, List.set_cons_zero, List.set_cons_succ, List.getElem_toArray, List.getElem_cons_zero, List.getElem_cons_succ]
        refine wpAnyH_take (i := 11) (v := ?v11_37) rfl (by kernel_rfl) (by kernel_rfl) (by kernel_rfl) (fun _ _ _ h => h) (Or.inl ⟨by rfl, ?hy11_37⟩) (by assumption) ?rest11_37
        case hy11_37 => (intro w9 hSw; obtain ⟨ma1, ma2, ma3, ma4⟩ := hSw; obtain ⟨y0, y1, y2, _, _, _⟩ := Mbx.cells ma1; obtain ⟨t0, t1, t2, _, _, _⟩ := Mbx.cells ma2; have l0 := Blk.cell ma3 0 rfl; have k0 := Blk.cell ma4 0 rfl; go_simp; try with_reducible rfl)
        try simp only [Act.put, List.setIfInBounds_toArray, List.set_cons_zero, List.set_cons_succ, List.getElem_toArray, List.getElem_cons_zero, List.getElem_cons_succ]
        refine wpAnyH_ready (rs := [12]) (by kernel_rfl) (by simp) ?_
        refine AllReadyH.cons rfl (fun K hK => ?_) AllReadyH.nil
        go_simp
        with_reducible refine (glong_any hL HLG.out).mono ?_
        rintro e w1 ⟨rfl, hb⟩
        replace h := h.on hb
        replace ht := ht.on hb
        replace hL := hL.on hb
        replace DM := DM.on hb
        replace DT := DT.on hb
        replace DL := DL.on hb
        replace DZ := DZ.on hb
        replace DK := DK.on hb
        replace bz := bz.trans (hb.mono bz.size)
        clear hb
        clear hS; refine hK.out _ _ ⟨DM, DT, DL, DK⟩ (fun hS => ?_); clear hK K
        try simp only [Act.put, List.setIfInBounds_toArray, List.set_cons_zero, List.set_cons_succ, List.getElem_toArray, List.getElem_cons_zero, List.getElem_cons_succ]
        refine wpAnyH_ready (rs := [13]) (by kernel_rfl) (by simp) ?_
        refine AllReadyH.cons rfl (fun K hK => ?_) AllReadyH.nil
        go_simp
        have hE1 := Bl3 (w := w1) (B1 := B1) (B2 := B2) (B3 := lg9)
        have hbA := (Below.refl _ w1).alloc (Nat.le_refl _) (.cells #[.bool B1, .bool B2, .bool lg9] 4)
        replace h := h.on hbA
        replace ht := ht.on hbA
        replace hL := hL.on hbA
        replace DM := DM.on hbA
        replace DT := DT.on hbA
        replace DL := DL.on hbA
        replace DZ := DZ.on hbA
        replace DK := DK.on hbA
        clear hbA
        replace bz := bz.alloc bz.size (.cells #[.bool B1, .bool B2, .bool lg9] 4)
        clear hS; refine hK.out _ _ ⟨DM, DT, DL, DK⟩ (fun hS => ?_); clear hK K
        try simp only [Act.put, List.setIfInBounds_toArray, List.set_cons_zero, List.set_cons_succ, List.getElem_toArray, List.getElem_cons_zero, List.getElem_cons_succ]
        refine wpAnyH_ready (rs := [14]) (by kernel_rfl) (by simp) ?_
        refine AllReadyH.cons rfl (fun K hK => ?_) AllReadyH.nil
        go_simp
        with_reducible refine (gRef_bad _).mono ?_
        rintro e w8 ⟨rfl, rfl⟩
        clear hE1
        clear hS; refine hK.out _ _ ⟨DM, DT, DL, DK⟩ (fun hS => ?_); clear hK K
        try simp only [Act.put, List.setIfInBounds_toArray, List.set_cons_zero, List.set_cons_succ, List.getElem_toArray, List.getElem_cons_zero, List.getElem_cons_succ]
        refine wpAnyH_take (i := 15) (v := ?v15_38) rfl (by kernel_rfl) (by kernel_rfl) (by kernel_rfl) (fun _ _ _ h => h) (Or.inl ⟨by rfl, ?hy15_38⟩) (by assumption) ?rest15_38
        case hy15_38 => (intro w9 hSw; clear hSw; go_simp; try with_reducible rfl)
        try simp only [Act.put, List.setIfInBounds_toArray, List.set_cons_zero, List.set_cons_succ, List.getElem_toArray, List.getElem_cons_zero, List.getElem_cons_succ]
        refine wpAnyH_done (by kernel_rfl) ?_ _
        go_wp2_with fail
        go_meet
        case rel => exact ⟨rfl, DZ, bz⟩
      · skip
        go_wp2_with fail
        replace h := h.drew
        replace ht := ht.drew
        replace hL := hL.drew
        replace DM := DM.drew
        replace DT := DT.drew
        replace DL := DL.drew
        replace DZ := DZ.drew
        replace DK := DK.drew
        replace bz := bz.drew
        refine wp_region_held_drew (S := fun w9 : World => Mbx w9 w.heap.size R C A n c ∧ Mbx w9 (w.heap.size + 1) TR TC TA tn tc9 ∧ Blk w9 (w.heap.size + 1 + 1) [.slice LA k kc] ∧ Blk w9 (w.heap.size + 1 + 1 + 1 + 1) [.int .i64 k]) (by kernel_rfl) ⟨DM, DT, DL, DK⟩ (fun hS => ?_)
        generalize wc.drew = wd at hS h ht hL DM DT DL DZ DK  bz ⊢
        refine wpAnyH_take (i := 0) (v := ?v0_39) rfl (by kernel_rfl) (by kernel_rfl) (by kernel_rfl) (fun _ _ _ h => h) (Or.inl ⟨by rfl, ?hy0_39⟩) (by assumption) ?rest0_39
        case hy0_39 => (intro w9 hSw; clear hSw; go_simp; try with_reducible rfl)
        try simp only [Act.put, List.setIfInBounds_toArray, List.set_cons_zero, List.set_cons_succ, List.getElem_toArray, List.getElem_cons_zero, List.getElem_cons_succ]
        refine wpAnyH_take (i := 1) (v := ?v1_40) rfl (by kernel_rfl) (by kernel_rfl) (by kernel_rfl) (fun _ _ _ h => h) (Or.inl ⟨by rfl, ?hy1_40⟩) (by assumption) ?rest1_40
        case hy1_40 => (intro w9 hSw; clear hSw; go_simp; try with_reducible rfl)
        try simp only [Act.put, List.setIfInBounds_toArray, List.set_cons_zero, List.set_cons_succ, List.getElem_toArray, List.getElem_cons_zero, List.getElem_cons_succ]
        refine wpAnyH_take (i := 2) (v := ?v2_41) rfl (by kernel_rfl) (by kernel_rfl) (by kernel_rfl) (fun _ _ _ h => h) (Or.inl ⟨by rfl, ?hy2_41⟩) (by assumption) ?rest2_41
        case hy2_41 => (intro w9 hSw; obtain ⟨ma1, ma2, ma3, ma4⟩ := hSw; obtain ⟨y0, y1, y2, _, _, _⟩ := Mbx.cells ma1; obtain ⟨t0, t1, t2, _, _, _⟩ := Mbx.cells ma2; have l0 := Blk.cell ma3 0 rfl; have k0 := Blk.cell ma4 0 rfl; go_simp; try with_reducible rfl)
        try simp only [Act.put, List.setIfInBounds_toArray, List.set_cons_zero, List.set_cons_succ, List.getElem_toArray, List.getElem_cons_zero, List.getElem_cons_succ]
        refine wpAnyH_take (i := 3) (v := ?v3_42) rfl (by kernel_rfl) (by kernel_rfl) (by kernel_rfl) (fun _ _ _ h => h) (Or.inl ⟨by rfl, ?hy3_42⟩) (by assumption) ?rest3_42
        case hy3_42 => (intro w9 hSw; obtain ⟨ma1, ma2, ma3, ma4⟩ := hSw; obtain ⟨y0, y1, y2, _, _, _⟩ := Mbx.cells ma1; obtain ⟨t0, t1, t2, _, _, _⟩ := Mbx.cells ma2; have l0 := Blk.cell ma3 0 rfl; have k0 := Blk.cell ma4 0 rfl; go_simp; try with_reducible rfl)
        try simp only [Act.put, List.setIfInBounds_toArray, List.set_cons_zero, List.set_cons_succ, List.getElem_toArray, List.getElem_cons_zero, List.getElem_cons_succ]
        refine wpAnyH_take (i := 4) (v := ?v4_43) rfl (by kernel_rfl) (by kernel_rfl) (by kernel_rfl) (fun _ _ _ h => h) (Or.inl ⟨by rfl, ?hy4_43⟩) (by assumption) ?rest4_43
        case hy4_43 => (intro w9 hSw; clear hSw; go_simp; try with_reducible rfl)
        try simp only [Act.put, List.setIfInBounds_toArray, List.set_cons_zero, List.set_cons_succ, List.getElem_toArray, List.getElem_cons_zero, List.getElem_cons_succ]
        refine wpAnyH_take (i := 5) (v := ?v5_44) rfl (by kernel_rfl) (by kernel_rfl) (by kernel_rfl) (fun _ _ _ h => h) (Or.inl ⟨by rfl, ?hy5_44⟩) (by assumption) ?rest5_44
        case hy5_44 => (intro w9 hSw; clear hSw; go_simp; try with_reducible rfl)
        try simp only [Act.put, List.setIfInBounds_toArray, List.set_cons_zero, List.set_cons_succ, List.getElem_toArray, List.getElem_cons_zero, List.getElem_cons_succ]
        refine wpAnyH_take (i := 6) (v := ?v6_45) rfl (by kernel_rfl) (by kernel_rfl) (by kernel_rfl) (fun _ _ _ h => h) (Or.inl ⟨by rfl, ?hy6_45⟩) (by assumption) ?rest6_45
        case hy6_45 => (intro w9 hSw; obtain ⟨ma1, ma2, ma3, ma4⟩ := hSw; obtain ⟨y0, y1, y2, _, _, _⟩ := Mbx.cells ma1; obtain ⟨t0, t1, t2, _, _, _⟩ := Mbx.cells ma2; have l0 := Blk.cell ma3 0 rfl; have k0 := Blk.cell ma4 0 rfl; go_simp; try with_reducible rfl)
        try simp only [Act.put, List.setIfInBounds_toArray, List.set_cons_zero, List.set_cons_succ, List.getElem_toArray, List.getElem_cons_zero, List.getElem_cons_succ]
        refine wpAnyH_take (i := 7) (v := ?v7_46) rfl (by kernel_rfl) (by kernel_rfl) (by kernel_rfl) (fun _ _ _ h => h) (Or.inl ⟨by rfl, ?hy7_46⟩) (by assumption) ?rest7_46
        case hy7_46 => (intro w9 hSw; obtain ⟨ma1, ma2, ma3, ma4⟩ := hSw; obtain ⟨y0, y1, y2, _, _, _⟩ := Mbx.cells ma1; obtain ⟨t0, t1, t2, _, _, _⟩ := Mbx.cells ma2; have l0 := Blk.cell ma3 0 rfl; have k0 := Blk.cell ma4 0 rfl; go_simp; try with_reducible rfl)
        try simp only [Act.put, List.setIfInBounds_toArray, List.set_cons_zero, List.set_cons_succ, List.getElem_toArray, List.getElem_cons_zero, List.getElem_cons_succ]
        refine wpAnyH_take (i := 8) (v := ?v8_47) rfl (by kernel_rfl) (by kernel_rfl) (by kernel_rfl) (fun _ _ _ h => h) (Or.inl ⟨by rfl, ?hy8_47⟩) (by assumption) ?rest8_47
        case hy8_47 => (intro w9 hSw; clear hSw; go_simp; try with_reducible rfl)
        try simp only [Act.put, List.setIfInBounds_toArray, List.set_cons_zero, List.set_cons_succ, List.getElem_toArray, List.getElem_cons_zero, List.getElem_cons_succ]
        refine wpAnyH_take (i := 9) (v := ?v9_48) rfl (by kernel_rfl) (by kernel_rfl) (by kernel_rfl) (fun _ _ _ h => h) (Or.inl ⟨by rfl, ?hy9_48⟩) (by assumption) ?rest9_48
        case hy9_48 => (intro w9 hSw; clear hSw; go_simp; try with_reducible rfl)
        try simp only [Act.put, List.setIfInBounds_toArray, List.set_cons_zero, List.set_cons_succ, List.getElem_toArray, List.getElem_cons_zero, List.getElem_cons_succ]
        refine wpAnyH_take (i := 10) (v := ?v10_49) rfl (by kernel_rfl) (by kernel_rfl) (by kernel_rfl) (fun _ _ _ h => h) (Or.inl ⟨by rfl, ?hy10_49⟩) (by assumption) ?rest10_49
        case hy10_49 => (intro w9 hSw; obtain ⟨ma1, ma2, ma3, ma4⟩ := hSw; obtain ⟨y0, y1, y2, _, _, _⟩ := Mbx.cells ma1; obtain ⟨t0, t1, t2, _, _, _⟩ := Mbx.cells ma2; have l0 := Blk.cell ma3 0 rfl; have k0 := Blk.cell ma4 0 rfl; go_simp; try with_reducible rfl)
        try simp only [Act.put, List.setIfInBounds_toArray, List.set_cons_zero, List.set_cons_succ, List.getElem_toArray, List.getElem_cons_zero, List.getElem_cons_succ]
        refine wpAnyH_take (i := 11) (v := ?v11_50) rfl (by kernel_rfl) (by kernel_rfl) (by kernel_rfl) (fun _ _ _ h => h) (Or.inl ⟨by rfl, ?hy11_50⟩) (by assumption) ?rest11_50
        case hy11_50 => (intro w9 hSw; obtain ⟨ma1, ma2, ma3, ma4⟩ := hSw; obtain ⟨y0, y1, y2, _, _, _⟩ := Mbx.cells ma1; obtain ⟨t0, t1, t2, _, _, _⟩ := Mbx.cells ma2; have l0 := Blk.cell ma3 0 rfl; have k0 := Blk.cell ma4 0 rfl; go_simp; try with_reducible rfl)
        try simp only [Act.put, List.setIfInBounds_toArray, List.set_cons_zero, List.set_cons_succ, List.getElem_toArray, List.getElem_cons_zero, List.getElem_cons_succ]
        refine wpAnyH_ready (rs := [12]) (by kernel_rfl) (by simp) ?_
        refine AllReadyH.cons rfl (fun K hK => ?_) AllReadyH.nil
        go_simp
        with_reducible refine (glong_any hL HLG.out).mono ?_
        rintro e w1 ⟨rfl, hb⟩
        replace h := h.on hb
        replace ht := ht.on hb
        replace hL := hL.on hb
        replace DM := DM.on hb
        replace DT := DT.on hb
        replace DL := DL.on hb
        replace DZ := DZ.on hb
        replace DK := DK.on hb
        replace bz := bz.trans (hb.mono bz.size)
        clear hb
        clear hS; refine hK.out _ _ ⟨DM, DT, DL, DK⟩ (fun hS => ?_); clear hK K
        try simp only [Act.put, List.setIfInBounds_toArray, List.set_cons_zero, List.set_cons_succ, List.getElem_toArray, List.getElem_cons_zero, List.getElem_cons_succ]
        refine wpAnyH_ready (rs := [13]) (by kernel_rfl) (by simp) ?_
        refine AllReadyH.cons rfl (fun K hK => ?_) AllReadyH.nil
        go_simp
        have hE1 := Bl3 (w := w1) (B1 := B1) (B2 := B2) (B3 := lg9)
        have hbA := (Below.refl _ w1).alloc (Nat.le_refl _) (.cells #[.bool B1, .bool B2, .bool lg9] 4)
        replace h := h.on hbA
        replace ht := ht.on hbA
        replace hL := hL.on hbA
        replace DM := DM.on hbA
        replace DT := DT.on hbA
        replace DL := DL.on hbA
        replace DZ := DZ.on hbA
        replace DK := DK.on hbA
        clear hbA
        replace bz := bz.alloc bz.size (.cells #[.bool B1, .bool B2, .bool lg9] 4)
        clear hS; refine hK.out _ _ ⟨DM, DT, DL, DK⟩ (fun hS => ?_); clear hK K
        try simp only [Act.put, List.setIfInBounds_toArray, List.set_cons_zero, List.set_cons_succ, List.getElem_toArray, List.getElem_cons_zero, List.getElem_cons_succ]
        refine wpAnyH_ready (rs := [14]) (by kernel_rfl) (by simp) ?_
        refine AllReadyH.cons rfl (fun K hK => ?_) AllReadyH.nil
        go_simp
        with_reducible refine (gRef_any hE1 (HC2.out (by first | rfl | trivial))).mono ?_
        rintro e w8 ⟨rfl, rfl⟩
        clear hE1
        clear hS; refine hK.out _ _ ⟨DM, DT, DL, DK⟩ (fun hS => ?_); clear hK K
        try simp only [Act.put, List.setIfInBounds_toArray, List.set_cons_zero, List.set_cons_succ, List.getElem_toArray, List.getElem_cons_zero, List.getElem_cons_succ]
        refine wpAnyH_take (i := 15) (v := ?v15_51) rfl (by kernel_rfl) (by kernel_rfl) (by kernel_rfl) (fun _ _ _ h => h) (Or.inl ⟨by rfl, ?hy15_51⟩) (by assumption) ?rest15_51
        case hy15_51 => (intro w9 hSw; clear hSw; go_simp; try with_reducible rfl)
        try simp only [Act.put, List.setIfInBounds_toArray, List.set_cons_zero, List.set_cons_succ, List.getElem_toArray, List.getElem_cons_zero, List.getElem_cons_succ]
        refine wpAnyH_done (by kernel_rfl) ?_ _
        go_wp2_with fail
        go_meet
        case rel => exact ⟨rfl, DZ, bz⟩
    case rest =>
      clear h ht hL DM DT DL DZ DK bz
      obtain ⟨rfl, DZ, bz⟩ := hcut
      obtain ⟨z0, z1, z2, z3, z4, z5⟩ := Mbx.cells DZ
      have DZ9 := Mbx.put DZ 0 0 none 0 0
      obtain ⟨c0, c1, c2, _, _, _⟩ := Mbx.cells DZ9
      have hE9 : (E == 0) = false := by simpa using hE0
      have hE8 : (E != 0) = true := by simpa using hE0
      have hE7 : ¬ E = 0 := hE0
      have bz9 := ((bz.setCell (p := ⟨w.heap.size + 1 + 1 + 1, 0, none⟩) (by simp; omega) (.int .i64 0)).setCell (p := ⟨w.heap.size + 1 + 1 + 1, 1, none⟩) (by simp; omega) (.int .i64 0)).setCell (p := ⟨w.heap.size + 1 + 1 + 1, 2, none⟩) (by simp; omega) (.slice none 0 0)
      clear HC0 HC2 hB1 hB2
      go_wp2_with fail
      refine bodyPost_ret (v := .tuple #[mV 0 0 none 0 0, .int .i64 E]) (by simp [results, Try.results24, go_sem, c0, c1, c2]) rfl ?_
      exact ⟨rfl, bz9⟩

set_option maxRecDepth 100000 in
set_option maxHeartbeats 16000000 in
theorem gBlock_yes {w : World} {A TA LA : Option Addr} {n c tn tc9 k kc M Q : Nat} {l tl : List Int} {hs : List Re} (h : FL w A n c l) (ht : FL w TA tn tc9 tl) (hL : Rl w LA k kc hs) (hM : M ≤ 512) (hQ : Q ≤ 512) (hk : k ≤ 512) (hn : n = M * Q) (htn : tn = k * k) (htg : togB hs = true) (hlen : ∀ e ∈ hs, e.l.length = M) (hM0 : 0 < M) (hk0 : 0 < k) :
    Calls Try.prog 24 #[mV M Q A n c, mV k k TA tn tc9, .slice LA k kc] w (MatP w M Q n (tg (bP Q 0) (bF hs l tl M Q k) l Q)) := by
  have hnx := h.max
  have htx := ht.max
  have hkx := hL.2.1
  have n4 : n ≤ 262144 := by rw [hn]; exact Nat.le_trans (Nat.mul_le_mul hM hQ) (by decide)
  have hmA : mayB (M : Int) (Q : Int) n = true := decide_eq_true ⟨by omega, by omega, by omega, by omega, by rw [hn]; exact Int.natCast_mul M Q⟩
  have hmT : mayB (k : Int) (k : Int) tn = true := decide_eq_true ⟨by omega, by omega, by omega, by omega, by rw [htn]; exact Int.natCast_mul k k⟩
  have pmA := fun W => gMay_any (R := (M : Int)) (C := (Q : Int)) (A := A) (n := n) (c := c) hnx W
  have pmT := fun W => gMay_any (R := (k : Int)) (C := (k : Int)) (A := TA) (n := tn) (c := tc9) htx W
  rw [hmA] at pmA
  rw [hmT] at pmT
  clear hmA hmT
  have HTG := Lib.hid htg
  have HLG : Hid (longB (M : Int) hs = true) := Lib.hid (by unfold longB; rw [List.all_eq_true]; intro e he; exact decide_eq_true (by rw [hlen e he]))
  have HLEN := Lib.hid hlen
  have HN := Lib.hid hn
  have HTN := Lib.hid htn
  have hll := Lib.hid h.1
  have hAB := Lib.hid (fun (h0 : 0 < n) => fl_blk h h0)
  have hTB := Lib.hid (fl_blk ht (by rw [htn]; exact Nat.mul_pos hk0 hk0))
  have hLB := Lib.hid (hL.blk hk0)
  have hEB := Lib.hid (show ∀ e ∈ hs, ∀ a, e.A = some a → a.block < w.heap.size from fun e he a ea => by have h9 := (hL.2.2.1 e he).1; exact fl_blk h9 (by rw [hlen e he]; exact hM0) a ea)
  clear hlen hn htn htg
  have bz := Below.refl w.heap.size w
  have DM := Blk.new w [.int .i64 (M : Int), .int .i64 (Q : Int), .slice A n c] 36
  have hbA := (Below.refl _ w).alloc (Nat.le_refl _) (.cells #[.int .i64 (M : Int), .int .i64 (Q : Int), .slice A n c] 36)
  replace h := h.on hbA
  replace ht := ht.on hbA
  replace hL := hL.on hbA
  clear hbA
  replace bz := bz.alloc bz.size (.cells #[.int .i64 (M : Int), .int .i64 (Q : Int), .slice A n c] 36)
  have DT := Blk.new (w.alloc (.cells #[.int .i64 (M : Int), .int .i64 (Q : Int), .slice A n c] 36)) [.int .i64 (k : Int), .int .i64 (k : Int), .slice TA tn tc9] 36
  have hbA := (Below.refl _ (w.alloc (.cells #[.int .i64 (M : Int), .int .i64 (Q : Int), .slice A n c] 36))).alloc (Nat.le_refl _) (.cells #[.int .i64 (k : Int), .int .i64 (k : Int), .slice TA tn tc9] 36)
  replace h := h.on hbA
  replace ht := ht.on hbA
  replace hL := hL.on hbA
  replace DM := DM.on hbA
  clear hbA
  replace bz := bz.alloc bz.size (.cells #[.int .i64 (k : Int), .int .i64 (k : Int), .slice TA tn tc9] 36)
  have DL := Blk.new ((w.alloc (.cells #[.int .i64 (M : Int), .int .i64 (Q : Int), .slice A n c] 36)).alloc (.cells #[.int .i64 (k : Int), .int .i64 (k : Int), .slice TA tn tc9] 36)) [.slice LA k kc] 45
  have hbA := (Below.refl _ ((w.alloc (.cells #[.int .i64 (M : Int), .int .i64 (Q : Int), .slice A n c] 36)).alloc (.cells #[.int .i64 (k : Int), .int .i64 (k : Int), .slice TA tn tc9] 36))).alloc (Nat.le_refl _) (.cells #[.slice LA k kc] 45)
  replace h := h.on hbA
  replace ht := ht.on hbA
  replace hL := hL.on hbA
  replace DM := DM.on hbA
  replace DT := DT.on hbA
  clear hbA
  replace bz := bz.alloc bz.size (.cells #[.slice LA k kc] 45)
  have DZ := Blk.new (((w.alloc (.cells #[.int .i64 (M : Int), .int .i64 (Q : Int), .slice A n c] 36)).alloc (.cells #[.int .i64 (k : Int), .int .i64 (k : Int), .slice TA tn tc9] 36)).alloc (.cells #[.slice LA k kc] 45)) [.int .i64 0, .int .i64 0, .slice none 0 0] 36
  have hbA := (Below.refl _ (((w.alloc (.cells #[.int .i64 (M : Int), .int .i64 (Q : Int), .slice A n c] 36)).alloc (.cells #[.int .i64 (k : Int), .int .i64 (k : Int), .slice TA tn tc9] 36)).alloc (.cells #[.slice LA k kc] 45))).alloc (Nat.le_refl _) (.cells #[.int .i64 0, .int .i64 0, .slice none 0 0] 36)
  replace h := h.on hbA
  replace ht := ht.on hbA
  replace hL := hL.on hbA
  replace DM := DM.on hbA
  replace DT := DT.on hbA
  replace DL := DL.on hbA
  clear hbA
  replace bz := bz.alloc bz.size (.cells #[.int .i64 0, .int .i64 0, .slice none 0 0] 36)
  have DK := Blk.new ((((w.alloc (.cells #[.int .i64 (M : Int), .int .i64 (Q : Int), .slice A n c] 36)).alloc (.cells #[.int .i64 (k : Int), .int .i64 (k : Int), .slice TA tn tc9] 36)).alloc (.cells #[.slice LA k kc] 45)).alloc (.cells #[.int .i64 0, .int .i64 0, .slice none 0 0] 36)) [.int .i64 k] 3
  have hbA := (Below.refl _ ((((w.alloc (.cells #[.int .i64 (M : Int), .int .i64 (Q : Int), .slice A n c] 36)).alloc (.cells #[.int .i64 (k : Int), .int .i64 (k : Int), .slice TA tn tc9] 36)).alloc (.cells #[.slice LA k kc] 45)).alloc (.cells #[.int .i64 0, .int .i64 0, .slice none 0 0] 36))).alloc (Nat.le_refl _) (.cells #[.int .i64 k] 3)
  replace h := h.on hbA
  replace ht := ht.on hbA
  replace hL := hL.on hbA
  replace DM := DM.on hbA
  replace DT := DT.on hbA
  replace DL := DL.on hbA
  replace DZ := DZ.on hbA
  clear hbA
  replace bz := bz.alloc bz.size (.cells #[.int .i64 k] 3)
  simp only [World.size_alloc] at DT DL DZ DK
  go_enter Try.func24, Try.ntmps24
  go_upto_region 2 with fail
  generalize (((((w.alloc (.cells #[.int .i64 (M : Int), .int .i64 (Q : Int), .slice A n c] 36)).alloc (.cells #[.int .i64 (k : Int), .int .i64 (k : Int), .slice TA tn tc9] 36)).alloc (.cells #[.slice LA k kc] 45)).alloc (.cells #[.int .i64 0, .int .i64 0, .slice none 0 0] 36)).alloc (.cells #[.int .i64 k] 3)) = W0 at h ht hL DM DT DL DZ DK bz ⊢
  obtain ⟨y0, y1, y2, y3, y4, y5⟩ := Mbx.cells DM
  obtain ⟨t0, t1, t2, t3, t4, t5⟩ := Mbx.cells DT
  have l0 := Blk.cell DL 0 rfl
  have k0 := Blk.cell DK 0 rfl
  go_wp2_with fail
  with_reducible refine (pmA _).mono ?_
  rintro e w1 ⟨rfl, hb⟩
  clear y0 y1 y2 y3 y4 y5 t0 t1 t2 t3 t4 t5 l0 k0
  replace h := h.on hb
  replace ht := ht.on hb
  replace hL := hL.on hb
  replace DM := DM.on hb
  replace DT := DT.on hb
  replace DL := DL.on hb
  replace DZ := DZ.on hb
  replace DK := DK.on hb
  replace bz := bz.trans (hb.mono bz.size)
  clear hb
  obtain ⟨y0, y1, y2, y3, y4, y5⟩ := Mbx.cells DM
  obtain ⟨t0, t1, t2, t3, t4, t5⟩ := Mbx.cells DT
  have l0 := Blk.cell DL 0 rfl
  have k0 := Blk.cell DK 0 rfl
  go_wp2_with fail
  with_reducible refine (pmT _).mono ?_
  rintro e w2 ⟨rfl, hb⟩
  clear y0 y1 y2 y3 y4 y5 t0 t1 t2 t3 t4 t5 l0 k0
  replace h := h.on hb
  replace ht := ht.on hb
  replace hL := hL.on hb
  replace DM := DM.on hb
  replace DT := DT.on hb
  replace DL := DL.on hb
  replace DZ := DZ.on hb
  replace DK := DK.on hb
  replace bz := bz.trans (hb.mono bz.size)
  clear hb
  obtain ⟨y0, y1, y2, y3, y4, y5⟩ := Mbx.cells DM
  obtain ⟨t0, t1, t2, t3, t4, t5⟩ := Mbx.cells DT
  have l0 := Blk.cell DL 0 rfl
  have k0 := Blk.cell DK 0 rfl
  have ptg := gtog_any hL HTG.out
  go_wp2_with fail
  with_reducible refine (ptg).mono ?_
  rintro e w3 ⟨rfl, hb⟩
  clear y0 y1 y2 y3 y4 y5 t0 t1 t2 t3 t4 t5 l0 k0 ptg
  replace h := h.on hb
  replace ht := ht.on hb
  replace hL := hL.on hb
  replace DM := DM.on hb
  replace DT := DT.on hb
  replace DL := DL.on hb
  replace DZ := DZ.on hb
  replace DK := DK.on hb
  replace bz := bz.trans (hb.mono bz.size)
  clear hb
  go_wp2_with fail
  replace h := h.drew
  replace ht := ht.drew
  replace hL := hL.drew
  replace DM := DM.drew
  replace DT := DT.drew
  replace DL := DL.drew
  replace DZ := DZ.drew
  replace DK := DK.drew
  replace bz := bz.drew
  refine wp_region_held_drew (S := fun w9 : World => Mbx w9 w.heap.size M Q A n c ∧ Mbx w9 (w.heap.size + 1) k k TA tn tc9 ∧ Blk w9 (w.heap.size + 1 + 1) [.slice LA k kc] ∧ Blk w9 (w.heap.size + 1 + 1 + 1 + 1) [.int .i64 k]) (by kernel_rfl) ⟨DM, DT, DL, DK⟩ (fun hS => ?_)
  generalize w3.drew = wd at hS h ht hL DM DT DL DZ DK  bz ⊢
  refine wpAnyH_take (i := 0) (v := ?v0_52) rfl (by kernel_rfl) (by kernel_rfl) (by kernel_rfl) (fun _ _ _ h => h) (Or.inl ⟨by rfl, ?hy0_52⟩) (by assumption) ?rest0_52
  case hy0_52 => (intro w9 hSw; clear hSw; go_simp; try with_reducible rfl)
  try simp only [Act.put, List.setIfInBounds_toArray, List.set_cons_zero, List.set_cons_succ, List.getElem_toArray, List.getElem_cons_zero, List.getElem_cons_succ]
  refine wpAnyH_take (i := 1) (v := ?v1_53) rfl (by kernel_rfl) (by kernel_rfl) (by kernel_rfl) (fun _ _ _ h => h) (Or.inl ⟨by rfl, ?hy1_53⟩) (by assumption) ?rest1_53
  case hy1_53 => (intro w9 hSw; clear hSw; go_simp; try with_reducible rfl)
  try simp only [Act.put, List.setIfInBounds_toArray, List.set_cons_zero, List.set_cons_succ, List.getElem_toArray, List.getElem_cons_zero, List.getElem_cons_succ]
  refine wpAnyH_take (i := 2) (v := ?v2_54) rfl (by kernel_rfl) (by kernel_rfl) (by kernel_rfl) (fun _ _ _ h => h) (Or.inl ⟨by rfl, ?hy2_54⟩) (by assumption) ?rest2_54
  case hy2_54 => (intro w9 hSw; obtain ⟨ma1, ma2, ma3, ma4⟩ := hSw; obtain ⟨y0, y1, y2, _, _, _⟩ := Mbx.cells ma1; obtain ⟨t0, t1, t2, _, _, _⟩ := Mbx.cells ma2; have l0 := Blk.cell ma3 0 rfl; have k0 := Blk.cell ma4 0 rfl; go_simp; try with_reducible rfl)
  try simp only [Act.put, List.setIfInBounds_toArray, List.set_cons_zero, List.set_cons_succ, List.getElem_toArray, List.getElem_cons_zero, List.getElem_cons_succ]
  refine wpAnyH_take (i := 3) (v := ?v3_55) rfl (by kernel_rfl) (by kernel_rfl) (by kernel_rfl) (fun _ _ _ h => h) (Or.inl ⟨by rfl, ?hy3_55⟩) (by assumption) ?rest3_55
  case hy3_55 => (intro w9 hSw; obtain ⟨ma1, ma2, ma3, ma4⟩ := hSw; obtain ⟨y0, y1, y2, _, _, _⟩ := Mbx.cells ma1; obtain ⟨t0, t1, t2, _, _, _⟩ := Mbx.cells ma2; have l0 := Blk.cell ma3 0 rfl; have k0 := Blk.cell ma4 0 rfl; go_simp; try with_reducible rfl)
  try simp only [Act.put, List.setIfInBounds_toArray, List.set_cons_zero, List.set_cons_succ, List.getElem_toArray, List.getElem_cons_zero, List.getElem_cons_succ]
  refine wpAnyH_take (i := 4) (v := ?v4_56) rfl (by kernel_rfl) (by kernel_rfl) (by kernel_rfl) (fun _ _ _ h => h) (Or.inl ⟨by rfl, ?hy4_56⟩) (by assumption) ?rest4_56
  case hy4_56 => (intro w9 hSw; clear hSw; go_simp; try with_reducible rfl)
  try simp only [Act.put, List.setIfInBounds_toArray, List.set_cons_zero, List.set_cons_succ, List.getElem_toArray, List.getElem_cons_zero, List.getElem_cons_succ]
  refine wpAnyH_take (i := 5) (v := ?v5_57) rfl (by kernel_rfl) (by kernel_rfl) (by kernel_rfl) (fun _ _ _ h => h) (Or.inl ⟨by rfl, ?hy5_57⟩) (by assumption) ?rest5_57
  case hy5_57 => (intro w9 hSw; clear hSw; go_simp; try with_reducible rfl)
  try simp only [Act.put, List.setIfInBounds_toArray, List.set_cons_zero, List.set_cons_succ, List.getElem_toArray, List.getElem_cons_zero, List.getElem_cons_succ]
  refine wpAnyH_take (i := 6) (v := ?v6_58) rfl (by kernel_rfl) (by kernel_rfl) (by kernel_rfl) (fun _ _ _ h => h) (Or.inl ⟨by rfl, ?hy6_58⟩) (by assumption) ?rest6_58
  case hy6_58 => (intro w9 hSw; obtain ⟨ma1, ma2, ma3, ma4⟩ := hSw; obtain ⟨y0, y1, y2, _, _, _⟩ := Mbx.cells ma1; obtain ⟨t0, t1, t2, _, _, _⟩ := Mbx.cells ma2; have l0 := Blk.cell ma3 0 rfl; have k0 := Blk.cell ma4 0 rfl; go_simp; try with_reducible rfl)
  try simp only [Act.put, List.setIfInBounds_toArray, List.set_cons_zero, List.set_cons_succ, List.getElem_toArray, List.getElem_cons_zero, List.getElem_cons_succ]
  refine wpAnyH_take (i := 7) (v := ?v7_59) rfl (by kernel_rfl) (by kernel_rfl) (by kernel_rfl) (fun _ _ _ h => h) (Or.inl ⟨by rfl, ?hy7_59⟩) (by assumption) ?rest7_59
  case hy7_59 => (intro w9 hSw; obtain ⟨ma1, ma2, ma3, ma4⟩ := hSw; obtain ⟨y0, y1, y2, _, _, _⟩ := Mbx.cells ma1; obtain ⟨t0, t1, t2, _, _, _⟩ := Mbx.cells ma2; have l0 := Blk.cell ma3 0 rfl; have k0 := Blk.cell ma4 0 rfl; go_simp; try with_reducible rfl)
  try simp only [Act.put, List.setIfInBounds_toArray, List.set_cons_zero, List.set_cons_succ, List.getElem_toArray, List.getElem_cons_zero, List.getElem_cons_succ]
  refine wpAnyH_take (i := 8) (v := ?v8_60) rfl (by kernel_rfl) (by kernel_rfl) (by kernel_rfl) (fun _ _ _ h => h) (Or.inl ⟨by rfl, ?hy8_60⟩) (by assumption) ?rest8_60
  case hy8_60 => (intro w9 hSw; clear hSw; go_simp; try with_reducible rfl)
  try simp only [Act.put, List.setIfInBounds_toArray, List.set_cons_zero, List.set_cons_succ, List.getElem_toArray, List.getElem_cons_zero, List.getElem_cons_succ]
  refine wpAnyH_take (i := 9) (v := ?v9_61) rfl (by kernel_rfl) (by kernel_rfl) (by kernel_rfl) (fun _ _ _ h => h) (Or.inl ⟨by rfl, ?hy9_61⟩) (by assumption) ?rest9_61
  case hy9_61 => (intro w9 hSw; clear hSw; go_simp; try with_reducible rfl)
  try simp only [Act.put, List.setIfInBounds_toArray, List.set_cons_zero, List.set_cons_succ, List.getElem_toArray, List.getElem_cons_zero, List.getElem_cons_succ]
  refine wpAnyH_take (i := 10) (v := ?v10_62) rfl (by kernel_rfl) (by kernel_rfl) (by kernel_rfl) (fun _ _ _ h => h) (Or.inl ⟨by rfl, ?hy10_62⟩) (by assumption) ?rest10_62
  case hy10_62 => (intro w9 hSw; obtain ⟨ma1, ma2, ma3, ma4⟩ := hSw; obtain ⟨y0, y1, y2, _, _, _⟩ := Mbx.cells ma1; obtain ⟨t0, t1, t2, _, _, _⟩ := Mbx.cells ma2; have l0 := Blk.cell ma3 0 rfl; have k0 := Blk.cell ma4 0 rfl; go_simp; try with_reducible rfl)
  try simp only [Act.put, List.setIfInBounds_toArray, List.set_cons_zero, List.set_cons_succ, List.getElem_toArray, List.getElem_cons_zero, List.getElem_cons_succ]
  refine wpAnyH_take (i := 11) (v := ?v11_63) rfl (by kernel_rfl) (by kernel_rfl) (by kernel_rfl) (fun _ _ _ h => h) (Or.inl ⟨by rfl, ?hy11_63⟩) (by assumption) ?rest11_63
  case hy11_63 => (intro w9 hSw; obtain ⟨ma1, ma2, ma3, ma4⟩ := hSw; obtain ⟨y0, y1, y2, _, _, _⟩ := Mbx.cells ma1; obtain ⟨t0, t1, t2, _, _, _⟩ := Mbx.cells ma2; have l0 := Blk.cell ma3 0 rfl; have k0 := Blk.cell ma4 0 rfl; go_simp; try with_reducible rfl)
  try simp only [Act.put, List.setIfInBounds_toArray, List.set_cons_zero, List.set_cons_succ, List.getElem_toArray, List.getElem_cons_zero, List.getElem_cons_succ]
  refine wpAnyH_ready (rs := [12]) (by kernel_rfl) (by simp) ?_
  refine AllReadyH.cons rfl (fun K hK => ?_) AllReadyH.nil
  go_simp
  with_reducible refine (glong_any hL HLG.out).mono ?_
  rintro e w4 ⟨rfl, hb⟩
  replace h := h.on hb
  replace ht := ht.on hb
  replace hL := hL.on hb
  replace DM := DM.on hb
  replace DT := DT.on hb
  replace DL := DL.on hb
  replace DZ := DZ.on hb
  replace DK := DK.on hb
  replace bz := bz.trans (hb.mono bz.size)
  clear hb
  clear hS; refine hK.out _ _ ⟨DM, DT, DL, DK⟩ (fun hS => ?_); clear hK K
  try simp only [Act.put, List.setIfInBounds_toArray, List.set_cons_zero, List.set_cons_succ, List.getElem_toArray, List.getElem_cons_zero, List.getElem_cons_succ]
  refine wpAnyH_ready (rs := [13]) (by kernel_rfl) (by simp) ?_
  refine AllReadyH.cons rfl (fun K hK => ?_) AllReadyH.nil
  go_simp
  have hE1 := Bl3 (w := w4) (B1 := true) (B2 := true) (B3 := true)
  have hbA := (Below.refl _ w4).alloc (Nat.le_refl _) (.cells #[.bool true, .bool true, .bool true] 4)
  replace h := h.on hbA
  replace ht := ht.on hbA
  replace hL := hL.on hbA
  replace DM := DM.on hbA
  replace DT := DT.on hbA
  replace DL := DL.on hbA
  replace DZ := DZ.on hbA
  replace DK := DK.on hbA
  clear hbA
  replace bz := bz.alloc bz.size (.cells #[.bool true, .bool true, .bool true] 4)
  clear hS; refine hK.out _ _ ⟨DM, DT, DL, DK⟩ (fun hS => ?_); clear hK K
  try simp only [Act.put, List.setIfInBounds_toArray, List.set_cons_zero, List.set_cons_succ, List.getElem_toArray, List.getElem_cons_zero, List.getElem_cons_succ]
  refine wpAnyH_ready (rs := [14]) (by kernel_rfl) (by simp) ?_
  refine AllReadyH.cons rfl (fun K hK => ?_) AllReadyH.nil
  go_simp
  with_reducible refine (gRef_any (E := 0) hE1 rfl).mono ?_
  rintro e w8 ⟨rfl, rfl⟩
  clear hE1
  clear hS; refine hK.out _ _ ⟨DM, DT, DL, DK⟩ (fun hS => ?_); clear hK K
  try simp only [Act.put, List.setIfInBounds_toArray, List.set_cons_zero, List.set_cons_succ, List.getElem_toArray, List.getElem_cons_zero, List.getElem_cons_succ]
  refine wpAnyH_take (i := 15) (v := ?v15_64) rfl (by kernel_rfl) (by kernel_rfl) (by kernel_rfl) (fun _ _ _ h => h) (Or.inl ⟨by rfl, ?hy15_64⟩) (by assumption) ?rest15_64
  case hy15_64 => (intro w9 hSw; clear hSw; go_simp; try with_reducible rfl)
  try simp only [Act.put, List.setIfInBounds_toArray, List.set_cons_zero, List.set_cons_succ, List.getElem_toArray, List.getElem_cons_zero, List.getElem_cons_succ]
  refine wpAnyH_done (by kernel_rfl) ?_ _
  have hZ4 := DK.lt
  obtain ⟨y0, y1, y2, y3, y4, y5⟩ := Mbx.cells DM
  obtain ⟨t0, t1, t2, t3, t4, t5⟩ := Mbx.cells DT
  have l0 := Blk.cell DL 0 rfl
  have k0 := Blk.cell DK 0 rfl
  have pcp := gcopied_any (R := (M : Int)) (C := (Q : Int)) h (by omega)
  go_wp2_with fail
  with_reducible refine (pcp).mono ?_
  rintro e w5 ⟨G, rfl, hR, hG, hb⟩
  clear y0 y1 y2 y3 y4 y5 t0 t1 t2 t3 t4 t5 l0 k0 pcp
  replace h := h.on hb
  replace ht := ht.on hb
  replace hL := hL.on hb
  replace DM := DM.on hb
  replace DT := DT.on hb
  replace DL := DL.on hb
  replace DZ := DZ.on hb
  replace DK := DK.on hb
  replace bz := bz.trans (hb.mono bz.size)
  clear hb
  have hO := hR.owned (B := w.heap.size) (by rw [hll.out]; omega) (by omega)
  rw [hll.out] at hO
  have hGs : w.heap.size + 1 + 1 + 1 + 1 < G := by omega
  clear hR hG hZ4
  have DN := Blk.new w5 [.int .i64 M, .int .i64 Q, .slice (some ⟨G, 0, none⟩) n n] 36
  have hGX := (hO.gt rfl).2
  have hbA := (Below.refl _ w5).alloc (Nat.le_refl _) (.cells #[.int .i64 M, .int .i64 Q, .slice (some ⟨G, 0, none⟩) n n] 36)
  replace h := h.on hbA
  replace ht := ht.on hbA
  replace hL := hL.on hbA
  replace DM := DM.on hbA
  replace DT := DT.on hbA
  replace DL := DL.on hbA
  replace DZ := DZ.on hbA
  replace DK := DK.on hbA
  replace hO := hO.alloc_ (.cells #[.int .i64 M, .int .i64 Q, .slice (some ⟨G, 0, none⟩) n n] 36)
  clear hbA
  replace bz := bz.alloc bz.size (.cells #[.int .i64 M, .int .i64 Q, .slice (some ⟨G, 0, none⟩) n n] 36)
  obtain ⟨BN, hBN⟩ : ∃ b, w5.heap.size = b := ⟨_, rfl⟩
  rw [hBN] at DN hGX
  obtain ⟨y0, y1, y2, y3, y4, y5⟩ := Mbx.cells DM
  obtain ⟨t0, t1, t2, t3, t4, t5⟩ := Mbx.cells DT
  have l0 := Blk.cell DL 0 rfl
  have k0 := Blk.cell DK 0 rfl
  go_upto_region 8 with fail
  clear y0 y1 y2 y3 y4 y5 t0 t1 t2 t3 t4 t5 l0 k0 hBN
  generalize (w5.alloc (.cells #[.int .i64 M, .int .i64 Q, .slice (some ⟨G, 0, none⟩) n n] 36)) = w7 at h ht hL DM DT DL DZ DK hO DN bz ⊢
  have hMr : Mr l l M Q (bP 0 0) (bF hs l tl M Q k) := Mr.start (by rw [hll.out, HN.out]) h.2.2 (fun a b _ _ => by unfold bP; simp)
  go_loopw [51] (fun i wr => ∃ (cc : Nat) (L : List Int), cc ≤ Q ∧ i = .int .i64 cc ∧ Mr L l M Q (bP cc 0) (bF hs l tl M Q k) ∧ OwnF wr w.heap.size (some ⟨G, 0, none⟩) n L ∧ FL wr A n c l ∧ FL wr TA tn tc9 tl ∧ Rl wr LA k kc hs ∧ Mbx wr w.heap.size M Q A n c ∧ Mbx wr (w.heap.size + 1) k k TA tn tc9 ∧ Blk wr (w.heap.size + 1 + 1) [.slice LA k kc] ∧ Mbx wr (w.heap.size + 1 + 1 + 1) 0 0 none 0 0 ∧ Blk wr (w.heap.size + 1 + 1 + 1 + 1) [.int .i64 k] ∧ Mbx wr BN M Q (some ⟨G, 0, none⟩) n n ∧ Below w.heap.size w wr) (fun i _ => Q - (intOf i).toNat)
  case atStart => exact ⟨0, l, Nat.zero_le _, rfl, hMr, hO, h, ht, hL, DM, DT, DL, DZ, DK, DN, bz⟩
  case round =>
    clear hMr hO h ht hL DM DT DL DZ DK DN bz
    obtain ⟨cc, L, hcc, rfl, hMr, hO, h, ht, hL, DM, DT, DL, DZ, DK, DN, bz⟩ := hrel
    by_cases hlt : cc < Q
    · have c0 : (0 : Int) ≤ cc := by omega
      have c1 : (cc : Int) < Q := by omega
      have hn0 : 0 < n := by rw [HN.out]; exact Nat.mul_pos hM0 (by omega)
      have hAG : ∀ a, A = some a → a.block ≠ G := fun a ea => by have := hAB.out hn0 a ea; omega
      have hTG : ∀ a, TA = some a → a.block ≠ G := fun a ea => by have := hTB.out a ea; omega
      have hLG : ∀ a, LA = some a → a.block ≠ G := fun a ea => by have := hLB.out a ea; omega
      have HEG : Hid (∀ e ∈ hs, ∀ a, e.A = some a → a.block ≠ G) := Lib.hid (fun e he a ea => by have := hEB.out e he a ea; omega)
      obtain ⟨wo, hwo⟩ : ∃ x, x = wr := ⟨_, rfl⟩
      subst hwo
      have hGo := (hO.gt rfl).2
      obtain ⟨BC, hBC⟩ : ∃ b, wo.heap.size = b := ⟨_, rfl⟩
      rw [hBC] at hGo
      have DC := Blk.new wo [.int .i64 cc] 3
      rw [hBC] at DC
      have hbA := (Below.refl _ wo).alloc (Nat.le_refl _) (.cells #[.int .i64 cc] 3)
      replace h := h.on hbA
      replace ht := ht.on hbA
      replace hL := hL.on hbA
      replace DM := DM.on hbA
      replace DT := DT.on hbA
      replace DL := DL.on hbA
      replace DZ := DZ.on hbA
      replace DK := DK.on hbA
      replace DN := DN.on hbA
      replace hO := hO.alloc_ (.cells #[.int .i64 cc] 3)
      clear hbA
      replace bz := bz.alloc bz.size (.cells #[.int .i64 cc] 3)
      have HC1 : Hid (∀ W, Below (wo.alloc (.cells #[.int .i64 cc] 3)).heap.size (wo.alloc (.cells #[.int .i64 cc] 3)) W → ∀ i, i < k → Calls Try.prog 45 #[.int .i64 i, .pointer (some ⟨w.heap.size, 0, none⟩), .pointer (some ⟨w.heap.size + 1 + 1, 0, none⟩), .pointer (some ⟨BC, 0, none⟩)] W (FB ((fun i => bW hs l M Q cc i) i) W)) := Lib.hid (fun W hd i hi => b1_any (hL.on hd) HLEN.out (h.on hd) HN.out hM (DL.on hd) (DM.on hd) (DC.on hd) hi hlt)
      have pl := list_b1 w.heap.size (w.heap.size + 1 + 1) BC _ k (by omega) HC1
      clear HC1
      obtain ⟨y0, y1, y2, y3, y4, y5⟩ := Mbx.cells DM
      obtain ⟨t0, t1, t2, t3, t4, t5⟩ := Mbx.cells DT
      have l0 := Blk.cell DL 0 rfl
      have k0 := Blk.cell DK 0 rfl
      go_wp2_with fail
      with_reducible refine (pl).mono ?_
      rintro e w6 ⟨gw, wl, rfl, RW, hgw, IW, hb⟩
      clear y0 y1 y2 y3 y4 y5 t0 t1 t2 t3 t4 t5 l0 k0 pl
      replace h := h.on hb
      replace ht := ht.on hb
      replace hL := hL.on hb
      replace DM := DM.on hb
      replace DT := DT.on hb
      replace DL := DL.on hb
      replace DZ := DZ.on hb
      replace DK := DK.on hb
      replace DN := DN.on hb
      replace hO := hO.on_ hb
      replace DC := DC.on hb
      replace bz := bz.trans (hb.mono bz.size)
      clear hb
      have hgw2 : G < gw := by simp only [World.size_alloc, hBC] at hgw; omega
      have hRlt := RW.lt
      have FW := RW.fl IW.wd (by rw [IW.len]; unfold maxLen; omega)
      rw [IW.len] at FW
      clear RW
      have DW := Blk.new w6 [.slice (some ⟨gw, 0, none⟩) k k] 22
      have hbA := (Below.refl _ w6).alloc (Nat.le_refl _) (.cells #[.slice (some ⟨gw, 0, none⟩) k k] 22)
      replace h := h.on hbA
      replace ht := ht.on hbA
      replace hL := hL.on hbA
      replace DM := DM.on hbA
      replace DT := DT.on hbA
      replace DL := DL.on hbA
      replace DZ := DZ.on hbA
      replace DK := DK.on hbA
      replace DN := DN.on hbA
      replace hO := hO.alloc_ (.cells #[.slice (some ⟨gw, 0, none⟩) k k] 22)
      replace DC := DC.on hbA
      replace FW := FW.on hbA
      clear hbA
      replace bz := bz.alloc bz.size (.cells #[.slice (some ⟨gw, 0, none⟩) k k] 22)
      obtain ⟨BW, hBW⟩ : ∃ b, w6.heap.size = b := ⟨_, rfl⟩
      rw [hBW] at DW hRlt
      have hIW := Lib.hid IW
      clear IW
      have HC2 : Hid (∀ W, Below (w6.alloc (.cells #[.slice (some ⟨gw, 0, none⟩) k k] 22)).heap.size (w6.alloc (.cells #[.slice (some ⟨gw, 0, none⟩) k k] 22)) W → ∀ i, i < k → Calls Try.prog 47 #[.int .i64 i, .pointer (some ⟨w.heap.size + 1, 0, none⟩), .pointer (some ⟨w.heap.size + 1 + 1 + 1 + 1, 0, none⟩), .pointer (some ⟨BW, 0, none⟩)] W (FB ((fun i => bX hs l tl M Q k cc i) i) W)) := Lib.hid (fun W hd i hi => by
        have h9 := b2_any (ht.on hd) HTN.out (by omega) (FW.on hd) (DT.on hd) (DK.on hd) (DW.on hd) hi
        rw [sumA_congr (g := fun x => aop .mul (ma tl k x i) (bW hs l M Q cc x)) (fun x hx => by rw [hIW.out.at_ x (by omega)])] at h9
        exact h9)
      have pl := list_b2 (w.heap.size + 1) (w.heap.size + 1 + 1 + 1 + 1) BW _ k (by omega) HC2
      clear HC2
      obtain ⟨y0, y1, y2, y3, y4, y5⟩ := Mbx.cells DM
      obtain ⟨t0, t1, t2, t3, t4, t5⟩ := Mbx.cells DT
      have l0 := Blk.cell DL 0 rfl
      have k0 := Blk.cell DK 0 rfl
      go_wp2_with fail
      with_reducible refine (pl).mono ?_
      rintro e w7 ⟨gx, xl, rfl, RX, hgx, IX, hb⟩
      clear y0 y1 y2 y3 y4 y5 t0 t1 t2 t3 t4 t5 l0 k0 pl
      replace h := h.on hb
      replace ht := ht.on hb
      replace hL := hL.on hb
      replace DM := DM.on hb
      replace DT := DT.on hb
      replace DL := DL.on hb
      replace DZ := DZ.on hb
      replace DK := DK.on hb
      replace DN := DN.on hb
      replace hO := hO.on_ hb
      replace DC := DC.on hb
      replace FW := FW.on hb
      replace DW := DW.on hb
      replace bz := bz.trans (hb.mono bz.size)
      clear hb
      have hgx2 : G < gx := by simp only [World.size_alloc, hBW] at hgx; omega
      have hXlt := RX.lt
      have FX := RX.fl IX.wd (by rw [IX.len]; unfold maxLen; omega)
      rw [IX.len] at FX
      clear RX
      have DX := Blk.new w7 [.slice (some ⟨gx, 0, none⟩) k k] 22
      have hbA := (Below.refl _ w7).alloc (Nat.le_refl _) (.cells #[.slice (some ⟨gx, 0, none⟩) k k] 22)
      replace h := h.on hbA
      replace ht := ht.on hbA
      replace hL := hL.on hbA
      replace DM := DM.on hbA
      replace DT := DT.on hbA
      replace DL := DL.on hbA
      replace DZ := DZ.on hbA
      replace DK := DK.on hbA
      replace DN := DN.on hbA
      replace hO := hO.alloc_ (.cells #[.slice (some ⟨gx, 0, none⟩) k k] 22)
      replace DC := DC.on hbA
      replace FW := FW.on hbA
      replace DW := DW.on hbA
      replace FX := FX.on hbA
      clear hbA
      replace bz := bz.alloc bz.size (.cells #[.slice (some ⟨gx, 0, none⟩) k k] 22)
      obtain ⟨BX, hBX⟩ : ∃ b, w7.heap.size = b := ⟨_, rfl⟩
      rw [hBX] at DX hXlt
      have hIX := Lib.hid IX
      clear IX
      obtain ⟨y0, y1, y2, y3, y4, y5⟩ := Mbx.cells DM
      obtain ⟨t0, t1, t2, t3, t4, t5⟩ := Mbx.cells DT
      have l0 := Blk.cell DL 0 rfl
      have k0 := Blk.cell DK 0 rfl
      go_wp2_with fail
      clear y0 y1 y2 y3 y4 y5 t0 t1 t2 t3 t4 t5 l0 k0 FW DW
      generalize (w7.alloc (.cells #[.slice (some ⟨gx, 0, none⟩) k k] 22)) = w9 at h ht hL DM DT DL DZ DK DN hO DC FX DX bz ⊢
      go_loopw [62] (fun i wr => ∃ (r : Nat) (L2 : List Int), r ≤ M ∧ i = .int .i64 r ∧ Mr L2 l M Q (bP cc r) (bF hs l tl M Q k) ∧ OwnF wr w.heap.size (some ⟨G, 0, none⟩) n L2 ∧ FL wr A n c l ∧ FL wr TA tn tc9 tl ∧ Rl wr LA k kc hs ∧ Mbx wr w.heap.size M Q A n c ∧ Mbx wr (w.heap.size + 1) k k TA tn tc9 ∧ Blk wr (w.heap.size + 1 + 1) [.slice LA k kc] ∧ Mbx wr (w.heap.size + 1 + 1 + 1) 0 0 none 0 0 ∧ Blk wr (w.heap.size + 1 + 1 + 1 + 1) [.int .i64 k] ∧ Mbx wr BN M Q (some ⟨G, 0, none⟩) n n ∧ Blk wr BC [.int .i64 cc] ∧ FL wr (some ⟨gx, 0, none⟩) k k xl ∧ Blk wr BX [.slice (some ⟨gx, 0, none⟩) k k] ∧ Below w.heap.size w wr) (fun i _ => M - (intOf i).toNat)
      case atStart => exact ⟨0, L, Nat.zero_le _, rfl, hMr, hO, h, ht, hL, DM, DT, DL, DZ, DK, DN, DC, FX, DX, bz⟩
      case round =>
        clear hMr hO h ht hL DM DT DL DZ DK DN DC FX DX bz
        obtain ⟨r, L2, hr, rfl, hMr, hO, h, ht, hL, DM, DT, DL, DZ, DK, DN, DC, FX, DX, bz⟩ := hrel
        by_cases hrt : r < M
        · have r0 : (0 : Int) ≤ r := by omega
          have r1 : (r : Int) < M := by omega
          obtain ⟨y, hy⟩ : ∃ y, r * Q = y := ⟨_, rfl⟩
          obtain ⟨z, hz⟩ : ∃ z, y + cc = z := ⟨_, rfl⟩
          have hzn : z < n := by rw [← hz, ← hy, HN.out]; exact ix_lt hrt hlt
          have ey : (r : Int) * (Q : Int) = (y : Int) := by exact_mod_cast hy
          have ez : (y : Int) + (cc : Int) = (z : Int) := by omega
          have wy : IntKind.i64.wrap (y : Int) = (y : Int) := IntWalk.i64_in _ (by omega)
          have wz : IntKind.i64.wrap (z : Int) = (z : Int) := IntWalk.i64_in _ (by omega)
          have z0 : (0 : Int) ≤ z := by omega
          have z1 : (z : Int) < n := by omega
          have hLN : L2.length = n := by rw [hMr.len, HN.out]
          have hGw := (hO.gt rfl).2
          obtain ⟨x0, x1⟩ := hMr.wd.at_ z
          have bY : (D L2 z).toNat ≤ 18446744073709551615 := by omega
          have HY : Hid (af (D L2 z).toNat = ma l Q r cc) := Lib.hid (by have h8 := hMr.old r cc hrt hlt (by unfold bP; simp); unfold ma at h8 ⊢; rw [hy, hz] at h8 ⊢; exact h8)
          clear x0 x1
          have DR := Blk.new wr [.int .i64 r] 3
          have hbA := (Below.refl _ wr).alloc (Nat.le_refl _) (.cells #[.int .i64 r] 3)
          replace h := h.on hbA
          replace ht := ht.on hbA
          replace hL := hL.on hbA
          replace DM := DM.on hbA
          replace DT := DT.on hbA
          replace DL := DL.on hbA
          replace DZ := DZ.on hbA
          replace DK := DK.on hbA
          replace DN := DN.on hbA
          replace hO := hO.alloc_ (.cells #[.int .i64 r] 3)
          replace DC := DC.on hbA
          replace FX := FX.on hbA
          replace DX := DX.on hbA
          clear hbA
          replace bz := bz.alloc bz.size (.cells #[.int .i64 r] 3)
          obtain ⟨y0, y1, y2, y3, y4, y5⟩ := Mbx.cells DM
          obtain ⟨t0, t1, t2, t3, t4, t5⟩ := Mbx.cells DT
          have l0 := Blk.cell DL 0 rfl
          have k0 := Blk.cell DK 0 rfl
          go_wp2_with fail
          clear y0 y1 y2 y3 y4 y5 t0 t1 t2 t3 t4 t5 l0 k0
          replace h := h.drew
          replace ht := ht.drew
          replace hL := hL.drew
          replace DM := DM.drew
          replace DT := DT.drew
          replace DL := DL.drew
          replace DZ := DZ.drew
          replace DK := DK.drew
          replace DN := DN.drew
          replace hO := hO.drew
          replace DC := DC.drew
          replace FX := FX.drew
          replace DX := DX.drew
          replace DR := DR.drew
          replace bz := bz.drew
          have hce := (hO.at' (k := z) (by rw [hLN]; exact hzn)).1
          generalize hYY : (D L2 z).toNat = YY at *
          refine wp_region_late [15] (S := fun w9 : World => Mbx w9 w.heap.size M Q A n c ∧ Blk w9 (w.heap.size + 1 + 1 + 1 + 1) [.int .i64 k] ∧ Mbx w9 BN M Q (some ⟨G, 0, none⟩) n n ∧ Blk w9 BC [.int .i64 cc] ∧ Blk w9 wr.heap.size [.int .i64 r] ∧ w9.cell? ⟨G, z, none⟩ = some (.float .f64 YY)) (by kernel_rfl) ⟨DM, DK, DN, DC, DR, hce⟩ (fun hS => ?_)
          generalize (wr.alloc (.cells #[.int .i64 r] 3)).drew = wd at hS h ht hL DM DT DL DZ DK DN hO DC FX DX DR hce bz ⊢
          refine wpAnyL_take (i := 0) (v := ?v0_65) rfl (by kernel_rfl) (by kernel_rfl) (by kernel_rfl) (fun _ _ _ h => h) (Or.inl ⟨by rfl, ?hy0_65⟩) (by assumption) ?rest0_65
          case hy0_65 => (intro w9 hSw; clear hSw; go_simp; try with_reducible rfl)
          try simp only [Act.put, List.setIfInBounds_toArray, List.set_cons_zero, List.set_cons_succ, List.getElem_toArray, List.getElem_cons_zero, List.getElem_cons_succ]
          refine wpAnyL_take (i := 1) (v := ?v1_66) rfl (by kernel_rfl) (by kernel_rfl) (by kernel_rfl) (fun _ _ _ h => h) (Or.inl ⟨by rfl, ?hy1_66⟩) (by assumption) ?rest1_66
          case hy1_66 => (intro w9 hSw; obtain ⟨ma1, ma2, ma3, ma4, ma5, ma6⟩ := hSw; obtain ⟨y0, y1, y2, _, _, _⟩ := Mbx.cells ma1; have k0 := Blk.cell ma2 0 rfl; obtain ⟨n0, n1, n2, _, _, _⟩ := Mbx.cells ma3; have q0 := Blk.cell ma4 0 rfl; have q1 := Blk.cell ma5 0 rfl; go_simp; try with_reducible rfl)
          try simp only [Act.put, List.setIfInBounds_toArray, List.set_cons_zero, List.set_cons_succ, List.getElem_toArray, List.getElem_cons_zero, List.getElem_cons_succ]
          refine wpAnyL_take (i := 2) (v := ?v2_67) rfl (by kernel_rfl) (by kernel_rfl) (by kernel_rfl) (fun _ _ _ h => h) (Or.inl ⟨by rfl, ?hy2_67⟩) (by assumption) ?rest2_67
          case hy2_67 => (intro w9 hSw; obtain ⟨ma1, ma2, ma3, ma4, ma5, ma6⟩ := hSw; obtain ⟨y0, y1, y2, _, _, _⟩ := Mbx.cells ma1; have k0 := Blk.cell ma2 0 rfl; obtain ⟨n0, n1, n2, _, _, _⟩ := Mbx.cells ma3; have q0 := Blk.cell ma4 0 rfl; have q1 := Blk.cell ma5 0 rfl; go_simp; try with_reducible rfl)
          try simp only [Act.put, List.setIfInBounds_toArray, List.set_cons_zero, List.set_cons_succ, List.getElem_toArray, List.getElem_cons_zero, List.getElem_cons_succ]
          refine wpAnyL_take (i := 3) (v := ?v3_68) rfl (by kernel_rfl) (by kernel_rfl) (by kernel_rfl) (fun _ _ _ h => h) (Or.inl ⟨by rfl, ?hy3_68⟩) (by assumption) ?rest3_68
          case hy3_68 => (intro w9 hSw; clear hSw; go_simp; try with_reducible rfl)
          try simp only [Act.put, List.setIfInBounds_toArray, List.set_cons_zero, List.set_cons_succ, List.getElem_toArray, List.getElem_cons_zero, List.getElem_cons_succ]
          refine wpAnyL_take (i := 4) (v := ?v4_69) rfl (by kernel_rfl) (by kernel_rfl) (by kernel_rfl) (fun _ _ _ h => h) (Or.inl ⟨by rfl, ?hy4_69⟩) (by assumption) ?rest4_69
          case hy4_69 => (intro w9 hSw; obtain ⟨ma1, ma2, ma3, ma4, ma5, ma6⟩ := hSw; obtain ⟨y0, y1, y2, _, _, _⟩ := Mbx.cells ma1; have k0 := Blk.cell ma2 0 rfl; obtain ⟨n0, n1, n2, _, _, _⟩ := Mbx.cells ma3; have q0 := Blk.cell ma4 0 rfl; have q1 := Blk.cell ma5 0 rfl; go_simp; try with_reducible rfl)
          try simp only [Act.put, List.setIfInBounds_toArray, List.set_cons_zero, List.set_cons_succ, List.getElem_toArray, List.getElem_cons_zero, List.getElem_cons_succ]
          refine wpAnyL_take (i := 5) (v := ?v5_70) rfl (by kernel_rfl) (by kernel_rfl) (by kernel_rfl) (fun _ _ _ h => h) (Or.inl ⟨by rfl, ?hy5_70⟩) (by assumption) ?rest5_70
          case hy5_70 => (intro w9 hSw; clear hSw; go_simp; try with_reducible rfl)
          try simp only [Act.put, List.setIfInBounds_toArray, List.set_cons_zero, List.set_cons_succ, List.getElem_toArray, List.getElem_cons_zero, List.getElem_cons_succ]
          refine wpAnyL_take (i := 6) (v := ?v6_71) rfl (by kernel_rfl) (by kernel_rfl) (by kernel_rfl) (fun _ _ _ h => h) (Or.inl ⟨by rfl, ?hy6_71⟩) (by assumption) ?rest6_71
          case hy6_71 => (intro w9 hSw; obtain ⟨ma1, ma2, ma3, ma4, ma5, ma6⟩ := hSw; obtain ⟨y0, y1, y2, _, _, _⟩ := Mbx.cells ma1; have k0 := Blk.cell ma2 0 rfl; obtain ⟨n0, n1, n2, _, _, _⟩ := Mbx.cells ma3; have q0 := Blk.cell ma4 0 rfl; have q1 := Blk.cell ma5 0 rfl; go_simp; try with_reducible rfl)
          try simp only [Act.put, List.setIfInBounds_toArray, List.set_cons_zero, List.set_cons_succ, List.getElem_toArray, List.getElem_cons_zero, List.getElem_cons_succ]
          refine wpAnyL_take (i := 7) (v := ?v7_72) rfl (by kernel_rfl) (by kernel_rfl) (by kernel_rfl) (fun _ _ _ h => h) (Or.inl ⟨by rfl, ?hy7_72⟩) (by assumption) ?rest7_72
          case hy7_72 => (intro w9 hSw; clear hSw; go_simp; try with_reducible rfl)
          try simp only [Act.put, List.setIfInBounds_toArray, List.set_cons_zero, List.set_cons_succ, List.getElem_toArray, List.getElem_cons_zero, List.getElem_cons_succ]
          refine wpAnyL_take (i := 8) (v := ?v8_73) rfl (by kernel_rfl) (by kernel_rfl) (by kernel_rfl) (fun _ _ _ h => h) (Or.inl ⟨by rfl, ?hy8_73⟩) (by assumption) ?rest8_73
          case hy8_73 => (intro w9 hSw; clear hSw; go_simp; try with_reducible rfl)
          try simp only [Act.put, List.setIfInBounds_toArray, List.set_cons_zero, List.set_cons_succ, List.getElem_toArray, List.getElem_cons_zero, List.getElem_cons_succ]
          refine wpAnyL_take (i := 9) (v := ?v9_74) rfl (by kernel_rfl) (by kernel_rfl) (by kernel_rfl) (fun _ _ _ h => h) (Or.inl ⟨by rfl, ?hy9_74⟩) (by assumption) ?rest9_74
          case hy9_74 => (intro w9 hSw; obtain ⟨ma1, ma2, ma3, ma4, ma5, ma6⟩ := hSw; obtain ⟨y0, y1, y2, _, _, _⟩ := Mbx.cells ma1; have k0 := Blk.cell ma2 0 rfl; obtain ⟨n0, n1, n2, _, _, _⟩ := Mbx.cells ma3; have q0 := Blk.cell ma4 0 rfl; have q1 := Blk.cell ma5 0 rfl; go_simp; try with_reducible rfl)
          try simp only [Act.put, List.setIfInBounds_toArray, List.set_cons_zero, List.set_cons_succ, List.getElem_toArray, List.getElem_cons_zero, List.getElem_cons_succ]
          refine wpAnyL_take (i := 10) (v := ?v10_75) rfl (by kernel_rfl) (by kernel_rfl) (by kernel_rfl) (fun _ _ _ h => h) (Or.inl ⟨by rfl, ?hy10_75⟩) (by assumption) ?rest10_75
          case hy10_75 => (intro w9 hSw; obtain ⟨ma1, ma2, ma3, ma4, ma5, ma6⟩ := hSw; obtain ⟨y0, y1, y2, _, _, _⟩ := Mbx.cells ma1; have k0 := Blk.cell ma2 0 rfl; obtain ⟨n0, n1, n2, _, _, _⟩ := Mbx.cells ma3; have q0 := Blk.cell ma4 0 rfl; have q1 := Blk.cell ma5 0 rfl; go_simp; try with_reducible rfl)
          try simp only [Act.put, List.setIfInBounds_toArray, List.set_cons_zero, List.set_cons_succ, List.getElem_toArray, List.getElem_cons_zero, List.getElem_cons_succ]
          refine wpAnyL_take (i := 11) (v := ?v11_76) rfl (by kernel_rfl) (by kernel_rfl) (by kernel_rfl) (fun _ _ _ h => h) (Or.inl ⟨by rfl, ?hy11_76⟩) (by assumption) ?rest11_76
          case hy11_76 => (intro w9 hSw; clear hSw; go_simp; try with_reducible rfl)
          try simp only [Act.put, List.setIfInBounds_toArray, List.set_cons_zero, List.set_cons_succ, List.getElem_toArray, List.getElem_cons_zero, List.getElem_cons_succ]
          refine wpAnyL_ready (rs := [12]) (by kernel_rfl) (by simp) ?_
          refine AllReadyL.cons rfl (fun K hK => ?_) AllReadyL.nil
          go_simp
          have HC : Hid (∀ W, Dr wd W → ∀ i, i < k → Calls Try.prog 49 #[.int .i64 i, .pointer (some ⟨w.heap.size + 1 + 1, 0, none⟩), .pointer (some ⟨wr.heap.size, 0, none⟩), .pointer (some ⟨BX, 0, none⟩)] W (FA ((fun i => aop .mul (fa (D (hV hs i) r)) (bX hs l tl M Q k cc i)) i) W)) := Lib.hid (fun W hd9 i hi => by
            have h9 := b3_any (hL.on (hd9.below _)) HLEN.out (FX.on (hd9.below _)) (DL.on (hd9.below _)) (DR.on (hd9.below _)) (DX.on (hd9.below _)) hi hrt
            rw [hIX.out.at_ i hi] at h9
            exact h9)
          have ps := sum_b3 (w.heap.size + 1 + 1) wr.heap.size BX _ k (by omega) HC
          with_reducible refine ps.mono ?_
          rintro e9 w8 ⟨r1, rfl, hq, b1, dq⟩
          have H1 := Lib.hid hq
          clear hq ps HC
          have hb := dq.below wd.heap.size
          replace h := h.on hb
          replace ht := ht.on hb
          replace hL := hL.on hb
          replace DM := DM.on hb
          replace DT := DT.on hb
          replace DL := DL.on hb
          replace DZ := DZ.on hb
          replace DK := DK.on hb
          replace DN := DN.on hb
          replace hO := hO.on_ hb
          replace DC := DC.on hb
          replace FX := FX.on hb
          replace DX := DX.on hb
          replace DR := DR.on hb
          replace bz := bz.trans (hb.mono bz.size)
          clear hb dq
          replace hce := (hO.at' (k := z) (by rw [hLN]; exact hzn)).1
          rw [hYY] at hce
          clear hS; refine hK.out _ _ ⟨DM, DK, DN, DC, DR, hce⟩ (fun hS => ?_); clear hK K
          try simp only [Act.put, List.setIfInBounds_toArray, List.set_cons_zero, List.set_cons_succ, List.getElem_toArray, List.getElem_cons_zero, List.getElem_cons_succ]
          refine wpAnyL_ready (rs := [13]) (by kernel_rfl) (by simp) ?_
          refine AllReadyL.cons rfl (fun K hK => ?_) AllReadyL.nil
          refine step_arith .sub (.inr (.inl rfl)) rfl _ _ _ _ YY r1 rfl rfl rfl bY b1 ?_
          intro r2 w9 hb hq b2 dq
          have H2 := Lib.hid hq
          clear hq dq
          replace h := h.on hb
          replace ht := ht.on hb
          replace hL := hL.on hb
          replace DM := DM.on hb
          replace DT := DT.on hb
          replace DL := DL.on hb
          replace DZ := DZ.on hb
          replace DK := DK.on hb
          replace DN := DN.on hb
          replace hO := hO.on_ hb
          replace DC := DC.on hb
          replace FX := FX.on hb
          replace DX := DX.on hb
          replace DR := DR.on hb
          replace bz := bz.trans (hb.mono bz.size)
          clear hb
          replace hce := (hO.at' (k := z) (by rw [hLN]; exact hzn)).1
          rw [hYY] at hce
          clear hS; refine hK.out _ _ ⟨DM, DK, DN, DC, DR, hce⟩ (fun hS => ?_); clear hK K
          try simp only [Act.put, List.setIfInBounds_toArray, List.set_cons_zero, List.set_cons_succ, List.getElem_toArray, List.getElem_cons_zero, List.getElem_cons_succ]
          refine wpAnyL_take (i := 14) (v := ?v14_77) rfl (by kernel_rfl) (by kernel_rfl) (by kernel_rfl) (fun _ _ _ h => h) (Or.inl ⟨by rfl, ?hy14_77⟩) (by assumption) ?rest14_77
          case hy14_77 => (intro w9 hSw; clear hSw; go_simp; try with_reducible rfl)
          try simp only [Act.put, List.setIfInBounds_toArray, List.set_cons_zero, List.set_cons_succ, List.getElem_toArray, List.getElem_cons_zero, List.getElem_cons_succ]
          obtain ⟨c00, c11⟩ := hO.at' (k := z) (by rw [hLN]; exact hzn)
          refine wpAnyL_ready (rs := [15]) (by kernel_rfl) (by simp) ?_
          refine AllReadyL.lat (by rfl) rfl (fun K hK => ?_) AllReadyL.nil
          go_simp
          clear c00 c11 hce
          have hgs : w9.grownBy (w9.setCell ⟨G, z, none⟩ (.float .f64 r2)) (some G) := grown_setCell (World.grownBy.refl w9 _) _ _
          replace DM := DM.grown hgs (by simp; omega)
          replace DT := DT.grown hgs (by simp; omega)
          replace DL := DL.grown hgs (by simp; omega)
          replace DZ := DZ.grown hgs (by simp; omega)
          replace DK := DK.grown hgs (by simp; omega)
          replace DN := DN.grown hgs (by simp; omega)
          replace DC := DC.grown hgs (by simp; omega)
          replace DX := DX.grown hgs (by simp; omega)
          replace DR := DR.grown hgs (by simp; omega)
          replace h := h.farB hgs hAG
          replace ht := ht.farB hgs hTG
          replace hL := hL.farB hgs hLG HEG.out
          replace FX := FX.farB hgs (fun a e => by injection e with e; subst e; simp; omega)
          have hO9 : OwnF (w9.setCell ⟨G, z, none⟩ (.float .f64 r2)) w.heap.size (some ⟨G, 0, none⟩) n (L2.set z r2) := hO.set_ z r2
          replace bz := bz.setCell (p := ⟨G, z, none⟩) (by simp; omega) (.float .f64 r2)
          have hzl : z < (L2.set z (r2 : Int)).length := by rw [List.length_set, hLN]; exact hzn
          obtain ⟨s00, _⟩ := hO9.at' hzl
          refine hK.out _ _ trivial (fun _ => ?_)
          clear hK K
          try simp only [Act.put, List.setIfInBounds_toArray, List.set_cons_zero, List.set_cons_succ, List.getElem_toArray, List.getElem_cons_zero, List.getElem_cons_succ]
          refine wpAnyL_done (by kernel_rfl) ?_ _
          have hfe : fa (r2 : Int) = bF hs l tl M Q k r cc := by rw [fa_nat, H2.out, H1.out, HY.out]; rfl
          have hM9 := hMr.set (i := r) (j := cc) (x := (r2 : Int)) hrt hlt (by omega) (by omega) hfe (Q := bP cc (r + 1)) (fun a b ha hb => by unfold bP; rw [← Bool.decide_or, decide_eq_decide]; omega)
          rw [hy, hz] at hM9
          clear hMr hfe hO
          go_wp2_with fail
          go_roundw
          case rel => exact ⟨r + 1, _, by omega, by go_num, hM9, hO9, h, ht, hL, DM, DT, DL, DZ, DK, DN, DC, FX, DX, bz⟩
          case measure => simp [intOf]; omega
        · obtain rfl : r = M := by omega
          have hM9 := hMr.congr (Q := bP (cc + 1) 0) (fun a b ha hb => by unfold bP; rw [decide_eq_decide]; omega)
          clear hMr
          go_wp2_with fail
          go_roundw
          case rel => exact ⟨cc + 1, L2, by omega, by go_num, hM9, hO, h, ht, hL, DM, DT, DL, DZ, DK, DN, bz⟩
          case measure => simp [intOf]; omega
    · obtain rfl : cc = Q := by omega
      obtain ⟨v0, v1, v2, v3, v4, v5⟩ := Mbx.cells DN
      obtain ⟨z0, z1, z2, z3, z4, z5⟩ := Mbx.cells DZ
      have DZ9 := Mbx.put DZ M cc (some ⟨G, 0, none⟩) n n
      obtain ⟨c00, c11, c22, _, _, _⟩ := Mbx.cells DZ9
      have hO9 := hO.grown_ (row := some (w.heap.size + 1 + 1 + 1)) (w' := ((wr.setCell ⟨w.heap.size + 1 + 1 + 1, 0, none⟩ (.int .i64 M)).setCell ⟨w.heap.size + 1 + 1 + 1, 1, none⟩ (.int .i64 cc)).setCell ⟨w.heap.size + 1 + 1 + 1, 2, none⟩ (.slice (some ⟨G, 0, none⟩) n n)) (grown_setCell (grown_setCell (grown_setCell (World.grownBy.refl wr _) 0 _) 1 _) 2 _) (fun a e => by injection e with e; subst e; simp; omega)
      have bz9 := ((bz.setCell (p := ⟨w.heap.size + 1 + 1 + 1, 0, none⟩) (by simp; omega) (.int .i64 M)).setCell (p := ⟨w.heap.size + 1 + 1 + 1, 1, none⟩) (by simp; omega) (.int .i64 cc)).setCell (p := ⟨w.heap.size + 1 + 1 + 1, 2, none⟩) (by simp; omega) (.slice (some ⟨G, 0, none⟩) n n)
      have hI := hMr.is
      rw [← HN.out] at hI
      go_wp2_with fail
      refine bodyPost_ret (v := .tuple #[mV M cc (some ⟨G, 0, none⟩) n n, .int .i64 0]) (by simp [results, Try.results24, go_sem, c00, c11, c22]) rfl ?_
      exact ⟨G, n, L, rfl, hO9, hI, bz9⟩
end Go.Proofs.Ytcdbjlmegkcaiaa
