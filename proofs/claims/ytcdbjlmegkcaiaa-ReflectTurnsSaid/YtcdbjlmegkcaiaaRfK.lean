/-
  Layer 9, walks: which rows, and columns, can not be reflected, by the program. (Written by wip/tools/gen_rfk.py.)
-/
import Derived.Test.YtcdbjlmegkcaiaaRfJ
namespace Go.Proofs.Ytcdbjlmegkcaiaa
open Go.RowKit Go.Bw
set_option linter.unusedVariables false
set_option linter.unusedSimpArgs false
attribute [local go_sem] run_store_float

/-- what may not be -/
def fitG (may : Bool) (m : Nat) (p f : Int) : Bool := may && decide (0 ≤ p) && decide (0 ≤ f) && decide (0 < m)
/-- why it can't be done -/
def fitC (may : Bool) (m : Nat) (p f rows others : Int) : Int := if fitG may m p f = true then (if (m : Int) ≤ rows - p ∧ f ≤ others then 0 else 8) else 2

set_option maxRecDepth 100000 in
set_option maxHeartbeats 8000000 in
theorem gLeft_no {w : World} {A VA : Option Addr} {n c m vc t : Nat} {R C p f E : Int} {l v : List Int} (h : FL w A n c l) (hv : FL w VA m vc v) (ht : t ≤ 18446744073709551615) (hE : fitC (mayB R C n) m p f R C = E) (hE0 : E ≠ 0) (hpb : -9223372036854775808 ≤ p ∧ p ≤ 9223372036854775807) (hfb : -9223372036854775808 ≤ f ∧ f ≤ 9223372036854775807) :
    Calls Try.prog 14 #[mV R C A n c, .int .i64 p, .int .i64 f, rV VA m vc t] w (NoP w E) := by
  have hmx := hv.max
  have hn1 := h.max
  have pm := fun W => gMay_any (R := R) (C := C) (A := A) (n := n) (c := c) hn1 W
  have HRC : Hid (mayB R C n = true → 0 ≤ R ∧ R ≤ 512 ∧ 0 ≤ C ∧ C ≤ 512) := Lib.hid (fun h9 => by have := of_decide_eq_true h9; omega)
  have HE := Lib.hid hE
  have HG : Hid (fitG (mayB R C n) m p f = (mayB R C n && decide (0 ≤ p) && decide (0 ≤ f) && decide (0 < m))) := Lib.hid rfl
  clear hE
  have bz := (((Below.refl _ w).alloc (Nat.le_refl _) (.cells #[.int .i64 R, .int .i64 C, .slice A n c] 36)).alloc (by simp) (.cells #[.slice VA m vc, .float .f64 t] 26)).alloc (by simp; omega) (.cells #[.int .i64 0, .int .i64 0, .slice none 0 0] 36)
  have DM := ((Blk.new w [.int .i64 R, .int .i64 C, .slice A n c] 36).alloc (.cells #[.slice VA m vc, .float .f64 t] 26)).alloc (.cells #[.int .i64 0, .int .i64 0, .slice none 0 0] 36)
  have DH := (Blk.new (w.alloc (.cells #[.int .i64 R, .int .i64 C, .slice A n c] 36)) [.slice VA m vc, .float .f64 t] 26).alloc (.cells #[.int .i64 0, .int .i64 0, .slice none 0 0] 36)
  have DZ := Blk.new ((w.alloc (.cells #[.int .i64 R, .int .i64 C, .slice A n c] 36)).alloc (.cells #[.slice VA m vc, .float .f64 t] 26)) [.int .i64 0, .int .i64 0, .slice none 0 0] 36
  have hsz : (((w.alloc (.cells #[.int .i64 R, .int .i64 C, .slice A n c] 36)).alloc (.cells #[.slice VA m vc, .float .f64 t] 26)).alloc (.cells #[.int .i64 0, .int .i64 0, .slice none 0 0] 36)).heap.size = w.heap.size + 1 + 1 + 1 := by simp
  simp only [World.size_alloc] at DH DZ
  replace h := h.on bz
  replace hv := hv.on bz
  go_enter Try.func14, Try.ntmps14
  go_upto_region 1 with fail
  generalize (((w.alloc (.cells #[.int .i64 R, .int .i64 C, .slice A n c] 36)).alloc (.cells #[.slice VA m vc, .float .f64 t] 26)).alloc (.cells #[.int .i64 0, .int .i64 0, .slice none 0 0] 36)) = W0 at h hv DM DH DZ bz hsz ⊢
  generalize hma : mayB R C n = may at *
  go_cut [10] from 14 (fun s10 wx => s10 = .bool (fitG may m p f) ∧ Mbx wx w.heap.size R C A n c ∧ Rbx wx (w.heap.size + 1) VA m vc t ∧ Mbx wx (w.heap.size + 1 + 1) 0 0 none 0 0 ∧ Below w.heap.size w wx)
  case first =>
    clear hma
    cases may
    · skip
      obtain ⟨y0, y1, y2, y3, y4, y5⟩ := Mbx.cells DM
      obtain ⟨u0, u1, u2, u3⟩ := Rbx.cells DH
      go_wp2_with fail
      with_reducible refine (pm _).mono ?_
      rintro e w1 ⟨rfl, hb⟩
      clear y0 y1 y2 y3 y4 y5 u0 u1 u2 u3
      replace h := h.on hb
      replace hv := hv.on hb
      replace DM := DM.on hb
      replace DH := DH.on hb
      replace DZ := DZ.on hb
      replace bz := bz.trans (hb.mono bz.size)
      clear hb
      go_wp2_with fail
      go_meet
      case rel => exact ⟨by rw [HG.out]; first | rfl | (simp <;> omega), DM, DH, DZ, bz⟩
    · by_cases hp0 : 0 ≤ p
      · by_cases hf0 : 0 ≤ f
        · skip
          obtain ⟨y0, y1, y2, y3, y4, y5⟩ := Mbx.cells DM
          obtain ⟨u0, u1, u2, u3⟩ := Rbx.cells DH
          go_wp2_with fail
          with_reducible refine (pm _).mono ?_
          rintro e w1 ⟨rfl, hb⟩
          clear y0 y1 y2 y3 y4 y5 u0 u1 u2 u3
          replace h := h.on hb
          replace hv := hv.on hb
          replace DM := DM.on hb
          replace DH := DH.on hb
          replace DZ := DZ.on hb
          replace bz := bz.trans (hb.mono bz.size)
          clear hb
          have DO := Blk.new w1 [.slice VA m vc, .float .f64 t] 26
          obtain ⟨y0, y1, y2, y3, y4, y5⟩ := Mbx.cells DM
          obtain ⟨u0, u1, u2, u3⟩ := Rbx.cells DH
          have hbA := (Below.refl _ w1).alloc (Nat.le_refl _) (.cells #[.slice VA m vc, .float .f64 t] 26)
          replace h := h.on hbA
          replace hv := hv.on hbA
          replace DM := DM.on hbA
          replace DH := DH.on hbA
          replace DZ := DZ.on hbA
          clear hbA
          replace bz := bz.alloc bz.size (.cells #[.slice VA m vc, .float .f64 t] 26)
          have hR1 := Rl.one hv ht DO
          have pt := gtog_any (b := decide (0 < m)) hR1 (by unfold togB longB; simp <;> rw [hv.1])
          go_wp2_with fail
          with_reducible refine (pt).mono ?_
          rintro e w2 ⟨rfl, hb⟩
          clear y0 y1 y2 y3 y4 y5 u0 u1 u2 u3 DO hR1
          replace h := h.on hb
          replace hv := hv.on hb
          replace DM := DM.on hb
          replace DH := DH.on hb
          replace DZ := DZ.on hb
          replace bz := bz.trans (hb.mono bz.size)
          clear hb
          go_wp2_with fail
          go_meet
          case rel => exact ⟨by rw [HG.out]; first | rfl | (simp <;> omega), DM, DH, DZ, bz⟩
        · skip
          obtain ⟨y0, y1, y2, y3, y4, y5⟩ := Mbx.cells DM
          obtain ⟨u0, u1, u2, u3⟩ := Rbx.cells DH
          go_wp2_with fail
          with_reducible refine (pm _).mono ?_
          rintro e w1 ⟨rfl, hb⟩
          clear y0 y1 y2 y3 y4 y5 u0 u1 u2 u3
          replace h := h.on hb
          replace hv := hv.on hb
          replace DM := DM.on hb
          replace DH := DH.on hb
          replace DZ := DZ.on hb
          replace bz := bz.trans (hb.mono bz.size)
          clear hb
          go_wp2_with fail
          go_meet
          case rel => exact ⟨by rw [HG.out]; first | rfl | (simp <;> omega), DM, DH, DZ, bz⟩
      · skip
        obtain ⟨y0, y1, y2, y3, y4, y5⟩ := Mbx.cells DM
        obtain ⟨u0, u1, u2, u3⟩ := Rbx.cells DH
        go_wp2_with fail
        with_reducible refine (pm _).mono ?_
        rintro e w1 ⟨rfl, hb⟩
        clear y0 y1 y2 y3 y4 y5 u0 u1 u2 u3
        replace h := h.on hb
        replace hv := hv.on hb
        replace DM := DM.on hb
        replace DH := DH.on hb
        replace DZ := DZ.on hb
        replace bz := bz.trans (hb.mono bz.size)
        clear hb
        go_wp2_with fail
        go_meet
        case rel => exact ⟨by rw [HG.out]; first | rfl | (simp <;> omega), DM, DH, DZ, bz⟩
  case rest =>
    clear DM DH DZ bz h hv
    obtain ⟨rfl, DM, DH, DZ, bz⟩ := hcut
    obtain ⟨y0, y1, y2, y3, y4, y5⟩ := Mbx.cells DM
    obtain ⟨u0, u1, u2, u3⟩ := Rbx.cells DH
    go_upto_region 2 with fail
    go_cut [10, 11] from 14 (fun s10 s11 wx => s11 = .int .i64 E ∧ Mbx wx (w.heap.size + 1 + 1) 0 0 none 0 0 ∧ Below w.heap.size w wx)
    case first =>
      have hE2 : fitC may m p f R C = E := HE.out
      unfold fitC at hE2
      cases hG : fitG may m p f
      · rw [hG, if_neg (by decide)] at hE2
        subst hE2
        clear hG HG HE HRC pm
        go_wp2_with fail
        with_reducible refine (gRef_bad _).mono ?_
        rintro e w3 ⟨rfl, rfl⟩
        go_wp2_with fail
        go_meet
        case rel => exact ⟨rfl, DZ.on ((Below.refl _ wc).alloc (Nat.le_refl _) _), bz.alloc bz.size _⟩
      · rw [hG, if_pos rfl] at hE2
        unfold fitG at hG
        simp only [Bool.and_eq_true, decide_eq_true_eq] at hG
        obtain ⟨⟨⟨g0, g1⟩, g2⟩, g3⟩ := hG
        obtain ⟨R0, R1, C0, C1⟩ := HRC.out g0
        subst g0
        obtain ⟨B1, hB1⟩ : ∃ B1, decide ((m : Int) ≤ R - p) = B1 := ⟨_, rfl⟩
        obtain ⟨B2, hB2⟩ : ∃ B2, decide (f ≤ C) = B2 := ⟨_, rfl⟩
        have hE3 : (if [B1, B2].all id = true then (0 : Int) else 8) = E := by
          rw [← hE2, ← hB1, ← hB2]
          by_cases e1 : (m : Int) ≤ R - p <;> by_cases e2 : f ≤ C <;> simp [e1, e2]
        have hE1 : Bl (wc.alloc (.cells #[.bool B1, .bool B2] 4)) (some ⟨wc.heap.size, 0, none⟩) 2 [B1, B2] := ⟨rfl, by omega, fun _ => ⟨_, rfl, fun i b hi => by
          have h9 := Blk.new wc [.bool B1, .bool B2] 4
          rw [add_at]
          rcases i with _ | _ | i
          · simp at hi; subst hi; exact Blk.cell h9 0 rfl
          · simp at hi; subst hi; exact Blk.cell h9 1 rfl
          · simp at hi⟩⟩
        have pr := gRef_any (c := 2) hE1 hE3
        clear hE1 hE2 hE3 HE HG pm HRC
        have HB1 := Lib.hid hB1
        have HB2 := Lib.hid hB2
        go_wp2_with fail
        with_reducible refine pr.mono ?_
        rintro e w3 ⟨rfl, rfl⟩
        go_wp2_with fail
        go_meet
        case rel => exact ⟨rfl, DZ.on ((Below.refl _ wc).alloc (Nat.le_refl _) _), bz.alloc bz.size _⟩
    case rest =>
      clear DM DH DZ bz y0 y1 y2 y3 y4 y5 u0 u1 u2 u3
      obtain ⟨rfl, DZ, bz⟩ := hcut
      have HEn := Lib.hid hE0
      have hE9 : (E == 0) = false := by simpa using hE0
      clear HE HG HRC pm
      obtain ⟨z0, z1, z2, z3, z4, z5⟩ := Mbx.cells DZ
      have DZ9 := Mbx.put DZ 0 0 none 0 0
      obtain ⟨c0, c1, c2, _, _, _⟩ := Mbx.cells DZ9
      have hE8 : (E != 0) = true := by simpa using hE0
      have hE7 : ¬ E = 0 := hE0
      have bz9 := ((bz.setCell (p := ⟨w.heap.size + 1 + 1, 0, none⟩) (by simp; omega) (.int .i64 0)).setCell (p := ⟨w.heap.size + 1 + 1, 1, none⟩) (by simp; omega) (.int .i64 0)).setCell (p := ⟨w.heap.size + 1 + 1, 2, none⟩) (by simp; omega) (.slice none 0 0)
      go_wp2_with fail
      refine bodyPost_ret (v := .tuple #[mV 0 0 none 0 0, .int .i64 E]) (by simp [results, Try.results14, go_sem, c0, c1, c2]) rfl ?_
      exact ⟨rfl, bz9⟩

set_option maxRecDepth 100000 in
set_option maxHeartbeats 8000000 in
theorem gRight_no {w : World} {A VA : Option Addr} {n c m vc t : Nat} {R C p f E : Int} {l v : List Int} (h : FL w A n c l) (hv : FL w VA m vc v) (ht : t ≤ 18446744073709551615) (hE : fitC (mayB R C n) m p f C R = E) (hE0 : E ≠ 0) (hpb : -9223372036854775808 ≤ p ∧ p ≤ 9223372036854775807) (hfb : -9223372036854775808 ≤ f ∧ f ≤ 9223372036854775807) :
    Calls Try.prog 15 #[mV R C A n c, .int .i64 p, .int .i64 f, rV VA m vc t] w (NoP w E) := by
  have hmx := hv.max
  have hn1 := h.max
  have pm := fun W => gMay_any (R := R) (C := C) (A := A) (n := n) (c := c) hn1 W
  have HRC : Hid (mayB R C n = true → 0 ≤ R ∧ R ≤ 512 ∧ 0 ≤ C ∧ C ≤ 512) := Lib.hid (fun h9 => by have := of_decide_eq_true h9; omega)
  have HE := Lib.hid hE
  have HG : Hid (fitG (mayB R C n) m p f = (mayB R C n && decide (0 ≤ p) && decide (0 ≤ f) && decide (0 < m))) := Lib.hid rfl
  clear hE
  have bz := (((Below.refl _ w).alloc (Nat.le_refl _) (.cells #[.int .i64 R, .int .i64 C, .slice A n c] 36)).alloc (by simp) (.cells #[.slice VA m vc, .float .f64 t] 26)).alloc (by simp; omega) (.cells #[.int .i64 0, .int .i64 0, .slice none 0 0] 36)
  have DM := ((Blk.new w [.int .i64 R, .int .i64 C, .slice A n c] 36).alloc (.cells #[.slice VA m vc, .float .f64 t] 26)).alloc (.cells #[.int .i64 0, .int .i64 0, .slice none 0 0] 36)
  have DH := (Blk.new (w.alloc (.cells #[.int .i64 R, .int .i64 C, .slice A n c] 36)) [.slice VA m vc, .float .f64 t] 26).alloc (.cells #[.int .i64 0, .int .i64 0, .slice none 0 0] 36)
  have DZ := Blk.new ((w.alloc (.cells #[.int .i64 R, .int .i64 C, .slice A n c] 36)).alloc (.cells #[.slice VA m vc, .float .f64 t] 26)) [.int .i64 0, .int .i64 0, .slice none 0 0] 36
  have hsz : (((w.alloc (.cells #[.int .i64 R, .int .i64 C, .slice A n c] 36)).alloc (.cells #[.slice VA m vc, .float .f64 t] 26)).alloc (.cells #[.int .i64 0, .int .i64 0, .slice none 0 0] 36)).heap.size = w.heap.size + 1 + 1 + 1 := by simp
  simp only [World.size_alloc] at DH DZ
  replace h := h.on bz
  replace hv := hv.on bz
  go_enter Try.func15, Try.ntmps15
  go_upto_region 1 with fail
  generalize (((w.alloc (.cells #[.int .i64 R, .int .i64 C, .slice A n c] 36)).alloc (.cells #[.slice VA m vc, .float .f64 t] 26)).alloc (.cells #[.int .i64 0, .int .i64 0, .slice none 0 0] 36)) = W0 at h hv DM DH DZ bz hsz ⊢
  generalize hma : mayB R C n = may at *
  go_cut [10] from 14 (fun s10 wx => s10 = .bool (fitG may m p f) ∧ Mbx wx w.heap.size R C A n c ∧ Rbx wx (w.heap.size + 1) VA m vc t ∧ Mbx wx (w.heap.size + 1 + 1) 0 0 none 0 0 ∧ Below w.heap.size w wx)
  case first =>
    clear hma
    cases may
    · skip
      obtain ⟨y0, y1, y2, y3, y4, y5⟩ := Mbx.cells DM
      obtain ⟨u0, u1, u2, u3⟩ := Rbx.cells DH
      go_wp2_with fail
      with_reducible refine (pm _).mono ?_
      rintro e w1 ⟨rfl, hb⟩
      clear y0 y1 y2 y3 y4 y5 u0 u1 u2 u3
      replace h := h.on hb
      replace hv := hv.on hb
      replace DM := DM.on hb
      replace DH := DH.on hb
      replace DZ := DZ.on hb
      replace bz := bz.trans (hb.mono bz.size)
      clear hb
      go_wp2_with fail
      go_meet
      case rel => exact ⟨by rw [HG.out]; first | rfl | (simp <;> omega), DM, DH, DZ, bz⟩
    · by_cases hp0 : 0 ≤ p
      · by_cases hf0 : 0 ≤ f
        · skip
          obtain ⟨y0, y1, y2, y3, y4, y5⟩ := Mbx.cells DM
          obtain ⟨u0, u1, u2, u3⟩ := Rbx.cells DH
          go_wp2_with fail
          with_reducible refine (pm _).mono ?_
          rintro e w1 ⟨rfl, hb⟩
          clear y0 y1 y2 y3 y4 y5 u0 u1 u2 u3
          replace h := h.on hb
          replace hv := hv.on hb
          replace DM := DM.on hb
          replace DH := DH.on hb
          replace DZ := DZ.on hb
          replace bz := bz.trans (hb.mono bz.size)
          clear hb
          have DO := Blk.new w1 [.slice VA m vc, .float .f64 t] 26
          obtain ⟨y0, y1, y2, y3, y4, y5⟩ := Mbx.cells DM
          obtain ⟨u0, u1, u2, u3⟩ := Rbx.cells DH
          have hbA := (Below.refl _ w1).alloc (Nat.le_refl _) (.cells #[.slice VA m vc, .float .f64 t] 26)
          replace h := h.on hbA
          replace hv := hv.on hbA
          replace DM := DM.on hbA
          replace DH := DH.on hbA
          replace DZ := DZ.on hbA
          clear hbA
          replace bz := bz.alloc bz.size (.cells #[.slice VA m vc, .float .f64 t] 26)
          have hR1 := Rl.one hv ht DO
          have pt := gtog_any (b := decide (0 < m)) hR1 (by unfold togB longB; simp <;> rw [hv.1])
          go_wp2_with fail
          with_reducible refine (pt).mono ?_
          rintro e w2 ⟨rfl, hb⟩
          clear y0 y1 y2 y3 y4 y5 u0 u1 u2 u3 DO hR1
          replace h := h.on hb
          replace hv := hv.on hb
          replace DM := DM.on hb
          replace DH := DH.on hb
          replace DZ := DZ.on hb
          replace bz := bz.trans (hb.mono bz.size)
          clear hb
          go_wp2_with fail
          go_meet
          case rel => exact ⟨by rw [HG.out]; first | rfl | (simp <;> omega), DM, DH, DZ, bz⟩
        · skip
          obtain ⟨y0, y1, y2, y3, y4, y5⟩ := Mbx.cells DM
          obtain ⟨u0, u1, u2, u3⟩ := Rbx.cells DH
          go_wp2_with fail
          with_reducible refine (pm _).mono ?_
          rintro e w1 ⟨rfl, hb⟩
          clear y0 y1 y2 y3 y4 y5 u0 u1 u2 u3
          replace h := h.on hb
          replace hv := hv.on hb
          replace DM := DM.on hb
          replace DH := DH.on hb
          replace DZ := DZ.on hb
          replace bz := bz.trans (hb.mono bz.size)
          clear hb
          go_wp2_with fail
          go_meet
          case rel => exact ⟨by rw [HG.out]; first | rfl | (simp <;> omega), DM, DH, DZ, bz⟩
      · skip
        obtain ⟨y0, y1, y2, y3, y4, y5⟩ := Mbx.cells DM
        obtain ⟨u0, u1, u2, u3⟩ := Rbx.cells DH
        go_wp2_with fail
        with_reducible refine (pm _).mono ?_
        rintro e w1 ⟨rfl, hb⟩
        clear y0 y1 y2 y3 y4 y5 u0 u1 u2 u3
        replace h := h.on hb
        replace hv := hv.on hb
        replace DM := DM.on hb
        replace DH := DH.on hb
        replace DZ := DZ.on hb
        replace bz := bz.trans (hb.mono bz.size)
        clear hb
        go_wp2_with fail
        go_meet
        case rel => exact ⟨by rw [HG.out]; first | rfl | (simp <;> omega), DM, DH, DZ, bz⟩
  case rest =>
    clear DM DH DZ bz h hv
    obtain ⟨rfl, DM, DH, DZ, bz⟩ := hcut
    obtain ⟨y0, y1, y2, y3, y4, y5⟩ := Mbx.cells DM
    obtain ⟨u0, u1, u2, u3⟩ := Rbx.cells DH
    go_upto_region 2 with fail
    go_cut [10, 11] from 14 (fun s10 s11 wx => s11 = .int .i64 E ∧ Mbx wx (w.heap.size + 1 + 1) 0 0 none 0 0 ∧ Below w.heap.size w wx)
    case first =>
      have hE2 : fitC may m p f C R = E := HE.out
      unfold fitC at hE2
      cases hG : fitG may m p f
      · rw [hG, if_neg (by decide)] at hE2
        subst hE2
        clear hG HG HE HRC pm
        go_wp2_with fail
        with_reducible refine (gRef_bad _).mono ?_
        rintro e w3 ⟨rfl, rfl⟩
        go_wp2_with fail
        go_meet
        case rel => exact ⟨rfl, DZ.on ((Below.refl _ wc).alloc (Nat.le_refl _) _), bz.alloc bz.size _⟩
      · rw [hG, if_pos rfl] at hE2
        unfold fitG at hG
        simp only [Bool.and_eq_true, decide_eq_true_eq] at hG
        obtain ⟨⟨⟨g0, g1⟩, g2⟩, g3⟩ := hG
        obtain ⟨R0, R1, C0, C1⟩ := HRC.out g0
        subst g0
        obtain ⟨B1, hB1⟩ : ∃ B1, decide ((m : Int) ≤ C - p) = B1 := ⟨_, rfl⟩
        obtain ⟨B2, hB2⟩ : ∃ B2, decide (f ≤ R) = B2 := ⟨_, rfl⟩
        have hE3 : (if [B1, B2].all id = true then (0 : Int) else 8) = E := by
          rw [← hE2, ← hB1, ← hB2]
          by_cases e1 : (m : Int) ≤ C - p <;> by_cases e2 : f ≤ R <;> simp [e1, e2]
        have hE1 : Bl (wc.alloc (.cells #[.bool B1, .bool B2] 4)) (some ⟨wc.heap.size, 0, none⟩) 2 [B1, B2] := ⟨rfl, by omega, fun _ => ⟨_, rfl, fun i b hi => by
          have h9 := Blk.new wc [.bool B1, .bool B2] 4
          rw [add_at]
          rcases i with _ | _ | i
          · simp at hi; subst hi; exact Blk.cell h9 0 rfl
          · simp at hi; subst hi; exact Blk.cell h9 1 rfl
          · simp at hi⟩⟩
        have pr := gRef_any (c := 2) hE1 hE3
        clear hE1 hE2 hE3 HE HG pm HRC
        have HB1 := Lib.hid hB1
        have HB2 := Lib.hid hB2
        go_wp2_with fail
        with_reducible refine pr.mono ?_
        rintro e w3 ⟨rfl, rfl⟩
        go_wp2_with fail
        go_meet
        case rel => exact ⟨rfl, DZ.on ((Below.refl _ wc).alloc (Nat.le_refl _) _), bz.alloc bz.size _⟩
    case rest =>
      clear DM DH DZ bz y0 y1 y2 y3 y4 y5 u0 u1 u2 u3
      obtain ⟨rfl, DZ, bz⟩ := hcut
      have HEn := Lib.hid hE0
      have hE9 : (E == 0) = false := by simpa using hE0
      clear HE HG HRC pm
      obtain ⟨z0, z1, z2, z3, z4, z5⟩ := Mbx.cells DZ
      have DZ9 := Mbx.put DZ 0 0 none 0 0
      obtain ⟨c0, c1, c2, _, _, _⟩ := Mbx.cells DZ9
      have hE8 : (E != 0) = true := by simpa using hE0
      have hE7 : ¬ E = 0 := hE0
      have bz9 := ((bz.setCell (p := ⟨w.heap.size + 1 + 1, 0, none⟩) (by simp; omega) (.int .i64 0)).setCell (p := ⟨w.heap.size + 1 + 1, 1, none⟩) (by simp; omega) (.int .i64 0)).setCell (p := ⟨w.heap.size + 1 + 1, 2, none⟩) (by simp; omega) (.slice none 0 0)
      go_wp2_with fail
      refine bodyPost_ret (v := .tuple #[mV 0 0 none 0 0, .int .i64 E]) (by simp [results, Try.results15, go_sem, c0, c1, c2]) rfl ?_
      exact ⟨rfl, bz9⟩
end Go.Proofs.Ytcdbjlmegkcaiaa
