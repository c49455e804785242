/-
  Layer 9: the law of rows, and columns, reflected. (Written by wip/tools/gen_rfq.py.)
-/
import Derived.Test.YtcdbjlmegkcaiaaRfM
import Derived.Test.YtcdbjlmegkcaiaaRfK
import Derived.Test.YtcdbjlmegkcaiaaRfL
namespace Go.Proofs.Ytcdbjlmegkcaiaa
open Go.RowKit Go.Bw
set_option linter.unusedVariables false
set_option linter.unusedSimpArgs false
attribute [local go_sem] run_store_float

abbrev RTrue (w : World) (e : Ending) (w' : World) : Prop := e = .returned (.bool true) ∧ Below w.heap.size w w'

set_option maxRecDepth 100000 in
set_option maxHeartbeats 16000000 in
theorem few_any {R C : Int} {A : Option Addr} {n c : Nat} {l : List Int} {w : World} (h : FL w A n c l) : Calls Try.prog 12 #[mV R C A n c] w (Ans w (.bool (decide (n ≤ 400)))) := by
  have hmx := h.max
  have bz := (Below.refl _ w).alloc (Nat.le_refl _) (.cells #[.int .i64 R, .int .i64 C, .slice A n c] 36)
  obtain ⟨b, hb⟩ : ∃ b, decide (n ≤ 400) = b := ⟨_, rfl⟩
  have hb2 : decide ((n : Int) ≤ 400) = b := by rw [← hb]; exact decide_eq_decide.2 (by omega)
  rw [hb]
  clear h hb
  go_enter Try.func12, Try.ntmps12
  go_wp2_with fail
  go_ret
  exact ⟨by first | rfl | simp [hb2], bz⟩

set_option maxRecDepth 100000 in
set_option maxHeartbeats 16000000 in
theorem fits_any {w : World} {A VA : Option Addr} {n c m vc t : Nat} {R C p f rows others E : Int} {l v : List Int} {may : Bool} (h : FL w A n c l) (hv : FL w VA m vc v) (hmay : mayB R C n = may) (hE : fitC may m p f rows others = E) (hpb : -9223372036854775808 ≤ p ∧ p ≤ 9223372036854775807) (hfb : -9223372036854775808 ≤ f ∧ f ≤ 9223372036854775807) (hrows : mayB R C n = true → 0 ≤ rows ∧ rows ≤ 512) :
    Calls Try.prog 16 #[mV R C A n c, .int .i64 p, .int .i64 f, rV VA m vc t, .int .i64 rows, .int .i64 others] w (Ans w (.int .i64 E)) := by
  have hmx := hv.max
  have hn1 := h.max
  have pm := fun W => rMay_any (R := R) (C := C) (A := A) (n := n) (c := c) hn1 W
  have bz := ((Below.refl _ w).alloc (Nat.le_refl _) (.cells #[.int .i64 R, .int .i64 C, .slice A n c] 36)).alloc (by simp) (.cells #[.slice VA m vc, .float .f64 t] 26)
  have DH := Blk.new (w.alloc (.cells #[.int .i64 R, .int .i64 C, .slice A n c] 36)) [.slice VA m vc, .float .f64 t] 26
  rw [World.size_alloc] at DH
  have hE2 : (if fitG may m p f = true then (if (m : Int) ≤ rows - p ∧ f ≤ others then (0 : Int) else 8) else 2) = E := hE
  clear hE h hv
  rw [hmay] at pm
  cases may
  · have hG : fitG false m p f = false := rfl
    rw [hG, if_neg (by decide)] at hE2
    subst hE2
    clear hG hmay
    go_enter Try.func16, Try.ntmps16
    go_wp2_with fail
    with_reducible refine (pm _).mono ?_
    rintro e w1 ⟨rfl, hb⟩
    replace DH := DH.on hb
    replace bz := bz.trans (hb.mono bz.size)
    clear hb
    obtain ⟨u0, u1, _, _⟩ := Rbx.cells DH
    go_wp2_with fail
    go_ret
    exact ⟨rfl, bz⟩
  · have hmay2 := Lib.hid hmay
    clear hmay
    by_cases hm : m = 0
    · have hG : fitG true m p f = false := by unfold fitG; simp; omega
      rw [hG, if_neg (by decide)] at hE2
      subst hE2
      clear hG
      have hm2 : ((m : Int) == 0) = true := by simp; omega
      clear hm
      go_enter Try.func16, Try.ntmps16
      go_wp2_with fail
      with_reducible refine (pm _).mono ?_
      rintro e w1 ⟨rfl, hb⟩
      replace DH := DH.on hb
      replace bz := bz.trans (hb.mono bz.size)
      clear hb
      obtain ⟨u0, u1, _, _⟩ := Rbx.cells DH
      go_wp2_with fail
      go_ret
      exact ⟨rfl, bz⟩
    · have hm2 : ((m : Int) == 0) = false := by simp; omega
      by_cases hp : p < 0
      · have hG : fitG true m p f = false := by unfold fitG; simp; omega
        rw [hG, if_neg (by decide)] at hE2
        subst hE2
        clear hG hm
        go_enter Try.func16, Try.ntmps16
        go_wp2_with fail
        with_reducible refine (pm _).mono ?_
        rintro e w1 ⟨rfl, hb⟩
        replace DH := DH.on hb
        replace bz := bz.trans (hb.mono bz.size)
        clear hb
        obtain ⟨u0, u1, _, _⟩ := Rbx.cells DH
        go_wp2_with fail
        go_ret
        exact ⟨rfl, bz⟩
      · by_cases hf : f < 0
        · have hG : fitG true m p f = false := by unfold fitG; simp; omega
          rw [hG, if_neg (by decide)] at hE2
          subst hE2
          clear hG hm
          go_enter Try.func16, Try.ntmps16
          go_wp2_with fail
          with_reducible refine (pm _).mono ?_
          rintro e w1 ⟨rfl, hb⟩
          replace DH := DH.on hb
          replace bz := bz.trans (hb.mono bz.size)
          clear hb
          obtain ⟨u0, u1, _, _⟩ := Rbx.cells DH
          go_wp2_with fail
          go_ret
          exact ⟨rfl, bz⟩
        · have hG : fitG true m p f = true := by unfold fitG; simp; omega
          rw [hG, if_pos rfl] at hE2
          obtain ⟨r0, r1⟩ := hrows (hmay2.out)
          clear hG hm hmay2 hrows
          by_cases h1 : rows - m < p
          · rw [if_neg (by omega)] at hE2
            subst hE2
            go_enter Try.func16, Try.ntmps16
            go_wp2_with fail
            with_reducible refine (pm _).mono ?_
            rintro e w1 ⟨rfl, hb⟩
            replace DH := DH.on hb
            replace bz := bz.trans (hb.mono bz.size)
            clear hb
            obtain ⟨u0, u1, _, _⟩ := Rbx.cells DH
            go_wp2_with fail
            go_ret
            exact ⟨rfl, bz⟩
          · by_cases h2 : others < f
            · rw [if_neg (by omega)] at hE2
              subst hE2
              go_enter Try.func16, Try.ntmps16
              go_wp2_with fail
              with_reducible refine (pm _).mono ?_
              rintro e w1 ⟨rfl, hb⟩
              replace DH := DH.on hb
              replace bz := bz.trans (hb.mono bz.size)
              clear hb
              obtain ⟨u0, u1, _, _⟩ := Rbx.cells DH
              go_wp2_with fail
              go_ret
              exact ⟨rfl, bz⟩
            · rw [if_pos (by omega)] at hE2
              subst hE2
              go_enter Try.func16, Try.ntmps16
              go_wp2_with fail
              with_reducible refine (pm _).mono ?_
              rintro e w1 ⟨rfl, hb⟩
              replace DH := DH.on hb
              replace bz := bz.trans (hb.mono bz.size)
              clear hb
              obtain ⟨u0, u1, _, _⟩ := Rbx.cells DH
              go_wp2_with fail
              go_ret
              exact ⟨rfl, bz⟩


def lSp (R C : Int) (l v : List Int) (m t : Nat) (p f : Int) : Nat → Option Nat := tg (lP (eqA (af t) (some 0)) p.toNat m f.toNat (C.toNat - f.toNat)) (lF l v C.toNat p.toNat m (af t)) l C.toNat
def rSp (R C : Int) (l v : List Int) (m t : Nat) (p f : Int) : Nat → Option Nat := tg (rP (eqA (af t) (some 0)) p.toNat m f.toNat (R.toNat - f.toNat)) (rF l v C.toNat p.toNat m (af t)) l C.toNat
/-- a matrix, or none, and a code -/
def LR (w : World) (R C E : Int) (n : Nat) (F : Nat → Option Nat) (e : Ending) (w' : World) : Prop := ∃ (R' C' : Int) (A' : Option Addr) (n' c' : Nat) (L' : List Int), e = .returned (.tuple #[mV R' C' A' n' c', .int .i64 E]) ∧ FL w' A' n' c' L' ∧ (E = 0 → R' = R ∧ C' = C ∧ n' = n ∧ Is L' n F) ∧ (E ≠ 0 → R' = 0 ∧ C' = 0 ∧ A' = none ∧ n' = 0 ∧ c' = 0) ∧ Below w.heap.size w w'
theorem fit_yes {R C p f rows others : Int} {n m : Nat} (h : fitC (mayB R C n) m p f rows others = 0) : (0 ≤ R ∧ R ≤ 512 ∧ 0 ≤ C ∧ C ≤ 512 ∧ (n : Int) = R * C) ∧ 0 ≤ p ∧ 0 ≤ f ∧ 0 < m ∧ (m : Int) ≤ rows - p ∧ f ≤ others := by
  unfold fitC at h
  by_cases hG : fitG (mayB R C n) m p f = true
  · rw [if_pos hG] at h
    unfold fitG at hG
    simp only [Bool.and_eq_true, decide_eq_true_eq] at hG
    obtain ⟨⟨⟨g0, g1⟩, g2⟩, g3⟩ := hG
    have g4 := of_decide_eq_true g0
    by_cases h9 : (m : Int) ≤ rows - p ∧ f ≤ others
    · exact ⟨g4, g1, g2, g3, h9.1, h9.2⟩
    · rw [if_neg h9] at h; cases h
  · rw [if_neg hG] at h; cases h
theorem nat_mul {R C : Int} {n M q : Nat} (hR : R = M) (hC : C = q) (h : (n : Int) = R * C) : n = M * q := by
  rw [hR, hC, ← Int.natCast_mul] at h
  exact Int.ofNat.inj h
theorem blk_lt {w : World} {A : Option Addr} {n c : Nat} {l : List Int} (h : FL w A n c l) (hn : 0 < n) : ∀ a, A = some a → a.block < w.heap.size := fun a e => by
  obtain ⟨ad, e2, hb, _⟩ := h.at_ hn
  rw [e] at e2
  injection e2 with e2
  rw [e2]; exact hb
section
variable {w : World} {A VA : Option Addr} {n c m vc t : Nat} {R C p f E : Int} {l v : List Int}
theorem gLeft_any (h : FL w A n c l) (hv : FL w VA m vc v) (ht : t ≤ 18446744073709551615) (hE : fitC (mayB R C n) m p f R C = E) (hpb : -9223372036854775808 ≤ p ∧ p ≤ 9223372036854775807) (hfb : -9223372036854775808 ≤ f ∧ f ≤ 9223372036854775807) :
    Calls Try.prog 14 #[mV R C A n c, .int .i64 p, .int .i64 f, rV VA m vc t] w (LR w R C E n (lSp R C l v m t p f)) := by
  by_cases h0 : E = 0
  · subst h0
    obtain ⟨⟨R0, R1, C0, C1, hn⟩, p0, f0, m0, hp, hf⟩ := fit_yes hE
    obtain ⟨M, rfl⟩ := Int.eq_ofNat_of_zero_le R0
    obtain ⟨q, rfl⟩ := Int.eq_ofNat_of_zero_le C0
    obtain ⟨p, rfl⟩ := Int.eq_ofNat_of_zero_le p0
    obtain ⟨f, rfl⟩ := Int.eq_ofNat_of_zero_le f0
    refine (gLeft_yes (M := M) (q := q) (p := p) (f := f) h hv ht (by omega) (by omega) (nat_mul rfl rfl hn) m0 (by omega) (by omega) (blk_lt hv m0)).mono ?_
    rintro e w' ⟨g, cap, L, rfl, hO, hI, hb⟩
    have hF := hO.fl hI.wd
    rw [hI.len] at hF
    exact ⟨M, q, _, n, cap, L, rfl, hF, fun _ => ⟨rfl, rfl, rfl, hI⟩, fun h9 => absurd rfl h9, hb⟩
  · refine (gLeft_no h hv ht hE h0 hpb hfb).mono ?_
    rintro e w' ⟨rfl, hb⟩
    exact ⟨0, 0, none, 0, 0, [], rfl, FL.nil _, fun h9 => absurd h9 h0, fun _ => ⟨rfl, rfl, rfl, rfl, rfl⟩, hb⟩
theorem gRight_any (h : FL w A n c l) (hv : FL w VA m vc v) (ht : t ≤ 18446744073709551615) (hE : fitC (mayB R C n) m p f C R = E) (hpb : -9223372036854775808 ≤ p ∧ p ≤ 9223372036854775807) (hfb : -9223372036854775808 ≤ f ∧ f ≤ 9223372036854775807) :
    Calls Try.prog 15 #[mV R C A n c, .int .i64 p, .int .i64 f, rV VA m vc t] w (LR w R C E n (rSp R C l v m t p f)) := by
  by_cases h0 : E = 0
  · subst h0
    obtain ⟨⟨R0, R1, C0, C1, hn⟩, p0, f0, m0, hp, hf⟩ := fit_yes hE
    obtain ⟨M, rfl⟩ := Int.eq_ofNat_of_zero_le R0
    obtain ⟨q, rfl⟩ := Int.eq_ofNat_of_zero_le C0
    obtain ⟨p, rfl⟩ := Int.eq_ofNat_of_zero_le p0
    obtain ⟨f, rfl⟩ := Int.eq_ofNat_of_zero_le f0
    refine (gRight_yes (M := M) (q := q) (p := p) (f := f) h hv ht (by omega) (by omega) (nat_mul rfl rfl hn) m0 (by omega) (by omega) (blk_lt hv m0)).mono ?_
    rintro e w' ⟨g, cap, L, rfl, hO, hI, hb⟩
    have hF := hO.fl hI.wd
    rw [hI.len] at hF
    exact ⟨M, q, _, n, cap, L, rfl, hF, fun _ => ⟨rfl, rfl, rfl, hI⟩, fun h9 => absurd rfl h9, hb⟩
  · refine (gRight_no h hv ht hE h0 hpb hfb).mono ?_
    rintro e w' ⟨rfl, hb⟩
    exact ⟨0, 0, none, 0, 0, [], rfl, FL.nil _, fun h9 => absurd h9 h0, fun _ => ⟨rfl, rfl, rfl, rfl, rfl⟩, hb⟩
theorem rLeft_int (h : FL w A n c l) (hv : FL w VA m vc v) (ht : t ≤ 18446744073709551615) (hE : fitC (mayB R C n) m p f R C = 0) :
    Calls Try.prog 18 #[mV R C A n c, .int .i64 p, .int .i64 f, rV VA m vc t] w (MatQ w R C n (lSp R C l v m t p f)) := by
  obtain ⟨⟨R0, R1, C0, C1, hn⟩, p0, f0, m0, hp, hf⟩ := fit_yes hE
  obtain ⟨M, rfl⟩ := Int.eq_ofNat_of_zero_le R0
  obtain ⟨q, rfl⟩ := Int.eq_ofNat_of_zero_le C0
  obtain ⟨p, rfl⟩ := Int.eq_ofNat_of_zero_le p0
  obtain ⟨f, rfl⟩ := Int.eq_ofNat_of_zero_le f0
  exact rLeft_any (M := M) (q := q) (p := p) (f := f) h hv ht (by omega) (by omega) (nat_mul rfl rfl hn) m0 (by omega) (by omega) (blk_lt hv m0) (fun h0 => blk_lt h h0)
theorem rRight_int (h : FL w A n c l) (hv : FL w VA m vc v) (ht : t ≤ 18446744073709551615) (hE : fitC (mayB R C n) m p f C R = 0) :
    Calls Try.prog 19 #[mV R C A n c, .int .i64 p, .int .i64 f, rV VA m vc t] w (MatQ w R C n (rSp R C l v m t p f)) := by
  obtain ⟨⟨R0, R1, C0, C1, hn⟩, p0, f0, m0, hp, hf⟩ := fit_yes hE
  obtain ⟨M, rfl⟩ := Int.eq_ofNat_of_zero_le R0
  obtain ⟨q, rfl⟩ := Int.eq_ofNat_of_zero_le C0
  obtain ⟨p, rfl⟩ := Int.eq_ofNat_of_zero_le p0
  obtain ⟨f, rfl⟩ := Int.eq_ofNat_of_zero_le f0
  exact rRight_any (M := M) (q := q) (p := p) (f := f) h hv ht (by omega) (by omega) (nat_mul rfl rfl hn) m0 (by omega) (by omega) (blk_lt hv m0) (fun h0 => blk_lt h h0)
end

set_option maxRecDepth 100000 in
set_option maxHeartbeats 16000000 in
theorem law_turns {w : World} {A VA : Option Addr} {n c m vc t : Nat} {R C p f : Int} {l v : List Int} (h : FL w A n c l) (hv : FL w VA m vc v) (ht : t ≤ 18446744073709551615) (hpb : -9223372036854775808 ≤ p ∧ p ≤ 9223372036854775807) (hfb : -9223372036854775808 ≤ f ∧ f ≤ 9223372036854775807) :
    Calls Try.prog 4 #[mV R C A n c, .int .i64 p, .int .i64 f, rV VA m vc t] w (RTrue w) := by
  have hmx := hv.max
  have hn1 := h.max
  have pf := fun (W : World) (hh : FL W A n c l) => few_any (R := R) (C := C) hh
  have bz := ((Below.refl _ w).alloc (Nat.le_refl _) (.cells #[.int .i64 R, .int .i64 C, .slice A n c] 36)).alloc (by simp) (.cells #[.slice VA m vc, .float .f64 t] 26)
  have DM := (Blk.new w [.int .i64 R, .int .i64 C, .slice A n c] 36).alloc (.cells #[.slice VA m vc, .float .f64 t] 26)
  have DH := Blk.new (w.alloc (.cells #[.int .i64 R, .int .i64 C, .slice A n c] 36)) [.slice VA m vc, .float .f64 t] 26
  rw [World.size_alloc] at DH
  replace h := h.on bz
  replace hv := hv.on bz
  obtain ⟨y0, y1, y2, y3, y4, y5⟩ := Mbx.cells DM
  by_cases hbig : ¬ n ≤ 400
  · rw [decide_eq_false hbig] at pf
    go_enter Try.func4, Try.ntmps4
    go_wp2_with fail
    with_reducible refine (pf _ h).mono ?_
    rintro e w1 ⟨rfl, hb⟩
    clear y0 y1 y2 y3 y4 y5
    replace h := h.on hb
    replace hv := hv.on hb
    replace DM := DM.on hb
    replace DH := DH.on hb
    replace bz := bz.trans (hb.mono bz.size)
    clear hb
    obtain ⟨u0, u1, u2, u3⟩ := Rbx.cells DH
    go_wp2_with fail
    with_reducible refine (known_any _).mono ?_
    rintro e w2 ⟨rfl, hb⟩
    replace h := h.on hb
    replace hv := hv.on hb
    replace DM := DM.on hb
    replace DH := DH.on hb
    replace bz := bz.trans (hb.mono bz.size)
    clear hb
    go_wp2_with fail
    go_ret
    exact ⟨rfl, bz⟩
  · replace hbig := Decidable.not_not.1 hbig
    rw [decide_eq_true hbig] at pf
    by_cases hm6 : 600 < m
    · have hm7 : (600 : Int) < m := by omega
      go_enter Try.func4, Try.ntmps4
      go_wp2_with fail
      with_reducible refine (pf _ h).mono ?_
      rintro e w1 ⟨rfl, hb⟩
      clear y0 y1 y2 y3 y4 y5
      replace h := h.on hb
      replace hv := hv.on hb
      replace DM := DM.on hb
      replace DH := DH.on hb
      replace bz := bz.trans (hb.mono bz.size)
      clear hb
      obtain ⟨u0, u1, u2, u3⟩ := Rbx.cells DH
      go_wp2_with fail
      with_reducible refine (known_any _).mono ?_
      rintro e w2 ⟨rfl, hb⟩
      replace h := h.on hb
      replace hv := hv.on hb
      replace DM := DM.on hb
      replace DH := DH.on hb
      replace bz := bz.trans (hb.mono bz.size)
      clear hb
      go_wp2_with fail
      go_ret
      exact ⟨rfl, bz⟩
    · have hm7 : ¬ (600 : Int) < m := by omega
      have hrR : mayB R C n = true → 0 ≤ R ∧ R ≤ 512 := fun h9 => by have := of_decide_eq_true h9; omega
      have hrC : mayB R C n = true → 0 ≤ C ∧ C ≤ 512 := fun h9 => by have := of_decide_eq_true h9; omega
      obtain ⟨E1, hE1⟩ : ∃ E1, fitC (mayB R C n) m p f R C = E1 := ⟨_, rfl⟩
      obtain ⟨E2, hE2⟩ : ∃ E2, fitC (mayB R C n) m p f C R = E2 := ⟨_, rfl⟩
      have HE1 := Lib.hid hE1
      have HE2 := Lib.hid hE2
      clear hE1 hE2
      have HrR := Lib.hid hrR
      have HrC := Lib.hid hrC
      clear hrR hrC
      have hll := Lib.hid h.1
      go_enter Try.func4, Try.ntmps4
      go_wp2_with fail
      with_reducible refine (pf _ h).mono ?_
      rintro e w1 ⟨rfl, hb⟩
      clear y0 y1 y2 y3 y4 y5
      replace h := h.on hb
      replace hv := hv.on hb
      replace DM := DM.on hb
      replace DH := DH.on hb
      replace bz := bz.trans (hb.mono bz.size)
      clear hb
      obtain ⟨y0, y1, y2, y3, y4, y5⟩ := Mbx.cells DM
      obtain ⟨u0, u1, u2, u3⟩ := Rbx.cells DH
      have pcp := rCopy_any (R := R) (C := C) h (by omega)
      go_wp2_with fail
      with_reducible refine (pcp).mono ?_
      rintro e w2 ⟨KA, kc, rfl, hKO, hb, _⟩
      clear y0 y1 y2 y3 y4 y5 u0 u1 u2 u3 pcp
      replace h := h.on hb
      replace hv := hv.on hb
      replace DM := DM.on hb
      replace DH := DH.on hb
      replace bz := bz.trans (hb.mono bz.size)
      clear hb
      have FK := hKO.fl h.2.2
      rw [hll.out] at FK
      clear hKO
      have DK := Blk.new w2 [.int .i64 R, .int .i64 C, .slice KA n kc] 36
      have hbA := (Below.refl _ w2).alloc (Nat.le_refl _) (.cells #[.int .i64 R, .int .i64 C, .slice KA n kc] 36)
      replace h := h.on hbA
      replace hv := hv.on hbA
      replace DM := DM.on hbA
      replace DH := DH.on hbA
      replace FK := FK.on hbA
      clear hbA
      replace bz := bz.alloc bz.size (.cells #[.int .i64 R, .int .i64 C, .slice KA n kc] 36)
      obtain ⟨y0, y1, y2, y3, y4, y5⟩ := Mbx.cells DM
      obtain ⟨u0, u1, u2, u3⟩ := Rbx.cells DH
      have pl := gLeft_any (p := p) (f := f) h hv ht HE1.out hpb hfb
      go_wp2_with fail
      with_reducible refine (pl).mono ?_
      rintro e w3 ⟨XR, XC, XA, xn, xc, xl, rfl, FX, hX0, hX1, hb⟩
      clear y0 y1 y2 y3 y4 y5 u0 u1 u2 u3 pl
      replace h := h.on hb
      replace hv := hv.on hb
      replace DM := DM.on hb
      replace DH := DH.on hb
      replace FK := FK.on hb
      replace DK := DK.on hb
      replace bz := bz.trans (hb.mono bz.size)
      clear hb
      have HX0 := Lib.hid hX0
      have HX1 := Lib.hid hX1
      clear hX0 hX1
      have DX := Blk.new w3 [.int .i64 XR, .int .i64 XC, .slice XA xn xc] 36
      have hbA := (Below.refl _ w3).alloc (Nat.le_refl _) (.cells #[.int .i64 XR, .int .i64 XC, .slice XA xn xc] 36)
      replace h := h.on hbA
      replace hv := hv.on hbA
      replace DM := DM.on hbA
      replace DH := DH.on hbA
      replace FK := FK.on hbA
      replace DK := DK.on hbA
      replace FX := FX.on hbA
      clear hbA
      replace bz := bz.alloc bz.size (.cells #[.int .i64 XR, .int .i64 XC, .slice XA xn xc] 36)
      obtain ⟨y0, y1, y2, y3, y4, y5⟩ := Mbx.cells DM
      obtain ⟨u0, u1, u2, u3⟩ := Rbx.cells DH
      have pr := gRight_any (p := p) (f := f) h hv ht HE2.out hpb hfb
      go_wp2_with fail
      with_reducible refine (pr).mono ?_
      rintro e w4 ⟨YR, YC, YA, yn, yc, yl, rfl, FY, hY0, hY1, hb⟩
      clear y0 y1 y2 y3 y4 y5 u0 u1 u2 u3 pr
      replace h := h.on hb
      replace hv := hv.on hb
      replace DM := DM.on hb
      replace DH := DH.on hb
      replace FK := FK.on hb
      replace DK := DK.on hb
      replace FX := FX.on hb
      replace DX := DX.on hb
      replace bz := bz.trans (hb.mono bz.size)
      clear hb
      have HY0 := Lib.hid hY0
      have HY1 := Lib.hid hY1
      clear hY0 hY1
      have DY := Blk.new w4 [.int .i64 YR, .int .i64 YC, .slice YA yn yc] 36
      have hbA := (Below.refl _ w4).alloc (Nat.le_refl _) (.cells #[.int .i64 YR, .int .i64 YC, .slice YA yn yc] 36)
      replace h := h.on hbA
      replace hv := hv.on hbA
      replace DM := DM.on hbA
      replace DH := DH.on hbA
      replace FK := FK.on hbA
      replace DK := DK.on hbA
      replace FX := FX.on hbA
      replace DX := DX.on hbA
      replace FY := FY.on hbA
      clear hbA
      replace bz := bz.alloc bz.size (.cells #[.int .i64 YR, .int .i64 YC, .slice YA yn yc] 36)
      obtain ⟨kk, hkk⟩ : ∃ k, w2.heap.size = k := ⟨_, rfl⟩
      obtain ⟨kx, hkx⟩ : ∃ k, w3.heap.size = k := ⟨_, rfl⟩
      obtain ⟨ky, hky⟩ : ∃ k, w4.heap.size = k := ⟨_, rfl⟩
      rw [hkk] at DK
      rw [hkx] at DX
      rw [hky] at DY
      go_wp2_with fail
      clear hkk hkx hky
      replace h := h.drew
      replace hv := hv.drew
      replace DM := DM.drew
      replace DH := DH.drew
      replace FK := FK.drew
      replace DK := DK.drew
      replace FX := FX.drew
      replace DX := DX.drew
      replace FY := FY.drew
      replace DY := DY.drew
      replace bz := bz.drew
      refine wp_region_held_drew (S := fun w9 : World => Mbx w9 w.heap.size R C A n c ∧ Rbx w9 (w.heap.size + 1) VA m vc t) (by kernel_rfl) ⟨DM, DH⟩ (fun hS => ?_)
      generalize (w4.alloc (.cells #[.int .i64 YR, .int .i64 YC, .slice YA yn yc] 36)).drew = wl at hS h hv DM DH FK DK FX DX FY DY  bz ⊢
      refine wpAnyH_take (i := 0) (v := ?v0_1) rfl (by kernel_rfl) (by kernel_rfl) (by kernel_rfl) (fun _ _ _ h => h) (Or.inl ⟨by rfl, ?hy0_1⟩) (by assumption) ?rest0_1
      case hy0_1 => (intro w9 hSw; obtain ⟨ma1, ma2⟩ := hSw; obtain ⟨y0, y1, y2, _, _, _⟩ := Mbx.cells ma1; obtain ⟨u0, u1, _, _⟩ := Rbx.cells ma2; go_simp; try with_reducible rfl)
      try simp only [Act.put, List.setIfInBounds_toArray, List.set_cons_zero, List.set_cons_succ, List.getElem_toArray, List.getElem_cons_zero, List.getElem_cons_succ]
      refine wpAnyH_take (i := 1) (v := ?v1_2) rfl (by kernel_rfl) (by kernel_rfl) (by kernel_rfl) (fun _ _ _ h => h) (Or.inl ⟨by rfl, ?hy1_2⟩) (by assumption) ?rest1_2
      case hy1_2 => (intro w9 hSw; clear hSw; go_simp; try with_reducible rfl)
      try simp only [Act.put, List.setIfInBounds_toArray, List.set_cons_zero, List.set_cons_succ, List.getElem_toArray, List.getElem_cons_zero, List.getElem_cons_succ]
      refine wpAnyH_take (i := 2) (v := ?v2_3) rfl (by kernel_rfl) (by kernel_rfl) (by kernel_rfl) (fun _ _ _ h => h) (Or.inl ⟨by rfl, ?hy2_3⟩) (by assumption) ?rest2_3
      case hy2_3 => (intro w9 hSw; clear hSw; go_simp; try with_reducible rfl)
      try simp only [Act.put, List.setIfInBounds_toArray, List.set_cons_zero, List.set_cons_succ, List.getElem_toArray, List.getElem_cons_zero, List.getElem_cons_succ]
      refine wpAnyH_take (i := 3) (v := ?v3_4) rfl (by kernel_rfl) (by kernel_rfl) (by kernel_rfl) (fun _ _ _ h => h) (Or.inl ⟨by rfl, ?hy3_4⟩) (by assumption) ?rest3_4
      case hy3_4 => (intro w9 hSw; obtain ⟨ma1, ma2⟩ := hSw; obtain ⟨y0, y1, y2, _, _, _⟩ := Mbx.cells ma1; obtain ⟨u0, u1, _, _⟩ := Rbx.cells ma2; go_simp; try with_reducible rfl)
      try simp only [Act.put, List.setIfInBounds_toArray, List.set_cons_zero, List.set_cons_succ, List.getElem_toArray, List.getElem_cons_zero, List.getElem_cons_succ]
      refine wpAnyH_take (i := 4) (v := ?v4_5) rfl (by kernel_rfl) (by kernel_rfl) (by kernel_rfl) (fun _ _ _ h => h) (Or.inl ⟨by rfl, ?hy4_5⟩) (by assumption) ?rest4_5
      case hy4_5 => (intro w9 hSw; clear hSw; go_simp; try with_reducible rfl)
      try simp only [Act.put, List.setIfInBounds_toArray, List.set_cons_zero, List.set_cons_succ, List.getElem_toArray, List.getElem_cons_zero, List.getElem_cons_succ]
      refine wpAnyH_take (i := 5) (v := ?v5_6) rfl (by kernel_rfl) (by kernel_rfl) (by kernel_rfl) (fun _ _ _ h => h) (Or.inl ⟨by rfl, ?hy5_6⟩) (by assumption) ?rest5_6
      case hy5_6 => (intro w9 hSw; obtain ⟨ma1, ma2⟩ := hSw; obtain ⟨y0, y1, y2, _, _, _⟩ := Mbx.cells ma1; obtain ⟨u0, u1, _, _⟩ := Rbx.cells ma2; go_simp; try with_reducible rfl)
      try simp only [Act.put, List.setIfInBounds_toArray, List.set_cons_zero, List.set_cons_succ, List.getElem_toArray, List.getElem_cons_zero, List.getElem_cons_succ]
      refine wpAnyH_take (i := 6) (v := ?v6_7) rfl (by kernel_rfl) (by kernel_rfl) (by kernel_rfl) (fun _ _ _ h => h) (Or.inl ⟨by rfl, ?hy6_7⟩) (by assumption) ?rest6_7
      case hy6_7 => (intro w9 hSw; clear hSw; go_simp; try with_reducible rfl)
      try simp only [Act.put, List.setIfInBounds_toArray, List.set_cons_zero, List.set_cons_succ, List.getElem_toArray, List.getElem_cons_zero, List.getElem_cons_succ]
      refine wpAnyH_take (i := 7) (v := ?v7_8) rfl (by kernel_rfl) (by kernel_rfl) (by kernel_rfl) (fun _ _ _ h => h) (Or.inl ⟨by rfl, ?hy7_8⟩) (by assumption) ?rest7_8
      case hy7_8 => (intro w9 hSw; obtain ⟨ma1, ma2⟩ := hSw; obtain ⟨y0, y1, y2, _, _, _⟩ := Mbx.cells ma1; obtain ⟨u0, u1, _, _⟩ := Rbx.cells ma2; go_simp; try with_reducible rfl)
      try simp only [Act.put, List.setIfInBounds_toArray, List.set_cons_zero, List.set_cons_succ, List.getElem_toArray, List.getElem_cons_zero, List.getElem_cons_succ]
      refine wpAnyH_take (i := 9) (v := ?v9_9) rfl (by kernel_rfl) (by kernel_rfl) (by kernel_rfl) (fun _ _ _ h => h) (Or.inl ⟨by rfl, ?hy9_9⟩) (by assumption) ?rest9_9
      case hy9_9 => (intro w9 hSw; obtain ⟨ma1, ma2⟩ := hSw; obtain ⟨y0, y1, y2, _, _, _⟩ := Mbx.cells ma1; obtain ⟨u0, u1, _, _⟩ := Rbx.cells ma2; go_simp; try with_reducible rfl)
      try simp only [Act.put, List.setIfInBounds_toArray, List.set_cons_zero, List.set_cons_succ, List.getElem_toArray, List.getElem_cons_zero, List.getElem_cons_succ]
      refine wpAnyH_take (i := 10) (v := ?v10_10) rfl (by kernel_rfl) (by kernel_rfl) (by kernel_rfl) (fun _ _ _ h => h) (Or.inl ⟨by rfl, ?hy10_10⟩) (by assumption) ?rest10_10
      case hy10_10 => (intro w9 hSw; clear hSw; go_simp; try with_reducible rfl)
      try simp only [Act.put, List.setIfInBounds_toArray, List.set_cons_zero, List.set_cons_succ, List.getElem_toArray, List.getElem_cons_zero, List.getElem_cons_succ]
      refine wpAnyH_take (i := 11) (v := ?v11_11) rfl (by kernel_rfl) (by kernel_rfl) (by kernel_rfl) (fun _ _ _ h => h) (Or.inl ⟨by rfl, ?hy11_11⟩) (by assumption) ?rest11_11
      case hy11_11 => (intro w9 hSw; clear hSw; go_simp; try with_reducible rfl)
      try simp only [Act.put, List.setIfInBounds_toArray, List.set_cons_zero, List.set_cons_succ, List.getElem_toArray, List.getElem_cons_zero, List.getElem_cons_succ]
      refine wpAnyH_take (i := 12) (v := ?v12_12) rfl (by kernel_rfl) (by kernel_rfl) (by kernel_rfl) (fun _ _ _ h => h) (Or.inl ⟨by rfl, ?hy12_12⟩) (by assumption) ?rest12_12
      case hy12_12 => (intro w9 hSw; obtain ⟨ma1, ma2⟩ := hSw; obtain ⟨y0, y1, y2, _, _, _⟩ := Mbx.cells ma1; obtain ⟨u0, u1, _, _⟩ := Rbx.cells ma2; go_simp; try with_reducible rfl)
      try simp only [Act.put, List.setIfInBounds_toArray, List.set_cons_zero, List.set_cons_succ, List.getElem_toArray, List.getElem_cons_zero, List.getElem_cons_succ]
      refine wpAnyH_take (i := 13) (v := ?v13_13) rfl (by kernel_rfl) (by kernel_rfl) (by kernel_rfl) (fun _ _ _ h => h) (Or.inl ⟨by rfl, ?hy13_13⟩) (by assumption) ?rest13_13
      case hy13_13 => (intro w9 hSw; clear hSw; go_simp; try with_reducible rfl)
      try simp only [Act.put, List.setIfInBounds_toArray, List.set_cons_zero, List.set_cons_succ, List.getElem_toArray, List.getElem_cons_zero, List.getElem_cons_succ]
      refine wpAnyH_take (i := 14) (v := ?v14_14) rfl (by kernel_rfl) (by kernel_rfl) (by kernel_rfl) (fun _ _ _ h => h) (Or.inl ⟨by rfl, ?hy14_14⟩) (by assumption) ?rest14_14
      case hy14_14 => (intro w9 hSw; obtain ⟨ma1, ma2⟩ := hSw; obtain ⟨y0, y1, y2, _, _, _⟩ := Mbx.cells ma1; obtain ⟨u0, u1, _, _⟩ := Rbx.cells ma2; go_simp; try with_reducible rfl)
      try simp only [Act.put, List.setIfInBounds_toArray, List.set_cons_zero, List.set_cons_succ, List.getElem_toArray, List.getElem_cons_zero, List.getElem_cons_succ]
      refine wpAnyH_take (i := 15) (v := ?v15_15) rfl (by kernel_rfl) (by kernel_rfl) (by kernel_rfl) (fun _ _ _ h => h) (Or.inl ⟨by rfl, ?hy15_15⟩) (by assumption) ?rest15_15
      case hy15_15 => (intro w9 hSw; clear hSw; go_simp; try with_reducible rfl)
      try simp only [Act.put, List.setIfInBounds_toArray, List.set_cons_zero, List.set_cons_succ, List.getElem_toArray, List.getElem_cons_zero, List.getElem_cons_succ]
      refine wpAnyH_take (i := 16) (v := ?v16_16) rfl (by kernel_rfl) (by kernel_rfl) (by kernel_rfl) (fun _ _ _ h => h) (Or.inl ⟨by rfl, ?hy16_16⟩) (by assumption) ?rest16_16
      case hy16_16 => (intro w9 hSw; obtain ⟨ma1, ma2⟩ := hSw; obtain ⟨y0, y1, y2, _, _, _⟩ := Mbx.cells ma1; obtain ⟨u0, u1, _, _⟩ := Rbx.cells ma2; go_simp; try with_reducible rfl)
      try simp only [Act.put, List.setIfInBounds_toArray, List.set_cons_zero, List.set_cons_succ, List.getElem_toArray, List.getElem_cons_zero, List.getElem_cons_succ]
      refine wpAnyH_ready (rs := [8]) (by kernel_rfl) (by simp) ?_
      refine AllReadyH.cons rfl (fun K hK => ?_) AllReadyH.nil
      go_simp
      with_reducible refine (fits_any h hv rfl HE1.out hpb hfb HrR.out).mono ?_
      rintro e w5 ⟨rfl, hb⟩
      replace h := h.on hb
      replace hv := hv.on hb
      replace DM := DM.on hb
      replace DH := DH.on hb
      replace FK := FK.on hb
      replace DK := DK.on hb
      replace FX := FX.on hb
      replace DX := DX.on hb
      replace FY := FY.on hb
      replace DY := DY.on hb
      replace bz := bz.trans (hb.mono bz.size)
      clear hb
      clear hS; refine hK.out _ _ ⟨DM, DH⟩ (fun hS => ?_); clear hK K
      try simp only [Act.put, List.setIfInBounds_toArray, List.set_cons_zero, List.set_cons_succ, List.getElem_toArray, List.getElem_cons_zero, List.getElem_cons_succ]
      refine wpAnyH_ready (rs := [17]) (by kernel_rfl) (by simp) ?_
      refine AllReadyH.cons rfl (fun K hK => ?_) AllReadyH.nil
      go_simp
      with_reducible refine (fits_any h hv rfl HE2.out hpb hfb HrC.out).mono ?_
      rintro e w6 ⟨rfl, hb⟩
      replace h := h.on hb
      replace hv := hv.on hb
      replace DM := DM.on hb
      replace DH := DH.on hb
      replace FK := FK.on hb
      replace DK := DK.on hb
      replace FX := FX.on hb
      replace DX := DX.on hb
      replace FY := FY.on hb
      replace DY := DY.on hb
      replace bz := bz.trans (hb.mono bz.size)
      clear hb
      clear hS; refine hK.out _ _ ⟨DM, DH⟩ (fun hS => ?_); clear hK K
      try simp only [Act.put, List.setIfInBounds_toArray, List.set_cons_zero, List.set_cons_succ, List.getElem_toArray, List.getElem_cons_zero, List.getElem_cons_succ]
      refine wpAnyH_take (i := 18) (v := ?v18_17) rfl (by kernel_rfl) (by kernel_rfl) (by kernel_rfl) (fun _ _ _ h => h) (Or.inl ⟨by rfl, ?hy18_17⟩) (by assumption) ?rest18_17
      case hy18_17 => (intro w9 hSw; clear hSw; go_simp; try with_reducible rfl)
      try simp only [Act.put, List.setIfInBounds_toArray, List.set_cons_zero, List.set_cons_succ, List.getElem_toArray, List.getElem_cons_zero, List.getElem_cons_succ]
      refine wpAnyH_take (i := 19) (v := ?v19_18) rfl (by kernel_rfl) (by kernel_rfl) (by kernel_rfl) (fun _ _ _ h => h) (Or.inl ⟨by rfl, ?hy19_18⟩) (by assumption) ?rest19_18
      case hy19_18 => (intro w9 hSw; clear hSw; go_simp; try with_reducible rfl)
      try simp only [Act.put, List.setIfInBounds_toArray, List.set_cons_zero, List.set_cons_succ, List.getElem_toArray, List.getElem_cons_zero, List.getElem_cons_succ]
      refine wpAnyH_done (by kernel_rfl) ?_ _
      have psm := rSameM_any (R := R) (C := C) h FK (fun k hk => rfl)
      obtain ⟨y0, y1, y2, y3, y4, y5⟩ := Mbx.cells DM
      obtain ⟨u0, u1, u2, u3⟩ := Rbx.cells DH
      obtain ⟨k0, k1, k2, _, _, _⟩ := Mbx.cells DK
      go_wp2_with fail
      with_reducible refine (psm).mono ?_
      rintro e w7 ⟨rfl, hb⟩
      clear y0 y1 y2 y3 y4 y5 u0 u1 u2 u3 k0 k1 k2 psm
      replace h := h.on hb
      replace hv := hv.on hb
      replace DM := DM.on hb
      replace DH := DH.on hb
      replace FK := FK.on hb
      replace DK := DK.on hb
      replace FX := FX.on hb
      replace DX := DX.on hb
      replace FY := FY.on hb
      replace DY := DY.on hb
      replace bz := bz.trans (hb.mono bz.size)
      clear hb
      go_upto_region 9 with fail
      go_cut [97] from 98 (fun s97 wx => s97 = .bool false ∧ Mbx wx w.heap.size R C A n c ∧ Rbx wx (w.heap.size + 1) VA m vc t ∧ Mbx wx ky YR YC YA yn yc ∧ FL wx A n c l ∧ FL wx VA m vc v ∧ FL wx YA yn yc yl ∧ Below w.heap.size w wx)
      case first =>
        replace h := h.drew
        replace hv := hv.drew
        replace DM := DM.drew
        replace DH := DH.drew
        replace FK := FK.drew
        replace DK := DK.drew
        replace FX := FX.drew
        replace DX := DX.drew
        replace FY := FY.drew
        replace DY := DY.drew
        replace bz := bz.drew
        by_cases e0 : E1 = 0
        · subst e0
          obtain ⟨q1, q2, q3, hI⟩ := HX0.out rfl
          replace q1 := q1.symm
          replace q2 := q2.symm
          replace q3 := q3.symm
          subst q1
          subst q2
          subst q3
          refine wp_region_held_drew (S := fun w9 : World => Mbx w9 w.heap.size R C A n c ∧ Rbx w9 (w.heap.size + 1) VA m vc t ∧ Mbx w9 kx R C XA n xc) (by kernel_rfl) ⟨DM, DH, DX⟩ (fun hS => ?_)
          refine wpAnyH_take (i := 0) (v := ?v0_19) rfl (by kernel_rfl) (by kernel_rfl) (by kernel_rfl) (fun _ _ _ h => h) (Or.inl ⟨by rfl, ?hy0_19⟩) (by assumption) ?rest0_19
          case hy0_19 => (intro w9 hSw; clear hSw; go_simp; try with_reducible rfl)
          try simp only [Act.put, List.setIfInBounds_toArray, List.set_cons_zero, List.set_cons_succ, List.getElem_toArray, List.getElem_cons_zero, List.getElem_cons_succ]
          refine wpAnyH_take (i := 1) (v := ?v1_20) rfl (by kernel_rfl) (by kernel_rfl) (by kernel_rfl) (fun _ _ _ h => h) (Or.inl ⟨by rfl, ?hy1_20⟩) (by assumption) ?rest1_20
          case hy1_20 => (intro w9 hSw; clear hSw; go_simp; try with_reducible rfl)
          try simp only [Act.put, List.setIfInBounds_toArray, List.set_cons_zero, List.set_cons_succ, List.getElem_toArray, List.getElem_cons_zero, List.getElem_cons_succ]
          refine wpAnyH_take (i := 2) (v := ?v2_21) rfl (by kernel_rfl) (by kernel_rfl) (by kernel_rfl) (fun _ _ _ h => h) (Or.inl ⟨by rfl, ?hy2_21⟩) (by assumption) ?rest2_21
          case hy2_21 => (intro w9 hSw; clear hSw; go_simp; try with_reducible rfl)
          try simp only [Act.put, List.setIfInBounds_toArray, List.set_cons_zero, List.set_cons_succ, List.getElem_toArray, List.getElem_cons_zero, List.getElem_cons_succ]
          refine wpAnyH_take (i := 3) (v := ?v3_22) rfl (by kernel_rfl) (by kernel_rfl) (by kernel_rfl) (fun _ _ _ h => h) (Or.inl ⟨by rfl, ?hy3_22⟩) (by assumption) ?rest3_22
          case hy3_22 => (intro w9 hSw; obtain ⟨ma1, ma2, ma3⟩ := hSw; obtain ⟨y0, y1, y2, _, _, _⟩ := Mbx.cells ma1; obtain ⟨u0, u1, _, _⟩ := Rbx.cells ma2; obtain ⟨v0, v1, v2, _, _, _⟩ := Mbx.cells ma3; go_simp; try with_reducible rfl)
          try simp only [Act.put, List.setIfInBounds_toArray, List.set_cons_zero, List.set_cons_succ, List.getElem_toArray, List.getElem_cons_zero, List.getElem_cons_succ]
          refine wpAnyH_take (i := 4) (v := ?v4_23) rfl (by kernel_rfl) (by kernel_rfl) (by kernel_rfl) (fun _ _ _ h => h) (Or.inl ⟨by rfl, ?hy4_23⟩) (by assumption) ?rest4_23
          case hy4_23 => (intro w9 hSw; obtain ⟨ma1, ma2, ma3⟩ := hSw; obtain ⟨y0, y1, y2, _, _, _⟩ := Mbx.cells ma1; obtain ⟨u0, u1, _, _⟩ := Rbx.cells ma2; obtain ⟨v0, v1, v2, _, _, _⟩ := Mbx.cells ma3; go_simp; try with_reducible rfl)
          try simp only [Act.put, List.setIfInBounds_toArray, List.set_cons_zero, List.set_cons_succ, List.getElem_toArray, List.getElem_cons_zero, List.getElem_cons_succ]
          refine wpAnyH_take (i := 5) (v := ?v5_24) rfl (by kernel_rfl) (by kernel_rfl) (by kernel_rfl) (fun _ _ _ h => h) (Or.inl ⟨by rfl, ?hy5_24⟩) (by assumption) ?rest5_24
          case hy5_24 => (intro w9 hSw; clear hSw; go_simp; try with_reducible rfl)
          try simp only [Act.put, List.setIfInBounds_toArray, List.set_cons_zero, List.set_cons_succ, List.getElem_toArray, List.getElem_cons_zero, List.getElem_cons_succ]
          refine wpAnyH_take (i := 6) (v := ?v6_25) rfl (by kernel_rfl) (by kernel_rfl) (by kernel_rfl) (fun _ _ _ h => h) (Or.inl ⟨by rfl, ?hy6_25⟩) (by assumption) ?rest6_25
          case hy6_25 => (intro w9 hSw; clear hSw; go_simp; try with_reducible rfl)
          try simp only [Act.put, List.setIfInBounds_toArray, List.set_cons_zero, List.set_cons_succ, List.getElem_toArray, List.getElem_cons_zero, List.getElem_cons_succ]
          refine wpAnyH_take (i := 7) (v := ?v7_26) rfl (by kernel_rfl) (by kernel_rfl) (by kernel_rfl) (fun _ _ _ h => h) (Or.inl ⟨by rfl, ?hy7_26⟩) (by assumption) ?rest7_26
          case hy7_26 => (intro w9 hSw; obtain ⟨ma1, ma2, ma3⟩ := hSw; obtain ⟨y0, y1, y2, _, _, _⟩ := Mbx.cells ma1; obtain ⟨u0, u1, _, _⟩ := Rbx.cells ma2; obtain ⟨v0, v1, v2, _, _, _⟩ := Mbx.cells ma3; go_simp; try with_reducible rfl)
          try simp only [Act.put, List.setIfInBounds_toArray, List.set_cons_zero, List.set_cons_succ, List.getElem_toArray, List.getElem_cons_zero, List.getElem_cons_succ]
          refine wpAnyH_ready (rs := [8]) (by kernel_rfl) (by simp) ?_
          refine AllReadyH.cons rfl (fun K hK => ?_) AllReadyH.nil
          go_simp
          with_reducible refine (rLeft_int h hv ht HE1.out).mono ?_
          rintro e w8 ⟨A2, c2, L2, rfl, hO2, hI2, hb⟩
          replace h := h.on hb
          replace hv := hv.on hb
          replace DM := DM.on hb
          replace DH := DH.on hb
          replace FK := FK.on hb
          replace DK := DK.on hb
          replace FX := FX.on hb
          replace DX := DX.on hb
          replace FY := FY.on hb
          replace DY := DY.on hb
          replace bz := bz.trans (hb.mono bz.size)
          clear hb
          have F2 := hO2.fl hI2.wd
          rw [hI2.len] at F2
          clear hO2
          clear hS; refine hK.out _ _ ⟨DM, DH, DX⟩ (fun hS => ?_); clear hK K
          try simp only [Act.put, List.setIfInBounds_toArray, List.set_cons_zero, List.set_cons_succ, List.getElem_toArray, List.getElem_cons_zero, List.getElem_cons_succ]
          refine wpAnyH_ready (rs := [9]) (by kernel_rfl) (by simp) ?_
          refine AllReadyH.cons rfl (fun K hK => ?_) AllReadyH.nil
          go_simp
          with_reducible refine (rSameM_any FX F2 (fun k hk => (hI.at_ k hk).trans (hI2.at_ k hk).symm)).mono ?_
          rintro e w9 ⟨rfl, hb⟩
          replace h := h.on hb
          replace hv := hv.on hb
          replace DM := DM.on hb
          replace DH := DH.on hb
          replace FK := FK.on hb
          replace DK := DK.on hb
          replace FX := FX.on hb
          replace DX := DX.on hb
          replace FY := FY.on hb
          replace DY := DY.on hb
          replace F2 := F2.on hb
          replace bz := bz.trans (hb.mono bz.size)
          clear hb
          clear hS; refine hK.out _ _ ⟨DM, DH, DX⟩ (fun hS => ?_); clear hK K
          try simp only [Act.put, List.setIfInBounds_toArray, List.set_cons_zero, List.set_cons_succ, List.getElem_toArray, List.getElem_cons_zero, List.getElem_cons_succ]
          refine wpAnyH_take (i := 10) (v := ?v10_27) rfl (by kernel_rfl) (by kernel_rfl) (by kernel_rfl) (fun _ _ _ h => h) (Or.inl ⟨by rfl, ?hy10_27⟩) (by assumption) ?rest10_27
          case hy10_27 => (intro w9 hSw; clear hSw; go_simp; try with_reducible rfl)
          try simp only [Act.put, List.setIfInBounds_toArray, List.set_cons_zero, List.set_cons_succ, List.getElem_toArray, List.getElem_cons_zero, List.getElem_cons_succ]
          refine wpAnyH_take (i := 11) (v := ?v11_28) rfl (by kernel_rfl) (by kernel_rfl) (by kernel_rfl) (fun _ _ _ h => h) (Or.inl ⟨by rfl, ?hy11_28⟩) (by assumption) ?rest11_28
          case hy11_28 => (intro w9 hSw; clear hSw; go_simp; try with_reducible rfl)
          try simp only [Act.put, List.setIfInBounds_toArray, List.set_cons_zero, List.set_cons_succ, List.getElem_toArray, List.getElem_cons_zero, List.getElem_cons_succ]
          refine wpAnyH_take (i := 12) (v := ?v12_29) rfl (by kernel_rfl) (by kernel_rfl) (by kernel_rfl) (fun _ _ _ h => h) (Or.inl ⟨by rfl, ?hy12_29⟩) (by assumption) ?rest12_29
          case hy12_29 => (intro w9 hSw; clear hSw; go_simp; try with_reducible rfl)
          try simp only [Act.put, List.setIfInBounds_toArray, List.set_cons_zero, List.set_cons_succ, List.getElem_toArray, List.getElem_cons_zero, List.getElem_cons_succ]
          refine wpAnyH_take (i := 13) (v := ?v13_30) rfl (by kernel_rfl) (by kernel_rfl) (by kernel_rfl) (fun _ _ _ h => h) (Or.inl ⟨by rfl, ?hy13_30⟩) (by assumption) ?rest13_30
          case hy13_30 => (intro w9 hSw; clear hSw; go_simp; try with_reducible rfl)
          try simp only [Act.put, List.setIfInBounds_toArray, List.set_cons_zero, List.set_cons_succ, List.getElem_toArray, List.getElem_cons_zero, List.getElem_cons_succ]
          refine wpAnyH_take (i := 14) (v := ?v14_31) rfl (by kernel_rfl) (by kernel_rfl) (by kernel_rfl) (fun _ _ _ h => h) (Or.inl ⟨by rfl, ?hy14_31⟩) (by assumption) ?rest14_31
          case hy14_31 => (intro w9 hSw; clear hSw; go_simp; try with_reducible rfl)
          try simp only [Act.put, List.setIfInBounds_toArray, List.set_cons_zero, List.set_cons_succ, List.getElem_toArray, List.getElem_cons_zero, List.getElem_cons_succ]
          refine wpAnyH_take (i := 15) (v := ?v15_32) rfl (by kernel_rfl) (by kernel_rfl) (by kernel_rfl) (fun _ _ _ h => h) (Or.inl ⟨by rfl, ?hy15_32⟩) (by assumption) ?rest15_32
          case hy15_32 => (intro w9 hSw; clear hSw; go_simp; try with_reducible rfl)
          try simp only [Act.put, List.setIfInBounds_toArray, List.set_cons_zero, List.set_cons_succ, List.getElem_toArray, List.getElem_cons_zero, List.getElem_cons_succ]
          refine wpAnyH_take (i := 16) (v := undef) rfl (by kernel_rfl) (by kernel_rfl) (by kernel_rfl) (fun _ _ _ h => h) (Or.inr ⟨by rfl, rfl⟩) (by assumption) ?_
          try simp only [Act.put, List.setIfInBounds_toArray, List.set_cons_zero, List.set_cons_succ, List.getElem_toArray, List.getElem_cons_zero, List.getElem_cons_succ]
          refine wpAnyH_take (i := 17) (v := undef) rfl (by kernel_rfl) (by kernel_rfl) (by kernel_rfl) (fun _ _ _ h => h) (Or.inr ⟨by rfl, rfl⟩) (by assumption) ?_
          try simp only [Act.put, List.setIfInBounds_toArray, List.set_cons_zero, List.set_cons_succ, List.getElem_toArray, List.getElem_cons_zero, List.getElem_cons_succ]
          refine wpAnyH_take (i := 18) (v := undef) rfl (by kernel_rfl) (by kernel_rfl) (by kernel_rfl) (fun _ _ _ h => h) (Or.inr ⟨by rfl, rfl⟩) (by assumption) ?_
          try simp only [Act.put, List.setIfInBounds_toArray, List.set_cons_zero, List.set_cons_succ, List.getElem_toArray, List.getElem_cons_zero, List.getElem_cons_succ]
          refine wpAnyH_take (i := 19) (v := undef) rfl (by kernel_rfl) (by kernel_rfl) (by kernel_rfl) (fun _ _ _ h => h) (Or.inr ⟨by rfl, rfl⟩) (by assumption) ?_
          try simp only [Act.put, List.setIfInBounds_toArray, List.set_cons_zero, List.set_cons_succ, List.getElem_toArray, List.getElem_cons_zero, List.getElem_cons_succ]
          refine wpAnyH_take (i := 20) (v := ?v20_33) rfl (by kernel_rfl) (by kernel_rfl) (by kernel_rfl) (fun _ _ _ h => h) (Or.inl ⟨by rfl, ?hy20_33⟩) (by assumption) ?rest20_33
          case hy20_33 => (intro w9 hSw; clear hSw; go_simp; try with_reducible rfl)
          try simp only [Act.put, List.setIfInBounds_toArray, List.set_cons_zero, List.set_cons_succ, List.getElem_toArray, List.getElem_cons_zero, List.getElem_cons_succ]
          refine wpAnyH_take (i := 21) (v := ?v21_34) rfl (by kernel_rfl) (by kernel_rfl) (by kernel_rfl) (fun _ _ _ h => h) (Or.inl ⟨by rfl, ?hy21_34⟩) (by assumption) ?rest21_34
          case hy21_34 => (intro w9 hSw; clear hSw; go_simp; try with_reducible rfl)
          try simp only [Act.put, List.setIfInBounds_toArray, List.set_cons_zero, List.set_cons_succ, List.getElem_toArray, List.getElem_cons_zero, List.getElem_cons_succ]
          refine wpAnyH_done (by kernel_rfl) ?_ _
          go_wp2_with fail
          go_meet
          case rel => exact ⟨by first | rfl | simp, DM, DH, DY, h, hv, FY, bz⟩
        · obtain ⟨q1, q2, q3, q4, q5⟩ := HX1.out e0
          subst q1
          subst q2
          subst q3
          subst q4
          subst q5
          have e1 : (E1 == 0) = false := by simpa using e0
          have e2 : (E1 != 0) = true := by simpa using e0
          refine wp_region_held_drew (S := fun w9 : World => Mbx w9 w.heap.size R C A n c ∧ Rbx w9 (w.heap.size + 1) VA m vc t ∧ Mbx w9 kx 0 0 none 0 0) (by kernel_rfl) ⟨DM, DH, DX⟩ (fun hS => ?_)
          refine wpAnyH_take (i := 0) (v := ?v0_35) rfl (by kernel_rfl) (by kernel_rfl) (by kernel_rfl) (fun _ _ _ h => h) (Or.inl ⟨by rfl, ?hy0_35⟩) (by assumption) ?rest0_35
          case hy0_35 => (intro w9 hSw; clear hSw; go_simp; try with_reducible rfl)
          try simp only [Act.put, List.setIfInBounds_toArray, List.set_cons_zero, List.set_cons_succ, List.getElem_toArray, List.getElem_cons_zero, List.getElem_cons_succ]
          refine wpAnyH_take (i := 1) (v := ?v1_36) rfl (by kernel_rfl) (by kernel_rfl) (by kernel_rfl) (fun _ _ _ h => h) (Or.inl ⟨by rfl, ?hy1_36⟩) (by assumption) ?rest1_36
          case hy1_36 => (intro w9 hSw; clear hSw; go_simp; try with_reducible rfl)
          try simp only [Act.put, List.setIfInBounds_toArray, List.set_cons_zero, List.set_cons_succ, List.getElem_toArray, List.getElem_cons_zero, List.getElem_cons_succ]
          refine wpAnyH_take (i := 2) (v := ?v2_37) rfl (by kernel_rfl) (by kernel_rfl) (by kernel_rfl) (fun _ _ _ h => h) (Or.inl ⟨by rfl, ?hy2_37⟩) (by assumption) ?rest2_37
          case hy2_37 => (intro w9 hSw; clear hSw; go_simp; try with_reducible rfl)
          try simp only [Act.put, List.setIfInBounds_toArray, List.set_cons_zero, List.set_cons_succ, List.getElem_toArray, List.getElem_cons_zero, List.getElem_cons_succ]
          refine wpAnyH_take (i := 3) (v := undef) rfl (by kernel_rfl) (by kernel_rfl) (by kernel_rfl) (fun _ _ _ h => h) (Or.inr ⟨by rfl, rfl⟩) (by assumption) ?_
          try simp only [Act.put, List.setIfInBounds_toArray, List.set_cons_zero, List.set_cons_succ, List.getElem_toArray, List.getElem_cons_zero, List.getElem_cons_succ]
          refine wpAnyH_take (i := 4) (v := undef) rfl (by kernel_rfl) (by kernel_rfl) (by kernel_rfl) (fun _ _ _ h => h) (Or.inr ⟨by rfl, rfl⟩) (by assumption) ?_
          try simp only [Act.put, List.setIfInBounds_toArray, List.set_cons_zero, List.set_cons_succ, List.getElem_toArray, List.getElem_cons_zero, List.getElem_cons_succ]
          refine wpAnyH_take (i := 5) (v := undef) rfl (by kernel_rfl) (by kernel_rfl) (by kernel_rfl) (fun _ _ _ h => h) (Or.inr ⟨by rfl, rfl⟩) (by assumption) ?_
          try simp only [Act.put, List.setIfInBounds_toArray, List.set_cons_zero, List.set_cons_succ, List.getElem_toArray, List.getElem_cons_zero, List.getElem_cons_succ]
          refine wpAnyH_take (i := 6) (v := undef) rfl (by kernel_rfl) (by kernel_rfl) (by kernel_rfl) (fun _ _ _ h => h) (Or.inr ⟨by rfl, rfl⟩) (by assumption) ?_
          try simp only [Act.put, List.setIfInBounds_toArray, List.set_cons_zero, List.set_cons_succ, List.getElem_toArray, List.getElem_cons_zero, List.getElem_cons_succ]
          refine wpAnyH_take (i := 7) (v := undef) rfl (by kernel_rfl) (by kernel_rfl) (by kernel_rfl) (fun _ _ _ h => h) (Or.inr ⟨by rfl, rfl⟩) (by assumption) ?_
          try simp only [Act.put, List.setIfInBounds_toArray, List.set_cons_zero, List.set_cons_succ, List.getElem_toArray, List.getElem_cons_zero, List.getElem_cons_succ]
          refine wpAnyH_take (i := 8) (v := undef) rfl (by kernel_rfl) (by kernel_rfl) (by kernel_rfl) (fun _ _ _ h => h) (Or.inr ⟨by rfl, rfl⟩) (by assumption) ?_
          try simp only [Act.put, List.setIfInBounds_toArray, List.set_cons_zero, List.set_cons_succ, List.getElem_toArray, List.getElem_cons_zero, List.getElem_cons_succ]
          refine wpAnyH_take (i := 9) (v := undef) rfl (by kernel_rfl) (by kernel_rfl) (by kernel_rfl) (fun _ _ _ h => h) (Or.inr ⟨by rfl, rfl⟩) (by assumption) ?_
          try simp only [Act.put, List.setIfInBounds_toArray, List.set_cons_zero, List.set_cons_succ, List.getElem_toArray, List.getElem_cons_zero, List.getElem_cons_succ]
          refine wpAnyH_take (i := 10) (v := undef) rfl (by kernel_rfl) (by kernel_rfl) (by kernel_rfl) (fun _ _ _ h => h) (Or.inr ⟨by rfl, rfl⟩) (by assumption) ?_
          try simp only [Act.put, List.setIfInBounds_toArray, List.set_cons_zero, List.set_cons_succ, List.getElem_toArray, List.getElem_cons_zero, List.getElem_cons_succ]
          refine wpAnyH_take (i := 11) (v := ?v11_38) rfl (by kernel_rfl) (by kernel_rfl) (by kernel_rfl) (fun _ _ _ h => h) (Or.inl ⟨by rfl, ?hy11_38⟩) (by assumption) ?rest11_38
          case hy11_38 => (intro w9 hSw; clear hSw; go_simp; try with_reducible rfl)
          try simp only [Act.put, List.setIfInBounds_toArray, List.set_cons_zero, List.set_cons_succ, List.getElem_toArray, List.getElem_cons_zero, List.getElem_cons_succ]
          refine wpAnyH_take (i := 12) (v := ?v12_39) rfl (by kernel_rfl) (by kernel_rfl) (by kernel_rfl) (fun _ _ _ h => h) (Or.inl ⟨by rfl, ?hy12_39⟩) (by assumption) ?rest12_39
          case hy12_39 => (intro w9 hSw; clear hSw; go_simp; try with_reducible rfl)
          try simp only [Act.put, List.setIfInBounds_toArray, List.set_cons_zero, List.set_cons_succ, List.getElem_toArray, List.getElem_cons_zero, List.getElem_cons_succ]
          refine wpAnyH_take (i := 13) (v := ?v13_40) rfl (by kernel_rfl) (by kernel_rfl) (by kernel_rfl) (fun _ _ _ h => h) (Or.inl ⟨by rfl, ?hy13_40⟩) (by assumption) ?rest13_40
          case hy13_40 => (intro w9 hSw; clear hSw; go_simp; try with_reducible rfl)
          try simp only [Act.put, List.setIfInBounds_toArray, List.set_cons_zero, List.set_cons_succ, List.getElem_toArray, List.getElem_cons_zero, List.getElem_cons_succ]
          refine wpAnyH_take (i := 14) (v := ?v14_41) rfl (by kernel_rfl) (by kernel_rfl) (by kernel_rfl) (fun _ _ _ h => h) (Or.inl ⟨by rfl, ?hy14_41⟩) (by assumption) ?rest14_41
          case hy14_41 => (intro w9 hSw; clear hSw; go_simp; try with_reducible rfl)
          try simp only [Act.put, List.setIfInBounds_toArray, List.set_cons_zero, List.set_cons_succ, List.getElem_toArray, List.getElem_cons_zero, List.getElem_cons_succ]
          refine wpAnyH_take (i := 15) (v := ?v15_42) rfl (by kernel_rfl) (by kernel_rfl) (by kernel_rfl) (fun _ _ _ h => h) (Or.inl ⟨by rfl, ?hy15_42⟩) (by assumption) ?rest15_42
          case hy15_42 => (intro w9 hSw; clear hSw; go_simp; try with_reducible rfl)
          try simp only [Act.put, List.setIfInBounds_toArray, List.set_cons_zero, List.set_cons_succ, List.getElem_toArray, List.getElem_cons_zero, List.getElem_cons_succ]
          refine wpAnyH_take (i := 16) (v := ?v16_43) rfl (by kernel_rfl) (by kernel_rfl) (by kernel_rfl) (fun _ _ _ h => h) (Or.inl ⟨by rfl, ?hy16_43⟩) (by assumption) ?rest16_43
          case hy16_43 => (intro w9 hSw; obtain ⟨ma1, ma2, ma3⟩ := hSw; obtain ⟨y0, y1, y2, _, _, _⟩ := Mbx.cells ma1; obtain ⟨u0, u1, _, _⟩ := Rbx.cells ma2; obtain ⟨v0, v1, v2, _, _, _⟩ := Mbx.cells ma3; go_simp; try with_reducible rfl)
          try simp only [Act.put, List.setIfInBounds_toArray, List.set_cons_zero, List.set_cons_succ, List.getElem_toArray, List.getElem_cons_zero, List.getElem_cons_succ]
          refine wpAnyH_take (i := 17) (v := ?v17_44) rfl (by kernel_rfl) (by kernel_rfl) (by kernel_rfl) (fun _ _ _ h => h) (Or.inl ⟨by rfl, ?hy17_44⟩) (by assumption) ?rest17_44
          case hy17_44 => (intro w9 hSw; clear hSw; go_simp; try with_reducible rfl)
          try simp only [Act.put, List.setIfInBounds_toArray, List.set_cons_zero, List.set_cons_succ, List.getElem_toArray, List.getElem_cons_zero, List.getElem_cons_succ]
          refine wpAnyH_ready (rs := [18]) (by kernel_rfl) (by simp) ?_
          refine AllReadyH.cons rfl (fun K hK => ?_) AllReadyH.nil
          go_simp
          with_reducible refine (rSameM_any (R := 0) (C := 0) (FL.nil _) (FL.nil _) (fun k hk => by omega)).mono ?_
          rintro e w8 ⟨rfl, hb⟩
          replace h := h.on hb
          replace hv := hv.on hb
          replace DM := DM.on hb
          replace DH := DH.on hb
          replace FK := FK.on hb
          replace DK := DK.on hb
          replace FX := FX.on hb
          replace DX := DX.on hb
          replace FY := FY.on hb
          replace DY := DY.on hb
          replace bz := bz.trans (hb.mono bz.size)
          clear hb
          clear hS; refine hK.out _ _ ⟨DM, DH, DX⟩ (fun hS => ?_); clear hK K
          try simp only [Act.put, List.setIfInBounds_toArray, List.set_cons_zero, List.set_cons_succ, List.getElem_toArray, List.getElem_cons_zero, List.getElem_cons_succ]
          refine wpAnyH_take (i := 19) (v := ?v19_45) rfl (by kernel_rfl) (by kernel_rfl) (by kernel_rfl) (fun _ _ _ h => h) (Or.inl ⟨by rfl, ?hy19_45⟩) (by assumption) ?rest19_45
          case hy19_45 => (intro w9 hSw; clear hSw; go_simp; try with_reducible rfl)
          try simp only [Act.put, List.setIfInBounds_toArray, List.set_cons_zero, List.set_cons_succ, List.getElem_toArray, List.getElem_cons_zero, List.getElem_cons_succ]
          refine wpAnyH_take (i := 20) (v := ?v20_46) rfl (by kernel_rfl) (by kernel_rfl) (by kernel_rfl) (fun _ _ _ h => h) (Or.inl ⟨by rfl, ?hy20_46⟩) (by assumption) ?rest20_46
          case hy20_46 => (intro w9 hSw; clear hSw; go_simp; try with_reducible rfl)
          try simp only [Act.put, List.setIfInBounds_toArray, List.set_cons_zero, List.set_cons_succ, List.getElem_toArray, List.getElem_cons_zero, List.getElem_cons_succ]
          refine wpAnyH_take (i := 21) (v := ?v21_47) rfl (by kernel_rfl) (by kernel_rfl) (by kernel_rfl) (fun _ _ _ h => h) (Or.inl ⟨by rfl, ?hy21_47⟩) (by assumption) ?rest21_47
          case hy21_47 => (intro w9 hSw; clear hSw; go_simp; try with_reducible rfl)
          try simp only [Act.put, List.setIfInBounds_toArray, List.set_cons_zero, List.set_cons_succ, List.getElem_toArray, List.getElem_cons_zero, List.getElem_cons_succ]
          refine wpAnyH_done (by kernel_rfl) ?_ _
          go_wp2_with fail
          go_meet
          case rel => exact ⟨by first | rfl | simp, DM, DH, DY, h, hv, FY, bz⟩
      case rest =>
        clear h hv DM DH FY DY bz
        obtain ⟨rfl, DM, DH, DY, h, hv, FY, bz⟩ := hcut
        go_upto_region 11 with fail
        go_cut [119] from 120 (fun s119 wx => s119 = .bool false ∧ Mbx wx w.heap.size R C A n c ∧ Rbx wx (w.heap.size + 1) VA m vc t ∧ Mbx wx ky YR YC YA yn yc ∧ FL wx A n c l ∧ FL wx VA m vc v ∧ FL wx YA yn yc yl ∧ Below w.heap.size w wx)
        case first =>
          replace h := h.drew
          replace hv := hv.drew
          replace DM := DM.drew
          replace DH := DH.drew
          replace FY := FY.drew
          replace DY := DY.drew
          replace bz := bz.drew
          by_cases e0 : E2 = 0
          · subst e0
            obtain ⟨q1, q2, q3, hI⟩ := HY0.out rfl
            replace q1 := q1.symm
            replace q2 := q2.symm
            replace q3 := q3.symm
            subst q1
            subst q2
            subst q3
            refine wp_region_held_drew (S := fun w9 : World => Mbx w9 w.heap.size R C A n c ∧ Rbx w9 (w.heap.size + 1) VA m vc t ∧ Mbx w9 ky R C YA n yc) (by kernel_rfl) ⟨DM, DH, DY⟩ (fun hS => ?_)
            refine wpAnyH_take (i := 0) (v := ?v0_48) rfl (by kernel_rfl) (by kernel_rfl) (by kernel_rfl) (fun _ _ _ h => h) (Or.inl ⟨by rfl, ?hy0_48⟩) (by assumption) ?rest0_48
            case hy0_48 => (intro w9 hSw; clear hSw; go_simp; try with_reducible rfl)
            try simp only [Act.put, List.setIfInBounds_toArray, List.set_cons_zero, List.set_cons_succ, List.getElem_toArray, List.getElem_cons_zero, List.getElem_cons_succ]
            refine wpAnyH_take (i := 1) (v := ?v1_49) rfl (by kernel_rfl) (by kernel_rfl) (by kernel_rfl) (fun _ _ _ h => h) (Or.inl ⟨by rfl, ?hy1_49⟩) (by assumption) ?rest1_49
            case hy1_49 => (intro w9 hSw; clear hSw; go_simp; try with_reducible rfl)
            try simp only [Act.put, List.setIfInBounds_toArray, List.set_cons_zero, List.set_cons_succ, List.getElem_toArray, List.getElem_cons_zero, List.getElem_cons_succ]
            refine wpAnyH_take (i := 2) (v := ?v2_50) rfl (by kernel_rfl) (by kernel_rfl) (by kernel_rfl) (fun _ _ _ h => h) (Or.inl ⟨by rfl, ?hy2_50⟩) (by assumption) ?rest2_50
            case hy2_50 => (intro w9 hSw; clear hSw; go_simp; try with_reducible rfl)
            try simp only [Act.put, List.setIfInBounds_toArray, List.set_cons_zero, List.set_cons_succ, List.getElem_toArray, List.getElem_cons_zero, List.getElem_cons_succ]
            refine wpAnyH_take (i := 3) (v := ?v3_51) rfl (by kernel_rfl) (by kernel_rfl) (by kernel_rfl) (fun _ _ _ h => h) (Or.inl ⟨by rfl, ?hy3_51⟩) (by assumption) ?rest3_51
            case hy3_51 => (intro w9 hSw; obtain ⟨ma1, ma2, ma3⟩ := hSw; obtain ⟨y0, y1, y2, _, _, _⟩ := Mbx.cells ma1; obtain ⟨u0, u1, _, _⟩ := Rbx.cells ma2; obtain ⟨v0, v1, v2, _, _, _⟩ := Mbx.cells ma3; go_simp; try with_reducible rfl)
            try simp only [Act.put, List.setIfInBounds_toArray, List.set_cons_zero, List.set_cons_succ, List.getElem_toArray, List.getElem_cons_zero, List.getElem_cons_succ]
            refine wpAnyH_take (i := 4) (v := ?v4_52) rfl (by kernel_rfl) (by kernel_rfl) (by kernel_rfl) (fun _ _ _ h => h) (Or.inl ⟨by rfl, ?hy4_52⟩) (by assumption) ?rest4_52
            case hy4_52 => (intro w9 hSw; obtain ⟨ma1, ma2, ma3⟩ := hSw; obtain ⟨y0, y1, y2, _, _, _⟩ := Mbx.cells ma1; obtain ⟨u0, u1, _, _⟩ := Rbx.cells ma2; obtain ⟨v0, v1, v2, _, _, _⟩ := Mbx.cells ma3; go_simp; try with_reducible rfl)
            try simp only [Act.put, List.setIfInBounds_toArray, List.set_cons_zero, List.set_cons_succ, List.getElem_toArray, List.getElem_cons_zero, List.getElem_cons_succ]
            refine wpAnyH_take (i := 5) (v := ?v5_53) rfl (by kernel_rfl) (by kernel_rfl) (by kernel_rfl) (fun _ _ _ h => h) (Or.inl ⟨by rfl, ?hy5_53⟩) (by assumption) ?rest5_53
            case hy5_53 => (intro w9 hSw; clear hSw; go_simp; try with_reducible rfl)
            try simp only [Act.put, List.setIfInBounds_toArray, List.set_cons_zero, List.set_cons_succ, List.getElem_toArray, List.getElem_cons_zero, List.getElem_cons_succ]
            refine wpAnyH_take (i := 6) (v := ?v6_54) rfl (by kernel_rfl) (by kernel_rfl) (by kernel_rfl) (fun _ _ _ h => h) (Or.inl ⟨by rfl, ?hy6_54⟩) (by assumption) ?rest6_54
            case hy6_54 => (intro w9 hSw; clear hSw; go_simp; try with_reducible rfl)
            try simp only [Act.put, List.setIfInBounds_toArray, List.set_cons_zero, List.set_cons_succ, List.getElem_toArray, List.getElem_cons_zero, List.getElem_cons_succ]
            refine wpAnyH_take (i := 7) (v := ?v7_55) rfl (by kernel_rfl) (by kernel_rfl) (by kernel_rfl) (fun _ _ _ h => h) (Or.inl ⟨by rfl, ?hy7_55⟩) (by assumption) ?rest7_55
            case hy7_55 => (intro w9 hSw; obtain ⟨ma1, ma2, ma3⟩ := hSw; obtain ⟨y0, y1, y2, _, _, _⟩ := Mbx.cells ma1; obtain ⟨u0, u1, _, _⟩ := Rbx.cells ma2; obtain ⟨v0, v1, v2, _, _, _⟩ := Mbx.cells ma3; go_simp; try with_reducible rfl)
            try simp only [Act.put, List.setIfInBounds_toArray, List.set_cons_zero, List.set_cons_succ, List.getElem_toArray, List.getElem_cons_zero, List.getElem_cons_succ]
            refine wpAnyH_ready (rs := [8]) (by kernel_rfl) (by simp) ?_
            refine AllReadyH.cons rfl (fun K hK => ?_) AllReadyH.nil
            go_simp
            with_reducible refine (rRight_int h hv ht HE2.out).mono ?_
            rintro e w8 ⟨A2, c2, L2, rfl, hO2, hI2, hb⟩
            replace h := h.on hb
            replace hv := hv.on hb
            replace DM := DM.on hb
            replace DH := DH.on hb
            replace FY := FY.on hb
            replace DY := DY.on hb
            replace bz := bz.trans (hb.mono bz.size)
            clear hb
            have F2 := hO2.fl hI2.wd
            rw [hI2.len] at F2
            clear hO2
            clear hS; refine hK.out _ _ ⟨DM, DH, DY⟩ (fun hS => ?_); clear hK K
            try simp only [Act.put, List.setIfInBounds_toArray, List.set_cons_zero, List.set_cons_succ, List.getElem_toArray, List.getElem_cons_zero, List.getElem_cons_succ]
            refine wpAnyH_ready (rs := [9]) (by kernel_rfl) (by simp) ?_
            refine AllReadyH.cons rfl (fun K hK => ?_) AllReadyH.nil
            go_simp
            with_reducible refine (rSameM_any FY F2 (fun k hk => (hI.at_ k hk).trans (hI2.at_ k hk).symm)).mono ?_
            rintro e w9 ⟨rfl, hb⟩
            replace h := h.on hb
            replace hv := hv.on hb
            replace DM := DM.on hb
            replace DH := DH.on hb
            replace FY := FY.on hb
            replace DY := DY.on hb
            replace F2 := F2.on hb
            replace bz := bz.trans (hb.mono bz.size)
            clear hb
            clear hS; refine hK.out _ _ ⟨DM, DH, DY⟩ (fun hS => ?_); clear hK K
            try simp only [Act.put, List.setIfInBounds_toArray, List.set_cons_zero, List.set_cons_succ, List.getElem_toArray, List.getElem_cons_zero, List.getElem_cons_succ]
            refine wpAnyH_take (i := 10) (v := ?v10_56) rfl (by kernel_rfl) (by kernel_rfl) (by kernel_rfl) (fun _ _ _ h => h) (Or.inl ⟨by rfl, ?hy10_56⟩) (by assumption) ?rest10_56
            case hy10_56 => (intro w9 hSw; clear hSw; go_simp; try with_reducible rfl)
            try simp only [Act.put, List.setIfInBounds_toArray, List.set_cons_zero, List.set_cons_succ, List.getElem_toArray, List.getElem_cons_zero, List.getElem_cons_succ]
            refine wpAnyH_take (i := 11) (v := ?v11_57) rfl (by kernel_rfl) (by kernel_rfl) (by kernel_rfl) (fun _ _ _ h => h) (Or.inl ⟨by rfl, ?hy11_57⟩) (by assumption) ?rest11_57
            case hy11_57 => (intro w9 hSw; clear hSw; go_simp; try with_reducible rfl)
            try simp only [Act.put, List.setIfInBounds_toArray, List.set_cons_zero, List.set_cons_succ, List.getElem_toArray, List.getElem_cons_zero, List.getElem_cons_succ]
            refine wpAnyH_take (i := 12) (v := ?v12_58) rfl (by kernel_rfl) (by kernel_rfl) (by kernel_rfl) (fun _ _ _ h => h) (Or.inl ⟨by rfl, ?hy12_58⟩) (by assumption) ?rest12_58
            case hy12_58 => (intro w9 hSw; clear hSw; go_simp; try with_reducible rfl)
            try simp only [Act.put, List.setIfInBounds_toArray, List.set_cons_zero, List.set_cons_succ, List.getElem_toArray, List.getElem_cons_zero, List.getElem_cons_succ]
            refine wpAnyH_take (i := 13) (v := ?v13_59) rfl (by kernel_rfl) (by kernel_rfl) (by kernel_rfl) (fun _ _ _ h => h) (Or.inl ⟨by rfl, ?hy13_59⟩) (by assumption) ?rest13_59
            case hy13_59 => (intro w9 hSw; clear hSw; go_simp; try with_reducible rfl)
            try simp only [Act.put, List.setIfInBounds_toArray, List.set_cons_zero, List.set_cons_succ, List.getElem_toArray, List.getElem_cons_zero, List.getElem_cons_succ]
            refine wpAnyH_take (i := 14) (v := ?v14_60) rfl (by kernel_rfl) (by kernel_rfl) (by kernel_rfl) (fun _ _ _ h => h) (Or.inl ⟨by rfl, ?hy14_60⟩) (by assumption) ?rest14_60
            case hy14_60 => (intro w9 hSw; clear hSw; go_simp; try with_reducible rfl)
            try simp only [Act.put, List.setIfInBounds_toArray, List.set_cons_zero, List.set_cons_succ, List.getElem_toArray, List.getElem_cons_zero, List.getElem_cons_succ]
            refine wpAnyH_take (i := 15) (v := ?v15_61) rfl (by kernel_rfl) (by kernel_rfl) (by kernel_rfl) (fun _ _ _ h => h) (Or.inl ⟨by rfl, ?hy15_61⟩) (by assumption) ?rest15_61
            case hy15_61 => (intro w9 hSw; clear hSw; go_simp; try with_reducible rfl)
            try simp only [Act.put, List.setIfInBounds_toArray, List.set_cons_zero, List.set_cons_succ, List.getElem_toArray, List.getElem_cons_zero, List.getElem_cons_succ]
            refine wpAnyH_take (i := 16) (v := undef) rfl (by kernel_rfl) (by kernel_rfl) (by kernel_rfl) (fun _ _ _ h => h) (Or.inr ⟨by rfl, rfl⟩) (by assumption) ?_
            try simp only [Act.put, List.setIfInBounds_toArray, List.set_cons_zero, List.set_cons_succ, List.getElem_toArray, List.getElem_cons_zero, List.getElem_cons_succ]
            refine wpAnyH_take (i := 17) (v := undef) rfl (by kernel_rfl) (by kernel_rfl) (by kernel_rfl) (fun _ _ _ h => h) (Or.inr ⟨by rfl, rfl⟩) (by assumption) ?_
            try simp only [Act.put, List.setIfInBounds_toArray, List.set_cons_zero, List.set_cons_succ, List.getElem_toArray, List.getElem_cons_zero, List.getElem_cons_succ]
            refine wpAnyH_take (i := 18) (v := undef) rfl (by kernel_rfl) (by kernel_rfl) (by kernel_rfl) (fun _ _ _ h => h) (Or.inr ⟨by rfl, rfl⟩) (by assumption) ?_
            try simp only [Act.put, List.setIfInBounds_toArray, List.set_cons_zero, List.set_cons_succ, List.getElem_toArray, List.getElem_cons_zero, List.getElem_cons_succ]
            refine wpAnyH_take (i := 19) (v := undef) rfl (by kernel_rfl) (by kernel_rfl) (by kernel_rfl) (fun _ _ _ h => h) (Or.inr ⟨by rfl, rfl⟩) (by assumption) ?_
            try simp only [Act.put, List.setIfInBounds_toArray, List.set_cons_zero, List.set_cons_succ, List.getElem_toArray, List.getElem_cons_zero, List.getElem_cons_succ]
            refine wpAnyH_take (i := 20) (v := ?v20_62) rfl (by kernel_rfl) (by kernel_rfl) (by kernel_rfl) (fun _ _ _ h => h) (Or.inl ⟨by rfl, ?hy20_62⟩) (by assumption) ?rest20_62
            case hy20_62 => (intro w9 hSw; clear hSw; go_simp; try with_reducible rfl)
            try simp only [Act.put, List.setIfInBounds_toArray, List.set_cons_zero, List.set_cons_succ, List.getElem_toArray, List.getElem_cons_zero, List.getElem_cons_succ]
            refine wpAnyH_take (i := 21) (v := ?v21_63) rfl (by kernel_rfl) (by kernel_rfl) (by kernel_rfl) (fun _ _ _ h => h) (Or.inl ⟨by rfl, ?hy21_63⟩) (by assumption) ?rest21_63
            case hy21_63 => (intro w9 hSw; clear hSw; go_simp; try with_reducible rfl)
            try simp only [Act.put, List.setIfInBounds_toArray, List.set_cons_zero, List.set_cons_succ, List.getElem_toArray, List.getElem_cons_zero, List.getElem_cons_succ]
            refine wpAnyH_done (by kernel_rfl) ?_ _
            go_wp2_with fail
            go_meet
            case rel => exact ⟨by first | rfl | simp, DM, DH, DY, h, hv, FY, bz⟩
          · obtain ⟨q1, q2, q3, q4, q5⟩ := HY1.out e0
            subst q1
            subst q2
            subst q3
            subst q4
            subst q5
            have e1 : (E2 == 0) = false := by simpa using e0
            have e2 : (E2 != 0) = true := by simpa using e0
            refine wp_region_held_drew (S := fun w9 : World => Mbx w9 w.heap.size R C A n c ∧ Rbx w9 (w.heap.size + 1) VA m vc t ∧ Mbx w9 ky 0 0 none 0 0) (by kernel_rfl) ⟨DM, DH, DY⟩ (fun hS => ?_)
            refine wpAnyH_take (i := 0) (v := ?v0_64) rfl (by kernel_rfl) (by kernel_rfl) (by kernel_rfl) (fun _ _ _ h => h) (Or.inl ⟨by rfl, ?hy0_64⟩) (by assumption) ?rest0_64
            case hy0_64 => (intro w9 hSw; clear hSw; go_simp; try with_reducible rfl)
            try simp only [Act.put, List.setIfInBounds_toArray, List.set_cons_zero, List.set_cons_succ, List.getElem_toArray, List.getElem_cons_zero, List.getElem_cons_succ]
            refine wpAnyH_take (i := 1) (v := ?v1_65) rfl (by kernel_rfl) (by kernel_rfl) (by kernel_rfl) (fun _ _ _ h => h) (Or.inl ⟨by rfl, ?hy1_65⟩) (by assumption) ?rest1_65
            case hy1_65 => (intro w9 hSw; clear hSw; go_simp; try with_reducible rfl)
            try simp only [Act.put, List.setIfInBounds_toArray, List.set_cons_zero, List.set_cons_succ, List.getElem_toArray, List.getElem_cons_zero, List.getElem_cons_succ]
            refine wpAnyH_take (i := 2) (v := ?v2_66) rfl (by kernel_rfl) (by kernel_rfl) (by kernel_rfl) (fun _ _ _ h => h) (Or.inl ⟨by rfl, ?hy2_66⟩) (by assumption) ?rest2_66
            case hy2_66 => (intro w9 hSw; clear hSw; go_simp; try with_reducible rfl)
            try simp only [Act.put, List.setIfInBounds_toArray, List.set_cons_zero, List.set_cons_succ, List.getElem_toArray, List.getElem_cons_zero, List.getElem_cons_succ]
            refine wpAnyH_take (i := 3) (v := undef) rfl (by kernel_rfl) (by kernel_rfl) (by kernel_rfl) (fun _ _ _ h => h) (Or.inr ⟨by rfl, rfl⟩) (by assumption) ?_
            try simp only [Act.put, List.setIfInBounds_toArray, List.set_cons_zero, List.set_cons_succ, List.getElem_toArray, List.getElem_cons_zero, List.getElem_cons_succ]
            refine wpAnyH_take (i := 4) (v := undef) rfl (by kernel_rfl) (by kernel_rfl) (by kernel_rfl) (fun _ _ _ h => h) (Or.inr ⟨by rfl, rfl⟩) (by assumption) ?_
            try simp only [Act.put, List.setIfInBounds_toArray, List.set_cons_zero, List.set_cons_succ, List.getElem_toArray, List.getElem_cons_zero, List.getElem_cons_succ]
            refine wpAnyH_take (i := 5) (v := undef) rfl (by kernel_rfl) (by kernel_rfl) (by kernel_rfl) (fun _ _ _ h => h) (Or.inr ⟨by rfl, rfl⟩) (by assumption) ?_
            try simp only [Act.put, List.setIfInBounds_toArray, List.set_cons_zero, List.set_cons_succ, List.getElem_toArray, List.getElem_cons_zero, List.getElem_cons_succ]
            refine wpAnyH_take (i := 6) (v := undef) rfl (by kernel_rfl) (by kernel_rfl) (by kernel_rfl) (fun _ _ _ h => h) (Or.inr ⟨by rfl, rfl⟩) (by assumption) ?_
            try simp only [Act.put, List.setIfInBounds_toArray, List.set_cons_zero, List.set_cons_succ, List.getElem_toArray, List.getElem_cons_zero, List.getElem_cons_succ]
            refine wpAnyH_take (i := 7) (v := undef) rfl (by kernel_rfl) (by kernel_rfl) (by kernel_rfl) (fun _ _ _ h => h) (Or.inr ⟨by rfl, rfl⟩) (by assumption) ?_
            try simp only [Act.put, List.setIfInBounds_toArray, List.set_cons_zero, List.set_cons_succ, List.getElem_toArray, List.getElem_cons_zero, List.getElem_cons_succ]
            refine wpAnyH_take (i := 8) (v := undef) rfl (by kernel_rfl) (by kernel_rfl) (by kernel_rfl) (fun _ _ _ h => h) (Or.inr ⟨by rfl, rfl⟩) (by assumption) ?_
            try simp only [Act.put, List.setIfInBounds_toArray, List.set_cons_zero, List.set_cons_succ, List.getElem_toArray, List.getElem_cons_zero, List.getElem_cons_succ]
            refine wpAnyH_take (i := 9) (v := undef) rfl (by kernel_rfl) (by kernel_rfl) (by kernel_rfl) (fun _ _ _ h => h) (Or.inr ⟨by rfl, rfl⟩) (by assumption) ?_
            try simp only [Act.put, List.setIfInBounds_toArray, List.set_cons_zero, List.set_cons_succ, List.getElem_toArray, List.getElem_cons_zero, List.getElem_cons_succ]
            refine wpAnyH_take (i := 10) (v := undef) rfl (by kernel_rfl) (by kernel_rfl) (by kernel_rfl) (fun _ _ _ h => h) (Or.inr ⟨by rfl, rfl⟩) (by assumption) ?_
            try simp only [Act.put, List.setIfInBounds_toArray, List.set_cons_zero, List.set_cons_succ, List.getElem_toArray, List.getElem_cons_zero, List.getElem_cons_succ]
            refine wpAnyH_take (i := 11) (v := ?v11_67) rfl (by kernel_rfl) (by kernel_rfl) (by kernel_rfl) (fun _ _ _ h => h) (Or.inl ⟨by rfl, ?hy11_67⟩) (by assumption) ?rest11_67
            case hy11_67 => (intro w9 hSw; clear hSw; go_simp; try with_reducible rfl)
            try simp only [Act.put, List.setIfInBounds_toArray, List.set_cons_zero, List.set_cons_succ, List.getElem_toArray, List.getElem_cons_zero, List.getElem_cons_succ]
            refine wpAnyH_take (i := 12) (v := ?v12_68) rfl (by kernel_rfl) (by kernel_rfl) (by kernel_rfl) (fun _ _ _ h => h) (Or.inl ⟨by rfl, ?hy12_68⟩) (by assumption) ?rest12_68
            case hy12_68 => (intro w9 hSw; clear hSw; go_simp; try with_reducible rfl)
            try simp only [Act.put, List.setIfInBounds_toArray, List.set_cons_zero, List.set_cons_succ, List.getElem_toArray, List.getElem_cons_zero, List.getElem_cons_succ]
            refine wpAnyH_take (i := 13) (v := ?v13_69) rfl (by kernel_rfl) (by kernel_rfl) (by kernel_rfl) (fun _ _ _ h => h) (Or.inl ⟨by rfl, ?hy13_69⟩) (by assumption) ?rest13_69
            case hy13_69 => (intro w9 hSw; clear hSw; go_simp; try with_reducible rfl)
            try simp only [Act.put, List.setIfInBounds_toArray, List.set_cons_zero, List.set_cons_succ, List.getElem_toArray, List.getElem_cons_zero, List.getElem_cons_succ]
            refine wpAnyH_take (i := 14) (v := ?v14_70) rfl (by kernel_rfl) (by kernel_rfl) (by kernel_rfl) (fun _ _ _ h => h) (Or.inl ⟨by rfl, ?hy14_70⟩) (by assumption) ?rest14_70
            case hy14_70 => (intro w9 hSw; clear hSw; go_simp; try with_reducible rfl)
            try simp only [Act.put, List.setIfInBounds_toArray, List.set_cons_zero, List.set_cons_succ, List.getElem_toArray, List.getElem_cons_zero, List.getElem_cons_succ]
            refine wpAnyH_take (i := 15) (v := ?v15_71) rfl (by kernel_rfl) (by kernel_rfl) (by kernel_rfl) (fun _ _ _ h => h) (Or.inl ⟨by rfl, ?hy15_71⟩) (by assumption) ?rest15_71
            case hy15_71 => (intro w9 hSw; clear hSw; go_simp; try with_reducible rfl)
            try simp only [Act.put, List.setIfInBounds_toArray, List.set_cons_zero, List.set_cons_succ, List.getElem_toArray, List.getElem_cons_zero, List.getElem_cons_succ]
            refine wpAnyH_take (i := 16) (v := ?v16_72) rfl (by kernel_rfl) (by kernel_rfl) (by kernel_rfl) (fun _ _ _ h => h) (Or.inl ⟨by rfl, ?hy16_72⟩) (by assumption) ?rest16_72
            case hy16_72 => (intro w9 hSw; obtain ⟨ma1, ma2, ma3⟩ := hSw; obtain ⟨y0, y1, y2, _, _, _⟩ := Mbx.cells ma1; obtain ⟨u0, u1, _, _⟩ := Rbx.cells ma2; obtain ⟨v0, v1, v2, _, _, _⟩ := Mbx.cells ma3; go_simp; try with_reducible rfl)
            try simp only [Act.put, List.setIfInBounds_toArray, List.set_cons_zero, List.set_cons_succ, List.getElem_toArray, List.getElem_cons_zero, List.getElem_cons_succ]
            refine wpAnyH_take (i := 17) (v := ?v17_73) rfl (by kernel_rfl) (by kernel_rfl) (by kernel_rfl) (fun _ _ _ h => h) (Or.inl ⟨by rfl, ?hy17_73⟩) (by assumption) ?rest17_73
            case hy17_73 => (intro w9 hSw; clear hSw; go_simp; try with_reducible rfl)
            try simp only [Act.put, List.setIfInBounds_toArray, List.set_cons_zero, List.set_cons_succ, List.getElem_toArray, List.getElem_cons_zero, List.getElem_cons_succ]
            refine wpAnyH_ready (rs := [18]) (by kernel_rfl) (by simp) ?_
            refine AllReadyH.cons rfl (fun K hK => ?_) AllReadyH.nil
            go_simp
            with_reducible refine (rSameM_any (R := 0) (C := 0) (FL.nil _) (FL.nil _) (fun k hk => by omega)).mono ?_
            rintro e w8 ⟨rfl, hb⟩
            replace h := h.on hb
            replace hv := hv.on hb
            replace DM := DM.on hb
            replace DH := DH.on hb
            replace FY := FY.on hb
            replace DY := DY.on hb
            replace bz := bz.trans (hb.mono bz.size)
            clear hb
            clear hS; refine hK.out _ _ ⟨DM, DH, DY⟩ (fun hS => ?_); clear hK K
            try simp only [Act.put, List.setIfInBounds_toArray, List.set_cons_zero, List.set_cons_succ, List.getElem_toArray, List.getElem_cons_zero, List.getElem_cons_succ]
            refine wpAnyH_take (i := 19) (v := ?v19_74) rfl (by kernel_rfl) (by kernel_rfl) (by kernel_rfl) (fun _ _ _ h => h) (Or.inl ⟨by rfl, ?hy19_74⟩) (by assumption) ?rest19_74
            case hy19_74 => (intro w9 hSw; clear hSw; go_simp; try with_reducible rfl)
            try simp only [Act.put, List.setIfInBounds_toArray, List.set_cons_zero, List.set_cons_succ, List.getElem_toArray, List.getElem_cons_zero, List.getElem_cons_succ]
            refine wpAnyH_take (i := 20) (v := ?v20_75) rfl (by kernel_rfl) (by kernel_rfl) (by kernel_rfl) (fun _ _ _ h => h) (Or.inl ⟨by rfl, ?hy20_75⟩) (by assumption) ?rest20_75
            case hy20_75 => (intro w9 hSw; clear hSw; go_simp; try with_reducible rfl)
            try simp only [Act.put, List.setIfInBounds_toArray, List.set_cons_zero, List.set_cons_succ, List.getElem_toArray, List.getElem_cons_zero, List.getElem_cons_succ]
            refine wpAnyH_take (i := 21) (v := ?v21_76) rfl (by kernel_rfl) (by kernel_rfl) (by kernel_rfl) (fun _ _ _ h => h) (Or.inl ⟨by rfl, ?hy21_76⟩) (by assumption) ?rest21_76
            case hy21_76 => (intro w9 hSw; clear hSw; go_simp; try with_reducible rfl)
            try simp only [Act.put, List.setIfInBounds_toArray, List.set_cons_zero, List.set_cons_succ, List.getElem_toArray, List.getElem_cons_zero, List.getElem_cons_succ]
            refine wpAnyH_done (by kernel_rfl) ?_ _
            go_wp2_with fail
            go_meet
            case rel => exact ⟨by first | rfl | simp, DM, DH, DY, h, hv, FY, bz⟩
        case rest =>
          clear h hv DM DH FY DY bz
          obtain ⟨rfl, DM, DH, DY, h, hv, FY, bz⟩ := hcut
          go_wp2_with fail
          with_reducible refine (known_any _).mono ?_
          rintro e w8 ⟨rfl, hb⟩
          replace h := h.on hb
          replace hv := hv.on hb
          replace DM := DM.on hb
          replace DH := DH.on hb
          replace FY := FY.on hb
          replace DY := DY.on hb
          replace bz := bz.trans (hb.mono bz.size)
          clear hb
          go_wp2_with fail
          go_ret
          exact ⟨rfl, bz⟩
end Go.Proofs.Ytcdbjlmegkcaiaa
