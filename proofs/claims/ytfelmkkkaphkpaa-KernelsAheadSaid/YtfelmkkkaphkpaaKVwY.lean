/-
  Layer 7, walks: the reference's words: classes, one NaN, lists and matrices that are the same, May.
-/
import Derived.Test.YtfelmkkkaphkpaaKVwV
import Derived.Deep.QuietTactic
import Derived.BigQuiet
namespace Go.Proofs.Ytfelmkkkaphkpaa
open Go.RowKit Go.Bw Go.Sort Go.Shelf
set_option linter.unusedVariables false
set_option linter.unusedSimpArgs false

theorem cls_2 {x : Int} (a : (fld x == 2047) = false) (c : (fld x == 0) = true) (b : (frc x != 0) = true) : (2 : Int) = cls x := by
  simp at a b c; unfold cls; rw [if_neg a, if_pos c, if_neg b]
theorem cls_1 {x : Int} (a : (fld x == 2047) = false) (c : (fld x == 0) = true) (b : (frc x != 0) = false) : (1 : Int) = cls x := by
  simp at a b c; unfold cls; rw [if_neg a, if_pos c, if_pos b]
theorem cls_3 {x : Int} (a : (fld x == 2047) = false) (c : (fld x == 0) = false) : (3 : Int) = cls x := by
  simp at a c; unfold cls; rw [if_neg a, if_neg c]
theorem cls_4' {x : Int} (a : (fld x == 2047) = true) (b : (frc x == 0) = true) : (4 : Int) = cls x := by
  simp at a b; unfold cls; rw [if_pos a, if_pos b]
theorem cls_5' {x : Int} (a : (fld x == 2047) = true) (b : (frc x == 0) = false) : (5 : Int) = cls x := by
  simp at a b; unfold cls; rw [if_pos a, if_neg b]
theorem one_yes {x : Int} (h : (cls x == 5) = true) : nan = one x := by
  simp at h; unfold one; rw [if_pos h]
theorem one_no {x : Int} (h : (cls x == 5) = false) : x = one x := by
  simp at h; unfold one; rw [if_neg h]
set_option maxHeartbeats 400000 in
theorem rclass_any (x : Int) (h0 : 0 ≤ x) (h1 : x ≤ 18446744073709551615) (w : World) :
    Calls Try.prog 110 #[.int .u64 x] w fun e w' => e = .returned (.int .i64 (cls x)) ∧ w = w' := by
  have e1 := field_op x h0 h1
  have e2 := fraction_op x h0 h1
  have hb := fld_bd x
  have hc := frc_bd x
  go_enter Try.func110, Try.ntmps110
  go_wp2
  · go_ret; exact ⟨ret_int (cls_4' ‹_› ‹_›), rfl⟩
  · go_ret; exact ⟨ret_int (cls_5' ‹_› ‹_›), rfl⟩
  · have g : 0 < fld x := by assumption
    go_ret; exact ⟨ret_int (cls_3 ‹_› (by simp; omega)), rfl⟩
  · have g : fld x ≤ 0 := by assumption
    have g' : 0 < frc x := by assumption
    go_ret; exact ⟨ret_int (cls_2 ‹_› (by simp; omega) (by simp; omega)), rfl⟩
  · have g : fld x ≤ 0 := by assumption
    have g' : frc x ≤ 0 := by assumption
    go_ret; exact ⟨ret_int (cls_1 ‹_› (by simp; omega) (by simp; omega)), rfl⟩
set_option maxHeartbeats 400000 in
theorem rone_any (x : Int) (h0 : 0 ≤ x) (h1 : x ≤ 18446744073709551615) (w : World) :
    Calls Try.prog 101 #[.int .u64 x] w fun e w' => e = .returned (.int .u64 (one x)) ∧ w = w' := by
  go_enter Try.func101, Try.ntmps101
  go_wp2_with (go_at_call 110; refine (rclass_any _ h0 h1 _).mono ?_; rintro e w' ⟨rfl, rfl⟩)
  · go_ret; exact ⟨ret_int (one_yes ‹_›), rfl⟩
  · go_ret; exact ⟨ret_int (one_no ‹_›), rfl⟩
set_option maxHeartbeats 400000 in
theorem rbits_any {x : Int} (h0 : 0 ≤ x) (h1 : x ≤ 18446744073709551615) (w : World) :
    Calls Try.prog 69 #[.float .f64 x.toNat] w fun e w' => e = .returned (.int .u64 (one x)) ∧ w = w' := by
  have bx := run_float64bits x.toNat
  rw [Int.toNat_of_nonneg h0] at bx
  go_enter Try.func69, Try.ntmps69
  go_wp2_with fail
  with_reducible refine (rone_any _ h0 h1 _).mono ?_
  rintro e w' ⟨rfl, rfl⟩
  go_wp2_with fail
  go_ret
  exact ⟨rfl, rfl⟩

/-- may a matrix be? -/
def mayB (m n : Int) (k : Nat) : Bool := szB m n && decide ((k : Int) = m * n)
set_option maxHeartbeats 1000000 in
theorem May_any (m n : Int) (A : Option Addr) (k c : Nat) (w : World) (hk : k ≤ 9223372036854775807) :
    Calls Try.prog 57 #[mV m n A k c] w (Ans w (.bool (mayB m n k))) := by
  obtain ⟨B, hB⟩ : ∃ B, mayB m n k = B := ⟨_, rfl⟩
  have HB := Lib.hid hB
  rw [hB]
  clear hB
  have close : ∀ b : Bool, b = mayB m n k → b = B := fun b h => by rw [h, ← HB.out]
  have C := Lib.hid close
  clear close HB
  have DB := Blk.new w [.int .i64 m, .int .i64 n, .slice A k c] 24
  obtain ⟨DB_0, DB_1, DB_2, DB_f0, DB_f1, DB_f2⟩ := Mbx.cells DB
  clear DB
  by_cases c1 : 0 ≤ m
  · by_cases c2 : m ≤ 512
    · by_cases c3 : 0 ≤ n
      · by_cases c4 : n ≤ 512
        · have hs : szB m n = true := decide_eq_true ⟨c1, c2, c3, c4⟩
          obtain ⟨_, p0, p1⟩ := szB_bd hs
          obtain ⟨P, hP⟩ : ∃ P, m * n = P := ⟨_, rfl⟩
          have HC := Lib.hid (show ∀ b : Bool, b = ((k : Int) == P) → b = B from fun b h => C.out _ (by rw [h]; unfold mayB; rw [hs, hP]; simp [Bool.beq_eq_decide_eq]))
          rw [hP] at p0 p1
          clear hs
          go_enter Try.func57, Try.ntmps57
          go_wp2_with fail
          go_ret
          exact ⟨ret_bool (HC.out _ rfl), by go_grown⟩
        · go_enter Try.func57, Try.ntmps57
          go_wp2_with fail
          go_ret
          exact ⟨ret_bool (C.out _ (by unfold mayB szB; simp; omega)), by go_grown⟩
      · go_enter Try.func57, Try.ntmps57
        go_wp2_with fail
        go_ret
        exact ⟨ret_bool (C.out _ (by unfold mayB szB; simp; omega)), by go_grown⟩
    · go_enter Try.func57, Try.ntmps57
      go_wp2_with fail
      go_ret
      exact ⟨ret_bool (C.out _ (by unfold mayB szB; simp; omega)), by go_grown⟩
  · go_enter Try.func57, Try.ntmps57
    go_wp2_with fail
    go_ret
    exact ⟨ret_bool (C.out _ (by unfold mayB szB; simp; omega)), by go_grown⟩

theorem sameL_ne {a b : List Int} {k : Nat} (hk : k < a.length) (hl : a.length = b.length) (h : one (D a k) ≠ one (D b k)) : sameL a b = false := by
  unfold sameL
  rw [decide_eq_false_iff_not]
  intro e
  apply h
  have h1 := congrArg (fun l => l[k]?) e
  simp only [List.getElem?_map] at h1
  rw [List.getElem?_eq_getElem hk, List.getElem?_eq_getElem (by omega)] at h1
  rw [D_in hk, D_in (by omega)]
  simpa using h1
theorem sameL_len {a b : List Int} (h : a.length ≠ b.length) : sameL a b = false := by
  unfold sameL
  rw [decide_eq_false_iff_not]
  intro e
  have := congrArg List.length e
  simp at this
  exact h this

section
variable {w : World} {A A2 : Option Addr} {n n2 c c2 : Nat} {l l2 : List Int}
set_option maxHeartbeats 2000000 in
set_option maxRecDepth 100000 in
theorem SameFloats_any (h : FL w A n c l) (h2 : FL w A2 n2 c2 l2) :
    Calls Try.prog 102 #[.slice A n c, .slice A2 n2 c2] w (Ans w (.bool (sameL l l2))) := by
  have hmx := h.max
  have hmx2 := h2.max
  by_cases hn : n = n2
  · subst hn
    obtain ⟨RES, hRES⟩ : ∃ R, sameL l l2 = R := ⟨_, rfl⟩
    rw [hRES]
    have HN := Lib.hid (show ∀ k, k < n → one (D l k) ≠ one (D l2 k) → RES = false from fun k hk hne => by rw [← hRES]; exact sameL_ne (by rw [h.1]; exact hk) (by rw [h.1, h2.1]) hne)
    have HY := Lib.hid (show (∀ k, k < n → one (D l k) = one (D l2 k)) → RES = true from fun ha => by rw [← hRES]; exact sameL_yes (by rw [h.1, h2.1]) (fun k hk => decide_eq_true (ha k (by rw [← h.1]; exact hk))))
    clear hRES
    go_enter Try.func102, Try.ntmps102
    go_wp2_with fail
    go_loopw [5] (fun i wr => ∃ (k t : Nat), k ≤ n ∧ i = .int .i64 k ∧ wr = w.drewN t ∧ Hid (∀ j, j < k → one (D l j) = one (D l2 j))) (fun i _ => n - (intOf i).toNat)
    case atStart => exact ⟨0, 0, Nat.zero_le _, rfl, rfl, Lib.hid (fun j hj => by omega)⟩
    case round =>
      obtain ⟨k, t, hk, rfl, rfl, HK⟩ := hrel
      by_cases hlt : k < n
      · obtain ⟨ad, rfl, hb, hc⟩ := h.at_ hlt
        obtain ⟨ad2, rfl, hb2, hc2⟩ := h2.at_ hlt
        obtain ⟨x0, x1⟩ := h.2.2.at_ k
        obtain ⟨y0, y1⟩ := h2.2.2.at_ k
        have i0 : (0 : Int) ≤ k := by omega
        have i1 : (k : Int) < n := by omega
        have HNK := Lib.hid (HN.out k hlt)
        obtain ⟨X, hX⟩ : ∃ X, D l k = X := ⟨_, rfl⟩
        obtain ⟨Y, hY⟩ : ∃ Y, D l2 k = Y := ⟨_, rfl⟩
        have HKS := Lib.hid (show one X = one Y → ∀ j, j < k + 1 → one (D l j) = one (D l2 j) from fun e j hj => by
          rcases Nat.lt_or_ge j k with g | g
          · exact HK.out j g
          · obtain rfl : j = k := by omega
            rw [hX, hY]; exact e)
        rw [hX, hY] at HNK
        rw [hX] at hc x0 x1
        rw [hY] at hc2 y0 y1
        clear hX hY
        have px := fun w => rbits_any x0 x1 w
        have py := fun w => rbits_any y0 y1 w
        obtain ⟨X1, hX1⟩ : ∃ Z, one X = Z := ⟨_, rfl⟩
        obtain ⟨Y1, hY1⟩ : ∃ Z, one Y = Z := ⟨_, rfl⟩
        rw [hX1, hY1] at HNK HKS
        simp only [hX1] at px
        simp only [hY1] at py
        clear hX1 hY1
        by_cases hxy : X1 = Y1
        · subst hxy
          have dx : (X1 != X1) = false := by simp
          have HKS2 := Lib.hid (HKS.out rfl)
          go_wp2_with fail
          go_quiet ((go_at_call 69; first | exact (px _).mono (by rintro e w' ⟨he, hw⟩; exact ⟨he, _, hw.symm⟩) | exact (py _).mono (by rintro e w' ⟨he, hw⟩; exact ⟨he, _, hw.symm⟩)))
          go_wp2_with fail
          go_roundw
          case rel => exact ⟨k + 1, _, by omega, by go_num, by first | rfl | simp, HKS2⟩
          case measure => simp [intOf]; omega
        · have dx : (X1 != Y1) = true := by simp [hxy]
          have hRF := HNK.out hxy
          subst hRF
          clear hxy
          go_wp2_with fail
          go_quiet ((go_at_call 69; first | exact (px _).mono (by rintro e w' ⟨he, hw⟩; exact ⟨he, _, hw.symm⟩) | exact (py _).mono (by rintro e w' ⟨he, hw⟩; exact ⟨he, _, hw.symm⟩)))
          go_wp2_with fail
          go_ret
          exact ⟨rfl, below_drewN (below_drewN (Below.refl _ w) _) _⟩
      · obtain rfl : k = n := by omega
        have hRT := HY.out HK.out
        subst hRT
        go_wp2_with fail
        go_ret
        exact ⟨rfl, below_drewN (Below.refl _ w) _⟩
  · rw [sameL_len (by rw [h.1, h2.1]; exact hn)]
    have hne : ((n : Int) != n2) = true := by simp; omega
    clear hn
    go_enter Try.func102, Try.ntmps102
    go_wp2_with fail
    go_ret
    exact ⟨rfl, by go_grown⟩

/-- the same matrix, all NaNs being one? -/
def sameM (m n : Int) (l : List Int) (m2 n2 : Int) (l2 : List Int) : Bool := m == m2 && n == n2 && sameL l l2
set_option maxHeartbeats 2000000 in
theorem SameMatrix_any (r q r2 q2 : Int) (h : FL w A n c l) (h2 : FL w A2 n2 c2 l2) :
    Calls Try.prog 71 #[mV r q A n c, mV r2 q2 A2 n2 c2] w (Ans w (.bool (sameM r q l r2 q2 l2))) := by
  have DB := (Blk.new w [.int .i64 r, .int .i64 q, .slice A n c] 24).alloc (.cells #[.int .i64 r2, .int .i64 q2, .slice A2 n2 c2] 24)
  have D2 := Blk.new (w.alloc (.cells #[.int .i64 r, .int .i64 q, .slice A n c] 24)) [.int .i64 r2, .int .i64 q2, .slice A2 n2 c2] 24
  rw [World.size_alloc] at D2
  have g := (h.alloc (.cells #[.int .i64 r, .int .i64 q, .slice A n c] 24)).alloc (.cells #[.int .i64 r2, .int .i64 q2, .slice A2 n2 c2] 24)
  have g2 := (h2.alloc (.cells #[.int .i64 r, .int .i64 q, .slice A n c] 24)).alloc (.cells #[.int .i64 r2, .int .i64 q2, .slice A2 n2 c2] 24)
  have bw := ((Below.refl _ w).alloc (Nat.le_refl _) (.cells #[.int .i64 r, .int .i64 q, .slice A n c] 24)).alloc (by simp) (.cells #[.int .i64 r2, .int .i64 q2, .slice A2 n2 c2] 24)
  have ps := SameFloats_any g g2
  clear g g2 h h2
  obtain ⟨DB_0, DB_1, DB_2, DB_f0, DB_f1, DB_f2⟩ := Mbx.cells DB
  obtain ⟨D2_0, D2_1, D2_2, D2_f0, D2_f1, D2_f2⟩ := Mbx.cells D2
  obtain ⟨B, hB⟩ : ∃ B, sameL l l2 = B := ⟨_, rfl⟩
  unfold sameM
  rw [hB] at ps ⊢
  clear DB D2 hB
  cases e1 : (r == r2)
  · go_enter Try.func71, Try.ntmps71
    go_wp2_with fail
    go_ret
    exact ⟨ret_bool (by simp), by go_grown⟩
  · cases e2 : (q == q2)
    · go_enter Try.func71, Try.ntmps71
      go_wp2_with fail
      go_ret
      exact ⟨ret_bool (by simp), by go_grown⟩
    · go_enter Try.func71, Try.ntmps71
      go_wp2_with fail
      with_reducible refine ps.mono ?_
      rintro e w3 ⟨rfl, hb⟩
      replace bw := bw.trans (hb.mono bw.size)
      go_wp2_with fail
      go_ret
      exact ⟨ret_bool (by simp), bw⟩
end
end Go.Proofs.Ytfelmkkkaphkpaa
