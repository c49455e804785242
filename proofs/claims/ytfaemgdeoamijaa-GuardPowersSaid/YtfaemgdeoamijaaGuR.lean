/-
  Layer 5, walks: a matrix's power, by the reference: floats held against each other, halved and doubled.
-/
import Derived.Test.YtfaemgdeoamijaaGuQ
import Derived.Laws.FloatArith
namespace Go.Proofs.Ytfaemgdeoamijaa
open Go.RowKit Go.Bw
set_option linter.unusedVariables false
set_option linter.unusedSimpArgs false

theorem toNat_le {x : Int} (h0 : 0 ≤ x) (h1 : x ≤ 18446744073709551615) : x.toNat ≤ 18446744073709551615 := by omega
/-- order, of words -/
theorem ord_w (x y : Int) (x0 : 0 ≤ x) (x1 : x ≤ 18446744073709551615) (y0 : 0 ≤ y) (y1 : y ≤ 18446744073709551615) (hf : fin x = true) (hg : fin y = true) :
    (FloatKind.f64.format.order x.toNat y.toNat == some .lt) = decide (sm x < sm y) ∧ (FloatKind.f64.format.order x.toNat y.toNat == some .gt) = decide (sm y < sm x) ∧ (FloatKind.f64.format.order x.toNat y.toNat == some .eq) = decide (sm x = sm y) := by
  have ex : ((x.toNat : Nat) : Int) = x := Int.toNat_of_nonneg x0
  have ey : ((y.toNat : Nat) : Int) = y := Int.toNat_of_nonneg y0
  have h := order_lt x.toNat y.toNat (by omega) (by omega) (by rw [ex]; exact hf) (by rw [ey]; exact hg)
  rw [ex, ey] at h
  exact h
theorem sm_pos {x : Int} (h0 : 0 ≤ x) (h1 : x ≤ 9223372036854775807) : sm x = x := (sm_mag h0 h1).1
theorem sm_abs (x : Int) : (sm x < 0 → mag x = -sm x) ∧ (0 ≤ sm x → mag x = sm x) := by
  have := mag_bd x
  unfold sm
  split <;> omega

theorem nE_norm {y : Int} (h0 : 4503599627370496 ≤ y) (h1 : y ≤ 9223372036854775807) : nE y = y / 4503599627370496 - 1075 := by
  have hf : fld y = y / 4503599627370496 := by unfold fld; omega
  have hz : fld y ≠ 0 := by omega
  rw [(up_normal hz).2.2]
  unfold px
  rw [if_neg hz, hf]
theorem nE_low {y : Int} (h0 : 0 ≤ y) (h1 : y < 4503599627370496) : nE y = -1074 - ((53 - Lib.bitLen y.toNat : Nat) : Int) := by
  have hf : fld y = 0 := by unfold fld; omega
  have hm : frc y = y := by unfold frc; omega
  unfold nE px upw pm
  rw [if_pos hf, if_pos hf, hm]
theorem nE_double {y : Int} (h0 : 0 < y) (h1 : y < 4503599627370496) : nE (2 * y) = nE y + 1 := by
  have hb := nE_low (show 0 ≤ y by omega) h1
  obtain ⟨a, b⟩ := bl_spec y.toNat (by omega)
  obtain ⟨c, d⟩ := b (by omega)
  have e : Lib.bitLen (2 * y).toNat = Lib.bitLen y.toNat + 1 := by
    refine bl_uniq _ _ (by omega) ?_ ?_
    · rw [Nat.pow_succ]; omega
    · have : 2 ^ Lib.bitLen y.toNat = 2 ^ (Lib.bitLen y.toNat - 1) * 2 := by rw [← Nat.pow_succ]; congr 1; omega
      rw [Nat.pow_succ, this]; omega
  have f := bl_fit (m := y.toNat) (by omega) (by omega)
  by_cases g : 2 * y < 4503599627370496
  · rw [nE_low (by omega) g, hb, e]
    have : Lib.bitLen y.toNat + 1 ≤ 53 := by
      have := (bl_fit (m := (2 * y).toNat) (by omega) (by omega)).2.1
      omega
    omega
  · rw [nE_norm (by omega) (by omega), hb]
    have h52 : Lib.bitLen y.toNat = 52 := bl_uniq _ 52 (by omega) (by omega) (by omega)
    rw [h52]
    omega
/-- a size y, q halvings behind G -/
def Hv (G y q : Int) : Prop := 0 < y ∧ y < 9218868437227405312 ∧ nE y + q = nE G
theorem Hv.half {G y q : Int} (h : Hv G y q) (hg : 4607182418800017408 ≤ y) : Hv G (y - 4503599627370496) (q + 1) := by
  obtain ⟨a, b, c⟩ := h
  refine ⟨by omega, by omega, ?_⟩
  rw [nE_norm (by omega) (by omega)] at c ⊢
  omega
theorem Hv.double {G y q : Int} (h : Hv G y q) (hl : y < 4602678819172646912) : Hv G (if y < 4503599627370496 then 2 * y else y + 4503599627370496) (q - 1) := by
  obtain ⟨a, b, c⟩ := h
  by_cases g : y < 4503599627370496
  · rw [if_pos g]
    refine ⟨by omega, by omega, ?_⟩
    rw [nE_double a g]; omega
  · rw [if_neg g]
    refine ⟨by omega, by omega, ?_⟩
    rw [nE_norm (by omega) (by omega)] at c ⊢
    omega
theorem Hv.bd {G y q : Int} (h : Hv G y q) (hG : -1126 ≤ nE G ∧ nE G ≤ 971) : -2097 ≤ q ∧ q ≤ 2097 := by
  obtain ⟨a, b, c⟩ := h
  have d := nE_bd (show 0 ≤ y by omega) (by omega) (fin_self (by omega) b) (by rw [mag_self (by omega) (by omega)]; omega)
  omega
theorem Hv.done {G y q : Int} (h : Hv G y q) (h0 : 4602678819172646912 ≤ y) (h1 : y < 4607182418800017408) : q = nE G + 53 := by
  obtain ⟨a, b, c⟩ := h
  rw [nE_norm (by omega) (by omega)] at c
  omega

section
variable {A : Option Addr} {len c : Nat} {l : List Int} {w : World}
set_option maxHeartbeats 8000000 in
theorem rPower_any (h : FL w A len c l) (hf : l.all fin = true) :
    Calls Try.prog 23 #[.slice A len c] w (Ans w (.int .i64 (pwr l))) := by
  have hmx := h.max
  obtain ⟨R, hR⟩ : ∃ R, pwr l = R := ⟨_, rfl⟩
  have HR := Lib.hid hR
  rw [hR]
  have HF := Lib.hid (gmx_fin hf)
  have hbd := gmx_bd l
  have HFA := Lib.hid hf
  clear hR hf
  go_enter Try.func23, Try.ntmps23
  go_wp2_with fail
  go_loop [3, 4] (fun g i => ∃ k : Nat, k ≤ len ∧ i = .int .i64 k ∧ g = .float .f64 (gmx (l.take k)).toNat) (fun _ i => len - (intOf i).toNat)
  case atStart => exact ⟨0, Nat.zero_le _, rfl, rfl⟩
  case round =>
    obtain ⟨k, hk, rfl, rfl⟩ := hrel
    by_cases hlt : k < len
    · obtain ⟨ad, rfl, hb, hc⟩ := h.at_ hlt
      obtain ⟨x0, x1⟩ := h.2.2.at_ k
      have i0 : (0 : Int) ≤ k := by omega
      have i1 : (k : Int) < len := by omega
      have hkl : k < l.length := by rw [h.1]; exact hlt
      have hn := Lib.hid (gmx_next (l := l) (k := k) hkl)
      have hfx : fin (D l k) = true := by
        have := List.all_eq_true.1 HFA.out (l[k]) (List.getElem_mem hkl)
        rw [D_in hkl]; exact this
      obtain ⟨X, hX⟩ : ∃ X, D l k = X := ⟨_, rfl⟩
      rw [hX] at hc x0 x1 hn hfx
      have g0 := gmx_bd (l.take k)
      have g1 : gmx (l.take k) < 9218868437227405312 := by
        refine gmx_fin ?_
        rw [List.all_eq_true]
        intro x hx
        exact List.all_eq_true.1 HFA.out x (List.mem_of_mem_take hx)
      have m0 := mag_bd X
      clear hX hkl
      generalize gmx (l.take k) = G at *
      have gf := fin_self g0.1 g1
      have sG := sm_pos g0.1 g0.2
      have o1 := (ord_w X 0 x0 x1 (by omega) (by omega) hfx (by decide)).1
      have s0 : sm 0 = 0 := by decide
      rw [s0] at o1
      have z0 : (0 : Int).toNat = 0 := rfl
      rw [z0] at o1
      have sa := sm_abs X
      by_cases hneg : sm X < 0
      · rw [decide_eq_true hneg] at o1
        have hM := sa.1 hneg
        have mf := fin_mag hfx
        have o2 := (ord_w (mag X) G m0.1 (by omega) g0.1 (by omega) mf gf).2.1
        rw [sG, sm_pos m0.1 m0.2] at o2
        have nf : Op.negFloat .f64 X.toNat = (mag X).toNat := by
          have hX9 : (9223372036854775808 : Int) ≤ X := by
            unfold sm at hneg; split at hneg <;> omega
          have : ((X.toNat ^^^ 9223372036854775808 : Nat)) = X.toNat - 9223372036854775808 := by rw [xor_sign_nat _ (by omega), if_pos (by omega)]
          have e2 : Op.negFloat .f64 X.toNat = X.toNat ^^^ 9223372036854775808 := rfl
          rw [e2, this]; unfold mag; omega
        have R1 : ∀ W : World, (Op.unary .neg (.float .f64 X.toNat)).run Try.prog W = .ok (.float .f64 (mag X).toNat) W := fun W => by
          rw [← nf]; rfl
        clear hneg hM sa s0 sG nf
        by_cases cg : G < mag X
        · rw [decide_eq_true cg] at o2
          have hmx2 : max G (mag X) = mag X := by omega
          rw [hmx2] at hn
          clear cg hmx2
          go_wp2_with fail
          go_round
          case rel => exact ⟨k + 1, by omega, by go_num, by rw [hn.out]⟩
          case measure => simp [intOf]; omega
        · rw [decide_eq_false cg] at o2
          have hmx2 : max G (mag X) = G := by omega
          rw [hmx2] at hn
          clear cg hmx2
          go_wp2_with fail
          go_round
          case rel => exact ⟨k + 1, by omega, by go_num, by rw [hn.out]⟩
          case measure => simp [intOf]; omega
      · rw [decide_eq_false hneg] at o1
        have hM := sa.2 (by omega)
        have o2 := (ord_w X G x0 x1 g0.1 (by omega) hfx gf).2.1
        rw [sG, ← hM] at o2
        by_cases cg : G < mag X
        · rw [decide_eq_true cg] at o2
          have hmx2 : max G (mag X) = X := by
            have : sm X = X := by unfold sm at hM ⊢; split at hM <;> rename_i q <;> first | (rw [if_neg q]; unfold mag at *; omega) | omega
            omega
          rw [hmx2] at hn
          clear cg hmx2 hneg hM sa s0 sG
          go_wp2_with fail
          go_round
          case rel => exact ⟨k + 1, by omega, by go_num, by rw [hn.out]⟩
          case measure => simp [intOf]; omega
        · rw [decide_eq_false cg] at o2
          have hmx2 : max G (mag X) = G := by omega
          rw [hmx2] at hn
          clear cg hmx2 hneg hM sa s0 sG
          go_wp2_with fail
          go_round
          case rel => exact ⟨k + 1, by omega, by go_num, by rw [hn.out]⟩
          case measure => simp [intOf]; omega
    · obtain rfl : k = len := by omega
      have ht : l.take k = l := by rw [← h.1, List.take_length]
      rw [ht]
      have gf := fin_self hbd.1 HF.out
      have o0 := (ord_w (gmx l) 0 hbd.1 (by omega) (by omega) (by omega) gf (by decide)).2.2
      have z0 : (0 : Int).toNat = 0 := rfl
      have s0 : sm 0 = 0 := by decide
      rw [z0, s0, sm_pos hbd.1 hbd.2] at o0
      by_cases hz : gmx l = 0
      · have hr : R = 0 := by rw [← HR.out]; unfold pwr; rw [if_pos hz]
        subst hr
        rw [decide_eq_true hz] at o0
        clear hz s0
        go_wp2_with fail
        go_ret
        exact ⟨rfl, rfl⟩
      · rw [decide_eq_false hz] at o0
        have hr : R = nE (gmx l) + 53 := by rw [← HR.out]; unfold pwr; rw [if_neg hz]
        have HRR := Lib.hid hr
        have hGp : 0 < gmx l := by omega
        have hGb := nE_bd hbd.1 (by omega) gf (by rw [mag_self hbd.1 hbd.2]; exact hz)
        have hGf := HF.out
        have hst : Hv (gmx l) (gmx l) 0 := ⟨hGp, hGf, by omega⟩
        have HST := Lib.hid hst
        clear hz s0 hr hst
        generalize gmx l = G at *
        go_wp2_with fail
        go_loop [3, 6] (fun g p => ∃ y q : Int, g = .float .f64 y.toNat ∧ p = .int .i64 q ∧ Hid (Hv G y q) ∧ 0 < y ∧ y < 9218868437227405312 ∧ -2097 ≤ q ∧ q ≤ 2097) (fun _ p => (2200 - intOf p).toNat)
        case atStart => exact ⟨G, 0, rfl, rfl, HST, hGp, hGf, by omega, by omega⟩
        case round =>
          obtain ⟨y, q, rfl, rfl, HV, y0, y1, q0, q1⟩ := hrel
          have yf := fin_self (show 0 ≤ y by omega) y1
          have o1 := ord_w y 4607182418800017408 (by omega) (by omega) (by omega) (by omega) yf (by decide)
          have z1 : (4607182418800017408 : Int).toNat = 4607182418800017408 := rfl
          have s1 : sm 4607182418800017408 = 4607182418800017408 := by decide
          rw [z1, s1, sm_pos (by omega) (by omega)] at o1
          obtain ⟨_, c1, c2⟩ := o1
          by_cases hge : 4607182418800017408 ≤ y
          · have hh := half_mach y.toNat (by omega) (by omega)
            have e1 : y.toNat - 4503599627370496 = (y - 4503599627370496).toNat := by omega
            rw [e1] at hh
            have R1 : ∀ W : World, (binOp .quo 37 (.float .f64 y.toNat) (.float .f64 4611686018427387904)).run Try.prog W = .ok (.float .f64 (y - 4503599627370496).toNat) W := fun W => run_float_arith W .quo _ .f64 y.toNat 4611686018427387904 _ hh
            have hs := HV.out.half hge
            have hb := hs.bd hGb
            have HS := Lib.hid hs
            clear s1 hh e1 hs
            by_cases ceq : y = 4607182418800017408
            · rw [decide_eq_false (by omega)] at c1
              rw [decide_eq_true ceq] at c2
              clear ceq hge
              go_wp2_with fail
              go_round
              case rel => exact ⟨y - 4503599627370496, q + 1, rfl, by go_num, HS, HS.out.1, HS.out.2.1, hb.1, hb.2⟩
              case measure => simp [intOf]; omega
            · rw [decide_eq_true (by omega)] at c1
              clear ceq hge c2
              go_wp2_with fail
              go_round
              case rel => exact ⟨y - 4503599627370496, q + 1, rfl, by go_num, HS, HS.out.1, HS.out.2.1, hb.1, hb.2⟩
              case measure => simp [intOf]; omega
          · rw [decide_eq_false (by omega)] at c1 c2
            have hlt2 : y < 4607182418800017408 := by omega
            clear s1 hge
            go_wp2_with fail
            go_loop [3, 6] (fun g p => ∃ y q : Int, g = .float .f64 y.toNat ∧ p = .int .i64 q ∧ Hid (Hv G y q) ∧ 0 < y ∧ y < 4607182418800017408 ∧ -2097 ≤ q ∧ q ≤ 2097) (fun _ p => (intOf p + 2300).toNat)
            case atStart => exact ⟨y, q, rfl, rfl, HV, y0, hlt2, q0, q1⟩
            case round =>
              clear c1 c2 yf HV hlt2
              obtain ⟨y, q, rfl, rfl, HV, y0, y1, q0, q1⟩ := hrel
              have yf := fin_self (show 0 ≤ y by omega) (by omega)
              have o1 := (ord_w y 4602678819172646912 (by omega) (by omega) (by omega) (by omega) yf (by decide)).1
              have z1 : (4602678819172646912 : Int).toNat = 4602678819172646912 := rfl
              have s1 : sm 4602678819172646912 = 4602678819172646912 := by decide
              rw [z1, s1, sm_pos (by omega) (by omega)] at o1
              by_cases hl : y < 4602678819172646912
              · rw [decide_eq_true hl] at o1
                have hh := double_mach y.toNat (by omega) (by omega)
                obtain ⟨z, hz⟩ : ∃ z : Int, (if y.toNat < 4503599627370496 then 2 * y.toNat else y.toNat + 4503599627370496) = z.toNat ∧ z = if y < 4503599627370496 then 2 * y else y + 4503599627370496 := ⟨if y < 4503599627370496 then 2 * y else y + 4503599627370496, by split <;> split <;> omega, rfl⟩
                rw [hz.1] at hh
                have R1 : ∀ W : World, (binOp .mul 37 (.float .f64 y.toNat) (.float .f64 4611686018427387904)).run Try.prog W = .ok (.float .f64 z.toNat) W := fun W => run_float_arith W .mul _ .f64 y.toNat 4611686018427387904 _ hh
                have hs : Hv G z (q - 1) := by rw [hz.2]; exact HV.out.double hl
                have hb := hs.bd hGb
                have hzl : z < 4607182418800017408 := by rw [hz.2]; split <;> omega
                have HS := Lib.hid hs
                clear s1 hh hz hs hl
                go_wp2_with fail
                go_round
                case rel => exact ⟨z, q - 1, rfl, by go_num, HS, HS.out.1, hzl, hb.1, hb.2⟩
                case measure => simp [intOf]; omega
              · rw [decide_eq_false hl] at o1
                have he := HV.out.done (by omega) y1
                have HE := Lib.hid (show q = R by rw [HRR.out]; omega)
                clear s1 hl he
                go_wp2_with fail
                go_ret
                exact ⟨ret_int HE.out, rfl⟩
end
end Go.Proofs.Ytfaemgdeoamijaa
