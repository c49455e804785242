/-
  Layer 6, walks: the length of several, by the reference. (Written by wip/tools/gen_afl.py.)
-/
import Derived.Test.YtbaeabmmokgomaaMJRAfL
namespace Go.Proofs.Ytbaeabmmokgomaa
open Go Go.RowKit
set_option linter.unusedVariables false
set_option linter.unusedSimpArgs false

set_option maxRecDepth 100000 in
set_option maxHeartbeats 8000000 in
theorem rNorm_any {A : Option Addr} {len c : Nat} {l : List Int} {w : World} (h : FL w A len c l) :
    Calls Try.prog 69 #[.slice A len c] w (FA (nrmA l) w) := by
  have hmx := h.max
  have hln := Lib.hid h.1
  have b0 : 0 ≤ 18446744073709551615 := by omega
  have bI : 4607182418800017408 ≤ 18446744073709551615 := by omega
  go_enter Try.func69, Try.ntmps69
  go_wp2_with fail
  go_loopw [3, 4, 5] (fun sc su i wr => ∃ (k S U : Nat), k ≤ len ∧ i = .int .i64 k ∧ sc = .float .f64 S ∧ su = .float .f64 U ∧ Hid ((af S, af U) = nrmL (l.take k)) ∧ S ≤ 18446744073709551615 ∧ U ≤ 18446744073709551615 ∧ Dr w wr) (fun _ _ i _ => len - (intOf i).toNat)
  case atStart => exact ⟨0, 0, 4607182418800017408, Nat.zero_le _, rfl, rfl, rfl, Lib.hid (by rw [af_zero, af_one]; rfl), b0, bI, Dr.refl w⟩
  case round =>
    obtain ⟨k, S, U, hk, rfl, rfl, rfl, HN, bS, bU, dr⟩ := hrel
    by_cases hlt : k < len
    · obtain ⟨ad, rfl, hb, hc⟩ := (h.dr dr).at_ hlt
      obtain ⟨x0, x1⟩ := h.2.2.at_ k
      have i0 : (0 : Int) ≤ k := by omega
      have i1 : (k : Int) < len := by omega
      have hn := Lib.hid (nrmL_next (l := l) (k := k) (by rw [hln.out]; exact hlt))
      have bX : (D l k).toNat ≤ 18446744073709551615 := by omega
      generalize (D l k).toNat = X at *
      cases c1 : (FloatKind.f64.format.order X 0 == some .eq)
      · go_wp2_with fail
        with_reducible refine (rAbs_any bX _).mono ?_
        rintro e w1 ⟨r1, rfl, h1, b1, rfl⟩
        have H1 := Lib.hid h1
        clear h1
        cases c2 : (FloatKind.f64.format.order S r1 == some .lt)
        · obtain ⟨r2, w2, e2, d2, h2, b2⟩ := run_quo (P := Try.prog) 49 (x := r1) (y := S) b1 bS wr
          have H2 := Lib.hid h2
          clear h2
          replace dr := dr.trans d2
          clear d2
          obtain ⟨r3, w3, e3, d3, h3, b3⟩ := run_mul (P := Try.prog) 49 (x := r2) (y := r2) b2 b2 w2
          have H3 := Lib.hid h3
          clear h3
          replace dr := dr.trans d3
          clear d3
          obtain ⟨r4, w4, e4, d4, h4, b4⟩ := run_add (P := Try.prog) 49 (x := U) (y := r3) bU b3 w3
          have H4 := Lib.hid h4
          clear h4
          replace dr := dr.trans d4
          clear d4
          have HK : Hid ((af S, af r4) = nrmL (l.take (k + 1))) := Lib.hid (by
            rw [hn.out, ← HN.out]
            unfold nrmS
            dsimp only
            rw [← af_zero, eq_is bX b0, c1, if_neg (by decide), ← H1.out, lt_is bS b1, c2, if_neg (by decide), ← H2.out, ← H3.out, ← H4.out])
          go_wp2_with fail
          go_roundw
          case rel => exact ⟨k + 1, S, r4, by omega, by go_num, rfl, rfl, HK, bS, b4, dr⟩
          case measure => simp [intOf]; omega
        · obtain ⟨r5, w5, e5, d5, h5, b5⟩ := run_quo (P := Try.prog) 49 (x := S) (y := r1) bS b1 wr
          have H5 := Lib.hid h5
          clear h5
          replace dr := dr.trans d5
          clear d5
          obtain ⟨r6, w6, e6, d6, h6, b6⟩ := run_mul (P := Try.prog) 49 (x := U) (y := r5) bU b5 w5
          have H6 := Lib.hid h6
          clear h6
          replace dr := dr.trans d6
          clear d6
          obtain ⟨r7, w7, e7, d7, h7, b7⟩ := run_mul (P := Try.prog) 49 (x := r6) (y := r5) b6 b5 w6
          have H7 := Lib.hid h7
          clear h7
          replace dr := dr.trans d7
          clear d7
          obtain ⟨r8, w8, e8, d8, h8, b8⟩ := run_add (P := Try.prog) 49 (x := 4607182418800017408) (y := r7) bI b7 w7
          have H8 := Lib.hid h8
          clear h8
          replace dr := dr.trans d8
          clear d8
          have HK : Hid ((af r1, af r8) = nrmL (l.take (k + 1))) := Lib.hid (by
            rw [hn.out, ← HN.out]
            unfold nrmS
            dsimp only
            rw [← af_zero, eq_is bX b0, c1, if_neg (by decide), ← H1.out, lt_is bS b1, c2, if_pos rfl, ← af_one, ← H5.out, ← H6.out, ← H7.out, ← H8.out])
          go_wp2_with fail
          go_roundw
          case rel => exact ⟨k + 1, r1, r8, by omega, by go_num, rfl, rfl, HK, b1, b8, dr⟩
          case measure => simp [intOf]; omega
      · have HK : Hid ((af S, af U) = nrmL (l.take (k + 1))) := Lib.hid (by
          rw [hn.out, ← HN.out]
          unfold nrmS
          rw [← af_zero, eq_is bX b0, c1, if_pos rfl])
        go_wp2_with fail
        go_roundw
        case rel => exact ⟨k + 1, S, U, by omega, by go_num, rfl, rfl, HK, bS, bU, dr⟩
        case measure => simp [intOf]; omega
    · obtain rfl : k = len := by omega
      have ht : l.take k = l := by rw [← h.1, List.take_length]
      rw [ht] at HN
      go_wp2_with fail
      with_reducible refine (sqrt_any bU _).mono ?_
      rintro e w51 ⟨r51, rfl, h51, b51, d51⟩
      have H51 := Lib.hid h51
      clear h51
      replace dr := dr.trans d51
      clear d51
      obtain ⟨r52, w52, e52, d52, h52, b52⟩ := run_mul (P := Try.prog) 49 (x := S) (y := r51) bS b51 w51
      have H52 := Lib.hid h52
      clear h52
      replace dr := dr.trans d52
      clear d52
      go_wp2_with fail
      go_ret
      refine ⟨_, rfl, ?_, b52, dr⟩
      unfold nrmA
      rw [← HN.out, ← H51.out, ← H52.out]
end Go.Proofs.Ytbaeabmmokgomaa
