/-
  Layer 5, walks: a matrix's power, by the program; why it is refused, by the reference.
-/
import Derived.Test.YtfaemgdeoamijaaGuP
namespace Go.Proofs.Ytfaemgdeoamijaa
open Go.RowKit Go.Bw
set_option linter.unusedVariables false
set_option linter.unusedSimpArgs false

section
variable {A : Option Addr} {len c : Nat} {r s : Int} {l : List Int} {w : World}
set_option maxHeartbeats 2000000 in
theorem power_no (h : FL w A len c l) (hw : wrC r s l ≠ 0) :
    Calls Try.prog 20 #[mV r s A len c] w fun e w' => e = .returned (.tuple #[.int .i64 0, .int .i64 (wrC r s l)]) ∧ Below w.heap.size w w' := by
  have DB := Blk.new w [.int .i64 r, .int .i64 s, .slice A len c] 26
  obtain ⟨DB_0, DB_1, DB_2, DB_f0, DB_f1, DB_f2⟩ := Mbx.cells DB
  have h2 := h.alloc (.cells #[.int .i64 r, .int .i64 s, .slice A len c] 26)
  have bw : Below w.heap.size w (w.alloc (.cells #[.int .i64 r, .int .i64 s, .slice A len c] 26)) := by go_grown
  have pw := wrong_any (r := r) (s := s) h2
  have d : (wrC r s l != 0) = true := by simpa using hw
  go_enter Try.func20, Try.ntmps20
  go_wp2_with (go_at_call 38; ((with_reducible refine pw.mono ?_); rintro e w1 ⟨rfl, hb⟩))
  go_ret2
  exact ⟨rfl, bw.trans (hb.mono (by simp))⟩

set_option maxHeartbeats 4000000 in
theorem power_yes (h : FL w A len c l) (hw : wrC r s l = 0) (hf : l.all fin = true) :
    Calls Try.prog 20 #[mV r s A len c] w fun e w' => e = .returned (.tuple #[.int .i64 (pwr l), .int .i64 0]) ∧ Below w.heap.size w w' := by
  have hmx := h.max
  have DB := Blk.new w [.int .i64 r, .int .i64 s, .slice A len c] 26
  have h2 := h.alloc (.cells #[.int .i64 r, .int .i64 s, .slice A len c] 26)
  have bw : Below w.heap.size w (w.alloc (.cells #[.int .i64 r, .int .i64 s, .slice A len c] 26)) := by go_grown
  have pw := wrong_any (r := r) (s := s) h2
  rw [hw] at pw
  obtain ⟨R, hR⟩ : ∃ R, pwr l = R := ⟨_, rfl⟩
  have HR := Lib.hid hR
  rw [hR]
  have HF := Lib.hid (gmx_fin hf)
  have hbd := gmx_bd l
  clear hR
  obtain ⟨DB_0, DB_1, DB_2, DB_f0, DB_f1, DB_f2⟩ := Mbx.cells DB
  go_enter Try.func20, Try.ntmps20
  go_wp2_with (go_at_call 38; ((with_reducible refine pw.mono ?_); rintro e w1 ⟨rfl, hb⟩; have h3 := h2.on hb; have DC := Blk.on DB hb; obtain ⟨DC_0, DC_1, DC_2, DC_f0, DC_f1, DC_f2⟩ := Mbx.cells DC))
  have bw1 : Below w.heap.size w w1 := bw.trans (hb.mono (by simp))
  clear DB_0 DB_1 DB_2 DB_f0 DB_f1 DB_f2 hb bw h2 DB pw
  go_loop [5, 18] (fun g i => ∃ k : Nat, k ≤ len ∧ i = .int .i64 k ∧ g = .int .u64 (gmx (l.take k))) (fun _ i => len - (intOf i).toNat)
  case atStart => exact ⟨0, Nat.zero_le _, rfl, rfl⟩
  case round =>
    obtain ⟨k, hk, rfl, rfl⟩ := hrel
    by_cases hlt : k < len
    · obtain ⟨ad, rfl, hb, hc⟩ := h3.at_ hlt
      obtain ⟨x0, x1⟩ := h3.2.2.at_ k
      have i0 : (0 : Int) ≤ k := by omega
      have i1 : (k : Int) < len := by omega
      have hn := Lib.hid (gmx_next (l := l) (k := k) (by rw [h3.1]; exact hlt))
      obtain ⟨X, hX⟩ : ∃ X, D l k = X := ⟨_, rfl⟩
      rw [hX] at hc x0 x1 hn
      have hbk := run_bits_back X x0
      have g0 := gmx_bd (l.take k)
      have m0 := mag_bd X
      clear hX
      generalize gmx (l.take k) = G at *
      go_wp2_with (go_at_call 35; refine (size_any _ x0 x1 _).mono ?_; rintro e w2 ⟨rfl, rfl⟩)
      go_round
      case rel => exact ⟨k + 1, by omega, by go_num, by rw [hn.out]⟩
      case measure => simp [intOf]; omega
    · obtain rfl : k = len := by omega
      have ht : l.take k = l := by rw [← h3.1, List.take_length]
      rw [ht]
      by_cases hz : gmx l = 0
      · have hr : R = 0 := by rw [← HR.out]; unfold pwr; rw [if_pos hz]
        subst hr
        have d : (gmx l == 0) = true := by simpa using hz
        clear hz
        go_wp2_with fail
        go_ret2
        exact ⟨rfl, bw1⟩
      · have d : (gmx l == 0) = false := by simpa using hz
        have hfin := fin_self hbd.1 HF.out
        have hmg : mag (gmx l) ≠ 0 := by rw [mag_self hbd.1 hbd.2]; exact hz
        have hpx := px_bd hbd.1 (by omega) hfin
        have hpm := pm_bd (gmx l)
        obtain ⟨b1, b2⟩ := bl_int hbd.1 (by omega) hmg
        have hr : R = px (gmx l) + ((Lib.bitLen (pm (gmx l)).toNat : Nat) : Int) := by
          rw [← HR.out, b1]; unfold pwr nE; rw [if_neg hz]; omega
        have HRR := Lib.hid hr
        have hB : 1 ≤ ((Lib.bitLen (pm (gmx l)).toNat : Nat) : Int) ∧ ((Lib.bitLen (pm (gmx l)).toNat : Nat) : Int) ≤ 53 := by omega
        have pa := fun W => apart_any (gmx l) hbd.1 (by omega) W
        have PA := Lib.hid pa
        clear hz hfin hmg b1 b2 hr pa HR HF
        generalize px (gmx l) = X at *
        generalize pm (gmx l) = Y at *
        go_wp2_with (first
          | (go_at_call 39; refine (PA.out _).mono ?_; rintro e9 w2 ⟨rfl, rfl⟩)
          | (go_at_call 40; refine (Try.bits_Len64 _ _ (by omega) (by omega)).mono ?_; rintro e9 w2 ⟨rfl, rfl⟩))
        go_ret2
        exact ⟨tuple_2 HRR.out.symm rfl, bw1⟩

set_option maxHeartbeats 2000000 in
theorem rWrong_any (h : FL w A len c l) :
    Calls Try.prog 21 #[mV r s A len c] w fun e w' => e = .returned (.int .i64 (wrC r s l)) ∧ Below w.heap.size w w' := by
  have hmx := h.max
  have DB := Blk.new w [.int .i64 r, .int .i64 s, .slice A len c] 26
  have h2 := h.alloc (.cells #[.int .i64 r, .int .i64 s, .slice A len c] 26)
  have bw : Below w.heap.size w (w.alloc (.cells #[.int .i64 r, .int .i64 s, .slice A len c] 26)) := by go_grown
  have hl := h.1
  obtain ⟨C, hC⟩ : ∃ C, wrC r s l = C := ⟨_, rfl⟩
  have HC := Lib.hid hC
  rw [hC]
  clear hC
  obtain ⟨DB_0, DB_1, DB_2, DB_f0, DB_f1, DB_f2⟩ := Mbx.cells DB
  cases hs : szB r s
  · have hf : C = 2 := by rw [← HC.out]; unfold wrC; rw [hs]; rfl
    subst hf
    have hs' : ¬ (0 ≤ r ∧ r ≤ 512 ∧ 0 ≤ s ∧ s ≤ 512) := by unfold szB at hs; exact of_decide_eq_false hs
    have HS := Lib.hid hs'
    clear hs hs'
    by_cases c1 : r < 0
    · go_enter Try.func21, Try.ntmps21
      go_wp2_with fail
      go_ret
      exact ⟨rfl, by go_grown⟩
    · by_cases c2 : 512 < r
      · go_enter Try.func21, Try.ntmps21
        go_wp2_with fail
        go_ret
        exact ⟨rfl, by go_grown⟩
      · by_cases c3 : s < 0
        · go_enter Try.func21, Try.ntmps21
          go_wp2_with fail
          go_ret
          exact ⟨rfl, by go_grown⟩
        · have c4 : 512 < s := by have := HS.out; omega
          go_enter Try.func21, Try.ntmps21
          go_wp2_with fail
          go_ret
          exact ⟨rfl, by go_grown⟩
  · obtain ⟨⟨m0, m1, n0, n1⟩, p0, p1⟩ := szB_bd hs
    obtain ⟨P, hP⟩ : ∃ P, r * s = P := ⟨_, rfl⟩
    by_cases hx : (len : Int) = P
    · have h10 : l.all fin = false → C = 10 := fun hf => by rw [← HC.out]; unfold wrC; rw [hs, if_pos rfl, hl, if_pos (by rw [hP]; exact hx), hf]; rfl
      have h00 : l.all fin = true → C = 0 := fun hf => by rw [← HC.out]; unfold wrC; rw [hs, if_pos rfl, hl, if_pos (by rw [hP]; exact hx), hf]; rfl
      have H10 := Lib.hid h10
      have H00 := Lib.hid h00
      have hln := Lib.hid hl
      have d : ((len : Int) != P) = false := by simp; omega
      rw [hP] at p0 p1
      clear h10 h00 hl hx HC
      go_enter Try.func21, Try.ntmps21
      go_wp2_with fail
      go_loop [3] (fun i => ∃ k : Nat, k ≤ len ∧ i = .int .i64 k ∧ Hid (∀ j, j < k → fin (D l j) = true)) (fun i => len - (intOf i).toNat)
      case atStart => exact ⟨0, Nat.zero_le _, rfl, Lib.hid (fun j hj => by omega)⟩
      case round =>
        obtain ⟨k, hk, rfl, HK⟩ := hrel
        by_cases hlt : k < len
        · obtain ⟨ad, rfl, hb, hc⟩ := h2.at_ hlt
          obtain ⟨x0, x1⟩ := h2.2.2.at_ k
          have i0 : (0 : Int) ≤ k := by omega
          have i1 : (k : Int) < len := by omega
          obtain ⟨X, hX⟩ : ∃ X, D l k = X := ⟨_, rfl⟩
          have HX := Lib.hid hX
          rw [hX] at hc x0 x1
          clear hX
          have hbk := run_bits_back X x0
          cases hP2 : fin X
          · have hf : C = 10 := H10.out (all_false (by rw [hln.out]; exact hlt) (by rw [HX.out]; exact hP2))
            subst hf
            go_wp2_with (go_at_call 19; refine (rFinite_any _ x0 x1 _).mono ?_; rintro e9 w' ⟨rfl, rfl⟩)
            go_ret
            exact ⟨rfl, bw⟩
          · have HK2 := Lib.hid (show ∀ j, j < k + 1 → fin (D l j) = true from fun j hj => by
              rcases Nat.lt_or_ge j k with g | g
              · exact HK.out j g
              · obtain rfl : j = k := by omega
                rw [HX.out]; exact hP2)
            go_wp2_with (go_at_call 19; refine (rFinite_any _ x0 x1 _).mono ?_; rintro e9 w' ⟨rfl, rfl⟩)
            go_round
            case rel => exact ⟨k + 1, by omega, by go_num, HK2⟩
            case measure => simp [intOf]; omega
        · obtain rfl : k = len := by omega
          have hf : C = 0 := H00.out (all_true (fun j hj => HK.out j (by rw [hln.out] at hj; exact hj)))
          subst hf
          go_wp2_with fail
          go_ret
          exact ⟨rfl, bw⟩
    · have hf : C = 8 := by rw [← HC.out]; unfold wrC; rw [hs, if_pos rfl, hl, if_neg (by rw [hP]; exact hx)]
      subst hf
      have d : ((len : Int) != P) = true := by simp; omega
      rw [hP] at p0 p1
      clear hx
      go_enter Try.func21, Try.ntmps21
      go_wp2_with fail
      go_ret
      exact ⟨rfl, by go_grown⟩
end
end Go.Proofs.Ytfaemgdeoamijaa
