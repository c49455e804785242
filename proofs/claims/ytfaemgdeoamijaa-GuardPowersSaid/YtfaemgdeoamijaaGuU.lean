/-
  Layer 5: the law of powers.
-/
import Derived.Test.YtfaemgdeoamijaaGuT
namespace Go.Proofs.Ytfaemgdeoamijaa
open Go.RowKit Go.Bw
set_option linter.unusedVariables false
set_option linter.unusedSimpArgs false

theorem wrC_cases (r s : Int) (l : List Int) : (wrC r s l = 0 ∧ l.all fin = true ∧ mayB r s l = true) ∨ (wrC r s l = 10 ∧ mayB r s l = true) ∨ (wrC r s l = 8 ∧ mayB r s l = false) ∨ (wrC r s l = 2 ∧ mayB r s l = false) := by
  unfold wrC mayB
  cases hs : szB r s
  · right; right; right; exact ⟨rfl, rfl⟩
  · by_cases hl : (l.length : Int) = r * s
    · rw [if_pos rfl, if_pos hl, decide_eq_true hl]
      cases hf : l.all fin
      · right; left; exact ⟨rfl, rfl⟩
      · left; exact ⟨rfl, rfl, rfl⟩
    · rw [if_pos rfl, if_neg hl, decide_eq_false hl]
      right; right; left; exact ⟨rfl, rfl⟩

section
variable {A : Option Addr} {len c : Nat} {r s : Int} {l : List Int} {w : World}
set_option maxHeartbeats 8000000 in
theorem law_powers (h : FL w A len c l) :
    Calls Try.prog 6 #[mV r s A len c] w (Law w) := by
  have hmx := h.max
  have DB := Blk.new w [.int .i64 r, .int .i64 s, .slice A len c] 26
  have h2 := h.alloc (.cells #[.int .i64 r, .int .i64 s, .slice A len c] 26)
  have bw : Below w.heap.size w (w.alloc (.cells #[.int .i64 r, .int .i64 s, .slice A len c] 26)) := by go_grown
  obtain ⟨DB_0, DB_1, DB_2, DB_f0, DB_f1, DB_f2⟩ := Mbx.cells DB
  by_cases hlen : (400 : Int) < len
  · have k := kn (w.alloc (.cells #[.int .i64 r, .int .i64 s, .slice A len c] 26))
    go_enter Try.func6, Try.ntmps6
    go_wp2_with fail
    with_reducible refine k.mono ?_
    rintro e w1 ⟨rfl, hb⟩
    go_wp2_with fail
    go_ret
    exact ⟨rfl, bw.trans (hb.mono (by simp))⟩
  · have pw := fun W (hW : FL W A len c l) => rWrong_any (r := r) (s := s) hW
    have pm := fun W (hW : FL W A len c l) => may_any (r := r) (s := s) hW
    have PW := Lib.hid pw
    have PM := Lib.hid pm
    clear pw pm
    have hno := fun hC : wrC r s l ≠ 0 => power_no (r := r) (s := s) h2 hC
    have hyes := fun (hC : wrC r s l = 0) (hf : l.all fin = true) => power_yes (r := r) (s := s) h2 hC hf
    rcases wrC_cases r s l with ⟨hC, hf, hm⟩ | hbad
    · have p1 := hyes hC hf
      have p4 := fun W (hW : FL W A len c l) => rPower_any hW hf
      have P4 := Lib.hid p4
      rw [hC] at PW
      rw [hm] at PM
      clear hno hyes hC hm p4 hf
      obtain ⟨R, hR⟩ : ∃ R, pwr l = R := ⟨_, rfl⟩
      rw [hR] at p1 P4
      have dR : (R == R) = true := by simp
      clear hR
      go_enter Try.func6, Try.ntmps6
      go_wp2_with fail
      with_reducible refine p1.mono ?_
      rintro e w1 ⟨rfl, hb⟩
      replace bw := bw.trans (hb.mono (by simp))
      replace h2 := h2.on hb
      replace DB := Blk.on DB hb
      have hsz := bw.size
      clear hb p1 DB_0 DB_1 DB_2 DB_f0 DB_f1 DB_f2
      obtain ⟨DB_0, DB_1, DB_2, DB_f0, DB_f1, DB_f2⟩ := Mbx.cells DB
      have p2 := PW.out _ h2
      go_wp2_with fail
      with_reducible refine p2.mono ?_
      rintro e w2 ⟨rfl, hb⟩
      replace bw := bw.trans (hb.mono (by omega))
      replace h2 := h2.on hb
      replace DB := Blk.on DB hb
      clear hb p2 DB_0 DB_1 DB_2 DB_f0 DB_f1 DB_f2 hsz
      have hsz := bw.size
      obtain ⟨DB_0, DB_1, DB_2, DB_f0, DB_f1, DB_f2⟩ := Mbx.cells DB
      have p3 := PM.out _ h2
      go_wp2_with fail
      with_reducible refine p3.mono ?_
      rintro e w3 ⟨rfl, hb⟩
      replace bw := bw.trans (hb.mono (by omega))
      replace h2 := h2.on hb
      replace DB := Blk.on DB hb
      clear hb p3 DB_0 DB_1 DB_2 DB_f0 DB_f1 DB_f2 hsz
      have hsz := bw.size
      obtain ⟨DB_0, DB_1, DB_2, DB_f0, DB_f1, DB_f2⟩ := Mbx.cells DB
      have p4 := P4.out _ h2
      have k := kn w3
      go_wp2_with fail
      with_reducible refine p4.mono ?_
      rintro e w4 ⟨rfl, rfl⟩
      go_wp2_with fail
      with_reducible refine k.mono ?_
      rintro e w4 ⟨rfl, hb⟩
      go_wp2_with fail
      go_ret
      exact ⟨rfl, bw.trans (hb.mono (by omega))⟩
    · have hC0 : wrC r s l ≠ 0 := by rcases hbad with ⟨h, _⟩ | ⟨h, _⟩ | ⟨h, _⟩ <;> rw [h] <;> decide
      have p1 := hno hC0
      obtain ⟨C, hC⟩ : ∃ C, wrC r s l = C := ⟨_, rfl⟩
      obtain ⟨B, hB⟩ : ∃ B, mayB r s l = B := ⟨_, rfl⟩
      rw [hC] at p1 PW hbad
      rw [hB] at PM hbad
      clear hno hyes hC hB hC0
      rcases hbad with ⟨rfl, rfl⟩ | ⟨rfl, rfl⟩ | ⟨rfl, rfl⟩
      · go_enter Try.func6, Try.ntmps6
        go_wp2_with fail
        with_reducible refine p1.mono ?_
        rintro e w1 ⟨rfl, hb⟩
        replace bw := bw.trans (hb.mono (by simp))
        replace h2 := h2.on hb
        replace DB := Blk.on DB hb
        have hsz := bw.size
        clear hb p1 DB_0 DB_1 DB_2 DB_f0 DB_f1 DB_f2
        obtain ⟨DB_0, DB_1, DB_2, DB_f0, DB_f1, DB_f2⟩ := Mbx.cells DB
        have p2 := PW.out _ h2
        go_wp2_with fail
        with_reducible refine p2.mono ?_
        rintro e w2 ⟨rfl, hb⟩
        replace bw := bw.trans (hb.mono (by omega))
        replace h2 := h2.on hb
        replace DB := Blk.on DB hb
        clear hb p2 DB_0 DB_1 DB_2 DB_f0 DB_f1 DB_f2 hsz
        have hsz := bw.size
        obtain ⟨DB_0, DB_1, DB_2, DB_f0, DB_f1, DB_f2⟩ := Mbx.cells DB
        have p3 := PM.out _ h2
        go_wp2_with fail
        with_reducible refine p3.mono ?_
        rintro e w3 ⟨rfl, hb⟩
        replace bw := bw.trans (hb.mono (by omega))
        have hsz3 := bw.size
        have k := kn w3
        go_wp2_with fail
        with_reducible refine k.mono ?_
        rintro e w4 ⟨rfl, hb⟩
        go_wp2_with fail
        go_ret
        exact ⟨rfl, bw.trans (hb.mono (by omega))⟩
      · go_enter Try.func6, Try.ntmps6
        go_wp2_with fail
        with_reducible refine p1.mono ?_
        rintro e w1 ⟨rfl, hb⟩
        replace bw := bw.trans (hb.mono (by simp))
        replace h2 := h2.on hb
        replace DB := Blk.on DB hb
        have hsz := bw.size
        clear hb p1 DB_0 DB_1 DB_2 DB_f0 DB_f1 DB_f2
        obtain ⟨DB_0, DB_1, DB_2, DB_f0, DB_f1, DB_f2⟩ := Mbx.cells DB
        have p2 := PW.out _ h2
        go_wp2_with fail
        with_reducible refine p2.mono ?_
        rintro e w2 ⟨rfl, hb⟩
        replace bw := bw.trans (hb.mono (by omega))
        replace h2 := h2.on hb
        replace DB := Blk.on DB hb
        clear hb p2 DB_0 DB_1 DB_2 DB_f0 DB_f1 DB_f2 hsz
        have hsz := bw.size
        obtain ⟨DB_0, DB_1, DB_2, DB_f0, DB_f1, DB_f2⟩ := Mbx.cells DB
        have p3 := PM.out _ h2
        go_wp2_with fail
        with_reducible refine p3.mono ?_
        rintro e w3 ⟨rfl, hb⟩
        replace bw := bw.trans (hb.mono (by omega))
        have hsz3 := bw.size
        have k := kn w3
        go_wp2_with fail
        with_reducible refine k.mono ?_
        rintro e w4 ⟨rfl, hb⟩
        go_wp2_with fail
        go_ret
        exact ⟨rfl, bw.trans (hb.mono (by omega))⟩
      · go_enter Try.func6, Try.ntmps6
        go_wp2_with fail
        with_reducible refine p1.mono ?_
        rintro e w1 ⟨rfl, hb⟩
        replace bw := bw.trans (hb.mono (by simp))
        replace h2 := h2.on hb
        replace DB := Blk.on DB hb
        have hsz := bw.size
        clear hb p1 DB_0 DB_1 DB_2 DB_f0 DB_f1 DB_f2
        obtain ⟨DB_0, DB_1, DB_2, DB_f0, DB_f1, DB_f2⟩ := Mbx.cells DB
        have p2 := PW.out _ h2
        go_wp2_with fail
        with_reducible refine p2.mono ?_
        rintro e w2 ⟨rfl, hb⟩
        replace bw := bw.trans (hb.mono (by omega))
        replace h2 := h2.on hb
        replace DB := Blk.on DB hb
        clear hb p2 DB_0 DB_1 DB_2 DB_f0 DB_f1 DB_f2 hsz
        have hsz := bw.size
        obtain ⟨DB_0, DB_1, DB_2, DB_f0, DB_f1, DB_f2⟩ := Mbx.cells DB
        have p3 := PM.out _ h2
        go_wp2_with fail
        with_reducible refine p3.mono ?_
        rintro e w3 ⟨rfl, hb⟩
        replace bw := bw.trans (hb.mono (by omega))
        have hsz3 := bw.size
        have k := kn w3
        go_wp2_with fail
        with_reducible refine k.mono ?_
        rintro e w4 ⟨rfl, hb⟩
        go_wp2_with fail
        go_ret
        exact ⟨rfl, bw.trans (hb.mono (by omega))⟩
end
end Go.Proofs.Ytfaemgdeoamijaa
