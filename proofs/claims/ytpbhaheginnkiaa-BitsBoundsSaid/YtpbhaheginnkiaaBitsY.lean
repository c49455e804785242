/-
  Walks of layer 1, part eighteen: the reference's Read; the law on texts.
-/
import Derived.Test.YtpbhaheginnkiaaBitsQ
import Derived.Test.YtpbhaheginnkiaaBitsK
namespace Go.Proofs.Ytpbhaheginnkiaa
open Go.RowKit Go.Bw
set_option linter.unusedVariables false

theorem hv_dec {b : UInt8} (h : 48 ≤ b.toNat) (h' : b.toNat ≤ 57) : hv b = (b.toNat : Int) - 48 := by unfold hv; rw [if_pos ⟨h, h'⟩]
theorem hv_let {b : UInt8} (h : 65 ≤ b.toNat) (h' : b.toNat ≤ 70) : hv b = (b.toNat : Int) - 55 := by unfold hv; rw [if_neg (by omega), if_pos ⟨h, h'⟩]
theorem hv_bad {b : UInt8} (h : ¬ (48 ≤ b.toNat ∧ b.toNat ≤ 57)) (h' : ¬ (65 ≤ b.toNat ∧ b.toNat ≤ 70)) : hv b < 0 := by unfold hv; rw [if_neg h, if_neg h']; decide

set_option maxRecDepth 100000 in
set_option maxHeartbeats 1000000 in
theorem rread_long (s : ByteArray) (hs : s.size ≠ 16) (hm : s.size ≤ 9223372036854775807) (w : World) :
    Calls Try.prog 41 #[.string s] w fun e w' => e = .returned (readV s) ∧ w = w' := by
  have hne : ((s.size : Int) != 16) = true := by rw [bne_iff_ne]; omega
  go_enter Try.func41, Try.ntmps41
  go_wp2_with fail
  go_ret2
  exact ⟨congrArg _ (readV_size hs), rfl⟩

set_option maxRecDepth 100000 in
set_option maxHeartbeats 2000000 in
theorem rread_16 (s : ByteArray) (hs : s.size = 16) (w : World) :
    Calls Try.prog 41 #[.string s] w fun e w' => e = .returned (readV s) ∧ w = w' := by
  have HS := Lib.hid hs
  have hne : ((s.size : Int) != 16) = false := by rw [bne_eq_false_iff_eq]; omega
  clear hs
  go_enter Try.func41, Try.ntmps41
  go_wp2_with fail
  go_loop [4, 5] (fun a i => ∃ pos : Nat, pos ≤ 16 ∧ i = .int .i64 pos ∧ a = .int .u64 (acc s pos) ∧ Hid (allHex s pos)) (fun _ i => 16 - (intOf i).toNat)
  case atStart => exact ⟨0, by omega, rfl, by simp [acc], allHex_zero s⟩
  case round =>
    obtain ⟨pos, hp, rfl, rfl, ha⟩ := hrel
    by_cases c : pos < 16
    · have hlt : pos < s.size := by have := HS.out; omega
      have hnext := fun g : 0 ≤ hv (s[pos]'hlt) => allHex_succ hlt ha.out g
      have hacc := acc_succ s pos hlt
      have hab := acc_bd s pos (by omega) ha.out
      have hpw := pow16 pos (by omega)
      have ha0 : 0 ≤ acc s pos := hab.1
      have ha1 : acc s pos ≤ 1152921504606846975 := by omega
      have hno := fun g : hv (s[pos]'hlt) < 0 => readV_no HS.out hlt g
      have hdec := @hv_dec (s[pos]'hlt)
      have hlet := @hv_let (s[pos]'hlt)
      have hbad := @hv_bad (s[pos]'hlt)
      have hb255 : (s[pos]'hlt).toNat < 256 := (s[pos]'hlt).toNat_lt
      clear hab hpw
      have HX := Lib.hid hnext
      have HA := Lib.hid hacc
      have HN := Lib.hid hno
      clear hnext hacc hno hdec hlet hbad
      go_wp2_with fail
      · have g1 : (48 : Int) ≤ ((s[pos]'hlt).toNat : Int) := by assumption
        have g2 : ((s[pos]'hlt).toNat : Int) ≤ 57 := by assumption
        have e := @hv_dec (s[pos]'hlt) (by omega) (by omega)
        go_round
        case rel => exact ⟨pos + 1, by omega, by go_num, by rw [HA.out, e], Lib.hid (HX.out (by omega))⟩
        case measure => simp [intOf]; omega
      · have g1 : (65 : Int) ≤ ((s[pos]'hlt).toNat : Int) := by assumption
        have g2 : ((s[pos]'hlt).toNat : Int) ≤ 70 := by assumption
        have e := @hv_let (s[pos]'hlt) (by omega) (by omega)
        go_round
        case rel => exact ⟨pos + 1, by omega, by go_num, by rw [HA.out, e, show ((s[pos]'hlt).toNat : Int) - 65 + 10 = ((s[pos]'hlt).toNat : Int) - 55 by omega], Lib.hid (HX.out (by omega))⟩
        case measure => simp [intOf]; omega
      · have g1 : (70 : Int) < ((s[pos]'hlt).toNat : Int) := by assumption
        have e := @hv_bad (s[pos]'hlt) (by omega) (by omega)
        go_ret2
        exact ⟨congrArg _ (HN.out e), rfl⟩
      · have g1 : (57 : Int) < ((s[pos]'hlt).toNat : Int) := by assumption
        have g2 : ((s[pos]'hlt).toNat : Int) < 65 := by assumption
        have e := @hv_bad (s[pos]'hlt) (by omega) (by omega)
        go_ret2
        exact ⟨congrArg _ (HN.out e), rfl⟩
      · have g2 : ((s[pos]'hlt).toNat : Int) < 48 := by assumption
        have e := @hv_bad (s[pos]'hlt) (by omega) (by omega)
        go_ret2
        exact ⟨congrArg _ (HN.out e), rfl⟩
    · obtain rfl : pos = 16 := by omega
      have hyes := Lib.hid (readV_yes HS.out ha.out)
      go_wp2_with fail
      go_ret2
      exact ⟨congrArg _ hyes.out, rfl⟩

theorem rread_any (s : ByteArray) (hm : s.size ≤ 9223372036854775807) (w : World) :
    Calls Try.prog 41 #[.string s] w fun e w' => e = .returned (readV s) ∧ w = w' := by
  by_cases h : s.size = 16
  · exact rread_16 s h w
  · exact rread_long s h hm w

/-! ### a text read is its word -/
theorem hv_hexDigit_all : ∀ n : Fin 16, hv (hexDigit (n.val : Int)) = (n.val : Int) := by decide +kernel
theorem hv_hexDigit (d : Int) (h0 : 0 ≤ d) (h1 : d < 16) : hv (hexDigit d) = d := by
  have := hv_hexDigit_all ⟨d.toNat, by omega⟩
  simpa [Int.toNat_of_nonneg h0] using this
theorem hexText_size (x : Int) : (hexText x).size = 16 := by
  show (hexs x 16).toArray.size = 16
  simp [hexs_length]
theorem hexs_take (x : Int) : ∀ j k : Nat, (hexs x (k + j)).take k = hexs x k
  | 0, k => by
    have := hexs_length x k
    rw [Nat.add_zero, List.take_of_length_le (by omega)]
  | j + 1, k => by
    rw [← Nat.add_assoc, hexs_succ, List.take_append_of_le_length (by rw [hexs_length]; omega), hexs_take x j k]
theorem hexText_acc (x : Int) : ∀ k : Nat, k ≤ 16 → acc (hexText x) k = (hexs x k).foldl (fun a b => a * 16 + hv b) 0 := by
  intro k hk
  have e : (hexText x).data.toList = hexs x (k + (16 - k)) := by
    show (hexs x 16).toArray.toList = _
    rw [show k + (16 - k) = 16 by omega]
  unfold acc
  rw [e, hexs_take]
theorem hexs_num (x : Int) (h0 : 0 ≤ x) (h1 : x ≤ 18446744073709551615) : ∀ k : Nat, k ≤ 16 → (hexs x k).foldl (fun a b => a * 16 + hv b) 0 = x / 2 ^ (64 - 4 * k)
  | 0, _ => by
    show (0 : Int) = x / 2 ^ 64
    rw [Int.ediv_eq_zero_of_lt h0 (by have : (2 : Int) ^ 64 = 18446744073709551616 := by decide
                                      omega)]
  | k + 1, hk => by
    have ih := hexs_num x h0 h1 k (by omega)
    rw [hexs_succ, List.foldl_append, ih]
    show x / 2 ^ (64 - 4 * k) * 16 + hv (hexDigit (x / 2 ^ (60 - 4 * k) % 16)) = x / 2 ^ (64 - 4 * (k + 1))
    have hy := div_pow_bd x (60 - 4 * k) h0 h1
    rw [hv_hexDigit _ (by omega) (by omega), show 64 - 4 * (k + 1) = 60 - 4 * k by omega, show 64 - 4 * k = (60 - 4 * k) + 4 by omega, Int.pow_add, ← Int.ediv_ediv_of_nonneg (Int.le_of_lt (Int.pow_pos (by decide)))]
    generalize x / 2 ^ (60 - 4 * k) = y at hy
    show y / 16 * 16 + y % 16 = y
    omega
theorem hexText_digit (x : Int) (h0 : 0 ≤ x) (h1 : x ≤ 18446744073709551615) (i : Nat) (h : i < (hexText x).size) : 0 ≤ hv ((hexText x)[i]'h) := by
  have hi : i < 16 := by rw [hexText_size] at h; exact h
  have e : (hexText x)[i]'h = hexDigit (x / 2 ^ (60 - 4 * i) % 16) := by
    show (hexs x 16).toArray[i]'_ = _
    simp [hexs]
  have hy := div_pow_bd x (60 - 4 * i) h0 h1
  rw [e, hv_hexDigit _ (by omega) (by omega)]
  omega
theorem readV_hexText (x : Int) (h0 : 0 ≤ x) (h1 : x ≤ 18446744073709551615) : readV (hexText x) = .tuple #[.int .u64 x, .int .i64 0] := by
  have hall : allHex (hexText x) 16 := fun i h _ => hexText_digit x h0 h1 i h
  rw [← readV_yes (hexText_size x) hall, hexText_acc x 16 (by omega), hexs_num x h0 h1 16 (by omega)]
  show Value.tuple #[.int .u64 (x / 2 ^ 0), .int .i64 0] = _
  simp

/-! ### the law -/
theorem readV_two (s : ByteArray) : ∃ a f : Int, readV s = .tuple #[.int .u64 a, .int .i64 f] := by
  unfold readV
  split
  · exact ⟨_, _, rfl⟩
  · exact ⟨_, _, rfl⟩

set_option maxRecDepth 100000 in
set_option maxHeartbeats 1000000 in
theorem law_texts_long (x : Int) (s : ByteArray) (hs : 9000 < s.size) (hm : s.size ≤ 9223372036854775807) (w : World) :
    Calls Try.prog 11 #[.int .u64 x, .string s] w fun e w' => e = .returned (.bool true) ∧ Below w.heap.size w w' := by
  have hb : decide (9000 < s.size) = true := by simpa using hs
  go_enter Try.func11, Try.ntmps11
  go_wp2_with (go_at_call 18; refine (known_any _).mono ?_; rintro e w3 ⟨rfl, hb3⟩)
  go_ret
  exact ⟨rfl, hb3⟩

set_option maxRecDepth 100000 in
set_option maxHeartbeats 2000000 in
theorem law_texts_short (x : Int) (s t : ByteArray) (a f : Int) (hs : s.size ≤ 9000)
    (h1 : Hid (∀ w, Calls Try.prog 40 #[.string s] w fun e w' => e = .returned (.tuple #[.int .u64 a, .int .i64 f]) ∧ Below w.heap.size w w'))
    (h2 : Hid (∀ w, Calls Try.prog 41 #[.string s] w fun e w' => e = .returned (.tuple #[.int .u64 a, .int .i64 f]) ∧ w = w'))
    (h3 : Hid (∀ w, Calls Try.prog 42 #[.int .u64 x] w fun e w' => e = .returned (.string t) ∧ Below w.heap.size w w'))
    (h4 : Hid (∀ w, Calls Try.prog 40 #[.string t] w fun e w' => e = .returned (.tuple #[.int .u64 x, .int .i64 0]) ∧ Below w.heap.size w w'))
    (h5 : Hid (∀ w, Calls Try.prog 43 #[.int .u64 x] w fun e w' => e = .returned (.string t) ∧ Below w.heap.size w w')) (w : World) :
    Calls Try.prog 11 #[.int .u64 x, .string s] w fun e w' => e = .returned (.bool true) ∧ Below w.heap.size w w' := by
  have hb : decide (9000 < s.size) = false := by simp; omega
  go_enter Try.func11, Try.ntmps11
  go_wp2_with fail
  refine (h1.out _).mono ?_
  rintro e w1 ⟨rfl, b1⟩
  go_wp2_with fail
  refine (h2.out _).mono ?_
  rintro e w' ⟨rfl, rfl⟩
  go_wp2_with fail
  refine (h3.out _).mono ?_
  rintro e w2 ⟨rfl, b2⟩
  go_wp2_with fail
  refine (h4.out _).mono ?_
  rintro e w3 ⟨rfl, b3⟩
  go_wp2_with (go_at_call 25; refine (num_any _ _).mono ?_; rintro e w' ⟨rfl, rfl⟩)
  refine (h3.out _).mono ?_
  rintro e w4 ⟨rfl, b4⟩
  go_wp2_with fail
  refine (h5.out _).mono ?_
  rintro e w5 ⟨rfl, b5⟩
  go_wp2_with (go_at_call 25; refine (num_any _ _).mono ?_; rintro e w' ⟨rfl, rfl⟩)
  refine (known_any _).mono ?_
  rintro e w6 ⟨rfl, b6⟩
  go_wp2_with fail
  go_ret
  have z1 := b1.size
  have z2 := b2.size
  have z3 := b3.size
  have z4 := b4.size
  have z5 := b5.size
  exact ⟨rfl, b1.trans ((b2.mono z1).trans ((b3.mono (by omega)).trans ((b4.mono (by omega)).trans ((b5.mono (by omega)).trans (b6.mono (by omega))))))⟩

theorem law_texts (x : Int) (s : ByteArray) (h0 : 0 ≤ x) (h1 : x ≤ 18446744073709551615) (hm : s.size ≤ 9223372036854775807) (w : World) :
    Calls Try.prog 11 #[.int .u64 x, .string s] w fun e w' => e = .returned (.bool true) ∧ Below w.heap.size w w' := by
  by_cases h : s.size ≤ 9000
  · obtain ⟨a, f, hr⟩ := readV_two s
    exact law_texts_short x s (hexText x) a f h (Lib.hid fun w => by rw [← hr]; exact read_any s hm w) (Lib.hid fun w => by rw [← hr]; exact rread_any s hm w)
      (Lib.hid fun w => text_any x h0 h1 w) (Lib.hid fun w => by rw [← readV_hexText x h0 h1]; exact read_any _ (by rw [hexText_size]; decide) w) (Lib.hid fun w => rtext_any x h0 h1 w) w
  · exact law_texts_long x s (by omega) hm w
end Go.Proofs.Ytpbhaheginnkiaa
