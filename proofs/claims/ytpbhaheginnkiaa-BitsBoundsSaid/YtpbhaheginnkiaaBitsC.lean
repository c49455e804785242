/-
  Walks of layer 1, part two: parts of words: the program's and the reference's; 'join', 'split'.
-/
import Derived.Test.YtpbhaheginnkiaaBitsB
import Derived.Test.YtpbhaheginnkiaaShelf
import Derived.Test.YtpbhaheginnkiaaBitsR
import Derived.Handy
namespace Go.Bw
/-- parts of a finite word -/
def pneg (x : Int) : Bool := decide (9223372036854775808 ≤ x)
def pman (x : Int) : Int := if cls x = 3 then 4503599627370496 + frc x else frc x
def pexp (x : Int) : Int := if cls x = 1 then 0 else if cls x = 2 then -1074 else fld x - 1075
end Go.Bw
namespace Go.Proofs.Ytpbhaheginnkiaa
open Go.RowKit Go.Bw
set_option linter.unusedVariables false

abbrev partsV (neg : Bool) (man exp : Int) : Value := .agg #[.bool neg, .int .u64 man, .int .i64 exp]

theorem cls_frc0 {x : Int} (h : cls x = 1) : frc x = 0 := by
  unfold cls at h; repeat' split at h
  all_goals omega

/-- what Parts answers -/
def partsR (x : Int) : Value := .tuple (if cls x ≤ 3 then #[partsV (pneg x) (pman x) (pexp x), .int .i64 0] else #[partsV false 0 0, .int .i64 2])

theorem partsR_1 {x : Int} (h : (cls x == 1) = true) : Value.tuple #[partsV (decide (9223372036854775808 ≤ x)) 0 0, .int .i64 0] = partsR x := by
  simp at h
  unfold partsR pneg pman pexp
  rw [if_pos (by omega), if_neg (by omega), if_pos h, cls_frc0 h]
theorem partsR_2 {x : Int} (h : (cls x == 2) = true) : Value.tuple #[partsV (decide (9223372036854775808 ≤ x)) (frc x) (-1074), .int .i64 0] = partsR x := by
  simp at h
  unfold partsR pneg pman pexp
  rw [if_pos (by omega), if_neg (by omega), if_neg (by omega), if_pos h]
theorem partsR_3 {x : Int} (h : (cls x == 3) = true) : Value.tuple #[partsV (decide (9223372036854775808 ≤ x)) (4503599627370496 + frc x) (fld x - 1 + -1074), .int .i64 0] = partsR x := by
  simp at h
  unfold partsR pneg pman pexp
  rw [if_pos (by omega), if_pos h, if_neg (by omega), if_neg (by omega), show fld x - 1 + -1074 = fld x - 1075 by omega]
theorem partsR_no {x : Int} (a : (cls x == 1) = false) (b : (cls x == 2) = false) (c : (cls x == 3) = false) : Value.tuple #[partsV false 0 0, .int .i64 2] = partsR x := by
  simp at a b c
  have := cls_bd x
  unfold partsR
  rw [if_neg (by omega)]

theorem bcell {W w1 : World} (hb : Below W.heap.size W w1) : (∀ b o, b < W.heap.size → w1.cell? ⟨b, o, none⟩ = W.cell? ⟨b, o, none⟩) ∧ (∀ b o, b < W.heap.size → w1.frozen? ⟨b, o, none⟩ = W.frozen? ⟨b, o, none⟩) :=
  ⟨fun b o h => hb.cell (p := ⟨b, o, none⟩) h, fun b o h => hb.frozen (p := ⟨b, o, none⟩) h⟩

set_option maxHeartbeats 1000000 in
theorem parts_any (x : Int) (h0 : 0 ≤ x) (h1 : x ≤ 18446744073709551615) (w : World) :
    Calls Try.prog 23 #[.int .u64 x] w fun e w' => e = .returned (partsR x) ∧ Below w.heap.size w w' := by
  have es := sign_op x h0 h1
  have hf := frc_bd x
  have eo := or_hidden (frc x) hf.1 (by omega)
  have hd := fld_bd x
  go_enter Try.func23, Try.ntmps23
  go_wp2_with (first
    | (go_at_call 14; refine (class_any _ h0 h1 _).mono ?_; rintro e w' ⟨rfl, rfl⟩)
    | (go_at_call 47; refine (field_any _ h0 h1 _).mono ?_; rintro e w' ⟨rfl, rfl⟩)
    | (go_at_call 48; refine (fraction_any _ h0 h1 _).mono ?_; rintro e w' ⟨rfl, rfl⟩))
  · refine bodyPost_ret (v := .tuple #[partsV (decide (9223372036854775808 ≤ x)) 0 0, .int .i64 0]) (by simp [results, Try.results23, go_sem]) rfl ⟨congrArg _ (partsR_1 ‹_›), ?_⟩
    go_grown
  · refine bodyPost_ret (v := .tuple #[partsV (decide (9223372036854775808 ≤ x)) (frc x) (-1074), .int .i64 0]) (by simp [results, Try.results23, go_sem]) rfl ⟨congrArg _ (partsR_2 ‹_›), ?_⟩
    go_grown
  · refine bodyPost_ret (v := .tuple #[partsV (decide (9223372036854775808 ≤ x)) (4503599627370496 + frc x) (fld x - 1 + -1074), .int .i64 0]) (by simp [results, Try.results23, go_sem]) rfl ⟨congrArg _ (partsR_3 ‹_›), ?_⟩
    go_grown
  · refine bodyPost_ret (v := .tuple #[partsV false 0 0, .int .i64 2]) (by simp [results, Try.results23, go_sem]) rfl ⟨congrArg _ (partsR_no ‹_› ‹_› ‹_›), ?_⟩
    go_grown

theorem rparts_1 {x : Int} (h : (cls x == 1) = true) : partsV (decide (9223372036854775808 ≤ x)) (frc x) 0 = partsV (pneg x) (pman x) (pexp x) := by
  simp at h
  unfold pneg pman pexp
  rw [if_neg (by omega), if_pos h]
theorem rparts_2 {x : Int} (a : (cls x == 1) = false) (h : (cls x == 3) = false) (hf : cls x ≤ 3) : partsV (decide (9223372036854775808 ≤ x)) (frc x) (-1074) = partsV (pneg x) (pman x) (pexp x) := by
  simp at h a
  have := cls_bd x
  unfold pneg pman pexp
  rw [if_neg (by omega), if_neg (by omega), if_pos (by omega)]
theorem rparts_3 {x : Int} (h : (cls x == 3) = true) : partsV (decide (9223372036854775808 ≤ x)) (frc x + 4503599627370496) (fld x - 1075) = partsV (pneg x) (pman x) (pexp x) := by
  simp at h
  unfold pneg pman pexp
  rw [if_pos h, if_neg (by omega), if_neg (by omega), Int.add_comm]

set_option maxHeartbeats 1000000 in
theorem rparts_any (x : Int) (h0 : 0 ≤ x) (h1 : x ≤ 18446744073709551615) (hc : cls x ≤ 3) (w : World) :
    Calls Try.prog 28 #[.int .u64 x] w fun e w' => e = .returned (partsV (pneg x) (pman x) (pexp x)) ∧ Below w.heap.size w w' := by
  have ef := field_op x h0 h1
  have eg := fraction_op x h0 h1
  have hf := frc_bd x
  have hd := fld_bd x
  go_enter Try.func28, Try.ntmps28
  go_wp2_with (go_at_call 15; refine (rclass_any _ h0 h1 _).mono ?_; rintro e w' ⟨rfl, rfl⟩)
  · refine bodyPost_ret (v := partsV (decide (9223372036854775808 ≤ x)) (frc x) 0) (by simp [results, Try.results28, go_sem]) rfl ⟨congrArg _ (rparts_1 ‹_›), ?_⟩
    go_grown
  · refine bodyPost_ret (v := partsV (decide (9223372036854775808 ≤ x)) (frc x + 4503599627370496) (fld x - 1075)) (by simp [results, Try.results28, go_sem]) rfl ⟨congrArg _ (rparts_3 ‹_›), ?_⟩
    go_grown
  · refine bodyPost_ret (v := partsV (decide (9223372036854775808 ≤ x)) (frc x) (-1074)) (by simp [results, Try.results28, go_sem]) rfl ⟨congrArg _ (rparts_2 ‹_› ‹_› hc), ?_⟩
    go_grown

/-! ### a word put together -/
set_option maxHeartbeats 1000000 in
theorem join_any (neg : Bool) (whole exp : Int) (h0 : 0 ≤ whole) (h1 : whole ≤ 9007199254740992) (e0 : -1074 ≤ exp) (e1 : exp ≤ 2900) (w : World) :
    Calls Try.prog 52 #[.bool neg, .int .u64 whole, .int .i64 exp] w fun e w' => e = .returned (.int .u64 (signW neg (joinM whole exp))) ∧ w = w' := by
  have hs := join_sum h0 h1 e0 e1
  cases neg
  · go_enter Try.func52, Try.ntmps52
    go_wp2
    go_ret
    exact ⟨rfl, rfl⟩
  · have ho := or_sign (min ((exp + 1074) * 4503599627370496 + whole) 9218868437227405312) (by omega) (by omega)
    have H := Lib.hid ho
    clear ho
    go_enter Try.func52, Try.ntmps52
    go_wp2
    go_ret
    exact ⟨ret_int H.out, rfl⟩

theorem tuple_3 {k1 k2 k3 : IntKind} {a b c a' b' c' : Int} (h1 : a = a') (h2 : b = b') (h3 : c = c') : Ending.returned (.tuple #[.int k1 a, .int k2 b, .int k3 c]) = .returned (.tuple #[.int k1 a', .int k2 b', .int k3 c']) := by rw [h1, h2, h3]
theorem tuple_2 {k1 k2 : IntKind} {a b a' b' : Int} (h1 : a = a') (h2 : b = b') : Ending.returned (.tuple #[.int k1 a, .int k2 b]) = .returned (.tuple #[.int k1 a', .int k2 b']) := by rw [h1, h2]

set_option maxHeartbeats 1000000 in
theorem split_zero (neg : Bool) (exp : Int) (w : World) :
    Calls Try.prog 51 #[partsV neg 0 exp] w fun e w' => e = .returned (.tuple #[.int .u64 0, .int .u64 0, .int .i64 (-1074)]) ∧ Below w.heap.size w w' := by
  go_enter Try.func51, Try.ntmps51
  go_wp2_with fail
  go_ret3
  exact ⟨rfl, by go_grown⟩

set_option maxHeartbeats 1000000 in
theorem split_up (neg : Bool) (man exp f L E d : Int) (h0 : 0 < man) (h1 : man ≤ 18446744073709551615) (hf : min (max exp (-2048)) 2048 = f) (hL : (Lib.bitLen man.toNat : Int) = L)
    (hE : max (f + L - 52 - 1) (-1074) = E) (hd : E - f = d) (f0 : -2048 ≤ f) (f1 : f ≤ 2048) (l0 : 0 ≤ L) (l1 : L ≤ 64) (e0 : -1074 ≤ E) (e1 : E ≤ 2900) (d0 : d ≤ 0)
    (hw : IntKind.u64.wrap (man * 2 ^ (-d).toNat) = man * 2 ^ (-d).toNat) (w : World) :
    Calls Try.prog 51 #[partsV neg man exp] w fun e w' => e = .returned (.tuple #[.int .u64 (man * 2 ^ (-d).toNat), .int .u64 0, .int .i64 E]) ∧ Below w.heap.size w w' := by
  have hm : (man == 0) = false := by simp; omega
  have HW := Lib.hid hw
  clear hw
  go_enter Try.func51, Try.ntmps51
  go_wp2_with (go_at_call 60; refine (Try.bits_Len64 _ _ (by omega) h1).mono ?_; rintro e w' ⟨rfl, rfl⟩)
  go_ret3
  exact ⟨tuple_3 HW.out rfl rfl, by go_grown⟩

set_option maxHeartbeats 1000000 in
theorem split_far (neg : Bool) (man exp f L E d : Int) (h0 : 0 < man) (h1 : man ≤ 18446744073709551615) (hf : min (max exp (-2048)) 2048 = f) (hL : (Lib.bitLen man.toNat : Int) = L)
    (hE : max (f + L - 52 - 1) (-1074) = E) (hd : E - f = d) (f0 : -2048 ≤ f) (f1 : f ≤ 2048) (l0 : 0 ≤ L) (l1 : L ≤ 64) (e0 : -1074 ≤ E) (e1 : E ≤ 2900) (d0 : 64 < d) (w : World) :
    Calls Try.prog 51 #[partsV neg man exp] w fun e w' => e = .returned (.tuple #[.int .u64 0, .int .u64 1, .int .i64 E]) ∧ Below w.heap.size w w' := by
  have hm : (man == 0) = false := by simp; omega
  go_enter Try.func51, Try.ntmps51
  go_wp2_with (go_at_call 60; refine (Try.bits_Len64 _ _ (by omega) h1).mono ?_; rintro e w' ⟨rfl, rfl⟩)
  go_ret3
  exact ⟨rfl, by go_grown⟩

theorem below_drewN {B : Nat} {a w : World} (h : Below B a w) (n : Nat) : Below B a (w.drewN n) := ⟨h.os, h.tape, h.output, h.size, h.block⟩

set_option maxHeartbeats 1000000 in
theorem split_mid (neg : Bool) (man exp f L E d : Int) (h0 : 0 < man) (h1 : man ≤ 18446744073709551615) (hf : min (max exp (-2048)) 2048 = f) (hL : (Lib.bitLen man.toNat : Int) = L)
    (hE : max (f + L - 52 - 1) (-1074) = E) (hd : E - f = d) (f0 : -2048 ≤ f) (f1 : f ≤ 2048) (l0 : 0 ≤ L) (l1 : L ≤ 64) (e0 : -1074 ≤ E) (e1 : E ≤ 2900) (d0 : 0 < d) (d1 : d ≤ 64) (w : World) :
    Calls Try.prog 51 #[partsV neg man exp] w fun e w' => e = .returned (.tuple #[.int .u64 (man / 2 ^ d.toNat), .int .u64 (man * 2 ^ (64 - d).toNat % 18446744073709551616), .int .i64 E]) ∧ Below w.heap.size w w' := by
  have hm : (man == 0) = false := by simp; omega
  go_enter Try.func51, Try.ntmps51
  go_wp2_with (go_at_call 60; refine (Try.bits_Len64 _ _ (by omega) h1).mono ?_; rintro e w' ⟨rfl, rfl⟩)
  go_quiet (fail)
  go_wp2
  go_ret3
  exact ⟨tuple_3 rfl (IntKind.wrap_u64 _) rfl, below_drewN (by go_grown) _⟩

def splitV (man exp : Int) : Value := .tuple #[.int .u64 (sW man exp), .int .u64 (sR man exp), .int .i64 (sE man exp)]
theorem split_any (neg : Bool) (man exp : Int) (h0 : 0 ≤ man) (h1 : man ≤ 18446744073709551615) (w : World) :
    Calls Try.prog 51 #[partsV neg man exp] w fun e w' => e = .returned (splitV man exp) ∧ Below w.heap.size w w' := by
  by_cases hm : man = 0
  · subst hm
    refine (split_zero neg exp w).mono fun e w' h => ⟨?_, h.2⟩
    rw [h.1]
    simp [splitV, sW, sR, sE]
  · have hb := bl_bd man (by omega) h1
    have hE : max (sF exp + bl man - 52 - 1) (-1074) = sE man exp := by unfold sE; rw [if_neg hm]
    have eb := sE_bd man exp h0 h1
    have fb : -2048 ≤ sF exp ∧ sF exp ≤ 2048 := by unfold sF; omega
    by_cases c : sD man exp ≤ 0
    · have k := cut_up man exp (sF exp) (bl man) (sE man exp) (sD man exp) false (by omega) h1 rfl rfl hE rfl c
      refine (split_up neg man exp (sF exp) (bl man) (sE man exp) (sD man exp) (by omega) h1 rfl rfl hE rfl fb.1 fb.2 (by omega) hb.2 eb.1 eb.2 c (by rw [IntKind.wrap_u64]; omega) w).mono fun e w' h => ⟨?_, h.2⟩
      rw [h.1]
      simp [splitV, sW, sR, hm, c]
    · by_cases c2 : sD man exp ≤ 64
      · refine (split_mid neg man exp (sF exp) (bl man) (sE man exp) (sD man exp) (by omega) h1 rfl rfl hE rfl fb.1 fb.2 (by omega) hb.2 eb.1 eb.2 (by omega) c2 w).mono fun e w' h => ⟨?_, h.2⟩
        rw [h.1]
        simp [splitV, sW, sR, hm, c, c2]
      · refine (split_far neg man exp (sF exp) (bl man) (sE man exp) (sD man exp) (by omega) h1 rfl rfl hE rfl fb.1 fb.2 (by omega) hb.2 eb.1 eb.2 (by omega) w).mono fun e w' h => ⟨?_, h.2⟩
        rw [h.1]
        simp [splitV, sW, sR, hm, c, c2]

end Go.Proofs.Ytpbhaheginnkiaa
