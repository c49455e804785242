/-
  Walks of layer 1, part seventeen: texts that are read.
-/
import Derived.Test.YtpbhaheginnkiaaBitsV
import Derived.Test.YtpbhaheginnkiaaBitsU
namespace Go.Proofs.Ytpbhaheginnkiaa
open Go.RowKit Go.Bw
set_option linter.unusedVariables false

/-- a digit's worth, or -1 -/
def hv (b : UInt8) : Int := if 48 ≤ b.toNat ∧ b.toNat ≤ 57 then (b.toNat : Int) - 48 else if 65 ≤ b.toNat ∧ b.toNat ≤ 70 then (b.toNat : Int) - 55 else -1
theorem hv_bd (b : UInt8) : -1 ≤ hv b ∧ hv b < 16 := by unfold hv; repeat' split <;> omega
theorem hv_index_all : ∀ n : Fin 128, Lib.indexByte [48, 49, 50, 51, 52, 53, 54, 55, 56, 57, 65, 66, 67, 68, 69, 70] (UInt8.ofNat n.val) = hv (UInt8.ofNat n.val) := by decide +kernel
theorem hv_index (b : UInt8) (h : b.toNat < 128) : Lib.indexByte digs.data.toList b = hv b := by
  have := hv_index_all ⟨b.toNat, h⟩
  simpa [digs] using this
theorem hv_high (b : UInt8) (h : 128 ≤ b.toNat) : hv b = -1 := by unfold hv; rw [if_neg (by omega), if_neg (by omega)]

/-- the first k digits' number -/
def acc (s : ByteArray) (k : Nat) : Int := (s.data.toList.take k).foldl (fun a b => a * 16 + hv b) 0
/-- are the first k all digits? -/
def allHex (s : ByteArray) (k : Nat) : Prop := ∀ (i : Nat) (h : i < s.size), i < k → 0 ≤ hv (s[i]'h)
theorem take_snoc' (s : ByteArray) (k : Nat) (h : k < s.size) : s.data.toList.take (k + 1) = s.data.toList.take k ++ [s[k]] := by
  rw [List.take_succ_eq_append_getElem (by simpa using h)]; rfl
theorem acc_succ (s : ByteArray) (k : Nat) (h : k < s.size) : acc s (k + 1) = acc s k * 16 + hv (s[k]'h) := by
  unfold acc; rw [take_snoc' s k h, List.foldl_append]; rfl
theorem acc_bd (s : ByteArray) : ∀ k : Nat, k ≤ s.size → allHex s k → 0 ≤ acc s k ∧ acc s k < 16 ^ k
  | 0, _, _ => by simp [acc]
  | k + 1, hk, ha => by
    have ih := acc_bd s k (by omega) (fun i h hi => ha i h (by omega))
    have hd := ha k (by omega) (by omega)
    have hb := hv_bd (s[k]'(by omega))
    rw [acc_succ s k (by omega), Int.pow_succ]
    omega
theorem pow16 (k : Nat) (h : k ≤ 15) : (16 : Int) ^ k ≤ 1152921504606846976 := by
  have := Nat.pow_le_pow_right (show 0 < 16 by decide) h
  have e : (16 : Nat) ^ 15 = 1152921504606846976 := by decide +kernel
  rw [e] at this
  have e2 : ((16 : Int) ^ k) = ((16 ^ k : Nat) : Int) := by simp
  rw [e2]
  omega

theorem allHex_zero (s : ByteArray) : allHex s 0 := fun i h hi => by omega
theorem allHex_succ {s : ByteArray} {k : Nat} (h : k < s.size) (ha : allHex s k) (hd : 0 ≤ hv (s[k]'h)) : allHex s (k + 1) := fun i hi hk => by
  rcases Nat.lt_or_ge i k with c | c
  · exact ha i hi c
  · have : i = k := by omega
    subst this; exact hd

open Classical in
/-- what is read -/
noncomputable def readV (s : ByteArray) : Value := .tuple (if s.size = 16 ∧ allHex s 16 then #[.int .u64 (acc s 16), .int .i64 0] else #[.int .u64 0, .int .i64 4])
theorem readV_size {s : ByteArray} (h : s.size ≠ 16) : Value.tuple #[.int .u64 0, .int .i64 4] = readV s := by
  unfold readV; rw [if_neg (fun g => h g.1)]
theorem readV_no {s : ByteArray} {k : Nat} (hs : s.size = 16) (h : k < s.size) (hd : hv (s[k]'h) < 0) : Value.tuple #[.int .u64 0, .int .i64 4] = readV s := by
  unfold readV; rw [if_neg (fun g => by have := g.2 k h (by omega); omega)]
theorem readV_yes {s : ByteArray} (hs : s.size = 16) (h : allHex s 16) : Value.tuple #[.int .u64 (acc s 16), .int .i64 0] = readV s := by
  unfold readV; rw [if_pos ⟨hs, h⟩]

theorem irune_digit (b : UInt8) (h : b.toNat < 128) (w : World) :
    Calls Try.prog 61 #[.string digs, .int .i32 (b.toNat : Int)] w fun e w' => e = .returned (.int .i64 (hv b)) ∧ w = w' :=
  (Try.strings_IndexRune_ascii digs (b.toNat : Int) w (by omega) (by omega)).mono fun e w' k => ⟨by rw [k.1, Int.toNat_natCast, show b.toNat.toUInt8 = b by simp, hv_index b h], k.2.symm⟩

set_option maxRecDepth 100000 in
set_option maxHeartbeats 1000000 in
theorem read_long (s : ByteArray) (hs : s.size ≠ 16) (hm : s.size ≤ 9223372036854775807) (w : World) :
    Calls Try.prog 40 #[.string s] w fun e w' => e = .returned (readV s) ∧ Below w.heap.size w w' := by
  have hne : ((s.size : Int) != 16) = true := by rw [bne_iff_ne]; omega
  go_enter Try.func40, Try.ntmps40
  go_wp2_with fail
  go_ret2
  exact ⟨congrArg _ (readV_size hs), Below.refl _ _⟩

set_option maxRecDepth 100000 in
set_option maxHeartbeats 1000000 in
theorem read_16 (s : ByteArray) (hs : s.size = 16) (w : World) :
    Calls Try.prog 40 #[.string s] w fun e w' => e = .returned (readV s) ∧ Below w.heap.size w w' := by
  have HS := Lib.hid hs
  have hne : ((s.size : Int) != 16) = false := by rw [bne_eq_false_iff_eq]; omega
  clear hs
  go_enter Try.func40, Try.ntmps40
  go_wp2_with fail
  go_loopw [4] (fun a wr => ∃ pos : Nat, pos ≤ 16 ∧ wr = w.iter s pos ∧ a = .int .u64 (acc s pos) ∧ Hid (allHex s pos)) (fun _ wr => 16 - wr.iterPos w.heap.size)
  case atStart => exact ⟨0, by omega, rfl, by simp [acc], allHex_zero s⟩
  case round =>
    obtain ⟨pos, hp, rfl, rfl, ha⟩ := hrel
    by_cases c : pos < 16
    · have hlt : pos < s.size := by have := HS.out; omega
      by_cases hb : (s[pos]'hlt).toNat < 128
      · have hnx : ∀ ty, (Instr.next (.pointer (some ⟨w.heap.size, 0, none⟩)) true ty).run Try.prog (w.iter s pos) = _ := fun ty => run_next_ascii w s pos ty hlt hb
        have hir := Lib.hid (fun W => irune_digit (s[pos]'hlt) hb W)
        by_cases hd : hv (s[pos]'hlt) < 0
        · have hno := Lib.hid (readV_no HS.out hlt hd)
          generalize (s[pos]'hlt).toNat = b at *
          generalize hv (s[pos]'hlt) = d at *
          go_wp2_with (go_at_call 61; refine (hir.out _).mono ?_; rintro e w' ⟨rfl, rfl⟩)
          go_ret2
          exact ⟨congrArg _ hno.out, iter_below _ _ _⟩
        · have hnext := Lib.hid (allHex_succ hlt ha.out (by omega))
          have hacc := Lib.hid (acc_succ s pos hlt)
          have hvb := hv_bd (s[pos]'hlt)
          have hab := acc_bd s pos (by omega) ha.out
          have hpw := pow16 pos (by omega)
          have hd0 : 0 ≤ hv (s[pos]'hlt) := by omega
          have hd1 : hv (s[pos]'hlt) < 16 := hvb.2
          have ha0 : 0 ≤ acc s pos := hab.1
          have ha1 : acc s pos ≤ 1152921504606846975 := by omega
          have hor := or_nibble (acc s pos * 16) (hv (s[pos]'hlt)) (by omega) (by omega) (by omega) hd0 hd1
          clear hab hpw hvb hd
          generalize hA : acc s pos = A at *
          generalize (s[pos]'hlt).toNat = b at *
          generalize hv (s[pos]'hlt) = d at *
          clear hA
          go_wp2_with (go_at_call 61; refine (hir.out _).mono ?_; rintro e w' ⟨rfl, rfl⟩)
          go_roundw
          case rel => exact ⟨pos + 1, by omega, rfl, by rw [hacc.out], hnext⟩
          case measure => simp; omega
      · have hnx : ∀ ty, (Instr.next (.pointer (some ⟨w.heap.size, 0, none⟩)) true ty).run Try.prog (w.iter s pos) = _ := fun ty => run_next_any w s pos ty hlt
        have hd : hv (s[pos]'hlt) < 0 := by rw [hv_high _ (by omega)]; decide
        have hno := Lib.hid (readV_no HS.out hlt hd)
        have hr0 := (decode_high s pos hlt (by omega)).1
        have hr1 := decode_le s pos
        have hir := Lib.hid (fun W => irune_any ((Utf8.decode s pos).1 : Int) (by omega) (by omega) W)
        clear hd
        generalize (Utf8.decode s pos).1 = r at *
        generalize (Utf8.decode s pos).2 = z at *
        go_wp2_with (go_at_call 61; refine (hir.out _).mono ?_; rintro e w' ⟨rfl, hb2⟩)
        go_ret2
        exact ⟨congrArg _ hno.out, (iter_below _ _ _).trans (hb2.mono (iter_below _ _ _).size)⟩
    · obtain rfl : pos = 16 := by omega
      have hyes := Lib.hid (readV_yes HS.out ha.out)
      have hnx : ∀ ty, (Instr.next (.pointer (some ⟨w.heap.size, 0, none⟩)) true ty).run Try.prog (w.iter s 16) = _ := fun ty => run_next_end w s 16 ty (by have := HS.out; omega)
      go_wp2_with fail
      go_ret2
      exact ⟨congrArg _ hyes.out, iter_below _ _ _⟩
theorem read_any (s : ByteArray) (hm : s.size ≤ 9223372036854775807) (w : World) :
    Calls Try.prog 40 #[.string s] w fun e w' => e = .returned (readV s) ∧ Below w.heap.size w w' := by
  by_cases h : s.size = 16
  · exact read_16 s h w
  · exact read_long s h hm w
end Go.Proofs.Ytpbhaheginnkiaa
