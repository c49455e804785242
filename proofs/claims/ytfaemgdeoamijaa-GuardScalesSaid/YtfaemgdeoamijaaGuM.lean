/-
  Layer 5, walks: the reference's Take, whole; the laws' words: none, same, word; the reference's Same.
-/
import Derived.Test.YtfaemgdeoamijaaGuL
namespace Go.Proofs.Ytfaemgdeoamijaa
open Go.RowKit Go.Bw
set_option linter.unusedVariables false
set_option linter.unusedSimpArgs false

section
variable {A : Option Addr} {len c : Nat} {m n : Int} {l : List Int} {w : World} {S : Bool}
theorem AnsD.of {v : Value} {e : Ending} {w' : World} (h : Ans w v e w') : AnsD w v e w' := ⟨h.1, 0, h.2.symm⟩
theorem rTake_any (h : UL w A len c l) (hsq : S = true → m = n) :
    Calls Try.prog 11 #[.int .i64 m, .int .i64 n, .slice A len c, .bool S] w (AnsD w (.int .i64 (codeT m n l (!S || symB l m.toNat)))) := by
  have hl := h.1
  cases hs : szB m n
  · have hc : codeT m n l (!S || symB l m.toNat) = 1 := by unfold codeT; rw [hs]; rfl
    rw [hc]
    exact (rTake_size h hs).mono fun e w' hh => AnsD.of hh
  · by_cases hlm : (len : Int) = m * n
    · obtain ⟨⟨m0, m1, n0, n1⟩, _, _⟩ := szB_bd hs
      obtain ⟨M, rfl⟩ := Int.eq_ofNat_of_zero_le m0
      obtain ⟨N, rfl⟩ := Int.eq_ofNat_of_zero_le n0
      have hlN : len = M * N := by
        have : ((len : Nat) : Int) = ((M * N : Nat) : Int) := by rw [hlm]; push_cast; rfl
        exact Int.ofNat_inj.1 this
      rw [Int.toNat_natCast]
      have hd : decide ((l.length : Int) = (M : Int) * N) = true := decide_eq_true (by rw [hl]; exact hlm)
      refine rTake_main h (by omega) (by omega) hlN (fun hS => by have := hsq hS; omega) (Lib.hid fun h1 => ?_) (Lib.hid fun h1 h2 => ?_) (Lib.hid fun h1 h2 h3 => ?_) (Lib.hid fun h1 h2 h3 => ?_)
      · unfold codeT; rw [h1]; simp
      · unfold codeT; rw [h1, h2]; simp
      · have h4 : (!S || symB l M) = true := by cases S; rfl; exact h2 rfl
        unfold codeT; rw [hs, hd, h1, h4, h3]; rfl
      · have h4 : (!S || symB l M) = true := by cases S; rfl; exact h2 rfl
        unfold codeT; rw [hs, hd, h1, h4, h3]; rfl
    · have hc : codeT m n l (!S || symB l m.toNat) = 1 := by unfold codeT; rw [hl, decide_eq_false hlm]; simp
      rw [hc]
      exact (rTake_len h hs hlm).mono fun e w' hh => AnsD.of hh

set_option maxHeartbeats 1000000 in
theorem none_any :
    Calls Try.prog 12 #[mV 0 0 A 0 c] w fun e w' => e = .returned (.bool true) ∧ Below w.heap.size w w' := by
  have DB := Blk.new w [.int .i64 0, .int .i64 0, .slice A 0 c] 26
  obtain ⟨DB_0, DB_1, DB_2, DB_f0, DB_f1, DB_f2⟩ := Mbx.cells DB
  go_enter Try.func12, Try.ntmps12
  go_wp2_with fail
  go_ret
  exact ⟨rfl, by go_grown⟩

set_option maxHeartbeats 400000 in
theorem word_any (x : Int) (h0 : 0 ≤ x) (w : World) :
    Calls Try.prog 28 #[.float .f64 x.toNat] w (Ans w (.int .u64 x)) := by
  have hb := run_bits_back x h0
  go_enter Try.func28, Try.ntmps28
  go_wp2
  go_ret
  exact ⟨rfl, rfl⟩
set_option maxHeartbeats 400000 in
theorem wordN_any (y : Nat) (w : World) :
    Calls Try.prog 28 #[.float .f64 y] w (Ans w (.int .u64 y)) := by
  have hb := run_float64bits y
  go_enter Try.func28, Try.ntmps28
  go_wp2
  go_ret
  exact ⟨rfl, rfl⟩

set_option maxHeartbeats 1000000 in
theorem rSame_self (x : Int) (h0 : 0 ≤ x) (w : World) :
    Calls Try.prog 24 #[.float .f64 x.toNat, .float .f64 x.toNat] w (Ans w (.bool true)) := by
  have hb := run_bits_back x h0
  obtain ⟨n, hn⟩ : ∃ n, x.toNat = n := ⟨_, rfl⟩
  rw [hn] at hb ⊢
  cases d : (FloatKind.f64.format.order n n != some .eq)
  · go_enter Try.func24, Try.ntmps24
    go_wp2_with fail
    go_ret
    exact ⟨rfl, rfl⟩
  · go_enter Try.func24, Try.ntmps24
    go_wp2_with fail
    go_ret
    exact ⟨rfl, rfl⟩

set_option maxHeartbeats 4000000 in
theorem lsame_any {A2 : Option Addr} {len2 c2 : Nat} (h : UL w A len c l) (h2 : FL w A2 len2 c2 l) :
    Calls Try.prog 13 #[mV m n A2 len2 c2, .int .i64 m, .int .i64 n, .slice A len c] w fun e w' => e = .returned (.bool true) ∧ Below w.heap.size w w' := by
  have hmx := h.max
  obtain rfl : len = len2 := by rw [← h.1, ← h2.1]
  have DB := Blk.new w [.int .i64 m, .int .i64 n, .slice A2 len c2] 26
  have g := h.alloc (.cells #[.int .i64 m, .int .i64 n, .slice A2 len c2] 26)
  have g2 := h2.alloc (.cells #[.int .i64 m, .int .i64 n, .slice A2 len c2] 26)
  have bw : Below w.heap.size w (w.alloc (.cells #[.int .i64 m, .int .i64 n, .slice A2 len c2] 26)) := by go_grown
  obtain ⟨DB_0, DB_1, DB_2, DB_f0, DB_f1, DB_f2⟩ := Mbx.cells DB
  have e1 : ((m != m) = false) := by simp
  go_enter Try.func13, Try.ntmps13
  go_wp2_with fail
  clear DB_0 DB_1 DB_2 DB_f0 DB_f1 DB_f2
  obtain ⟨W, hW⟩ : ∃ W, w.alloc (.cells #[.int .i64 m, .int .i64 n, .slice A2 len c2] 26) = W := ⟨_, rfl⟩
  rw [hW] at DB g g2 bw
  rw [hW]
  clear hW h h2
  go_loopw [9] (fun i wr => ∃ (k t : Nat), k ≤ len ∧ i = .int .i64 k ∧ wr = W.drewN t) (fun i _ => len - (intOf i).toNat)
  case atStart => exact ⟨0, 0, Nat.zero_le _, rfl, rfl⟩
  case round =>
    obtain ⟨k, t, hk, rfl, rfl⟩ := hrel
    obtain ⟨DB_0, DB_1, DB_2, DB_f0, DB_f1, DB_f2⟩ := Mbx.cells DB
    by_cases hlt : k < len
    · obtain ⟨ad, rfl, hb, hc⟩ := g.at_ hlt
      obtain ⟨ad2, rfl, hb2, hc2⟩ := g2.at_ hlt
      obtain ⟨x0, x1⟩ := g.2.2.at_ k
      have i0 : (0 : Int) ≤ k := by omega
      have i1 : (k : Int) < len := by omega
      obtain ⟨X, hX⟩ : ∃ X, D l k = X := ⟨_, rfl⟩
      rw [hX] at hc hc2 x0 x1
      clear hX
      have dx : (X != X) = false := by simp
      go_wp2_with fail
      go_quiet ((go_at_call 28; exact (word_any _ x0 _).mono (by rintro e w' ⟨he, hw⟩; exact ⟨he, _, hw.symm⟩)))
      go_wp2_with fail
      go_roundw
      case rel => exact ⟨k + 1, _, by omega, by go_num, by first | rfl | simp⟩
      case measure => simp [intOf]; omega
    · obtain rfl : k = len := by omega
      go_wp2_with fail
      go_ret
      exact ⟨rfl, below_drewN bw _⟩
end
end Go.Proofs.Ytfaemgdeoamijaa
