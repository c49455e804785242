/-
  Layer 5, walks: words: finite, in range, the same; taken apart and put together; a float times a power of 2, by the program.
-/
import Derived.Test.YtfaemgdeoamijaaProg
import Derived.Test.YtfaemgdeoamijaaShelf
import Derived.Test.YtfaemgdeoamijaaGuA
import Derived.WalkKit
import Derived.WalkSpells
import Derived.WalkLawsBesides
import Derived.Deep.QuietTactic
import Derived.BigQuiet
import Derived.Lib.Hide
import Derived.Handy
import Derived.Laws.Shifts
namespace Go.Proofs.Ytfaemgdeoamijaa
open Go.RowKit Go.Bw
set_option linter.unusedVariables false
set_option linter.unusedSimpArgs false

theorem ret_int {k : IntKind} {a b : Int} (h : a = b) : Ending.returned (.int k a) = .returned (.int k b) := by rw [h]
theorem ret_bool {a b : Bool} (h : a = b) : Ending.returned (.bool a) = .returned (.bool b) := by rw [h]
theorem ret_float {a b : Nat} (h : a = b) : Ending.returned (.float .f64 a) = .returned (.float .f64 b) := by rw [h]
theorem tuple_2 {k1 k2 : IntKind} {a b a' b' : Int} (h1 : a = a') (h2 : b = b') : Ending.returned (.tuple #[.int k1 a, .int k2 b]) = .returned (.tuple #[.int k1 a', .int k2 b']) := by rw [h1, h2]

theorem run_float64bits (n : Nat) (w : World) : (callFunc 37 #[.float .f64 n]).run Try.prog w = .ok (.value (.int .u64 (n : Int))) w := by
  rw [run_callFunc_extern (e := Extern.MathFloatBits.float64bits) Try.func37 (by kernel_rfl) (by kernel_rfl) (by kernel_rfl) (by kernel_rfl)]; rfl
theorem run_float64frombits (x : Int) (w : World) : (callFunc 15 #[.int .u64 x]).run Try.prog w = .ok (.value (.float .f64 x.toNat)) w := by
  rw [run_callFunc_extern (e := Extern.MathFloatBits.float64frombits) Try.func15 (by kernel_rfl) (by kernel_rfl) (by kernel_rfl) (by kernel_rfl)]; rfl
theorem run_bits_back (x : Int) (h0 : 0 ≤ x) (w : World) : (callFunc 37 #[.float .f64 x.toNat]).run Try.prog w = .ok (.value (.int .u64 x)) w := by
  rw [run_float64bits, Int.toNat_of_nonneg h0]

/-- the call answers v and touches nothing -/
def Ans (w : World) (v : Value) (e : Ending) (w' : World) : Prop := e = .returned v ∧ w = w'

set_option maxHeartbeats 400000 in
theorem size_any (x : Int) (h0 : 0 ≤ x) (h1 : x ≤ 18446744073709551615) (w : World) :
    Calls Try.prog 35 #[.int .u64 x] w (Ans w (.int .u64 (mag x))) := by
  have e := andnot_sign x h0 h1
  go_enter Try.func35, Try.ntmps35
  go_wp2
  go_ret
  exact ⟨rfl, rfl⟩

set_option maxHeartbeats 400000 in
theorem finite_any (x : Int) (h0 : 0 ≤ x) (h1 : x ≤ 18446744073709551615) (w : World) :
    Calls Try.prog 36 #[.int .u64 x] w (Ans w (.bool (fin x))) := by
  have hm := mag_bd x
  go_enter Try.func36, Try.ntmps36
  go_wp2_with (go_at_call 35; refine (size_any _ h0 h1 _).mono ?_; rintro e w' ⟨rfl, rfl⟩)
  go_ret
  exact ⟨rfl, rfl⟩

set_option maxHeartbeats 400000 in
theorem inRange_any (x : Int) (h0 : 0 ≤ x) (h1 : x ≤ 18446744073709551615) (w : World) :
    Calls Try.prog 16 #[.int .u64 x] w (Ans w (.bool (inr x))) := by
  have hm := mag_bd x
  go_enter Try.func16, Try.ntmps16
  go_wp2_with (go_at_call 35; refine (size_any _ h0 h1 _).mono ?_; rintro e w' ⟨rfl, rfl⟩)
  · go_ret; exact ⟨ret_bool (by unfold inr; simp [*]), rfl⟩
  · go_ret; exact ⟨ret_bool (by unfold inr; rename_i q1 q2; simp [q1, q2]), rfl⟩
  · go_ret; exact ⟨ret_bool (by unfold inr; rename_i q1 q2; rw [decide_eq_false (show ¬ (mag x = 0 ∨ 2805742567851819008 ≤ mag x ∧ mag x ≤ 6408622269748215808) by omega)]; simp [q1]), rfl⟩

set_option maxHeartbeats 400000 in
theorem rFinite_any (x : Int) (h0 : 0 ≤ x) (h1 : x ≤ 18446744073709551615) (w : World) :
    Calls Try.prog 19 #[.int .u64 x] w (Ans w (.bool (fin x))) := by
  have e := fin_fld x h0 h1
  go_enter Try.func19, Try.ntmps19
  go_wp2
  go_ret
  exact ⟨ret_bool (by first | exact e | (rw [← e])), rfl⟩

set_option maxHeartbeats 400000 in
theorem apart_any (x : Int) (h0 : 0 ≤ x) (h1 : x ≤ 18446744073709551615) (w : World) :
    Calls Try.prog 39 #[.int .u64 x] w (Ans w (.tuple #[.int .u64 (pm x), .int .i64 (px x)])) := by
  have hm := mag_bd x
  have hf := frc_bd x
  have hd := fld_bd x
  have e1 := fraction_op x h0 h1
  have e2 : mag x / 4503599627370496 = fld x := by rw [mag_eq x h0 h1]; omega
  have eo : bits .or .u64 (frc x) 4503599627370496 = 4503599627370496 + frc x := by rw [Bw.or_comm]; exact or_hidden (frc x) hf.1 (by omega)
  by_cases hz : fld x = 0
  · have r1 : pm x = frc x := by unfold pm; rw [if_pos hz]
    have r2 : px x = -1074 := by unfold px; rw [if_pos hz]
    rw [r1, r2]
    rw [hz] at e2
    clear r1 r2
    go_enter Try.func39, Try.ntmps39
    go_wp2_with (go_at_call 35; refine (size_any _ h0 h1 _).mono ?_; rintro e w' ⟨rfl, rfl⟩)
    go_ret2
    exact ⟨rfl, rfl⟩
  · have r1 : pm x = 4503599627370496 + frc x := by unfold pm; rw [if_neg hz]
    have r2 : px x = fld x - 1 + -1074 := by unfold px; rw [if_neg hz]; omega
    have hz' : (fld x == 0) = false := by simpa using hz
    rw [r1, r2]
    clear r1 r2
    go_enter Try.func39, Try.ntmps39
    go_wp2_with (go_at_call 35; refine (size_any _ h0 h1 _).mono ?_; rintro e w' ⟨rfl, rfl⟩)
    go_ret2
    exact ⟨rfl, rfl⟩


theorem or_mag (v w : Int) (v0 : 0 ≤ v) (v1 : v ≤ 18446744073709551615) (w0 : 0 ≤ w) (w1 : w ≤ 18446744073709551615) : (mag (bits .or .u64 v w) == 0) = decide (mag v = 0 ∧ mag w = 0) := by
  obtain ⟨a, rfl⟩ := Int.eq_ofNat_of_zero_le v0
  obtain ⟨b, rfl⟩ := Int.eq_ofNat_of_zero_le w0
  rw [bits_or_u64_nat a b (by omega) (by omega)]
  have e : (a ||| b) % 2 ^ 63 = a % 2 ^ 63 ||| b % 2 ^ 63 := Nat.or_mod_two_pow
  have m : ∀ n : Nat, mag (n : Int) = ((n % 2 ^ 63 : Nat) : Int) := fun n => by unfold mag; rw [show (2 : Nat) ^ 63 = 9223372036854775808 from rfl]; omega
  rw [m, m, m, e, Bool.eq_iff_iff, beq_iff_eq, decide_eq_true_iff]
  have z : (a % 2 ^ 63 ||| b % 2 ^ 63) = 0 ↔ a % 2 ^ 63 = 0 ∧ b % 2 ^ 63 = 0 := Nat.or_eq_zero_iff
  omega
def sameW (v w : Int) : Bool := decide (v = w ∨ mag v = 0 ∧ mag w = 0)
theorem or_bd (v w : Int) (v0 : 0 ≤ v) (v1 : v ≤ 18446744073709551615) (w0 : 0 ≤ w) (w1 : w ≤ 18446744073709551615) : 0 ≤ bits .or .u64 v w ∧ bits .or .u64 v w ≤ 18446744073709551615 := by
  obtain ⟨a, rfl⟩ := Int.eq_ofNat_of_zero_le v0
  obtain ⟨b, rfl⟩ := Int.eq_ofNat_of_zero_le w0
  rw [bits_or_u64_nat a b (by omega) (by omega)]
  have : a ||| b < 2 ^ 64 := Nat.or_lt_two_pow (by omega) (by omega)
  omega

set_option maxHeartbeats 400000 in
theorem same_any (a b : Int) (a0 : 0 ≤ a) (a1 : a ≤ 18446744073709551615) (b0 : 0 ≤ b) (b1 : b ≤ 18446744073709551615) (w : World) :
    Calls Try.prog 33 #[.int .u64 a, .int .u64 b] w (Ans w (.bool (sameW a b))) := by
  have H := Lib.hid (or_mag a b a0 a1 b0 b1)
  obtain ⟨o0, o1⟩ := or_bd a b a0 a1 b0 b1
  obtain ⟨o, ho⟩ : ∃ o, bits .or .u64 a b = o := ⟨_, rfl⟩
  rw [ho] at H o0 o1
  go_enter Try.func33, Try.ntmps33
  go_wp2_with (go_at_call 35; refine (size_any _ o0 o1 _).mono ?_; rintro e w' ⟨rfl, rfl⟩)
  · go_ret; exact ⟨ret_bool (by unfold sameW; simp [*]), rfl⟩
  · go_ret; exact ⟨ret_bool (by have h := H.out; unfold sameW; simp_all), rfl⟩

theorem wrap_id {x : Int} (h0 : 0 ≤ x) (h1 : x ≤ 18446744073709551615) : IntKind.u64.wrap x = x := wraps_u64 x h0 (by omega)
theorem wrap_zero {k : Nat} (h : 64 ≤ k) : IntKind.u64.wrap ((2 : Int) ^ k) = 0 := by
  obtain ⟨j, rfl⟩ : ∃ j, k = 64 + j := ⟨k - 64, by omega⟩
  rw [IntKind.wrap_u64, Int.pow_add]
  exact Int.mul_emod_right _ _
theorem pow_fit {k : Nat} (h : k ≤ 63) : (1 : Int) ≤ 2 ^ k ∧ (2 : Int) ^ k ≤ 9223372036854775808 := by
  have := Nat.pow_le_pow_right (show 0 < 2 by decide) h
  have h2 := Nat.two_pow_pos k
  have e := pow_cast k
  omega
theorem sr_end {M : Int} {n : Nat} (m0 : 4503599627370496 ≤ M) (m1 : M ≤ 9007199254740991) (n0 : 1 ≤ n) :
    IntKind.u64.wrap (IntKind.u64.wrap (IntKind.u64.wrap (M + IntKind.u64.wrap (2 ^ min (n - 1) 64)) - 1) + bits .and .u64 (M / 2 ^ min n 64) 1) / 2 ^ min n 64 = rne M n := by
  have hp : (0 : Int) < 2 ^ min n 64 := Int.pow_pos (by decide)
  have q0 : 0 ≤ M / 2 ^ min n 64 := Int.ediv_nonneg (by omega) (by omega)
  have q1 : M / 2 ^ min n 64 ≤ M := Int.ediv_le_self _ (by omega)
  rw [and_1 _ q0 (by omega)]
  by_cases c : n ≤ 64
  · rw [Nat.min_eq_left c, Nat.min_eq_left (show n - 1 ≤ 64 by omega)] at *
    have f := pow_fit (k := n - 1) (by omega)
    rw [wrap_id (x := 2 ^ (n - 1)) (by omega) (by omega), wrap_id (x := M + 2 ^ (n - 1)) (by omega) (by omega), wrap_id (x := M + 2 ^ (n - 1) - 1) (by omega) (by omega), wrap_id (by omega) (by omega)]
    exact shr_rne (by omega) n0
  · rw [Nat.min_eq_right (show 64 ≤ n by omega), Nat.min_eq_right (show 64 ≤ n - 1 by omega)] at *
    have z : M / 2 ^ 64 = 0 := Int.ediv_eq_zero_of_lt (by omega) (by omega)
    rw [z, wrap_zero (Nat.le_refl _), wrap_id (x := M + 0) (by omega) (by omega), wrap_id (x := M + 0 - 1) (by omega) (by omega), wrap_id (by omega) (by omega), rne_far (by omega) m1 (by omega)]
    exact Int.ediv_eq_zero_of_lt (by omega) (by omega)

set_option maxHeartbeats 400000 in
theorem shiftRounded_any (M n : Int) (m0 : 4503599627370496 ≤ M) (m1 : M ≤ 9007199254740991) (n0 : 1 ≤ n) (n1 : n ≤ 100000) (w : World) :
    Calls Try.prog 45 #[.int .u64 M, .int .i64 n] w (Ans w (.int .u64 (rne M n.toNat))) := by
  have H := Lib.hid (sr_end (n := n.toNat) m0 m1 (by omega))
  have hs : ∀ x, Op.shift .shr .u64 x .i64 n = pure (.int .u64 (x / 2 ^ min n.toNat 64)) := fun x => shift_shr_any .u64 .i64 x n (by omega)
  go_enter Try.func45, Try.ntmps45
  go_wp2_with fail
  go_ret
  exact ⟨ret_int H.out, rfl⟩

theorem bl_int {x : Int} (h0 : 0 ≤ x) (h1 : x ≤ 18446744073709551615) (h : mag x ≠ 0) : ((Lib.bitLen (pm x).toNat : Nat) : Int) = 53 - upw x ∧ (upw x : Int) ≤ 52 := by
  have a := pm_bd x
  have b := pm_pos h0 h1 h
  obtain ⟨c, d, e, f⟩ := bl_fit (m := (pm x).toNat) (by omega) (by omega)
  unfold upw
  omega

set_option maxHeartbeats 1000000 in
theorem together_any (x e : Int) (h0 : 0 ≤ x) (h1 : x ≤ 18446744073709551615) (h : mag x ≠ 0) (e0 : -5000 ≤ e) (e1 : e ≤ 5000) (w : World) :
    Calls Try.prog 42 #[.int .u64 (pm x), .int .i64 e] w (Ans w (.int .u64 (rsz (nM x) (e - upw x)))) := by
  have a := pm_bd x
  obtain ⟨b1, b2⟩ := bl_int h0 h1 h
  obtain ⟨c1, c2, c3⟩ := nM_bd h0 h1 h
  obtain ⟨u, hu⟩ : ∃ u : Int, (upw x : Int) = u := ⟨_, rfl⟩
  have hw : IntKind.u64.wrap (pm x * 2 ^ u.toNat) = nM x := by
    have : nM x = pm x * 2 ^ u.toNat := by unfold nM; rw [show u.toNat = upw x by omega]
    rw [← this]; exact wrap_id (by omega) (by omega)
  have hu0 : 0 ≤ u := by omega
  rw [hu] at b1 b2 ⊢
  obtain ⟨M, hM⟩ : ∃ M, nM x = M := ⟨_, rfl⟩
  obtain ⟨L, hL⟩ : ∃ L : Int, ((Lib.bitLen (pm x).toNat : Nat) : Int) = L := ⟨_, rfl⟩
  rw [hM] at hw c1 c2 ⊢
  rw [hL] at b1
  obtain ⟨y, hy⟩ : ∃ y, pm x = y := ⟨_, rfl⟩
  rw [hy] at hw hL a ⊢
  have hx : (53 : Int) - L = u := by omega
  have hL0 : 1 ≤ L ∧ L ≤ 53 := by omega
  have hu1 : u ≤ 52 := by omega
  clear hu hM hy c3 h h0 h1 b1 b2
  obtain ⟨E, hE⟩ : ∃ E, e - u = E := ⟨_, rfl⟩
  have hE0 : -6000 ≤ E ∧ E ≤ 6000 := by omega
  rw [hE]
  by_cases q1 : E < -1074
  · have r1 : rsz M E = rne M (-1074 - E).toNat := by unfold rsz; rw [if_pos q1]
    obtain ⟨n, hn⟩ : ∃ n, -1074 - E = n := ⟨_, rfl⟩
    rw [r1, hn]
    have hn1 : 1 ≤ n ∧ n ≤ 100000 := by omega
    have d1 : decide (E < -1074) = true := decide_eq_true q1
    clear r1
    go_enter Try.func42, Try.ntmps42
    go_wp2_with (first
      | (go_at_call 40; refine (Try.bits_Len64 _ _ (by omega) (by omega)).mono ?_; rintro e9 w' ⟨rfl, rfl⟩)
      | (go_at_call 45; refine (shiftRounded_any _ _ (by omega) (by omega) hn1.1 hn1.2 _).mono ?_; rintro e9 w' ⟨rfl, rfl⟩))
    go_ret
    exact ⟨rfl, rfl⟩
  · have d1 : decide (E < -1074) = false := decide_eq_false q1
    by_cases q2 : 971 < E
    · have r1 : rsz M E = 9218868437227405312 := by unfold rsz; rw [if_neg q1, if_pos q2]
      have d2 : decide (971 < E) = true := decide_eq_true q2
      rw [r1]
      clear r1
      go_enter Try.func42, Try.ntmps42
      go_wp2_with (go_at_call 40; refine (Try.bits_Len64 _ _ (by omega) (by omega)).mono ?_; rintro e9 w' ⟨rfl, rfl⟩)
      go_ret
      exact ⟨rfl, rfl⟩
    · have r1 : rsz M E = (E + 1074) * 4503599627370496 + M := by unfold rsz; rw [if_neg q1, if_neg q2]
      have d2 : decide (971 < E) = false := decide_eq_false q2
      rw [r1]
      clear r1
      go_enter Try.func42, Try.ntmps42
      go_wp2_with (go_at_call 40; refine (Try.bits_Len64 _ _ (by omega) (by omega)).mono ?_; rintro e9 w' ⟨rfl, rfl⟩)
      go_ret
      exact ⟨rfl, rfl⟩
end Go.Proofs.Ytfaemgdeoamijaa
