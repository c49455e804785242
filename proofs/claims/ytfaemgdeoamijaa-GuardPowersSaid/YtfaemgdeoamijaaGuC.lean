/-
  Layer 5, walks: a float times a power of 2, by the program.
-/
import Derived.Test.YtfaemgdeoamijaaGuB
namespace Go.Proofs.Ytfaemgdeoamijaa
open Go.RowKit Go.Bw
set_option linter.unusedVariables false
set_option linter.unusedSimpArgs false

theorem sgb_op (x : Int) (h0 : 0 ≤ x) (h1 : x ≤ 18446744073709551615) : bits .and .u64 x 9223372036854775808 = sgb x := by
  rw [and_sign x h0 h1]; rfl
theorem sgb_join {s m : Int} (hs : s = 0 ∨ s = 9223372036854775808) (h0 : 0 ≤ m) (h1 : m < 9223372036854775808) : bits .or .u64 s m = s + m := by
  rcases hs with rfl | rfl
  · have h := bits_join .u64 64 (by decide) wraps_u64 63 0 m (by decide) (by decide) (by decide) h0 (by omega) (by omega)
    exact h
  · exact sign_or m h0 h1

set_option maxHeartbeats 4000000 in
theorem times_any (x p : Int) (h0 : 0 ≤ x) (h1 : x ≤ 18446744073709551615) (p0 : -9223372036854775808 ≤ p) (p1 : p ≤ 9223372036854775807) (w : World) :
    Calls Try.prog 25 #[.float .f64 x.toNat, .int .i64 p] w (Ans w (.float .f64 (tw x p).toNat)) := by
  have hb := run_bits_back x h0
  by_cases hf : fin x = true
  · by_cases hz : mag x = 0
    · have r : tw x p = x := by unfold tw; rw [if_pos (.inr hz)]
      have d2 : (mag x == 0) = true := by simpa using hz
      rw [r]
      clear r
      go_enter Try.func25, Try.ntmps25
      go_wp2_with (first
        | (go_at_call 36; refine (finite_any _ h0 h1 _).mono ?_; rintro e9 w' ⟨rfl, rfl⟩)
        | (go_at_call 35; refine (size_any _ h0 h1 _).mono ?_; rintro e9 w' ⟨rfl, rfl⟩))
      go_ret
      exact ⟨rfl, rfl⟩
    · have r : tw x p = sgb x + rsz (nM x) (nE x + max (-2200) (min p 2200)) := by
        unfold tw
        rw [if_neg (by rintro (h | h); rw [hf] at h; cases h; exact hz h)]
        have b := nM_bd h0 h1 hz
        have c := nE_bd h0 h1 hf hz
        have := rsz_clamp (M := nM x) (p := p) (c := 2200) (by omega) b.2.1 c.1 c.2 (Int.le_refl _)
        rw [this]
      have d2 : (mag x == 0) = false := by simpa using hz
      have hE : px x + max (-2200) (min p 2200) - upw x = nE x + max (-2200) (min p 2200) := by unfold nE; omega
      have b := nM_bd h0 h1 hz
      have c := px_bd h0 h1 hf
      have d := rsz_bd (M := nM x) (e := nE x + max (-2200) (min p 2200)) b.1 b.2.1
      have hj := sgb_join (sgb_or x) d.1 (by omega)
      have hs := sgb_op x h0 h1
      rw [r]
      rw [← hE] at hj ⊢
      obtain ⟨P, hP⟩ : ∃ P, max (-2200) (min p 2200) = P := ⟨_, rfl⟩
      have hP0 : -2200 ≤ P ∧ P ≤ 2200 := by omega
      rw [hP] at hj ⊢
      have pt := fun w => together_any x (px x + P) h0 h1 hz (by omega) (by omega) w
      obtain ⟨R, hR⟩ : ∃ R, rsz (nM x) (px x + P - upw x) = R := ⟨_, rfl⟩
      rw [hR] at hj pt ⊢
      have pt' := Lib.hid pt
      have hbd := pm_bd x
      obtain ⟨X, hX⟩ : ∃ X, px x = X := ⟨_, rfl⟩
      have pa := fun w => apart_any x h0 h1 w
      rw [hX] at pa pt' c
      have pa' := Lib.hid pa
      clear r hE d pt pa hR hX b
      have hx9 := run_float64frombits (sgb x + R)
      go_enter Try.func25, Try.ntmps25
      go_wp2_with (first
        | (go_at_call 36; refine (finite_any _ h0 h1 _).mono ?_; rintro e9 w' ⟨rfl, rfl⟩)
        | (go_at_call 35; refine (size_any _ h0 h1 _).mono ?_; rintro e9 w' ⟨rfl, rfl⟩)
        | (go_at_call 39; refine (pa'.out _).mono ?_; rintro e9 w' ⟨rfl, rfl⟩)
        | (go_at_call 42; refine (pt'.out _).mono ?_; rintro e9 w' ⟨rfl, rfl⟩))
      go_ret
      exact ⟨rfl, rfl⟩
  · have hf' : fin x = false := by simpa using hf
    have r : tw x p = x := by unfold tw; rw [if_pos (.inl hf')]
    rw [r]
    clear r
    go_enter Try.func25, Try.ntmps25
    go_wp2_with (go_at_call 36; refine (finite_any _ h0 h1 _).mono ?_; rintro e9 w' ⟨rfl, rfl⟩)
    go_ret
    exact ⟨rfl, rfl⟩
end Go.Proofs.Ytfaemgdeoamijaa
