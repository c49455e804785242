/-
  Layer 10, walks: what is refused, noughts, I, by the program.
-/
import Derived.Test.YtaemkjcmjgefeaaTdT
namespace Go.Proofs.Ytaemkjcmjgefeaa
open Go.RowKit Go.Bw
set_option linter.unusedVariables false
set_option linter.unusedSimpArgs false
attribute [local go_sem] run_store_float

set_option maxRecDepth 100000 in
set_option maxHeartbeats 4000000 in
theorem trefused_any {A : Option Addr} {n c : Nat} {l : List Int} {R C : Int} {w : World} (h : FL w A n c l) :
    Calls Try.prog 22 #[mV R C A n c] w (Ans w (.int .i64 (tdE R C n l))) := by
  have hmx := h.max
  have pR := tsized_any R
  have pC := tsized_any C
  have bz := (Below.refl _ w).alloc (Nat.le_refl _) (.cells #[.int .i64 R, .int .i64 C, .slice A n c] 24)
  have pf := tfinite_any (h.on bz)
  unfold tdE mayB
  by_cases hR : 0 ≤ R ∧ R ≤ 512
  · rw [decide_eq_true hR] at pR
    by_cases hC : 0 ≤ C ∧ C ≤ 512
    · rw [decide_eq_true hC] at pC
      have hp := prod512 hR hC
      by_cases hn : (n : Int) = R * C
      · rw [if_pos (decide_eq_true ⟨hR.1, hR.2, hC.1, hC.2, hn⟩)]
        by_cases hRC : R = C
        · subst hRC
          rw [if_pos rfl]
          have d1 : ((n : Int) != R * R) = false := by rw [hn]; simp
          have d2 : (R != R) = false := by simp
          clear hn hR hC
          unfold finC
          cases hf : l.all fin
          · rw [hf] at pf
            rw [if_neg (by decide)]
            clear hf
            go_enter Try.func22, Try.ntmps22
            go_wp2_with fail
            with_reducible refine (pR _).mono ?_
            rintro e w1 ⟨rfl, rfl⟩
            go_wp2_with fail
            with_reducible refine (pC _).mono ?_
            rintro e w1 ⟨rfl, rfl⟩
            go_wp2_with fail
            with_reducible refine pf.mono ?_
            rintro e w1 ⟨rfl, rfl⟩
            go_wp2_with fail
            go_ret
            exact ⟨rfl, bz⟩
          · rw [hf] at pf
            rw [if_pos rfl]
            clear hf
            go_enter Try.func22, Try.ntmps22
            go_wp2_with fail
            with_reducible refine (pR _).mono ?_
            rintro e w1 ⟨rfl, rfl⟩
            go_wp2_with fail
            with_reducible refine (pC _).mono ?_
            rintro e w1 ⟨rfl, rfl⟩
            go_wp2_with fail
            with_reducible refine pf.mono ?_
            rintro e w1 ⟨rfl, rfl⟩
            go_wp2_with fail
            go_ret
            exact ⟨rfl, bz⟩
        · rw [if_neg hRC]
          have d1 : ((n : Int) != R * C) = false := by rw [hn]; simp
          have d2 : (R != C) = true := by simpa using hRC
          clear hn hR hC pf
          go_enter Try.func22, Try.ntmps22
          go_wp2_with fail
          with_reducible refine (pR _).mono ?_
          rintro e w1 ⟨rfl, rfl⟩
          go_wp2_with fail
          with_reducible refine (pC _).mono ?_
          rintro e w1 ⟨rfl, rfl⟩
          go_wp2_with fail
          go_ret
          exact ⟨rfl, bz⟩
      · rw [if_neg (by simp only [decide_eq_true_eq]; omega)]
        have d1 : ((n : Int) != R * C) = true := by simpa using hn
        clear hn hR hC pf
        go_enter Try.func22, Try.ntmps22
        go_wp2_with fail
        with_reducible refine (pR _).mono ?_
        rintro e w1 ⟨rfl, rfl⟩
        go_wp2_with fail
        with_reducible refine (pC _).mono ?_
        rintro e w1 ⟨rfl, rfl⟩
        go_wp2_with fail
        go_ret
        exact ⟨rfl, bz⟩
    · rw [decide_eq_false hC] at pC
      rw [if_neg (by simp only [decide_eq_true_eq]; omega)]
      clear hR hC pf
      go_enter Try.func22, Try.ntmps22
      go_wp2_with fail
      with_reducible refine (pR _).mono ?_
      rintro e w1 ⟨rfl, rfl⟩
      go_wp2_with fail
      with_reducible refine (pC _).mono ?_
      rintro e w1 ⟨rfl, rfl⟩
      go_wp2_with fail
      go_ret
      exact ⟨rfl, bz⟩
  · rw [decide_eq_false hR] at pR
    rw [if_neg (by simp only [decide_eq_true_eq]; omega)]
    clear hR pf
    go_enter Try.func22, Try.ntmps22
    go_wp2_with fail
    with_reducible refine (pR _).mono ?_
    rintro e w1 ⟨rfl, rfl⟩
    go_wp2_with fail
    go_ret
    exact ⟨rfl, bz⟩

set_option maxRecDepth 100000 in
set_option maxHeartbeats 4000000 in
theorem tMayT_any {A A2 : Option Addr} {n c m c2 : Nat} (hn : n ≤ 9223372036854775807) (hm : m ≤ 9223372036854775807) (w : World) :
    Calls Try.prog 19 #[tV A n c A2 m c2] w (Ans w (.bool (mayT n m))) := by
  have bz := (Below.refl _ w).alloc (Nat.le_refl _) (.cells #[.slice A n c, .slice A2 m c2] 28)
  have ps := tsized_any (n : Int)
  by_cases h1 : n ≤ 512
  · rw [decide_eq_true (by omega : 0 ≤ (n : Int) ∧ (n : Int) ≤ 512)] at ps
    obtain ⟨x, hx⟩ : ∃ x, n - 1 = x := ⟨_, rfl⟩
    have w1 : IntKind.i64.wrap ((n : Int) - 1) = (n : Int) - 1 := IntWalk.i64_in _ (by omega)
    have e1 : max ((n : Int) - 1) 0 = (x : Int) := by omega
    have e : mayT n m = ((m : Int) == (x : Int)) := by
      unfold mayT
      rw [Bool.eq_iff_iff, decide_eq_true_iff, beq_iff_eq]
      omega
    rw [e]
    clear e e1
    by_cases c : n ≤ 1
    · obtain rfl : x = 0 := by omega
      have c1 : (n : Int) - 1 ≤ 0 := by omega
      have c2 : ¬ (0 : Int) < (n : Int) - 1 := by omega
      have c3 : (n : Int) ≤ 1 := by omega
      have c4 : ¬ (1 : Int) < (n : Int) := by omega
      clear hx c
      go_enter Try.func19, Try.ntmps19
      go_wp2_with fail
      with_reducible refine (ps _).mono ?_
      rintro e w1 ⟨rfl, rfl⟩
      go_wp2_with fail
      all_goals first | (go_ret; exact ⟨rfl, bz⟩) | (refine bodyPost_ret (v := .bool ((m : Int) == (n : Int) - 1)) (by simp [results, Try.results19, go_sem]) rfl ?_; have e9 : (n : Int) - 1 = 0 := (by omega); exact ⟨congrArg (fun z : Int => Ending.returned (.bool ((m : Int) == z))) e9, bz⟩)
    · have c1 : ¬ (n : Int) - 1 ≤ 0 := by omega
      have c2 : (0 : Int) < (n : Int) - 1 := by omega
      have c3 : ¬ (n : Int) ≤ 1 := by omega
      have c4 : (1 : Int) < (n : Int) := by omega
      have c5 : (n : Int) - 1 = (x : Int) := by omega
      have c6 : ¬ (x : Int) ≤ 0 := by omega
      have c7 : (0 : Int) < (x : Int) := by omega
      rw [c5] at w1 c1 c2
      clear hx c
      go_enter Try.func19, Try.ntmps19
      go_wp2_with fail
      with_reducible refine (ps _).mono ?_
      rintro e w1 ⟨rfl, rfl⟩
      go_wp2_with fail
      all_goals first | (go_ret; exact ⟨rfl, bz⟩) | (refine bodyPost_ret (v := .bool ((m : Int) == (n : Int) - 1)) (by simp [results, Try.results19, go_sem]) rfl ?_; have e9 : (n : Int) - 1 = 0 := (by omega); exact ⟨congrArg (fun z : Int => Ending.returned (.bool ((m : Int) == z))) e9, bz⟩)
  · rw [decide_eq_false (by omega : ¬ (0 ≤ (n : Int) ∧ (n : Int) ≤ 512))] at ps
    have e : mayT n m = false := decide_eq_false (by omega)
    rw [e]
    clear e h1
    go_enter Try.func19, Try.ntmps19
    go_wp2_with fail
    with_reducible refine (ps _).mono ?_
    rintro e w1 ⟨rfl, rfl⟩
    go_wp2_with fail
    go_ret
    exact ⟨rfl, bz⟩
/-- a matrix of noughts in new memory -/
def NtP (w : World) (n N : Nat) (e : Ending) (w' : World) : Prop := ∃ g, e = .returned (mV n n (some ⟨g, 0, none⟩) N N) ∧ RowF w' g (List.replicate N 0) ∧ w.heap.size ≤ g ∧ Below w.heap.size w w'
set_option maxRecDepth 100000 in
set_option maxHeartbeats 4000000 in
theorem tnoughts_any {n N : Nat} (hN : N = n * n) (hn : n ≤ 512) (w : World) : Calls Try.prog 38 #[.int .i64 n] w (NtP w n N) := by
  have n4 : N ≤ 262144 := by rw [hN]; exact Nat.le_trans (Nat.mul_le_mul hn hn) (by decide)
  have eN : (n : Int) * (n : Int) = (N : Int) := by rw [hN]; exact_mod_cast rfl
  have wN : IntKind.i64.wrap (N : Int) = (N : Int) := IntWalk.i64_in _ (by omega)
  have hmk := run_makeF N (by omega)
  have bz := ((Below.refl _ w).alloc (Nat.le_refl _) (.cells #[.int .i64 n, .int .i64 n, .slice (some ⟨w.heap.size + 1, 0, none⟩) N N] 24)).alloc (by simp) (.cells (LF (List.replicate N 0)).toArray 39)
  have HR := RowF.new (w.alloc (.cells #[.int .i64 n, .int .i64 n, .slice (some ⟨w.heap.size + 1, 0, none⟩) N N] 24)) (List.replicate N 0)
  rw [World.size_alloc] at HR
  clear hN
  go_enter Try.func38, Try.ntmps38
  go_wp2_with fail
  refine bodyPost_ret (v := mV n n (some ⟨w.heap.size + 1, 0, none⟩) N N) (by simp [results, Try.results38, go_sem]) rfl ?_
  exact ⟨w.heap.size + 1, rfl, HR, by omega, bz⟩
end Go.Proofs.Ytaemkjcmjgefeaa
