/-
  Walks of layer 1, part nine: the chapter's rows ('known').
-/
import Derived.Test.YtpbhaheginnkiaaBitsE
import Derived.Test.YtpbhaheginnkiaaBitsG
import Derived.Test.YtpbhaheginnkiaaBitsH
import Derived.Test.YtpbhaheginnkiaaBitsT
import Derived.Laws.StructEq
namespace Go.Proofs.Ytpbhaheginnkiaa
open Go.RowKit Go.Bw
set_option linter.unusedVariables false

set_option maxHeartbeats 1000000 in
theorem lround_any (man exp want : Int) (more : Bool) (h0 : 0 ≤ man) (h1 : man ≤ 18446744073709551615) (hmay : roundMay man exp more = true) (hr : rnd man exp more = want) (w : World) :
    Calls Try.prog 46 #[.int .u64 man, .int .i64 exp, .bool more, .int .u64 want] w fun e w' => e = .returned (.bool true) ∧ Below w.heap.size w w' := by
  have hrd : ∀ w, Calls Try.prog 27 #[partsV false man exp, .bool more] w fun e w' => e = .returned (.tuple #[.int .u64 want, .int .i64 0]) ∧ Below w.heap.size w w' :=
    fun w => (round_any false man exp more h0 h1 w).mono fun e w' h => ⟨by rw [h.1]; simp [roundV, hmay, signW, hr], h.2⟩
  have HR := Lib.hid hrd
  clear hrd hr hmay
  go_enter Try.func46, Try.ntmps46
  go_wp2_with (first
    | (go_at_call 27; refine (HR.out _).mono ?_; rintro e w' ⟨rfl, hb⟩)
    | (go_at_call 25; refine (num_any _ _).mono ?_; rintro e w' ⟨rfl, rfl⟩))
  go_ret
  exact ⟨rfl, hb⟩

/-! ### closed answers -/
theorem k_of1 (w : World) : Calls Try.prog 20 #[.float .f64 4607182418800017408] w fun e w' => e = .returned (.int .u64 4607182418800017408) ∧ w = w' :=
  (of_any 4607182418800017408 (by decide) w).mono fun e w' h => ⟨by rw [h.1]; exact ret_int (by decide), h.2⟩
theorem k_of3 (w : World) : Calls Try.prog 20 #[.float .f64 4613937818241073152] w fun e w' => e = .returned (.int .u64 4613937818241073152) ∧ w = w' :=
  (of_any 4613937818241073152 (by decide) w).mono fun e w' h => ⟨by rw [h.1]; exact ret_int (by decide), h.2⟩
theorem partsV_eq {a b : Bool} {m m' x x' : Int} (h1 : a = b) (h2 : m = m') (h3 : x = x') : Ending.returned (.tuple #[partsV a m x, .int .i64 0]) = .returned (.tuple #[partsV b m' x', .int .i64 0]) := by rw [h1, h2, h3]
theorem k_parts1 (w : World) : Calls Try.prog 23 #[.int .u64 4607182418800017408] w fun e w' => e = .returned (.tuple #[partsV false 4503599627370496 (-52), .int .i64 0]) ∧ Below w.heap.size w w' :=
  (parts_yes (x := 4607182418800017408) (by decide) (by decide) (by decide) w).mono fun e w' h => ⟨by rw [h.1]; exact partsV_eq (by decide) (by decide) (by decide), h.2⟩
theorem k_parts2 (w : World) : Calls Try.prog 23 #[.int .u64 1] w fun e w' => e = .returned (.tuple #[partsV false 1 (-1074), .int .i64 0]) ∧ Below w.heap.size w w' :=
  (parts_yes (x := 1) (by decide) (by decide) (by decide) w).mono fun e w' h => ⟨by rw [h.1]; exact partsV_eq (by decide) (by decide) (by decide), h.2⟩
theorem exact_yes {neg : Bool} {man exp s : Int} (h0 : 0 ≤ man) (h1 : man ≤ 18446744073709551615) (ho : exOk neg man exp = true) (hs : signW neg (joinM (sW man exp) (sE man exp)) = s) (w : World) :
    Calls Try.prog 26 #[partsV neg man exp] w fun e w' => e = .returned (.tuple #[.int .u64 s, .int .i64 0]) ∧ Below w.heap.size w w' :=
  (exact_any neg man exp h0 h1 w).mono fun e w' h => ⟨by rw [h.1]; simp [exactV, ho, hs], h.2⟩
theorem exact_not {neg : Bool} {man exp : Int} (h0 : 0 ≤ man) (h1 : man ≤ 18446744073709551615) (ho : exOk neg man exp = false) (w : World) :
    Calls Try.prog 26 #[partsV neg man exp] w fun e w' => e = .returned (.tuple #[.int .u64 0, .int .i64 6]) ∧ Below w.heap.size w w' :=
  (exact_any neg man exp h0 h1 w).mono fun e w' h => ⟨by rw [h.1]; simp [exactV, ho], h.2⟩
theorem k_exact3 (w : World) : Calls Try.prog 26 #[partsV false 3 (-1074)] w fun e w' => e = .returned (.tuple #[.int .u64 3, .int .i64 0]) ∧ Below w.heap.size w w' := exact_yes (neg := false) (man := 3) (exp := -1074) (s := 3) (by decide) (by decide) (by decide +kernel) (by decide +kernel) w
theorem k_exact1 (w : World) : Calls Try.prog 26 #[partsV false 1 (-1075)] w fun e w' => e = .returned (.tuple #[.int .u64 0, .int .i64 6]) ∧ Below w.heap.size w w' := exact_not (neg := false) (man := 1) (exp := -1075) (by decide) (by decide) (by decide +kernel) w
theorem k_exact2 (w : World) : Calls Try.prog 26 #[partsV false 1 1024] w fun e w' => e = .returned (.tuple #[.int .u64 0, .int .i64 6]) ∧ Below w.heap.size w w' := exact_not (neg := false) (man := 1) (exp := 1024) (by decide) (by decide) (by decide +kernel) w
theorem k_compare (w : World) : Calls Try.prog 34 #[.int .u64 0, .int .u64 9223372036854775808] w fun e w' => e = .returned (.tuple #[.int .i64 0, .int .i64 0]) ∧ Below w.heap.size w w' :=
  (compare_ok 0 9223372036854775808 (by decide) (by decide) (by decide) (by decide) (by decide) (by decide) w).mono fun e w' h => ⟨by rw [h.1]; exact tuple_2 (by decide) rfl, h.2⟩
theorem k_up (w : World) : Calls Try.prog 44 #[.int .u64 9223372036854775808] w fun e w' => e = .returned (.tuple #[.int .u64 1, .int .i64 0]) ∧ Below w.heap.size w w' :=
  (up_ok 9223372036854775808 (by decide) (by decide) (by decide) w).mono fun e w' h => ⟨by rw [h.1]; exact tuple_2 (by decide) rfl, h.2⟩
theorem k_down (w : World) : Calls Try.prog 45 #[.int .u64 0] w fun e w' => e = .returned (.tuple #[.int .u64 9223372036854775809, .int .i64 0]) ∧ Below w.heap.size w w' :=
  (down_ok 0 (by decide) (by decide) (by decide) w).mono fun e w' h => ⟨by rw [h.1]; exact tuple_2 (by decide) rfl, h.2⟩
theorem k_steps (w : World) : Calls Try.prog 35 #[.int .u64 9223372036854775809, .int .u64 1] w fun e w' => e = .returned (.tuple #[.int .u64 2, .int .i64 0]) ∧ Below w.heap.size w w' :=
  (steps_ok 9223372036854775809 1 (by decide) (by decide) (by decide) (by decide) (by decide) (by decide) w).mono fun e w' h => ⟨by rw [h.1]; exact tuple_2 (by decide) rfl, h.2⟩
theorem k_log (w : World) : Calls Try.prog 38 #[.int .u64 4613937818241073152] w fun e w' => e = .returned (.tuple #[.int .i64 1, .int .i64 0]) ∧ Below w.heap.size w w' :=
  (log_any 4613937818241073152 (by decide) (by decide) w).mono fun e w' h => ⟨by rw [h.1]; unfold logV; rw [if_pos (by decide)]; exact tuple_2 (by decide +kernel) rfl, h.2⟩
theorem k_text (w : World) : Calls Try.prog 42 #[.int .u64 4607182418800017408] w fun e w' => e = .returned (.string ⟨#[51, 70, 70, 48, 48, 48, 48, 48, 48, 48, 48, 48, 48, 48, 48, 48]⟩) ∧ Below w.heap.size w w' :=
  (text_any 4607182418800017408 (by decide) (by decide) w).mono fun e w' h => ⟨by rw [h.1]; exact congrArg (fun b => Ending.returned (.string b)) (by decide +kernel), h.2⟩
theorem scale_as {x k s : Int} (h0 : 0 ≤ x) (h1 : x ≤ 18446744073709551615) (hs : scaleW x k = s) (w : World) :
    Calls Try.prog 32 #[.int .u64 x, .int .i64 k] w fun e' w' => e' = .returned (.int .u64 s) ∧ Below w.heap.size w w' :=
  (scale_any x k h0 h1 w).mono fun e w' h => ⟨by rw [h.1, hs], h.2⟩
theorem k_scale1 (w : World) : Calls Try.prog 32 #[.int .u64 4607182418800017408, .int .i64 (-1074)] w fun e w' => e = .returned (.int .u64 1) ∧ Below w.heap.size w w' := scale_as (x := 4607182418800017408) (k := -1074) (s := 1) (by decide) (by decide) (by decide +kernel) w
theorem k_scale2 (w : World) : Calls Try.prog 32 #[.int .u64 4607182418800017408, .int .i64 (-1075)] w fun e w' => e = .returned (.int .u64 0) ∧ Below w.heap.size w w' := scale_as (x := 4607182418800017408) (k := -1075) (s := 0) (by decide) (by decide) (by decide +kernel) w
theorem k_scale3 (w : World) : Calls Try.prog 32 #[.int .u64 4607182418800017408, .int .i64 1024] w fun e w' => e = .returned (.int .u64 9218868437227405312) ∧ Below w.heap.size w w' := scale_as (x := 4607182418800017408) (k := 1024) (s := 9218868437227405312) (by decide) (by decide) (by decide +kernel) w
theorem k_round1 (w : World) : Calls Try.prog 46 #[.int .u64 1, .int .i64 (-1075), .bool false, .int .u64 0] w fun e w' => e = .returned (.bool true) ∧ Below w.heap.size w w' := lround_any 1 (-1075) 0 false (by decide) (by decide) (by decide) (by decide +kernel) w
theorem k_round2 (w : World) : Calls Try.prog 46 #[.int .u64 1, .int .i64 (-1075), .bool true, .int .u64 1] w fun e w' => e = .returned (.bool true) ∧ Below w.heap.size w w' := lround_any 1 (-1075) 1 true (by decide) (by decide) (by decide) (by decide +kernel) w
theorem k_round3 (w : World) : Calls Try.prog 46 #[.int .u64 3, .int .i64 (-1075), .bool false, .int .u64 2] w fun e w' => e = .returned (.bool true) ∧ Below w.heap.size w w' := lround_any 3 (-1075) 2 false (by decide) (by decide) (by decide) (by decide +kernel) w

/-- the two boxed parts stand, whatever else is made -/
structure KeptCells (W : World) (a b : Nat) (w : World) : Prop where
  c1 : w.cell? ⟨a, 0, none⟩ = some (.bool false)
  c2 : w.cell? ⟨a, 1, none⟩ = some (.int .u64 4503599627370496)
  c3 : w.cell? ⟨a, 2, none⟩ = some (.int .i64 (-52))
  c4 : w.cell? ⟨b, 0, none⟩ = some (.bool false)
  c5 : w.cell? ⟨b, 1, none⟩ = some (.int .u64 1)
  c6 : w.cell? ⟨b, 2, none⟩ = some (.int .i64 (-1074))
  la : a < w.heap.size
  lb : b < w.heap.size
  below : Below W.heap.size W w
theorem KeptCells.keep {W : World} {a b : Nat} {w w' : World} (h : KeptCells W a b w) (hb : Below w.heap.size w w') : KeptCells W a b w' := by
  have ha := h.la
  have hb' := h.lb
  have hs := hb.size
  have hw := h.below.size
  exact ⟨(hb.cell (p := ⟨a, 0, none⟩) ha).trans h.c1, (hb.cell (p := ⟨a, 1, none⟩) ha).trans h.c2, (hb.cell (p := ⟨a, 2, none⟩) ha).trans h.c3,
    (hb.cell (p := ⟨b, 0, none⟩) hb').trans h.c4, (hb.cell (p := ⟨b, 1, none⟩) hb').trans h.c5, (hb.cell (p := ⟨b, 2, none⟩) hb').trans h.c6,
    Nat.lt_of_lt_of_le ha hs, Nat.lt_of_lt_of_le hb' hs, h.below.trans (hb.mono hw)⟩
theorem cell_new {w : World} {cs : Array Value} {T : TypeId} (j : Nat) : (w.alloc (.cells cs T)).cell? ⟨w.heap.size, j, none⟩ = cs[j]? :=
  Lib.cell_of_heap (heap_alloc_new w _) j
theorem KeptCells.start {W w1 w2 : World} {T : TypeId} (h1 : Below W.heap.size W w1) (h2 : Below (w1.alloc (.cells #[.bool false, .int .u64 4503599627370496, .int .i64 (-52)] T)).heap.size (w1.alloc (.cells #[.bool false, .int .u64 4503599627370496, .int .i64 (-52)] T)) w2) :
    KeptCells W w1.heap.size w2.heap.size (w2.alloc (.cells #[.bool false, .int .u64 1, .int .i64 (-1074)] T)) := by
  have s1 := h1.size
  have s2 := h2.size
  simp at s2
  have old : ∀ j, (w2.alloc (.cells #[.bool false, .int .u64 1, .int .i64 (-1074)] T)).cell? ⟨w1.heap.size, j, none⟩ = (w1.alloc (.cells #[.bool false, .int .u64 4503599627370496, .int .i64 (-52)] T)).cell? ⟨w1.heap.size, j, none⟩ := fun j =>
    (((Below.refl w2.heap.size w2).alloc (Nat.le_refl _) _).cell (p := ⟨w1.heap.size, j, none⟩) (by simp; omega)).trans (h2.cell (p := ⟨w1.heap.size, j, none⟩) (by simp))
  exact ⟨(old 0).trans (cell_new 0), (old 1).trans (cell_new 1), (old 2).trans (cell_new 2), cell_new 0, cell_new 1, cell_new 2, by simp; omega, by simp,
    (h1.alloc (by omega) _).trans ((h2.mono (by simp; omega)).trans (((Below.refl _ _).alloc (Nat.le_refl _) _).mono (by omega)))⟩

set_option maxRecDepth 100000 in
set_option maxHeartbeats 4000000 in
theorem known_any (w : World) : Calls Try.prog 18 #[] w fun e w' => e = .returned (.bool true) ∧ Below w.heap.size w w' := by
  go_enter Try.func18, Try.ntmps18
  go_wp2_with fail
  refine (k_of1 _).mono ?_
  rintro e w' ⟨rfl, rfl⟩
  go_wp2_with fail
  refine (k_parts1 _).mono ?_
  rintro e w1 ⟨rfl, hb1⟩
  go_wp2_with fail
  refine (k_parts2 _).mono ?_
  rintro e w2 ⟨rfl, hb2⟩
  have hk0 := KeptCells.start hb1 hb2
  go_wp2_with fail
  refine (k_exact3 _).mono ?_
  rintro e w' ⟨rfl, hb⟩
  have hk := hk0.keep hb
  clear hk0 hb hb1 hb2
  go_wp2_with fail
  refine (k_exact1 _).mono ?_
  rintro e w' ⟨rfl, hb⟩
  have hk' := hk.keep hb
  clear hk hb
  have hk := hk'
  clear hk'
  go_wp2_with fail
  refine (k_exact2 _).mono ?_
  rintro e w' ⟨rfl, hb⟩
  have hk' := hk.keep hb
  clear hk hb
  have hk := hk'
  clear hk'
  go_wp2_with fail
  refine (k_compare _).mono ?_
  rintro e w' ⟨rfl, hb⟩
  have hk' := hk.keep hb
  clear hk hb
  have hk := hk'
  clear hk'
  go_wp2_with fail
  refine (k_up _).mono ?_
  rintro e w' ⟨rfl, hb⟩
  have hk' := hk.keep hb
  clear hk hb
  have hk := hk'
  clear hk'
  go_wp2_with fail
  refine (k_down _).mono ?_
  rintro e w' ⟨rfl, hb⟩
  have hk' := hk.keep hb
  clear hk hb
  have hk := hk'
  clear hk'
  go_wp2_with fail
  refine (k_steps _).mono ?_
  rintro e w' ⟨rfl, hb⟩
  have hk' := hk.keep hb
  clear hk hb
  have hk := hk'
  clear hk'
  go_wp2_with fail
  refine (k_of3 _).mono ?_
  rintro e w' ⟨rfl, rfl⟩
  go_wp2_with fail
  refine (k_log _).mono ?_
  rintro e w' ⟨rfl, hb⟩
  have hk' := hk.keep hb
  clear hk hb
  have hk := hk'
  clear hk'
  go_wp2_with (go_at_call 25; refine (num_any _ _).mono ?_; rintro e w' ⟨rfl, rfl⟩)
  refine (k_text _).mono ?_
  rintro e w' ⟨rfl, hb⟩
  have hk' := hk.keep hb
  clear hk hb
  have hk := hk'
  clear hk'
  have g1 := hk.c1
  have g2 := hk.c2
  have g3 := hk.c3
  have g4 := hk.c4
  have g5 := hk.c5
  have g6 := hk.c6
  go_wp2_with fail
  refine (k_round1 _).mono ?_
  rintro e w' ⟨rfl, hb⟩
  have hk' := hk.keep hb
  clear hk hb
  have hk := hk'
  clear hk'
  clear g1 g2 g3 g4 g5 g6
  go_wp2_with fail
  refine (k_round2 _).mono ?_
  rintro e w' ⟨rfl, hb⟩
  have hk' := hk.keep hb
  clear hk hb
  have hk := hk'
  clear hk'
  go_wp2_with fail
  refine (k_round3 _).mono ?_
  rintro e w' ⟨rfl, hb⟩
  have hk' := hk.keep hb
  clear hk hb
  have hk := hk'
  clear hk'
  go_wp2_with fail
  refine (k_scale1 _).mono ?_
  rintro e w' ⟨rfl, hb⟩
  have hk' := hk.keep hb
  clear hk hb
  have hk := hk'
  clear hk'
  go_wp2_with fail
  refine (k_scale2 _).mono ?_
  rintro e w' ⟨rfl, hb⟩
  have hk' := hk.keep hb
  clear hk hb
  have hk := hk'
  clear hk'
  go_wp2_with fail
  refine (k_scale3 _).mono ?_
  rintro e w' ⟨rfl, hb⟩
  have hk' := hk.keep hb
  clear hk hb
  have hk := hk'
  clear hk'
  go_wp2_with fail
  go_ret
  exact ⟨rfl, hk.below⟩
end Go.Proofs.Ytpbhaheginnkiaa
