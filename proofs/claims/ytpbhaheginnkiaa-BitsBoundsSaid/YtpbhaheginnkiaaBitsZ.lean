/-
  Walks of layer 1, part nineteen: the closed sentence of bounds.
-/
import Derived.Test.YtpbhaheginnkiaaBitsY
import Derived.Test.YtpbhaheginnkiaaBitsF
namespace Go.Proofs.Ytpbhaheginnkiaa
open Go.RowKit Go.Bw
set_option linter.unusedVariables false

/-- a boxed value of three cells stands, whatever else is made -/
structure Kept3 (W : World) (a : Nat) (x y z : Value) (w : World) : Prop where
  c1 : w.cell? ⟨a, 0, none⟩ = some x
  c2 : w.cell? ⟨a, 1, none⟩ = some y
  c3 : w.cell? ⟨a, 2, none⟩ = some z
  la : a < w.heap.size
  below : Below W.heap.size W w
theorem Kept3.keep {W : World} {a : Nat} {x y z : Value} {w w' : World} (h : Kept3 W a x y z w) (hb : Below w.heap.size w w') : Kept3 W a x y z w' :=
  ⟨(hb.cell (p := ⟨a, 0, none⟩) h.la).trans h.c1, (hb.cell (p := ⟨a, 1, none⟩) h.la).trans h.c2, (hb.cell (p := ⟨a, 2, none⟩) h.la).trans h.c3, Nat.lt_of_lt_of_le h.la hb.size, h.below.trans (hb.mono h.below.size)⟩
theorem Kept3.start {W w : World} {x y z : Value} {T : TypeId} (h : Below W.heap.size W w) : Kept3 W w.heap.size x y z (w.alloc (.cells #[x, y, z] T)) :=
  ⟨cell_new 0, cell_new 1, cell_new 2, by simp, h.alloc h.size _⟩

theorem round_told {neg more : Bool} {man exp s : Int} (h0 : 0 ≤ man) (h1 : man ≤ 18446744073709551615) (hm : roundMay man exp more = true) (hs : signW neg (rnd man exp more) = s) (w : World) :
    Calls Try.prog 27 #[partsV neg man exp, .bool more] w fun e w' => e = .returned (.tuple #[.int .u64 s, .int .i64 0]) ∧ Below w.heap.size w w' :=
  (round_any neg man exp more h0 h1 w).mono fun e w' h => ⟨by rw [h.1]; simp [roundV, hm, hs], h.2⟩
theorem round_refused {neg more : Bool} {man exp : Int} (h0 : 0 ≤ man) (h1 : man ≤ 18446744073709551615) (hm : roundMay man exp more = false) (w : World) :
    Calls Try.prog 27 #[partsV neg man exp, .bool more] w fun e w' => e = .returned (.tuple #[.int .u64 0, .int .i64 2]) ∧ Below w.heap.size w w' :=
  (round_any neg man exp more h0 h1 w).mono fun e w' h => ⟨by rw [h.1]; simp [roundV, hm], h.2⟩
theorem of_told {n : Nat} {s : Int} (hn : n ≤ 18446744073709551615) (hs : one (n : Int) = s) (w : World) :
    Calls Try.prog 20 #[.float .f64 n] w fun e w' => e = .returned (.int .u64 s) ∧ w = w' :=
  (of_any n hn w).mono fun e w' h => ⟨by rw [h.1, hs], h.2⟩
theorem b_parts (w : World) : Calls Try.prog 23 #[.int .u64 9223372036854775808] w fun e w' => e = .returned (.tuple #[partsV true 0 0, .int .i64 0]) ∧ Below w.heap.size w w' :=
  (parts_yes (x := 9223372036854775808) (by decide) (by decide) (by decide) w).mono fun e w' h => ⟨by rw [h.1]; exact partsV_eq (by decide) (by decide) (by decide), h.2⟩
theorem b_log (w : World) : Calls Try.prog 38 #[.int .u64 1] w fun e w' => e = .returned (.tuple #[.int .i64 (-1074), .int .i64 0]) ∧ Below w.heap.size w w' :=
  (log_any 1 (by decide) (by decide) w).mono fun e w' h => ⟨by rw [h.1]; unfold logV; rw [if_pos (by decide)]; exact tuple_2 (by decide +kernel) rfl, h.2⟩
/-- a text with a small letter -/
def smallText : ByteArray := ⟨#[51, 102, 102, 48, 48, 48, 48, 48, 48, 48, 48, 48, 48, 48, 48, 48]⟩
theorem b_read (w : World) : Calls Try.prog 40 #[.string smallText] w fun e w' => e = .returned (.tuple #[.int .u64 0, .int .i64 4]) ∧ Below w.heap.size w w' :=
  (read_any smallText (by decide) w).mono fun e w' h => ⟨by rw [h.1, ← readV_no (s := smallText) (k := 1) (by decide) (by decide) (by decide)], h.2⟩

set_option maxRecDepth 100000 in
set_option maxHeartbeats 8000000 in
theorem law_bounds (w : World) : Calls Try.prog 13 #[] w fun e w' => e = .returned (.bool true) ∧ Below w.heap.size w w' := by
  go_enter Try.func13, Try.ntmps13
  go_wp2_with fail
  have hk : Kept3 w w.heap.size (.bool false) (.int .u64 18014398509481983) (.int .i64 970) (w.alloc (.cells #[.bool false, .int .u64 18014398509481983, .int .i64 970] 32)) := Kept3.start (Below.refl _ _)
  refine (round_refused (neg := false) (more := true) (man := 9007199254740991) (exp := -1074) (by decide) (by decide) (by decide) _).mono ?_
  rintro e w' ⟨rfl, hb⟩
  have hk' := hk.keep hb
  clear hk hb
  have hk := hk'
  clear hk'
  go_wp2_with fail
  refine (round_refused (neg := false) (more := true) (man := 0) (exp := 0) (by decide) (by decide) (by decide) _).mono ?_
  rintro e w' ⟨rfl, hb⟩
  have hk' := hk.keep hb
  clear hk hb
  have hk := hk'
  clear hk'
  go_wp2_with fail
  refine (round_told (neg := true) (more := true) (man := 0) (exp := -1075) (s := 9223372036854775808) (by decide) (by decide) (by decide) (by decide +kernel) _).mono ?_
  rintro e w' ⟨rfl, hb⟩
  have hk' := hk.keep hb
  clear hk hb
  have hk := hk'
  clear hk'
  have g1 := hk.c1
  have g2 := hk.c2
  have g3 := hk.c3
  go_wp2_with fail
  clear g1 g2 g3
  refine (round_told (neg := false) (more := false) (man := 18014398509481983) (exp := 970) (s := 9218868437227405312) (by decide) (by decide) (by decide) (by decide +kernel) _).mono ?_
  rintro e w' ⟨rfl, hb⟩
  have hk' := hk.keep hb
  clear hk hb
  have hk := hk'
  clear hk'
  go_wp2_with fail
  refine (b_parts _).mono ?_
  rintro e w1 ⟨rfl, hb⟩
  have hbel := hk.below.trans (hb.mono hk.below.size)
  clear hk hb
  go_wp2_with fail
  have hk : Kept3 w w1.heap.size (.bool true) (.int .u64 0) (.int .i64 0) (w1.alloc (.cells #[.bool true, .int .u64 0, .int .i64 0] 32)) := Kept3.start hbel
  clear hbel
  refine (b_log _).mono ?_
  rintro e w' ⟨rfl, hb⟩
  have hk' := hk.keep hb
  clear hk hb
  have hk := hk'
  clear hk'
  go_wp2_with fail
  refine (b_read _).mono ?_
  rintro e w' ⟨rfl, hb⟩
  have hk' := hk.keep hb
  clear hk hb
  have hk := hk'
  clear hk'
  go_wp2_with fail
  refine (lround_any 9007199254740991 971 9218868437227405311 false (by decide) (by decide) (by decide) (by decide +kernel) _).mono ?_
  rintro e w' ⟨rfl, hb⟩
  have hk' := hk.keep hb
  clear hk hb
  have hk := hk'
  clear hk'
  go_wp2_with (go_at_call 25; refine (num_any _ _).mono ?_; rintro e w' ⟨rfl, rfl⟩)
  refine (lround_any 9007199254740992 971 9218868437227405312 false (by decide) (by decide) (by decide) (by decide +kernel) _).mono ?_
  rintro e w' ⟨rfl, hb⟩
  have hk' := hk.keep hb
  clear hk hb
  have hk := hk'
  clear hk'
  have g1 := hk.c1
  have g2 := hk.c2
  have g3 := hk.c3
  go_wp2_with (go_at_call 25; refine (num_any _ _).mono ?_; rintro e w' ⟨rfl, rfl⟩)
  clear g1 g2 g3
  refine (lround_any 9223372036854775809 (-1138) 1 false (by decide) (by decide) (by decide) (by decide +kernel) _).mono ?_
  rintro e w' ⟨rfl, hb⟩
  have hk' := hk.keep hb
  clear hk hb
  have hk := hk'
  clear hk'
  go_wp2_with (go_at_call 25; refine (num_any _ _).mono ?_; rintro e w' ⟨rfl, rfl⟩)
  refine (lround_any 18014398509481982 970 9218868437227405311 true (by decide) (by decide) (by decide) (by decide +kernel) _).mono ?_
  rintro e w' ⟨rfl, hb⟩
  have hk' := hk.keep hb
  clear hk hb
  have hk := hk'
  clear hk'
  go_wp2_with (go_at_call 25; refine (num_any _ _).mono ?_; rintro e w' ⟨rfl, rfl⟩)
  refine (of_told (n := 4845873199050653696) (s := 4845873199050653696) (by decide) (by decide) _).mono ?_
  rintro e w' ⟨rfl, rfl⟩
  go_wp2_with fail
  refine (lround_any 9007199254740993 0 4845873199050653696 false (by decide) (by decide) (by decide) (by decide +kernel) _).mono ?_
  rintro e w' ⟨rfl, hb⟩
  have hk' := hk.keep hb
  clear hk hb
  have hk := hk'
  clear hk'
  go_wp2_with (go_at_call 25; refine (num_any _ _).mono ?_; rintro e w' ⟨rfl, rfl⟩)
  refine (of_told (n := 4845873199050653697) (s := 4845873199050653697) (by decide) (by decide) _).mono ?_
  rintro e w' ⟨rfl, rfl⟩
  go_wp2_with fail
  refine (lround_any 9007199254740993 0 4845873199050653697 true (by decide) (by decide) (by decide) (by decide +kernel) _).mono ?_
  rintro e w' ⟨rfl, hb⟩
  have hk' := hk.keep hb
  clear hk hb
  have hk := hk'
  clear hk'
  go_wp2_with (go_at_call 25; refine (num_any _ _).mono ?_; rintro e w' ⟨rfl, rfl⟩)
  refine (of_told (n := 4845873199050653698) (s := 4845873199050653698) (by decide) (by decide) _).mono ?_
  rintro e w' ⟨rfl, rfl⟩
  go_wp2_with fail
  refine (lround_any 9007199254740995 0 4845873199050653698 false (by decide) (by decide) (by decide) (by decide +kernel) _).mono ?_
  rintro e w' ⟨rfl, hb⟩
  have hk' := hk.keep hb
  clear hk hb
  have hk := hk'
  clear hk'
  go_wp2_with (go_at_call 25; refine (num_any _ _).mono ?_; rintro e w' ⟨rfl, rfl⟩)
  refine (of_told (n := 4890909195324358656) (s := 4890909195324358656) (by decide) (by decide) _).mono ?_
  rintro e w' ⟨rfl, rfl⟩
  go_wp2_with fail
  refine (lround_any 9223372036854776832 0 4890909195324358656 false (by decide) (by decide) (by decide) (by decide +kernel) _).mono ?_
  rintro e w' ⟨rfl, hb⟩
  have hk' := hk.keep hb
  clear hk hb
  have hk := hk'
  clear hk'
  go_wp2_with (go_at_call 25; refine (num_any _ _).mono ?_; rintro e w' ⟨rfl, rfl⟩)
  refine (of_told (n := 4890909195324358656) (s := 4890909195324358656) (by decide) (by decide) _).mono ?_
  rintro e w' ⟨rfl, rfl⟩
  go_wp2_with fail
  refine (lround_any 9223372036854776832 0 4890909195324358657 true (by decide) (by decide) (by decide) (by decide +kernel) _).mono ?_
  rintro e w' ⟨rfl, hb⟩
  have hk' := hk.keep hb
  clear hk hb
  have hk := hk'
  clear hk'
  go_wp2_with (go_at_call 25; refine (num_any _ _).mono ?_; rintro e w' ⟨rfl, rfl⟩)
  refine (lround_any 4503599627370495 (-1074) 4503599627370495 false (by decide) (by decide) (by decide) (by decide +kernel) _).mono ?_
  rintro e w' ⟨rfl, hb⟩
  have hk' := hk.keep hb
  clear hk hb
  have hk := hk'
  clear hk'
  go_wp2_with (go_at_call 25; refine (num_any _ _).mono ?_; rintro e w' ⟨rfl, rfl⟩)
  refine (lround_any 9007199254740991 (-1075) 4503599627370496 false (by decide) (by decide) (by decide) (by decide +kernel) _).mono ?_
  rintro e w' ⟨rfl, hb⟩
  have hk' := hk.keep hb
  clear hk hb
  have hk := hk'
  clear hk'
  go_wp2_with (go_at_call 25; refine (num_any _ _).mono ?_; rintro e w' ⟨rfl, rfl⟩)
  refine (lround_any 1 1023 9214364837600034816 false (by decide) (by decide) (by decide) (by decide +kernel) _).mono ?_
  rintro e w' ⟨rfl, hb⟩
  have hk' := hk.keep hb
  clear hk hb
  have hk := hk'
  clear hk'
  go_wp2_with (go_at_call 25; refine (num_any _ _).mono ?_; rintro e w' ⟨rfl, rfl⟩)
  refine (lround_any 1 1024 9218868437227405312 false (by decide) (by decide) (by decide) (by decide +kernel) _).mono ?_
  rintro e w' ⟨rfl, hb⟩
  have hk' := hk.keep hb
  clear hk hb
  have hk := hk'
  clear hk'
  go_wp2_with (go_at_call 25; refine (num_any _ _).mono ?_; rintro e w' ⟨rfl, rfl⟩)
  refine (lround_any 5 1099511627776 9218868437227405312 false (by decide) (by decide) (by decide) ((rnd_high _ _ _ (by decide) (by decide) (by decide)).trans rfl) _).mono ?_
  rintro e w' ⟨rfl, hb⟩
  have hk' := hk.keep hb
  clear hk hb
  have hk := hk'
  clear hk'
  go_wp2_with (go_at_call 25; refine (num_any _ _).mono ?_; rintro e w' ⟨rfl, rfl⟩)
  refine (lround_any 5 (-1099511627776) 0 false (by decide) (by decide) (by decide) (rnd_low _ _ _ (by decide) (by decide) (by decide)) _).mono ?_
  rintro e w' ⟨rfl, hb⟩
  have hk' := hk.keep hb
  clear hk hb
  have hk := hk'
  clear hk'
  go_wp2_with (go_at_call 25; refine (num_any _ _).mono ?_; rintro e w' ⟨rfl, rfl⟩)
  refine (known_any _).mono ?_
  rintro e w2 ⟨rfl, hb2⟩
  go_wp2_with fail
  go_ret
  exact ⟨rfl, hk.below.trans (hb2.mono hk.below.size)⟩
end Go.Proofs.Ytpbhaheginnkiaa
