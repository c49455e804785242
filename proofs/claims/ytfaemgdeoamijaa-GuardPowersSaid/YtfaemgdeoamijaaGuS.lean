/-
  Layer 5, walks: the laws' known(). (Written by wip/tools/gen_gus.py.)
-/
import Derived.Test.YtfaemgdeoamijaaGuR
namespace Go.Proofs.Ytfaemgdeoamijaa
open Go.RowKit Go.Bw
set_option linter.unusedVariables false
set_option linter.unusedSimpArgs false

section
variable {A : Option Addr} {len c : Nat} {n : Int} {l : List Int} {w : World}
theorem sq_code (h : UL w A len c l) {K : Int} (hK : codeT n n l (symB l n.toNat) = K) (h0 : K ≠ 0) : Calls Try.prog 10 #[.int .i64 n, .slice A len c] w (MatC K 0 0 [] w) := by
  have := square_any (n := n) h
  unfold TakeP at this
  rw [hK, if_neg h0, if_neg h0] at this
  exact this
theorem sq_ok (h : UL w A len c l) (hK : codeT n n l (symB l n.toNat) = 0) : Calls Try.prog 10 #[.int .i64 n, .slice A len c] w (MatC 0 n n l w) := by
  have := square_any (n := n) h
  unfold TakeP at this
  rw [hK, if_pos rfl, if_pos rfl] at this
  exact this
theorem ul_built {W : World} {l : List Int} (hl : Wd l) (hm : l.length ≤ 1000) : UL (W.alloc (.cells (LU l).toArray 36)) (some ⟨W.heap.size, 0, none⟩) l.length l.length l := by
  have h := (RowU.new W l).nums (B := W.heap.size + 1) (c := l.length) 0 l.length (by omega) (Nat.le_refl _) (by unfold maxLen; omega) (by omega)
  refine ⟨rfl, ?_, hl⟩
  simpa using h
theorem fl_built {W : World} {l : List Int} (hl : Wd l) (hm : l.length ≤ 1000) : FL (W.alloc (.cells (LF l).toArray 37)) (some ⟨W.heap.size, 0, none⟩) l.length l.length l := by
  have h := (RowF.new W l).nums (B := W.heap.size + 1) (c := l.length) 0 l.length (by omega) (Nat.le_refl _) (by unfold maxLen; omega) (by omega)
  refine ⟨rfl, ?_, hl⟩
  simpa using h
set_option maxHeartbeats 400000 in
theorem nan_any (w : World) : Calls Try.prog 30 #[] w (Ans w (.float .f64 9221120237041090561)) := by
  have hx := run_float64frombits 9221120237041090561
  go_enter Try.func30, Try.ntmps30
  go_wp2
  go_ret
  exact ⟨rfl, rfl⟩

set_option maxRecDepth 100000 in
set_option maxHeartbeats 8000000 in
theorem known_any : Calls Try.prog 9 #[] w fun e w' => e = .returned (.bool true) ∧ Below w.heap.size w w' := by
  have t0 : ∀ W, Calls Try.prog 25 #[.float .f64 4613937818241073152, .int .i64 (-2)] W (Ans W (.float .f64 4604930618986332160)) := fun W => by
    have h := times_any 4613937818241073152 (-2) (by decide) (by decide) (by decide) (by decide) W
    rw [show tw 4613937818241073152 (-2) = 4604930618986332160 by decide +kernel] at h
    exact h
  have e0 : FloatKind.f64.format.order 4604930618986332160 4604930618986332160 = some .eq := by decide +kernel
  have t1 : ∀ W, Calls Try.prog 25 #[.float .f64 4607182418800017408, .int .i64 (-1075)] W (Ans W (.float .f64 0)) := fun W => by
    have h := times_any 4607182418800017408 (-1075) (by decide) (by decide) (by decide) (by decide) W
    rw [show tw 4607182418800017408 (-1075) = 0 by decide +kernel] at h
    exact h
  have e1 : FloatKind.f64.format.order 0 0 = some .eq := by decide +kernel
  have t2 : ∀ W, Calls Try.prog 25 #[.float .f64 4613937818241073152, .int .i64 (-1075)] W (Ans W (.float .f64 2)) := fun W => by
    have h := times_any 4613937818241073152 (-1075) (by decide) (by decide) (by decide) (by decide) W
    rw [show tw 4613937818241073152 (-1075) = 2 by decide +kernel] at h
    exact h
  have e2 : FloatKind.f64.format.order 2 2 = some .eq := by decide +kernel
  have e9 : FloatKind.f64.format.order 4609434218613702656 4609434218613702656 = some .eq := by decide +kernel
  have U0 : UL (w.alloc (.cells #[.int .u64 4609434218613702656] 36)) (some ⟨w.heap.size, 0, none⟩) 1 1 [4609434218613702656] := by
    have h := ul_built (W := w) (l := [4609434218613702656]) (by intro x hx; simp at hx; omega) (by decide)
    simpa [LU] using h
  have b0 : Below w.heap.size w (w.alloc (.cells #[.int .u64 4609434218613702656] 36)) := by go_grown
  go_enter Try.func9, Try.ntmps9
  go_wp2_with (first | (go_at_call 28; refine (wordN_any _ _).mono ?_; rintro e8 w8 ⟨rfl, rfl⟩) | (go_at_call 30; refine (nan_any _).mono ?_; rintro e8 w8 ⟨rfl, rfl⟩))
  with_reducible refine (sq_ok U0 (by decide +kernel)).mono ?_
  rintro e w0 ⟨A0, c0, rfl, hF, hb⟩
  have bw : Below w.heap.size w w0 := b0.trans (hb.mono (by simp; try omega))
  have hsz0 := bw.size
  clear hb U0 b0
  have U1 : UL ((w0.alloc (.cells #[.int .i64 1, .int .i64 1, .slice A0 1 c0] 26)).alloc (.cells #[.int .u64 0, .int .u64 4611686018427387904, .int .u64 0, .int .u64 0] 36)) (some ⟨w0.heap.size + 1, 0, none⟩) 4 4 [0, 4611686018427387904, 0, 0] := by
    have h := ul_built (W := (w0.alloc (.cells #[.int .i64 1, .int .i64 1, .slice A0 1 c0] 26))) (l := [0, 4611686018427387904, 0, 0]) (by intro x hx; simp at hx; omega) (by decide)
    simpa [LU] using h
  have b1 : Below w.heap.size w ((w0.alloc (.cells #[.int .i64 1, .int .i64 1, .slice A0 1 c0] 26)).alloc (.cells #[.int .u64 0, .int .u64 4611686018427387904, .int .u64 0, .int .u64 0] 36)) := ((bw.alloc (by omega) _).alloc (by simp; omega) _)
  replace hF : FL ((w0.alloc (.cells #[.int .i64 1, .int .i64 1, .slice A0 1 c0] 26)).alloc (.cells #[.int .u64 0, .int .u64 4611686018427387904, .int .u64 0, .int .u64 0] 36)) A0 1 c0 [4609434218613702656] := (hF.alloc _).alloc _
  have DA : Mbx (w0.alloc (.cells #[.int .i64 1, .int .i64 1, .slice A0 1 c0] 26)) w0.heap.size 1 1 A0 1 c0 := Blk.new w0 [.int .i64 1, .int .i64 1, .slice A0 1 c0] 26
  replace DA : Mbx ((w0.alloc (.cells #[.int .i64 1, .int .i64 1, .slice A0 1 c0] 26)).alloc (.cells #[.int .u64 0, .int .u64 4611686018427387904, .int .u64 0, .int .u64 0] 36)) w0.heap.size 1 1 A0 1 c0 := DA.alloc _
  go_wp2_with (first | (go_at_call 28; refine (wordN_any _ _).mono ?_; rintro e8 w8 ⟨rfl, rfl⟩) | (go_at_call 30; refine (nan_any _).mono ?_; rintro e8 w8 ⟨rfl, rfl⟩))
  with_reducible refine (sq_code U1 (K := 1) (by decide +kernel) (by decide)).mono ?_
  rintro e w1 ⟨A1, c1, rfl, _, hb⟩
  replace bw : Below w.heap.size w w1 := b1.trans (hb.mono (by have := b1.size; omega))
  replace hF := hF.on hb
  replace DA := Blk.on DA hb
  have hsz1 := bw.size
  clear hb U1 b1
  have U2 : UL ((w1.alloc (.cells #[.int .i64 0, .int .i64 0, .slice A1 0 c1] 26)).alloc (.cells #[.int .u64 9221120237041090561] 36)) (some ⟨w1.heap.size + 1, 0, none⟩) 1 1 [9221120237041090561] := by
    have h := ul_built (W := (w1.alloc (.cells #[.int .i64 0, .int .i64 0, .slice A1 0 c1] 26))) (l := [9221120237041090561]) (by intro x hx; simp at hx; omega) (by decide)
    simpa [LU] using h
  have b2 : Below w.heap.size w ((w1.alloc (.cells #[.int .i64 0, .int .i64 0, .slice A1 0 c1] 26)).alloc (.cells #[.int .u64 9221120237041090561] 36)) := ((bw.alloc (by omega) _).alloc (by simp; omega) _)
  replace hF : FL ((w1.alloc (.cells #[.int .i64 0, .int .i64 0, .slice A1 0 c1] 26)).alloc (.cells #[.int .u64 9221120237041090561] 36)) A0 1 c0 [4609434218613702656] := (hF.alloc _).alloc _
  replace DA : Mbx ((w1.alloc (.cells #[.int .i64 0, .int .i64 0, .slice A1 0 c1] 26)).alloc (.cells #[.int .u64 9221120237041090561] 36)) w0.heap.size 1 1 A0 1 c0 := (DA.alloc _).alloc _
  go_wp2_with (first | (go_at_call 28; refine (wordN_any _ _).mono ?_; rintro e8 w8 ⟨rfl, rfl⟩) | (go_at_call 30; refine (nan_any _).mono ?_; rintro e8 w8 ⟨rfl, rfl⟩))
  with_reducible refine (sq_code U2 (K := 1) (by decide +kernel) (by decide)).mono ?_
  rintro e w2 ⟨A2, c2, rfl, _, hb⟩
  replace bw : Below w.heap.size w w2 := b2.trans (hb.mono (by have := b2.size; omega))
  replace hF := hF.on hb
  replace DA := Blk.on DA hb
  have hsz2 := bw.size
  clear hb U2 b2
  have U3 : UL ((w2.alloc (.cells #[.int .i64 0, .int .i64 0, .slice A2 0 c2] 26)).alloc (.cells #[.int .u64 6413125869375586304] 36)) (some ⟨w2.heap.size + 1, 0, none⟩) 1 1 [6413125869375586304] := by
    have h := ul_built (W := (w2.alloc (.cells #[.int .i64 0, .int .i64 0, .slice A2 0 c2] 26))) (l := [6413125869375586304]) (by intro x hx; simp at hx; omega) (by decide)
    simpa [LU] using h
  have b3 : Below w.heap.size w ((w2.alloc (.cells #[.int .i64 0, .int .i64 0, .slice A2 0 c2] 26)).alloc (.cells #[.int .u64 6413125869375586304] 36)) := ((bw.alloc (by omega) _).alloc (by simp; omega) _)
  replace hF : FL ((w2.alloc (.cells #[.int .i64 0, .int .i64 0, .slice A2 0 c2] 26)).alloc (.cells #[.int .u64 6413125869375586304] 36)) A0 1 c0 [4609434218613702656] := (hF.alloc _).alloc _
  replace DA : Mbx ((w2.alloc (.cells #[.int .i64 0, .int .i64 0, .slice A2 0 c2] 26)).alloc (.cells #[.int .u64 6413125869375586304] 36)) w0.heap.size 1 1 A0 1 c0 := (DA.alloc _).alloc _
  go_wp2_with (first | (go_at_call 28; refine (wordN_any _ _).mono ?_; rintro e8 w8 ⟨rfl, rfl⟩) | (go_at_call 30; refine (nan_any _).mono ?_; rintro e8 w8 ⟨rfl, rfl⟩))
  with_reducible refine (sq_code U3 (K := 2) (by decide +kernel) (by decide)).mono ?_
  rintro e w3 ⟨A3, c3, rfl, _, hb⟩
  replace bw : Below w.heap.size w w3 := b3.trans (hb.mono (by have := b3.size; omega))
  replace hF := hF.on hb
  replace DA := Blk.on DA hb
  have hsz3 := bw.size
  clear hb U3 b3
  have U4 : UL ((w3.alloc (.cells #[.int .i64 0, .int .i64 0, .slice A3 0 c3] 26)).alloc (.cells #[.int .u64 2801238968224448512] 36)) (some ⟨w3.heap.size + 1, 0, none⟩) 1 1 [2801238968224448512] := by
    have h := ul_built (W := (w3.alloc (.cells #[.int .i64 0, .int .i64 0, .slice A3 0 c3] 26))) (l := [2801238968224448512]) (by intro x hx; simp at hx; omega) (by decide)
    simpa [LU] using h
  have b4 : Below w.heap.size w ((w3.alloc (.cells #[.int .i64 0, .int .i64 0, .slice A3 0 c3] 26)).alloc (.cells #[.int .u64 2801238968224448512] 36)) := ((bw.alloc (by omega) _).alloc (by simp; omega) _)
  replace hF : FL ((w3.alloc (.cells #[.int .i64 0, .int .i64 0, .slice A3 0 c3] 26)).alloc (.cells #[.int .u64 2801238968224448512] 36)) A0 1 c0 [4609434218613702656] := (hF.alloc _).alloc _
  replace DA : Mbx ((w3.alloc (.cells #[.int .i64 0, .int .i64 0, .slice A3 0 c3] 26)).alloc (.cells #[.int .u64 2801238968224448512] 36)) w0.heap.size 1 1 A0 1 c0 := (DA.alloc _).alloc _
  go_wp2_with (first | (go_at_call 28; refine (wordN_any _ _).mono ?_; rintro e8 w8 ⟨rfl, rfl⟩) | (go_at_call 30; refine (nan_any _).mono ?_; rintro e8 w8 ⟨rfl, rfl⟩))
  with_reducible refine (sq_code U4 (K := 2) (by decide +kernel) (by decide)).mono ?_
  rintro e w4 ⟨A4, c4, rfl, _, hb⟩
  replace bw : Below w.heap.size w w4 := b4.trans (hb.mono (by have := b4.size; omega))
  replace hF := hF.on hb
  replace DA := Blk.on DA hb
  have hsz4 := bw.size
  clear hb U4 b4
  have U5 : UL (w4.alloc (.cells #[.int .i64 0, .int .i64 0, .slice A4 0 c4] 26)) none 0 0 [] := UL.nil _
  have b5 : Below w.heap.size w (w4.alloc (.cells #[.int .i64 0, .int .i64 0, .slice A4 0 c4] 26)) := (bw.alloc (by omega) _)
  replace hF : FL (w4.alloc (.cells #[.int .i64 0, .int .i64 0, .slice A4 0 c4] 26)) A0 1 c0 [4609434218613702656] := hF.alloc _
  replace DA : Mbx (w4.alloc (.cells #[.int .i64 0, .int .i64 0, .slice A4 0 c4] 26)) w0.heap.size 1 1 A0 1 c0 := DA.alloc _
  go_wp2_with (first | (go_at_call 28; refine (wordN_any _ _).mono ?_; rintro e8 w8 ⟨rfl, rfl⟩) | (go_at_call 30; refine (nan_any _).mono ?_; rintro e8 w8 ⟨rfl, rfl⟩))
  with_reducible refine (sq_ok U5 (by decide +kernel)).mono ?_
  rintro e w5 ⟨A5, c5, rfl, _, hb⟩
  replace bw : Below w.heap.size w w5 := b5.trans (hb.mono (by have := b5.size; omega))
  replace hF := hF.on hb
  replace DA := Blk.on DA hb
  have hsz5 := bw.size
  clear hb U5 b5
  have V : FL ((w5.alloc (.cells #[.int .i64 0, .int .i64 0, .slice A5 0 c5] 26)).alloc (.cells #[.float .f64 4613937818241073152, .float .f64 13821547256400052224] 37)) (some ⟨w5.heap.size + 1, 0, none⟩) 2 2 [4613937818241073152, 13821547256400052224] := by
    have h := fl_built (W := (w5.alloc (.cells #[.int .i64 0, .int .i64 0, .slice A5 0 c5] 26))) (l := [4613937818241073152, 13821547256400052224]) (by intro x hx; simp at hx; omega) (by decide)
    simp [LF] at h
    exact h
  have b9 : Below w.heap.size w ((w5.alloc (.cells #[.int .i64 0, .int .i64 0, .slice A5 0 c5] 26)).alloc (.cells #[.float .f64 4613937818241073152, .float .f64 13821547256400052224] 37)) := (bw.alloc (by omega) _).alloc (by simp; omega) _
  replace hF : FL ((w5.alloc (.cells #[.int .i64 0, .int .i64 0, .slice A5 0 c5] 26)).alloc (.cells #[.float .f64 4613937818241073152, .float .f64 13821547256400052224] 37)) A0 1 c0 [4609434218613702656] := (hF.alloc _).alloc _
  replace DA : Mbx ((w5.alloc (.cells #[.int .i64 0, .int .i64 0, .slice A5 0 c5] 26)).alloc (.cells #[.float .f64 4613937818241073152, .float .f64 13821547256400052224] 37)) w0.heap.size 1 1 A0 1 c0 := (DA.alloc _).alloc _
  have pp := power_yes (r := 1) (s := 2) V (by decide +kernel) (by decide +kernel)
  rw [show pwr [4613937818241073152, 13821547256400052224] = 2 by decide +kernel] at pp
  go_wp2_with (first | (go_at_call 28; refine (wordN_any _ _).mono ?_; rintro e8 w8 ⟨rfl, rfl⟩) | (go_at_call 30; refine (nan_any _).mono ?_; rintro e8 w8 ⟨rfl, rfl⟩))
  with_reducible refine pp.mono ?_
  rintro e w9 ⟨rfl, hb⟩
  replace bw : Below w.heap.size w w9 := b9.trans (hb.mono (by have := b9.size; omega))
  replace hF := hF.on hb
  replace DA := Blk.on DA hb
  clear hb V b9 pp
  obtain ⟨DA_0, DA_1, DA_2, DA_f0, DA_f1, DA_f2⟩ := Mbx.cells DA
  obtain ⟨ad, rfl, hab, hc⟩ := hF.at_ (k := 0) (by omega)
  have hc0 : w9.cell? ad = some (.float .f64 4609434218613702656) := by
    have e : ad.add 0 = ad := by simp [Addr.add]
    rw [e] at hc; exact hc
  go_wp2_with fail
  with_reducible refine (t0 _).mono ?_
  rintro e8 w8 ⟨rfl, rfl⟩
  go_wp2_with fail
  with_reducible refine (t1 _).mono ?_
  rintro e8 w8 ⟨rfl, rfl⟩
  go_wp2_with fail
  with_reducible refine (t2 _).mono ?_
  rintro e8 w8 ⟨rfl, rfl⟩
  go_wp2_with fail
  go_ret
  exact ⟨rfl, bw⟩
end
end Go.Proofs.Ytfaemgdeoamijaa
