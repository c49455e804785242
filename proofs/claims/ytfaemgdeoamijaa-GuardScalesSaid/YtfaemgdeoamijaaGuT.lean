/-
  Layer 5: the laws of a float times a power of 2, of words, of words taken, of powers. (Written by wip/tools/gen_gut.py.)
-/
import Derived.Test.YtfaemgdeoamijaaGuS
namespace Go.Proofs.Ytfaemgdeoamijaa
open Go.RowKit Go.Bw
set_option linter.unusedVariables false
set_option linter.unusedSimpArgs false

/-- a law's end -/
def Law (w : World) (e : Ending) (w' : World) : Prop := e = .returned (.bool true) ∧ Below w.heap.size w w'
theorem kn (w : World) : Calls Try.prog 9 #[] w (Law w) := known_any
set_option maxHeartbeats 1000000 in
theorem law_times (x p : Int) (h0 : 0 ≤ x) (h1 : x ≤ 18446744073709551615) (p0 : -9223372036854775808 ≤ p) (p1 : p ≤ 9223372036854775807) (w : World) :
    Calls Try.prog 7 #[.float .f64 x.toNat, .int .i64 p] w (Law w) := by
  have t1 := times_any x p h0 h1 p0 p1
  have t2 := rTimes_any x p h0 h1 p0 p1
  have t3 := rSame_self (tw x p) (tw_bd x p h0 h1).1
  have k := kn w
  generalize (tw x p).toNat = T at *
  generalize x.toNat = X at *
  clear h0 h1 p0 p1
  go_enter Try.func7, Try.ntmps7
  go_wp2_with fail
  with_reducible refine (t1 _).mono ?_
  rintro e w1 ⟨rfl, rfl⟩
  go_wp2_with fail
  with_reducible refine (t2 _).mono ?_
  rintro e w1 ⟨rfl, rfl⟩
  go_wp2_with fail
  with_reducible refine (t3 _).mono ?_
  rintro e w1 ⟨rfl, rfl⟩
  go_wp2_with fail
  with_reducible refine k.mono ?_
  rintro e w1 ⟨rfl, hb⟩
  go_wp2_with fail
  go_ret
  exact ⟨rfl, hb⟩

theorem fl_two {W : World} {a b : Int} (a0 : 0 ≤ a) (a1 : a ≤ 18446744073709551615) (b0 : 0 ≤ b) (b1 : b ≤ 18446744073709551615) : FL (W.alloc (.cells #[.float .f64 a.toNat, .float .f64 b.toNat] 37)) (some ⟨W.heap.size, 0, none⟩) 2 2 [a, b] := by
  have h := fl_built (W := W) (l := [a, b]) (by intro x hx; simp at hx; omega) (by simp)
  simp [LF] at h
  exact h
theorem fl_one {W : World} {b : Int} (b0 : 0 ≤ b) (b1 : b ≤ 18446744073709551615) : FL (W.alloc (.cells #[.float .f64 b.toNat] 37)) (some ⟨W.heap.size, 0, none⟩) 1 1 [b] := by
  have h := fl_built (W := W) (l := [b]) (by intro x hx; simp at hx; omega) (by simp)
  simp [LF] at h
  exact h
set_option maxHeartbeats 4000000 in
theorem law_words (a b : Int) (a0 : 0 ≤ a) (a1 : a ≤ 18446744073709551615) (b0 : 0 ≤ b) (b1 : b ≤ 18446744073709551615) (w : World) :
    Calls Try.prog 5 #[.int .u64 a, .int .u64 b] w (Law w) := by
  have hx := run_float64frombits a
  have hy := run_float64frombits b
  have p1 := inRange_any a a0 a1
  have p2 := rInRange_any a a0 a1
  have p3 : Calls Try.prog 18 #[.slice (some ⟨w.heap.size, 0, none⟩) 2 2] (w.alloc (.cells #[.float .f64 a.toNat, .float .f64 b.toNat] 37)) (Ans (w.alloc (.cells #[.float .f64 a.toNat, .float .f64 b.toNat] 37)) (.bool (fin a && fin b))) := by
    have h := gFinite_any (fl_two (W := w) a0 a1 b0 b1)
    simpa using h
  have p4 := rFinite_any a a0 a1
  have p5 := rFinite_any b b0 b1
  have p6 : Calls Try.prog 18 #[.slice none 0 0] (w.alloc (.cells #[.float .f64 a.toNat, .float .f64 b.toNat] 37)) (Ans (w.alloc (.cells #[.float .f64 a.toNat, .float .f64 b.toNat] 37)) (.bool true)) := gFinite_any (FL.nil _)
  have p7 : Calls Try.prog 18 #[.slice (some ⟨w.heap.size + 1, 0, none⟩) 1 1] ((w.alloc (.cells #[.float .f64 a.toNat, .float .f64 b.toNat] 37)).alloc (.cells #[.float .f64 b.toNat] 37)) (Ans ((w.alloc (.cells #[.float .f64 a.toNat, .float .f64 b.toNat] 37)).alloc (.cells #[.float .f64 b.toNat] 37)) (.bool (fin b))) := by
    have h := gFinite_any (fl_one (W := w.alloc (.cells #[.float .f64 a.toNat, .float .f64 b.toNat] 37)) b0 b1)
    simpa using h
  have bw : Below w.heap.size w ((w.alloc (.cells #[.float .f64 a.toNat, .float .f64 b.toNat] 37)).alloc (.cells #[.float .f64 b.toNat] 37)) := by go_grown
  have k := kn ((w.alloc (.cells #[.float .f64 a.toNat, .float .f64 b.toNat] 37)).alloc (.cells #[.float .f64 b.toNat] 37))
  generalize inr a = I at *
  cases FA : fin a <;> cases FB : fin b <;> rw [FA] at p3 p4 <;> rw [FB] at p3 p5 p7 <;> clear FA FB
  · go_enter Try.func5, Try.ntmps5
    have dI : (I == I) = true := by simp
    go_wp2_with fail
    with_reducible refine (p1 _).mono ?_
    rintro e w1 ⟨rfl, rfl⟩
    go_wp2_with fail
    with_reducible refine (p2 _).mono ?_
    rintro e w1 ⟨rfl, rfl⟩
    go_wp2_with fail
    with_reducible refine p3.mono ?_
    rintro e w1 ⟨rfl, rfl⟩
    go_wp2_with fail
    with_reducible refine (p4 _).mono ?_
    rintro e w1 ⟨rfl, rfl⟩
    go_wp2_with fail
    with_reducible refine p6.mono ?_
    rintro e w1 ⟨rfl, rfl⟩
    go_wp2_with fail
    with_reducible refine p7.mono ?_
    rintro e w1 ⟨rfl, rfl⟩
    go_wp2_with fail
    with_reducible refine (p5 _).mono ?_
    rintro e w1 ⟨rfl, rfl⟩
    go_wp2_with fail
    with_reducible refine k.mono ?_
    rintro e w1 ⟨rfl, hb⟩
    go_wp2_with fail
    go_ret
    exact ⟨rfl, bw.trans (hb.mono (by simp; omega))⟩
  · go_enter Try.func5, Try.ntmps5
    have dI : (I == I) = true := by simp
    go_wp2_with fail
    with_reducible refine (p1 _).mono ?_
    rintro e w1 ⟨rfl, rfl⟩
    go_wp2_with fail
    with_reducible refine (p2 _).mono ?_
    rintro e w1 ⟨rfl, rfl⟩
    go_wp2_with fail
    with_reducible refine p3.mono ?_
    rintro e w1 ⟨rfl, rfl⟩
    go_wp2_with fail
    with_reducible refine (p4 _).mono ?_
    rintro e w1 ⟨rfl, rfl⟩
    go_wp2_with fail
    with_reducible refine p6.mono ?_
    rintro e w1 ⟨rfl, rfl⟩
    go_wp2_with fail
    with_reducible refine p7.mono ?_
    rintro e w1 ⟨rfl, rfl⟩
    go_wp2_with fail
    with_reducible refine (p5 _).mono ?_
    rintro e w1 ⟨rfl, rfl⟩
    go_wp2_with fail
    with_reducible refine k.mono ?_
    rintro e w1 ⟨rfl, hb⟩
    go_wp2_with fail
    go_ret
    exact ⟨rfl, bw.trans (hb.mono (by simp; omega))⟩
  · go_enter Try.func5, Try.ntmps5
    have dI : (I == I) = true := by simp
    go_wp2_with fail
    with_reducible refine (p1 _).mono ?_
    rintro e w1 ⟨rfl, rfl⟩
    go_wp2_with fail
    with_reducible refine (p2 _).mono ?_
    rintro e w1 ⟨rfl, rfl⟩
    go_wp2_with fail
    with_reducible refine p3.mono ?_
    rintro e w1 ⟨rfl, rfl⟩
    go_wp2_with fail
    with_reducible refine (p4 _).mono ?_
    rintro e w1 ⟨rfl, rfl⟩
    go_wp2_with fail
    with_reducible refine (p5 _).mono ?_
    rintro e w1 ⟨rfl, rfl⟩
    go_wp2_with fail
    with_reducible refine p6.mono ?_
    rintro e w1 ⟨rfl, rfl⟩
    go_wp2_with fail
    with_reducible refine p7.mono ?_
    rintro e w1 ⟨rfl, rfl⟩
    go_wp2_with fail
    with_reducible refine (p5 _).mono ?_
    rintro e w1 ⟨rfl, rfl⟩
    go_wp2_with fail
    with_reducible refine k.mono ?_
    rintro e w1 ⟨rfl, hb⟩
    go_wp2_with fail
    go_ret
    exact ⟨rfl, bw.trans (hb.mono (by simp; omega))⟩
  · go_enter Try.func5, Try.ntmps5
    have dI : (I == I) = true := by simp
    go_wp2_with fail
    with_reducible refine (p1 _).mono ?_
    rintro e w1 ⟨rfl, rfl⟩
    go_wp2_with fail
    with_reducible refine (p2 _).mono ?_
    rintro e w1 ⟨rfl, rfl⟩
    go_wp2_with fail
    with_reducible refine p3.mono ?_
    rintro e w1 ⟨rfl, rfl⟩
    go_wp2_with fail
    with_reducible refine (p4 _).mono ?_
    rintro e w1 ⟨rfl, rfl⟩
    go_wp2_with fail
    with_reducible refine (p5 _).mono ?_
    rintro e w1 ⟨rfl, rfl⟩
    go_wp2_with fail
    with_reducible refine p6.mono ?_
    rintro e w1 ⟨rfl, rfl⟩
    go_wp2_with fail
    with_reducible refine p7.mono ?_
    rintro e w1 ⟨rfl, rfl⟩
    go_wp2_with fail
    with_reducible refine (p5 _).mono ?_
    rintro e w1 ⟨rfl, rfl⟩
    go_wp2_with fail
    with_reducible refine k.mono ?_
    rintro e w1 ⟨rfl, hb⟩
    go_wp2_with fail
    go_ret
    exact ⟨rfl, bw.trans (hb.mono (by simp; omega))⟩

set_option maxHeartbeats 4000000 in
theorem law_squares {A : Option Addr} {len c : Nat} {n : Int} {l : List Int} {w : World} (h : UL w A len c l) :
    Calls Try.prog 3 #[.int .i64 n, .slice A len c] w (Law w) := by
  have hmx := h.max
  by_cases hlen : (1000 : Int) < len
  · have k := kn w
    go_enter Try.func3, Try.ntmps3
    go_wp2_with fail
    with_reducible refine k.mono ?_
    rintro e w1 ⟨rfl, hb⟩
    go_wp2_with fail
    go_ret
    exact ⟨rfl, hb⟩
  · have p1 := square_any (n := n) h
    have p2 := fun W (hW : UL W A len c l) => rTake_any (m := n) (n := n) (S := true) hW (by simp)
    have eB : (!true || symB l (n : Int).toNat) = (symB l n.toNat) := by simp
    simp only [eB] at p2
    unfold TakeP at p1
    have P2 := Lib.hid p2
    clear p2 eB
    by_cases hK : codeT n n l (symB l n.toNat) = 0
    · rw [hK] at p1 P2
      simp only [if_true] at p1
      clear hK
      go_enter Try.func3, Try.ntmps3
      go_wp2_with fail
      with_reducible refine p1.mono ?_
      rintro e w1 ⟨A2, c2, rfl, hfl, hb⟩
      have hsz := hb.size
      have bw := hb
      have h1 := h.on hb
      have DA := Blk.new w1 [.int .i64 n, .int .i64 n, .slice A2 l.length c2] 26
      have h2 := h1.alloc (.cells #[.int .i64 n, .int .i64 n, .slice A2 l.length c2] 26)
      have f2 := hfl.alloc (.cells #[.int .i64 n, .int .i64 n, .slice A2 l.length c2] 26)
      replace bw : Below w.heap.size w (w1.alloc (.cells #[.int .i64 n, .int .i64 n, .slice A2 l.length c2] 26)) := bw.alloc (by omega) _
      have p2 := P2.out _ h2
      obtain ⟨DA_0, DA_1, DA_2, DA_f0, DA_f1, DA_f2⟩ := Mbx.cells DA
      clear p1 P2 hb
      go_wp2_with fail
      with_reducible refine p2.mono ?_
      rintro e w2 ⟨rfl, t, rfl⟩
      have h3 := h2.drewN t
      have f3 := f2.drewN t
      have p3 := lsame_any (m := n) (n := n) h3 f3
      clear p2
      go_wp2_with fail
      with_reducible refine p3.mono ?_
      rintro e w3 ⟨rfl, hb3⟩
      replace bw : Below w.heap.size w w3 := (below_drewN bw t).trans (hb3.mono (by simp; omega))
      have hsz3 := bw.size
      have k := kn w3
      clear p3 hb3
      go_wp2_with fail
      with_reducible refine k.mono ?_
      rintro e w4 ⟨rfl, hb⟩
      go_wp2_with fail
      go_ret
      exact ⟨rfl, bw.trans (hb.mono (by omega))⟩
    · simp only [if_neg hK] at p1
      obtain ⟨K, hKe⟩ : ∃ K, codeT n n l (symB l n.toNat) = K := ⟨_, rfl⟩
      rw [hKe] at p1 P2 hK
      have d1 : (K != K) = false := by simp
      have d2 : (K != 0) = true := by simpa using hK
      clear hK hKe
      go_enter Try.func3, Try.ntmps3
      go_wp2_with fail
      with_reducible refine p1.mono ?_
      rintro e w1 ⟨A2, c2, rfl, hfl, hb⟩
      have hsz := hb.size
      have bw := hb
      have h1 := h.on hb
      have DA := Blk.new w1 [.int .i64 0, .int .i64 0, .slice A2 0 c2] 26
      have h2 := h1.alloc (.cells #[.int .i64 0, .int .i64 0, .slice A2 0 c2] 26)
      replace bw : Below w.heap.size w (w1.alloc (.cells #[.int .i64 0, .int .i64 0, .slice A2 0 c2] 26)) := bw.alloc (by omega) _
      have p2 := P2.out _ h2
      obtain ⟨DA_0, DA_1, DA_2, DA_f0, DA_f1, DA_f2⟩ := Mbx.cells DA
      clear p1 P2 hb
      go_wp2_with fail
      with_reducible refine p2.mono ?_
      rintro e w2 ⟨rfl, t, rfl⟩
      have p3 := none_any (A := A2) (c := c2) (w := (w1.alloc (.cells #[.int .i64 0, .int .i64 0, .slice A2 0 c2] 26)).drewN t)
      clear p2
      go_wp2_with fail
      with_reducible refine p3.mono ?_
      rintro e w3 ⟨rfl, hb3⟩
      replace bw : Below w.heap.size w w3 := (below_drewN bw t).trans (hb3.mono (by simp; omega))
      have hsz3 := bw.size
      have k := kn w3
      clear p3 hb3
      go_wp2_with fail
      with_reducible refine k.mono ?_
      rintro e w4 ⟨rfl, hb⟩
      go_wp2_with fail
      go_ret
      exact ⟨rfl, bw.trans (hb.mono (by omega))⟩

set_option maxHeartbeats 4000000 in
theorem law_any {A : Option Addr} {len c : Nat} {m n : Int} {l : List Int} {w : World} (h : UL w A len c l) :
    Calls Try.prog 4 #[.int .i64 m, .int .i64 n, .slice A len c] w (Law w) := by
  have hmx := h.max
  by_cases hlen : (1000 : Int) < len
  · have k := kn w
    go_enter Try.func4, Try.ntmps4
    go_wp2_with fail
    with_reducible refine k.mono ?_
    rintro e w1 ⟨rfl, hb⟩
    go_wp2_with fail
    go_ret
    exact ⟨rfl, hb⟩
  · have p1 := any_any (m := m) (n := n) h
    have p2 := fun W (hW : UL W A len c l) => rTake_any (m := m) (n := n) (S := false) hW (by simp)
    have eB : (!false || symB l (m : Int).toNat) = true := by simp
    simp only [eB] at p2
    unfold TakeP at p1
    have P2 := Lib.hid p2
    clear p2 eB
    by_cases hK : codeT m n l true = 0
    · rw [hK] at p1 P2
      simp only [if_true] at p1
      clear hK
      go_enter Try.func4, Try.ntmps4
      go_wp2_with fail
      with_reducible refine p1.mono ?_
      rintro e w1 ⟨A2, c2, rfl, hfl, hb⟩
      have hsz := hb.size
      have bw := hb
      have h1 := h.on hb
      have DA := Blk.new w1 [.int .i64 m, .int .i64 n, .slice A2 l.length c2] 26
      have h2 := h1.alloc (.cells #[.int .i64 m, .int .i64 n, .slice A2 l.length c2] 26)
      have f2 := hfl.alloc (.cells #[.int .i64 m, .int .i64 n, .slice A2 l.length c2] 26)
      replace bw : Below w.heap.size w (w1.alloc (.cells #[.int .i64 m, .int .i64 n, .slice A2 l.length c2] 26)) := bw.alloc (by omega) _
      have p2 := P2.out _ h2
      obtain ⟨DA_0, DA_1, DA_2, DA_f0, DA_f1, DA_f2⟩ := Mbx.cells DA
      clear p1 P2 hb
      go_wp2_with fail
      with_reducible refine p2.mono ?_
      rintro e w2 ⟨rfl, t, rfl⟩
      have h3 := h2.drewN t
      have f3 := f2.drewN t
      have p3 := lsame_any (m := m) (n := n) h3 f3
      clear p2
      go_wp2_with fail
      with_reducible refine p3.mono ?_
      rintro e w3 ⟨rfl, hb3⟩
      replace bw : Below w.heap.size w w3 := (below_drewN bw t).trans (hb3.mono (by simp; omega))
      have hsz3 := bw.size
      have k := kn w3
      clear p3 hb3
      go_wp2_with fail
      with_reducible refine k.mono ?_
      rintro e w4 ⟨rfl, hb⟩
      go_wp2_with fail
      go_ret
      exact ⟨rfl, bw.trans (hb.mono (by omega))⟩
    · simp only [if_neg hK] at p1
      obtain ⟨K, hKe⟩ : ∃ K, codeT m n l true = K := ⟨_, rfl⟩
      rw [hKe] at p1 P2 hK
      have d1 : (K != K) = false := by simp
      have d2 : (K != 0) = true := by simpa using hK
      clear hK hKe
      go_enter Try.func4, Try.ntmps4
      go_wp2_with fail
      with_reducible refine p1.mono ?_
      rintro e w1 ⟨A2, c2, rfl, hfl, hb⟩
      have hsz := hb.size
      have bw := hb
      have h1 := h.on hb
      have DA := Blk.new w1 [.int .i64 0, .int .i64 0, .slice A2 0 c2] 26
      have h2 := h1.alloc (.cells #[.int .i64 0, .int .i64 0, .slice A2 0 c2] 26)
      replace bw : Below w.heap.size w (w1.alloc (.cells #[.int .i64 0, .int .i64 0, .slice A2 0 c2] 26)) := bw.alloc (by omega) _
      have p2 := P2.out _ h2
      obtain ⟨DA_0, DA_1, DA_2, DA_f0, DA_f1, DA_f2⟩ := Mbx.cells DA
      clear p1 P2 hb
      go_wp2_with fail
      with_reducible refine p2.mono ?_
      rintro e w2 ⟨rfl, t, rfl⟩
      have p3 := none_any (A := A2) (c := c2) (w := (w1.alloc (.cells #[.int .i64 0, .int .i64 0, .slice A2 0 c2] 26)).drewN t)
      clear p2
      go_wp2_with fail
      with_reducible refine p3.mono ?_
      rintro e w3 ⟨rfl, hb3⟩
      replace bw : Below w.heap.size w w3 := (below_drewN bw t).trans (hb3.mono (by simp; omega))
      have hsz3 := bw.size
      have k := kn w3
      clear p3 hb3
      go_wp2_with fail
      with_reducible refine k.mono ?_
      rintro e w4 ⟨rfl, hb⟩
      go_wp2_with fail
      go_ret
      exact ⟨rfl, bw.trans (hb.mono (by omega))⟩
end Go.Proofs.Ytfaemgdeoamijaa
