/-
  Layer 5, walks: which matrix may be, and its power, by the program; which may be, by the reference.
-/
import Derived.Test.YtfaemgdeoamijaaGuM
import Derived.Test.YtfaemgdeoamijaaGuO
namespace Go.Proofs.Ytfaemgdeoamijaa
open Go.RowKit Go.Bw
set_option linter.unusedVariables false
set_option linter.unusedSimpArgs false

/-- the greatest size -/
def gmx (l : List Int) : Int := l.foldl (fun g x => max g (mag x)) 0
theorem gmx_next {l : List Int} {k : Nat} (hk : k < l.length) : gmx (l.take (k + 1)) = max (gmx (l.take k)) (mag (D l k)) := by
  unfold gmx
  rw [take_next hk, List.foldl_append]
  rfl
theorem gmx_bd (l : List Int) : 0 ≤ gmx l ∧ gmx l ≤ 9223372036854775807 := by
  have h : ∀ (l : List Int) (g : Int), 0 ≤ g → g ≤ 9223372036854775807 → 0 ≤ l.foldl (fun g x => max g (mag x)) g ∧ l.foldl (fun g x => max g (mag x)) g ≤ 9223372036854775807 := by
    intro l
    induction l with
    | nil => intro g h0 h1; exact ⟨h0, h1⟩
    | cons x l ih =>
      intro g h0 h1
      have := mag_bd x
      exact ih _ (show 0 ≤ max g (mag x) by omega) (show max g (mag x) ≤ 9223372036854775807 by omega)
  exact h l 0 (by omega) (by omega)
theorem gmx_fin {l : List Int} (hf : l.all fin = true) : gmx l < 9218868437227405312 := by
  have h : ∀ (l : List Int) (g : Int), l.all fin = true → g < 9218868437227405312 → l.foldl (fun g x => max g (mag x)) g < 9218868437227405312 := by
    intro l
    induction l with
    | nil => intro g _ h1; exact h1
    | cons x l ih =>
      intro g h0 h1
      rw [List.all_cons, Bool.and_eq_true] at h0
      have := h0.1
      unfold fin at this
      simp at this
      exact ih _ h0.2 (show max g (mag x) < 9218868437227405312 by omega)
  exact h l 0 hf (by omega)
theorem gmx_ge {l : List Int} {x : Int} (hx : x ∈ l) : mag x ≤ gmx l := by
  have mono : ∀ (l : List Int) (g : Int), g ≤ l.foldl (fun g x => max g (mag x)) g := by
    intro l
    induction l with
    | nil => intro g; exact Int.le_refl _
    | cons y l ih =>
      intro g
      have := ih (max g (mag y))
      exact Int.le_trans (by omega) this
  have h : ∀ (l : List Int) (g : Int), x ∈ l → mag x ≤ l.foldl (fun g x => max g (mag x)) g := by
    intro l
    induction l with
    | nil => intro g h; cases h
    | cons y l ih =>
      intro g h
      rcases List.mem_cons.1 h with rfl | h
      · exact Int.le_trans (by omega) (mono l (max g (mag x)))
      · exact ih _ h
  exact h l 0 hx
/-- the power -/
def pwr (l : List Int) : Int := if gmx l = 0 then 0 else nE (gmx l) + 53
theorem mag_self {g : Int} (h0 : 0 ≤ g) (h1 : g ≤ 9223372036854775807) : mag g = g := by unfold mag; omega
theorem fin_self {g : Int} (h0 : 0 ≤ g) (h1 : g < 9218868437227405312) : fin g = true := by
  unfold fin mag; simp; omega
theorem pwr_bd {l : List Int} (hf : l.all fin = true) : -1073 ≤ pwr l ∧ pwr l ≤ 1024 := by
  have a := gmx_bd l
  have b := gmx_fin hf
  unfold pwr
  by_cases h : gmx l = 0
  · rw [if_pos h]; omega
  · rw [if_neg h]
    have c := nE_bd a.1 (by omega) (fin_self a.1 b) (by rw [mag_self a.1 a.2]; exact h)
    omega
/-- why a matrix is refused; 0: it isn't -/
def wrC (r s : Int) (l : List Int) : Int := if szB r s then (if (l.length : Int) = r * s then (if l.all fin then 0 else 10) else 8) else 2
def mayB (r s : Int) (l : List Int) : Bool := szB r s && decide ((l.length : Int) = r * s)

section
variable {A : Option Addr} {len c : Nat} {r s : Int} {l : List Int} {w : World}
set_option maxHeartbeats 1000000 in
theorem may_any (h : FL w A len c l) :
    Calls Try.prog 22 #[mV r s A len c] w fun e w' => e = .returned (.bool (mayB r s l)) ∧ Below w.heap.size w w' := by
  have hmx := h.max
  have DB := Blk.new w [.int .i64 r, .int .i64 s, .slice A len c] 26
  obtain ⟨DB_0, DB_1, DB_2, DB_f0, DB_f1, DB_f2⟩ := Mbx.cells DB
  obtain ⟨B, hB⟩ : ∃ B, mayB r s l = B := ⟨_, rfl⟩
  have HB := Lib.hid hB
  rw [hB]
  clear hB
  have hl := Lib.hid h.1
  cases hs : szB r s
  · have hf : B = false := by rw [← HB.out]; unfold mayB; rw [hs]; rfl
    subst hf
    go_enter Try.func22, Try.ntmps22
    go_wp2_with (go_at_call 41; ((with_reducible refine (sized_any _ _ _).mono ?_); rintro e w1 ⟨rfl, rfl⟩))
    go_ret
    exact ⟨rfl, by go_grown⟩
  · obtain ⟨⟨m0, m1, n0, n1⟩, p0, p1⟩ := szB_bd hs
    obtain ⟨P, hP⟩ : ∃ P, r * s = P := ⟨_, rfl⟩
    have hf : B = ((len : Int) == P) := by rw [← HB.out]; unfold mayB; rw [hs, hl.out, hP]; rfl
    rw [hP] at p0 p1
    rw [hf]
    clear hf
    go_enter Try.func22, Try.ntmps22
    go_wp2_with (go_at_call 41; ((with_reducible refine (sized_any _ _ _).mono ?_); rintro e w1 ⟨rfl, rfl⟩))
    go_ret
    exact ⟨rfl, by go_grown⟩

set_option maxHeartbeats 2000000 in
theorem wrong_any (h : FL w A len c l) :
    Calls Try.prog 38 #[mV r s A len c] w fun e w' => e = .returned (.int .i64 (wrC r s l)) ∧ Below w.heap.size w w' := by
  have DB := Blk.new w [.int .i64 r, .int .i64 s, .slice A len c] 26
  obtain ⟨DB_0, DB_1, DB_2, DB_f0, DB_f1, DB_f2⟩ := Mbx.cells DB
  have h2 := h.alloc (.cells #[.int .i64 r, .int .i64 s, .slice A len c] 26)
  have bw : Below w.heap.size w (w.alloc (.cells #[.int .i64 r, .int .i64 s, .slice A len c] 26)) := by go_grown
  have hl := h.1
  have pm := fun W (hW : FL W A len c l) => may_any (r := r) (s := s) hW
  obtain ⟨C, hC⟩ : ∃ C, wrC r s l = C := ⟨_, rfl⟩
  have HC := Lib.hid hC
  rw [hC]
  clear hC
  cases hs : szB r s
  · have hf : C = 2 := by rw [← HC.out]; unfold wrC; rw [hs]; rfl
    subst hf
    go_enter Try.func38, Try.ntmps38
    go_wp2_with (go_at_call 41; ((with_reducible refine (sized_any _ _ _).mono ?_); rintro e w1 ⟨rfl, rfl⟩))
    go_ret
    exact ⟨rfl, by go_grown⟩
  · cases hm : mayB r s l
    · have hf : C = 8 := by
        rw [← HC.out]; unfold wrC; rw [hs]
        unfold mayB at hm; rw [hs] at hm
        rw [if_pos rfl, if_neg (by simpa using hm)]
      subst hf
      go_enter Try.func38, Try.ntmps38
      go_wp2_with (first
        | (go_at_call 41; ((with_reducible refine (sized_any _ _ _).mono ?_); rintro e w1 ⟨rfl, rfl⟩))
        | (go_at_call 22; ((with_reducible refine (pm _ h2).mono ?_); rintro e w1 ⟨rfl, hb⟩)))
      go_ret
      exact ⟨rfl, bw.trans (hb.mono (by simp))⟩
    · have hx : (l.length : Int) = r * s := by unfold mayB at hm; rw [hs] at hm; simpa using hm
      cases hf9 : l.all fin
      · have hf : C = 10 := by
          rw [← HC.out]; unfold wrC; rw [hs, if_pos rfl, if_pos hx, hf9]; rfl
        subst hf
        clear hx
        go_enter Try.func38, Try.ntmps38
        go_wp2_with (first
          | (go_at_call 41; ((with_reducible refine (sized_any _ _ _).mono ?_); rintro e w1 ⟨rfl, rfl⟩))
          | (go_at_call 22; ((with_reducible refine (pm _ h2).mono ?_); rintro e w1 ⟨rfl, hb⟩; have h3 := h2.on hb; have DC := Blk.on DB hb; obtain ⟨DC_0, DC_1, DC_2, DC_f0, DC_f1, DC_f2⟩ := Mbx.cells DC))
          | (go_at_call 18; ((with_reducible refine (gFinite_any h3).mono ?_); rintro e w2 ⟨rfl, rfl⟩)))
        go_ret
        exact ⟨rfl, bw.trans (hb.mono (by simp))⟩
      · have hf : C = 0 := by
          rw [← HC.out]; unfold wrC; rw [hs, if_pos rfl, if_pos hx, hf9]; rfl
        subst hf
        clear hx
        go_enter Try.func38, Try.ntmps38
        go_wp2_with (first
          | (go_at_call 41; ((with_reducible refine (sized_any _ _ _).mono ?_); rintro e w1 ⟨rfl, rfl⟩))
          | (go_at_call 22; ((with_reducible refine (pm _ h2).mono ?_); rintro e w1 ⟨rfl, hb⟩; have h3 := h2.on hb; have DC := Blk.on DB hb; obtain ⟨DC_0, DC_1, DC_2, DC_f0, DC_f1, DC_f2⟩ := Mbx.cells DC))
          | (go_at_call 18; ((with_reducible refine (gFinite_any h3).mono ?_); rintro e w2 ⟨rfl, rfl⟩)))
        go_ret
        exact ⟨rfl, bw.trans (hb.mono (by simp))⟩
end
end Go.Proofs.Ytfaemgdeoamijaa
