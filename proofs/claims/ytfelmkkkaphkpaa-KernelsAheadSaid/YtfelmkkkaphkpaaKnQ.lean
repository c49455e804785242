/-
  Layer 8: the chapter's rows, each call as one fact. (Written by wip/tools/gen_knq.py.)
-/
import Derived.Test.YtfelmkkkaphkpaaKnE
import Derived.Test.YtfelmkkkaphkpaaKnG
import Derived.Test.YtfelmkkkaphkpaaKnN
import Derived.Test.YtfelmkkkaphkpaaKnJE
import Derived.Test.YtfelmkkkaphkpaaKnP
namespace Go.Proofs.Ytfelmkkkaphkpaa
open Go.RowKit Go.Bw Go.Sort Go.Shelf
set_option linter.unusedVariables false
set_option linter.unusedSimpArgs false

theorem af_lit {r W : Nat} (h : af r = some W) : r = W := by
  unfold af at h
  split at h
  · cases h
  · injection h
theorem fa_lit {x : Int} {W : Nat} (x0 : 0 ≤ x) (h : fa x = some W) : x = (W : Int) := by
  have := af_lit h
  omega
theorem refE_ok {fit : Bool} {vs : List Vu} (hf : fit = true) (h : ∀ v ∈ vs, v.p ≠ none) : refE fit vs = 0 := by
  unfold refE
  rw [if_neg, if_pos hf]
  intro e
  obtain ⟨v, hm, hp⟩ := List.any_eq_true.1 e
  exact h v hm (by simpa using hp)
theorem refE_8 {fit : Bool} {vs : List Vu} (hf : fit = false) (h : ∀ v ∈ vs, v.p ≠ none) : refE fit vs = 8 := by
  unfold refE
  rw [if_neg, if_neg (by rw [hf]; simp)]
  intro e
  obtain ⟨v, hm, hp⟩ := List.any_eq_true.1 e
  exact h v hm (by simpa using hp)
theorem refE_1 {fit : Bool} {vs : List Vu} {v : Vu} (hm : v ∈ vs) (hp : v.p = none) : refE fit vs = 1 := by
  unfold refE
  rw [if_pos (List.any_eq_true.2 ⟨v, hm, by rw [hp]; rfl⟩)]
section
variable {w : World} {B b : Nat} {V V2 V3 : Vu} {s g cap c s2 g2 cap2 c2 s3 g3 cap3 c3 B2 B3 : Nat} {l l2 l3 : List Int} {R C R2 C2 R3 C3 : Int} {F F2 F3 : List Int}
theorem Ov.vec1 (h : Ov w B V s g cap c l R 1 F) : V.vec = true := by unfold Vu.vec; rw [h.C]; simp
theorem Ov.len1 (h : Ov w B V s g cap c l R 1 F) : V.len = R := by rw [len_vec h.vec1, h.R, h.C]; omega
theorem Ov.FR (h : Ov w B V s g cap c l R C F) : (F.length : Int) = R * C := by have := h.sv.len; rwa [h.R, h.C] at this
theorem alk1 (h : Ov w B V s g cap c l R 1 F) (h2 : Ov w B2 V2 s2 g2 cap2 c2 l2 R2 1 F2) : alk V V2 = (R == R2) := by unfold alk; rw [h.vec1, h2.vec1, h.len1, h2.len1]; rfl
/-- a float of a column -/
theorem Ov.get (h : Ov w B V s g cap c l R 1 F) {i : Nat} (hi : (i : Int) < R) : V.get c l i = D F i := by
  obtain ⟨m, hm⟩ := Int.eq_ofNat_of_zero_le (show 0 ≤ R by omega)
  have := fl_at (v := V) (c := c) (l := l) (m := m) (q := 1) (by rw [h.R]; exact hm) (by rw [h.C]; rfl) (i := i) (j := 0) (by omega) (by omega)
  rw [h.fl, Nat.mul_one, Nat.add_zero] at this
  unfold Vu.get Vu.ai Vu.aj
  rw [if_pos h.vec1, if_pos h.C, if_pos h.C, this]
  rfl
theorem Ov.Get (h : Ov w B V s g cap c l R 1 F) {i : Nat} (hi : (i : Int) < R) {k : Int} (hk : k = i) {x : Nat} (hx : D F i = x) : Calls Try.prog 59 #[V.V, .int .i64 k] w (Ans w (.float .f64 x)) := by
  have := Get_any h.st h.vk i
  rw [h.get hi, hx, Int.toNat_natCast] at this
  rw [hk]
  exact this
theorem mem2 {P : Vu → Prop} {a b : Vu} (h1 : P a) (h2 : P b) : ∀ v ∈ [a, b], P v := by intro v hv; simp only [List.mem_cons, List.mem_nil_iff, or_false] at hv; rcases hv with rfl | rfl <;> assumption
theorem mem1 {P : Vu → Prop} {a : Vu} (h1 : P a) : ∀ v ∈ [a], P v := by intro v hv; simp only [List.mem_cons, List.mem_nil_iff, or_false] at hv; subst hv; exact h1
theorem mem3 {P : Vu → Prop} {a b c : Vu} (h1 : P a) (h2 : P b) (h3 : P c) : ∀ v ∈ [a, b, c], P v := by intro v hv; simp only [List.mem_cons, List.mem_nil_iff, or_false] at hv; rcases hv with rfl | rfl | rfl <;> assumption
/-- what is written, in a view of its own -/
def OvW (w : World) (B : Nat) (V : Vu) (s g cap c : Nat) (R C : Int) (F : List Int) (e : Ending) (w' : World) : Prop := ∃ lx, e = .returned (.int .i64 0) ∧ Ov w' B V s g cap c lx R C F ∧ w.grownBy w' (some g)
theorem k_dot (h : Ov w B V s g cap c l 3 1 [(4607182418800017408 : Int), (4611686018427387904 : Int), (4613937818241073152 : Int)]) (h2 : Ov w B2 V2 s2 g2 cap2 c2 l2 3 1 [(4616189618054758400 : Int), (4617315517961601024 : Int), (4618441417868443648 : Int)]) : Calls Try.prog 18 #[V.V, V2.V] w (Ans w (.tuple #[.float .f64 4629700416936869888, .int .i64 0])) := by
  refine (Dot_yes h.sv h2.sv (refE_ok (by rw [alk1 h h2]; rfl) (mem2 h.ne h2.ne)) (by simp)).mono ?_
  rintro e w1 ⟨r, rfl, hr, br, hb⟩
  rw [af_lit (hr.trans (show _ = some 4629700416936869888 by decide +kernel))]
  exact ⟨rfl, hb⟩
theorem k_asum (h : Ov w B V s g cap c l 2 1 [(4607182418800017408 : Int), (13835058055282163712 : Int)]) : Calls Try.prog 19 #[V.V] w (Ans w (.tuple #[.float .f64 4613937818241073152, .int .i64 0])) := by
  refine (Asum_yes h.sv (refE_ok h.vec1 (mem1 h.ne))).mono ?_
  rintro e w1 ⟨r, rfl, hr, br, hb⟩
  rw [af_lit (hr.trans (show _ = some 4613937818241073152 by decide +kernel))]
  exact ⟨rfl, hb⟩
theorem k_amax (h : Ov w B V s g cap c l 3 1 [(4607182418800017408 : Int), (13837309855095848960 : Int), (4613937818241073152 : Int)]) : Calls Try.prog 20 #[V.V] w (Ans w (.tuple #[.int .i64 1, .float .f64 4613937818241073152, .int .i64 0])) := by
  refine (Amax_yes h.sv (refE_ok h.vec1 (mem1 h.ne))).mono ?_
  rintro e w1 ⟨p, P, rfl, hr, br, hb⟩
  have hr2 := hr.trans (show _ = ((1 : Int), some 4613937818241073152) by decide +kernel)
  injection hr2 with e1 e2
  rw [e1, af_lit e2]
  exact ⟨rfl, hb⟩
theorem k_dot8 {X Y : List Int} (h : Ov w B V s g cap c l 1 1 X) (h2 : Ov w B2 V2 s2 g2 cap2 c2 l2 2 1 Y) : Calls Try.prog 18 #[V.V, V2.V] w (Ans w (.tuple #[.float .f64 0, .int .i64 8])) :=
  Dot_no h.sv h2.sv (refE_8 (by rw [alk1 h h2]; rfl) (mem2 h.ne h2.ne)) (by omega)
theorem k_dot1 {X : List Int} (h : Ov w B V s g cap c l R 1 X) : Calls Try.prog 18 #[Vu.zero.V, V.V] w (Ans w (.tuple #[.float .f64 0, .int .i64 1])) :=
  Dot_no (Sv.zero w) h.sv (refE_1 (v := Vu.zero) (by simp) rfl) (by omega)
theorem k_gemm8 {X : List Int} {a b : Nat} (h : Ov w B V s g cap c l 2 3 X) : Calls Try.prog 43 #[.float .f64 a, V.V, V.V, .float .f64 b, V.V] w (Ans w (.int .i64 8)) :=
  Gemm_no h.sv h.sv h.sv (refE_8 (by rw [show (V.C == V.R) = false by rw [h.C, h.R]; rfl]; rfl) (mem3 h.ne h.ne h.ne)) (by omega)
/-- a list of two floats, by its floats -/
theorem is_two {o : List Int} {f : Nat → Option Nat} {x y : Nat} (h : Is o 2 f) (hx : f 0 = some x) (hy : f 1 = some y) : o = [(x : Int), (y : Int)] := by
  refine D_ext (by rw [h.len]; rfl) fun k hk => ?_
  rw [h.len] at hk
  have hw := h.wd.at_ k
  have := h.at_ k hk
  rcases (by omega : k = 0 ∨ k = 1) with rfl | rfl
  · rw [hx] at this; exact fa_lit hw.1 this
  · rw [hy] at this; exact fa_lit hw.1 this
theorem k_gemv (h : Ov w B V s g cap c l 2 2 [(4607182418800017408 : Int), (4611686018427387904 : Int), (4613937818241073152 : Int), (4616189618054758400 : Int)]) (h2 : Ov w B2 V2 s2 g2 cap2 c2 l2 2 1 [(4607182418800017408 : Int), (4607182418800017408 : Int)]) (h3 : Ov w B3 V3 s3 g3 cap3 c3 l3 2 1 [(4621256167635550208 : Int), (4621256167635550208 : Int)]) : Calls Try.prog 34 #[.float .f64 4607182418800017408, V.V, V2.V, .float .f64 0, V3.V] w (OvW w B3 V3 s3 g3 cap3 c3 2 1 [(4613937818241073152 : Int), (4619567317775286272 : Int)]) := by
  refine (Gemv_yes (m := 2) (q := 2) (by omega) (by omega) h.sv h2.sv h3.sv (refE_ok (by rw [h2.vec1, h3.vec1, h3.len1, h2.len1]; unfold szd; rw [h.R, h.C]; rfl) (mem3 h.ne h2.ne h3.ne)) h3.vk h3.st rfl h3.inj h.R h.C).mono ?_
  rintro e w1 ⟨lx, rfl, hs, hg, hW⟩
  have hi := h3.is hs hW (q := 1) (n := 2) rfl rfl
  have e9 := h3.wrote hs hW
  have hv : ∀ i, vix V3 i (i % 1) = i := fun i => by unfold vix; rw [if_pos h3.C]
  have hv0 : vix V3 (0 / 1) (0 % 1) = 0 := by unfold vix; rw [if_pos h3.C]
  have hv1 : vix V3 (1 / 1) (1 % 1) = 1 := by unfold vix; rw [if_pos h3.C]
  have hl := is_two hi (x := 4613937818241073152) (y := 4619567317775286272) (by unfold tg; rw [if_pos rfl]; dsimp only; rw [hv0]; decide +kernel) (by unfold tg; rw [if_pos rfl]; dsimp only; rw [hv1]; decide +kernel)
  rw [hl] at e9
  exact ⟨lx, rfl, e9, hg⟩
theorem k_trmm (h : Ov w B V s g cap c l 2 2 [(4607182418800017408 : Int), (4621256167635550208 : Int), (4611686018427387904 : Int), (4613937818241073152 : Int)]) (h3 : Ov w B3 V3 s3 g3 cap3 c3 l3 2 1 [(4607182418800017408 : Int), (4607182418800017408 : Int)]) : Calls Try.prog 47 #[.bool false, .bool false, V.V, V3.V] w (OvW w B3 V3 s3 g3 cap3 c3 2 1 [(4607182418800017408 : Int), (4617315517961601024 : Int)]) := by
  refine (Trmm_yes (m := 2) (q := 1) h.sv h3.sv (refE_ok (by unfold szd; rw [h.R, h.C, h3.R]; rfl) (mem2 h.ne h3.ne)) h3.vk h3.st rfl h3.inj h3.R h3.C).mono ?_
  rintro e w1 ⟨lx, rfl, hs, hg, hW⟩
  have hi := h3.is hs hW (q := 1) (n := 2) rfl rfl
  have e9 := h3.wrote hs hW
  have hl := is_two hi (x := 4607182418800017408) (y := 4617315517961601024) (by unfold tg; rw [if_pos rfl]; decide +kernel) (by unfold tg; rw [if_pos rfl]; decide +kernel)
  rw [hl] at e9
  exact ⟨lx, rfl, e9, hg⟩
end
end Go.Proofs.Ytfelmkkkaphkpaa
