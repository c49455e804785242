/-
  Layer 7: what comes in, opened to what the walks are told of it: a float, a matrix, a step, a list of steps.
-/
import Derived.Test.YtceoefgjjekgaaaVxP
import Derived.Lib.SmallJoins
import Derived.Below
import Derived.ProofKit
import Derived.OpenShut
import Derived.ShutString
import Derived.ChangeOld
import Derived.Deep.Slices
import Derived.Deep.Strs
namespace Go.Proofs.Ytceoefgjjekgaaa
open Go.ChangeShapes Go.WideShapes Go.ChangeAt Go.RowKit Go.Joins Go.Bw
set_option linter.unusedVariables false

theorem laidOut : laidOutB Try.prog = true := by kernel_rfl
theorem cells_mat : Try.prog.cellsOf 24 = 3 := by kernel_rfl
theorem lt_of_cell {W : World} {p : Addr} {v : Value} (h : W.cell? p = some v) : p.block < W.heap.size := by
  rcases Nat.lt_or_ge p.block W.heap.size with g | g
  · exact g
  · simp [World.cell?, Array.getElem?_eq_none g] at h
section
variable {H : Type} {enc : TypeId × Value → H} {W : World} {base fuel : Nat} {held : Bool} {cs : List Value} {x : DataW H × List MemPlace}
theorem trod_float {P : Program} {spare : Nat → Bool} {t : TypeId} {k : FloatKind} (ht : P.underlying t = some (.float k)) (h : DataW.trod enc P W base spare held fuel t cs = some x) : ∃ n, cs = [.float k n] ∧ x = (.lit (.float k n), []) ∧ (Lit.float k n).wf = true := by
  cases fuel with
  | zero => simp [DataW.trod] at h
  | succ n =>
    unfold DataW.trod at h
    rw [ht] at h
    split at h <;> simp_all
theorem wf_f64 {n : Nat} (h : (Lit.float .f64 n).wf = true) : n ≤ 18446744073709551615 := by
  have : n < 18446744073709551616 := by simpa [Lit.wf] using h
  omega
theorem okWide_float {P : Program} {r : Reach} {b0 : Nat} {t : TypeId} {k : FloatKind} {v : Value} (ht : P.underlying t = some (.float k)) (h : Value.okWide P W r b0 t v) : ∃ n, v = .float k n := by
  simp only [Value.okWide, ht, Cell.okWide] at h
  cases v <;> simp_all [Cell.ok]
theorem open_float {P : Program} {spare : Nat → Bool} {r : Reach} {b0 : Nat} {t : TypeId} {k : FloatKind} {v : Value} {d : DataW H} {ps : List MemPlace} (ht : P.underlying t = some (.float k)) (hval : Value.okWide P W r b0 t v) (hd : DataW.Trod enc P W base spare held t v d ps) :
    ∃ n, v = .float k n ∧ d = .lit (.float k n) ∧ ps = [] ∧ (Lit.float k n).wf = true := by
  obtain ⟨n, rfl⟩ := okWide_float ht hval
  obtain ⟨fuel, hf⟩ := hd
  obtain ⟨n', h, hx, hw⟩ := trod_float ht hf
  simp [Value.cells] at h
  subst h
  simp only [Prod.mk.injEq] at hx
  exact ⟨n, rfl, hx.1, hx.2, hw⟩
theorem shut_float {P : Program} {spare : Nat → Bool} {t : TypeId} {k : FloatKind} {n : Nat} (ht : P.underlying t = some (.float k)) (hw : (Lit.float k n).wf = true) : DataW.Trod enc P W base spare held t (.float k n) (.lit (.float k n)) [] :=
  ⟨1, by simp [DataW.trod, Value.cells, ht, hw]⟩
theorem open_fl (h : DataW.trod enc Try.prog W base (fun _ => true) held fuel 22 cs = some x) : ∃ (A : Option Addr) (n c : Nat) (l : List Int), cs = [.slice A n c] ∧ FL W A n c l := by
  rcases Go.Deep.open_slice1 Try.underlying22 (by kernel_rfl) h with ⟨rfl, _⟩ | ⟨a, n, c, m, f, V, D9, Pl, rfl, _, hl, hm, hmm, _, hi⟩
  · exact ⟨none, 0, 0, [], rfl, FL.nil W⟩
  · have hm2 : m = c := by simpa using hmm
    have each : ∀ i, i < n → ∃ b : Nat, V i = .float .f64 b ∧ b ≤ 18446744073709551615 ∧ W.cell? (a.add i) = some (.float .f64 b) := fun i hin => by
      obtain ⟨hc, ht⟩ := hi i (by omega)
      obtain ⟨b, e, _, hw⟩ := trod_float Try.underlying37 ht
      simp only [List.cons.injEq, and_true] at e
      exact ⟨b, e, wf_f64 hw, by rw [hc, e]⟩
    have hll : ((List.range n).map fun i => match V i with | .float _ b => (b : Int) | _ => 0).length = n := by simp
    have hD : ∀ k, k < n → ∀ b, V k = .float .f64 b → D ((List.range n).map fun i => match V i with | .float _ b => (b : Int) | _ => 0) k = b := fun k hk b hb => by
      rw [D_in (by rw [hll]; exact hk), List.getElem_map, List.getElem_range, hb]
    refine ⟨some a, n, c, (List.range n).map fun i => match V i with | .float _ b => (b : Int) | _ => 0, rfl, hll, ⟨by rw [hll]; exact hl, hm, fun hn => ⟨a, rfl, ?_, fun k hk => ?_⟩⟩, fun y hy => ?_⟩
    · rw [hll] at hn
      obtain ⟨b, _, _, hc⟩ := each 0 hn
      have := lt_of_cell hc
      rw [add_block] at this; exact this
    · rw [hll] at hk
      obtain ⟨b, e, _, hc⟩ := each k hk
      rw [hc, hD k hk b e]; rfl
    · obtain ⟨i, hi2, rfl⟩ := List.mem_map.1 hy
      obtain ⟨b, e, hb, _⟩ := each i (List.mem_range.1 hi2)
      rw [e]
      simp only
      omega
end
set_option maxRecDepth 100000 in
theorem open_mat {H : Type} {enc : TypeId × Value → H} {W : World} {base b0 : Nat} {held : Bool} {r : Reach} {v : Value} {d : DataW H} {p : List MemPlace}
    (hv : Value.okWide Try.prog W r b0 24 v) (h : DataW.Trod enc Try.prog W base (fun _ => true) held 24 v d p) :
    ∃ (m s : Int) (A : Option Addr) (n c : Nat) (l : List Int), v = mV m s A n c ∧ FL W A n c l ∧ -9223372036854775808 ≤ m ∧ m ≤ 9223372036854775807 ∧ -9223372036854775808 ≤ s ∧ s ≤ 9223372036854775807 := by
  obtain ⟨c0, c1, c2, y0, y1, y2, f, rfl, rfl, rfl, hy0, hy1, hy2⟩ := open_agg3 Try.underlying24 (by kernel_rfl) cells_mat hv h
  obtain ⟨m, e0, he0, w0⟩ := DataW.trod_int Try.underlying3 hy0
  obtain ⟨s, e1, he1, w1⟩ := DataW.trod_int Try.underlying3 hy1
  simp only [List.cons.injEq, and_true] at e0 e1
  subst e0 e1
  obtain ⟨A, n, c, l, e2, hl⟩ := open_fl hy2
  simp only [List.cons.injEq, and_true] at e2
  subst e2
  have b0 := bounds_i64 w0
  have b1 := bounds_i64 w1
  exact ⟨m, s, A, n, c, l, rfl, hl, b0.1, b0.2, b1.1, b1.2⟩

theorem cells_int : Try.prog.cellsOf 3 = 1 := by kernel_rfl
theorem cells_step : Try.prog.cellsOf 72 = 5 := by kernel_rfl
theorem five_list {cs : List Value} (h : cs.length = 5) : ∃ c0 c1 c2 c3 c4, cs = [c0, c1, c2, c3, c4] := by
  match cs, h with
  | [c0, c1, c2, c3, c4], _ => exact ⟨c0, c1, c2, c3, c4, rfl⟩
theorem five_array {cs : Array Value} (h : cs.size = 5) : ∃ c0 c1 c2 c3 c4, cs = #[c0, c1, c2, c3, c4] := by
  obtain ⟨l⟩ := cs
  obtain ⟨c0, c1, c2, c3, c4, rfl⟩ := five_list h
  exact ⟨c0, c1, c2, c3, c4, rfl⟩
section
variable {H : Type} {enc : TypeId × Value → H} {W : World} {base fuel : Nat} {held : Bool} {cs : List Value} {x : DataW H × List MemPlace}
set_option maxRecDepth 100000 in
theorem trod_step (h : DataW.trod enc Try.prog W base (fun _ => true) held fuel 72 cs = some x) :
    ∃ s : Sp, cs = s.L ∧ i64B s.K ∧ i64B s.A ∧ i64B s.B ∧ i64B s.C ∧ i64B s.D := by
  obtain ⟨xs, n, _, rfl, hl, hlen, hf⟩ := DataW.trod_struct Try.underlying72 h
  rw [cells_step] at hl
  obtain ⟨c0, c1, c2, c3, c4, rfl⟩ := five_list hl
  match xs, hlen with
  | [y0, y1, y2, y3, y4], _ =>
    have k0 : DataW.trod enc Try.prog W base (fun _ => true) held n 3 [c0] = some y0 := by simpa [cells_int] using hf 0 _ rfl
    have k1 : DataW.trod enc Try.prog W base (fun _ => true) held n 3 [c1] = some y1 := by simpa [cells_int] using hf 1 _ rfl
    have k2 : DataW.trod enc Try.prog W base (fun _ => true) held n 3 [c2] = some y2 := by simpa [cells_int] using hf 2 _ rfl
    have k3 : DataW.trod enc Try.prog W base (fun _ => true) held n 3 [c3] = some y3 := by simpa [cells_int] using hf 3 _ rfl
    have k4 : DataW.trod enc Try.prog W base (fun _ => true) held n 3 [c4] = some y4 := by simpa [cells_int] using hf 4 _ rfl
    obtain ⟨x0, e0, _, w0⟩ := DataW.trod_int Try.underlying3 k0
    obtain ⟨x1, e1, _, w1⟩ := DataW.trod_int Try.underlying3 k1
    obtain ⟨x2, e2, _, w2⟩ := DataW.trod_int Try.underlying3 k2
    obtain ⟨x3, e3, _, w3⟩ := DataW.trod_int Try.underlying3 k3
    obtain ⟨x4, e4, _, w4⟩ := DataW.trod_int Try.underlying3 k4
    simp only [List.cons.injEq, and_true] at e0 e1 e2 e3 e4
    subst e0 e1 e2 e3 e4
    exact ⟨⟨x0, x1, x2, x3, x4⟩, rfl, bounds_i64 w0, bounds_i64 w1, bounds_i64 w2, bounds_i64 w3, bounds_i64 w4⟩
end
set_option maxRecDepth 100000 in
theorem open_step {H : Type} {enc : TypeId × Value → H} {W : World} {base b0 : Nat} {held : Bool} {r : Reach} {v : Value} {d : DataW H} {p : List MemPlace}
    (hv : Value.okWide Try.prog W r b0 72 v) (h : DataW.Trod enc Try.prog W base (fun _ => true) held 72 v d p) :
    ∃ s : Sp, v = .agg #[.int .i64 s.K, .int .i64 s.A, .int .i64 s.B, .int .i64 s.C, .int .i64 s.D] ∧ i64B s.K ∧ i64B s.A ∧ i64B s.B ∧ i64B s.C ∧ i64B s.D := by
  obtain ⟨cs, rfl, hsz⟩ := okWide_struct Try.underlying72 hv
  obtain ⟨fuel, hf⟩ := h
  obtain ⟨c0, c1, c2, c3, c4, rfl⟩ := five_array (hsz.trans cells_step)
  obtain ⟨s, e, hs⟩ := trod_step hf
  have e2 : [c0, c1, c2, c3, c4] = s.L := by simpa [Value.cells] using e
  simp only [List.cons.injEq, and_true] at e2
  obtain ⟨rfl, rfl, rfl, rfl, rfl⟩ := e2
  exact ⟨s, rfl, hs⟩
set_option maxRecDepth 100000 in
theorem open_steps {H : Type} {enc : TypeId × Value → H} {W : World} {base b0 : Nat} {held : Bool} {r : Reach} {v : Value} {d : DataW H} {p : List MemPlace}
    (hv : Value.okWide Try.prog W r b0 48 v) (h : DataW.Trod enc Try.prog W base (fun _ => true) held 48 v d p) :
    ∃ (A : Option Addr) (n c : Nat) (ss : List Sp), v = .slice A n c ∧ SL W W.heap.size A n c ss := by
  obtain ⟨A, n, c, rfl⟩ := okWide_slice Try.underlying48 hv
  refine ⟨A, n, c, ?_⟩
  obtain ⟨fuel, hf⟩ := h
  rcases Go.Deep.open_slice Try.underlying48 hf with ⟨hcs, _⟩ | ⟨a, len, cap, m, k, D, Pl, hcs, _, hl, hm, hmm, _, hi⟩
  · have e : Value.slice A n c = .slice none 0 0 := by simpa [Value.cells] using hcs
    cases e
    exact ⟨[], rfl, rfl, by omega, (fun e he => by cases he), Nat.le_refl _, fun hn => absurd rfl hn⟩
  · have e : Value.slice A n c = .slice (some a) len cap := by simpa [Value.cells] using hcs
    cases e
    rw [cells_step] at hi
    have hnm : n ≤ m := by rw [hmm]; simp; omega
    have each : ∀ i, i < n → ∃ s : Sp, (W.cell? (a.add (i * 5)) = some (.int .i64 s.K) ∧ W.cell? (a.add (i * 5 + 1)) = some (.int .i64 s.A) ∧ W.cell? (a.add (i * 5 + 2)) = some (.int .i64 s.B) ∧ W.cell? (a.add (i * 5 + 3)) = some (.int .i64 s.C) ∧ W.cell? (a.add (i * 5 + 4)) = some (.int .i64 s.D)) ∧ i64B s.K ∧ i64B s.A ∧ i64B s.B ∧ i64B s.C ∧ i64B s.D := by
      intro i hin
      obtain ⟨cs', hc, ht⟩ := hi i (by omega)
      obtain ⟨s, rfl, hs⟩ := trod_step ht
      obtain ⟨_, _, hat⟩ := World.cells?_some hc
      have g0 := hat 0 (by omega)
      have g1 := hat 1 (by omega)
      have g2 := hat 2 (by omega)
      have g3 := hat 3 (by omega)
      have g4 := hat 4 (by omega)
      rw [add_add] at g0 g1 g2 g3 g4
      exact ⟨s, ⟨g0, g1, g2, g3, g4⟩, hs⟩
    have build : ∀ j, j ≤ n → ∃ ss : List Sp, ss.length = j ∧ ∀ i s, ss[i]? = some s → (W.cell? (a.add (i * 5)) = some (.int .i64 s.K) ∧ W.cell? (a.add (i * 5 + 1)) = some (.int .i64 s.A) ∧ W.cell? (a.add (i * 5 + 2)) = some (.int .i64 s.B) ∧ W.cell? (a.add (i * 5 + 3)) = some (.int .i64 s.C) ∧ W.cell? (a.add (i * 5 + 4)) = some (.int .i64 s.D)) ∧ i64B s.K ∧ i64B s.A ∧ i64B s.B ∧ i64B s.C ∧ i64B s.D := by
      intro j
      induction j with
      | zero => exact fun _ => ⟨[], rfl, fun i s hs => by simp at hs⟩
      | succ j ih =>
        intro hj
        obtain ⟨ss, hlen, hall⟩ := ih (by omega)
        obtain ⟨s, hs⟩ := each j (by omega)
        refine ⟨ss ++ [s], by simp [hlen], fun i e2 h2 => ?_⟩
        rcases Nat.lt_or_ge i ss.length with g | g
        · rw [List.getElem?_append_left g] at h2
          exact hall i e2 h2
        · rw [List.getElem?_append_right g] at h2
          have hi0 : i - ss.length = 0 := by
            rcases Nat.eq_zero_or_pos (i - ss.length) with g2 | g2
            · exact g2
            · rw [List.getElem?_eq_none (by simp; omega)] at h2; cases h2
          rw [hi0] at h2
          have : s = e2 := by simpa using h2
          subst this
          have : i = j := by omega
          subst this
          exact hs
    obtain ⟨ss, hlen, hall⟩ := build n (Nat.le_refl _)
    have h63 : maxLen = 9223372036854775807 := by decide
    refine ⟨ss, rfl, hlen, by omega, fun s hs => ?_, Nat.le_refl _, fun hn => ⟨a, rfl, ?_, fun i s hi2 => (hall i s hi2).1⟩⟩
    · obtain ⟨i, hi2, rfl⟩ := List.mem_iff_getElem.1 hs
      exact (hall i _ (List.getElem?_eq_getElem hi2)).2
    · obtain ⟨s, hs, _⟩ := each 0 (by omega)
      have := lt_of_cell hs.1
      rw [add_block] at this; exact this
end Go.Proofs.Ytceoefgjjekgaaa
