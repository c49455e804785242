/-
  Layer 9: what comes in, opened to what the walks are told of it: floats, a matrix, a reflection, a list of them.
-/
import Derived.Test.YtbaeabmmokgomaaMJRfF
import Derived.Lib.SmallJoins
import Derived.Below
import Derived.ProofKit
import Derived.OpenShut
import Derived.ShutString
import Derived.ChangeOld
import Derived.Deep.Slices
import Derived.Deep.Strs
namespace Go.Proofs.Ytbaeabmmokgomaa
open Go.ChangeShapes Go.WideShapes Go.ChangeAt Go.RowKit Go.Joins Go.Bw
set_option linter.unusedVariables false

theorem laidOut : laidOutB Try.prog = true := by kernel_rfl
set_option maxRecDepth 100000 in
theorem cells_mat : Try.prog.cellsOf 24 = 3 := by kernel_rfl
theorem lt_of_cell {W : World} {p : Addr} {v : Value} (h : W.cell? p = some v) : p.block < W.heap.size := by
  rcases Nat.lt_or_ge p.block W.heap.size with g | g
  · exact g
  · simp [World.cell?, Array.getElem?_eq_none g] at h
section
variable {H : Type} {enc : TypeId × Value → H} {W : World} {base fuel : Nat} {held : Bool} {cs : List Value} {x : DataW H × List MemPlace}
theorem trod_float {P : Program} {spare : Nat → Bool} {t : TypeId} {k : FloatKind} (ht : P.underlying t = some (.float k)) (h : DataW.trod enc P W base spare held fuel t cs = some x) : ∃ n, cs = [.float k n] ∧ x = (.lit (.float k n), []) ∧ (Lit.float k n).wf = true := by
  cases fuel with
  | zero => simp [DataW.trod] at h
  | succ n =>
    unfold DataW.trod at h
    rw [ht] at h
    split at h <;> simp_all
theorem wf_f64 {n : Nat} (h : (Lit.float .f64 n).wf = true) : n ≤ 18446744073709551615 := by
  have : n < 18446744073709551616 := by simpa [Lit.wf] using h
  omega
theorem okWide_float {P : Program} {r : Reach} {b0 : Nat} {t : TypeId} {k : FloatKind} {v : Value} (ht : P.underlying t = some (.float k)) (h : Value.okWide P W r b0 t v) : ∃ n, v = .float k n := by
  simp only [Value.okWide, ht, Cell.okWide] at h
  cases v <;> simp_all [Cell.ok]
set_option maxRecDepth 100000 in
theorem open_float {P : Program} {spare : Nat → Bool} {r : Reach} {b0 : Nat} {t : TypeId} {k : FloatKind} {v : Value} {d : DataW H} {ps : List MemPlace} (ht : P.underlying t = some (.float k)) (hval : Value.okWide P W r b0 t v) (hd : DataW.Trod enc P W base spare held t v d ps) :
    ∃ n, v = .float k n ∧ d = .lit (.float k n) ∧ ps = [] ∧ (Lit.float k n).wf = true := by
  obtain ⟨n, rfl⟩ := okWide_float ht hval
  obtain ⟨fuel, hf⟩ := hd
  obtain ⟨n', h, hx, hw⟩ := trod_float ht hf
  simp [Value.cells] at h
  subst h
  simp only [Prod.mk.injEq] at hx
  exact ⟨n, rfl, hx.1, hx.2, hw⟩
theorem shut_float {P : Program} {spare : Nat → Bool} {t : TypeId} {k : FloatKind} {n : Nat} (ht : P.underlying t = some (.float k)) (hw : (Lit.float k n).wf = true) : DataW.Trod enc P W base spare held t (.float k n) (.lit (.float k n)) [] :=
  ⟨1, by simp [DataW.trod, Value.cells, ht, hw]⟩
set_option maxRecDepth 100000 in
theorem open_fl (h : DataW.trod enc Try.prog W base (fun _ => true) held fuel 22 cs = some x) : ∃ (A : Option Addr) (n c : Nat) (l : List Int), cs = [.slice A n c] ∧ FL W A n c l := by
  rcases Go.Deep.open_slice1 Try.underlying22 (by kernel_rfl) h with ⟨rfl, _⟩ | ⟨a, n, c, m, f, V, D9, Pl, rfl, _, hl, hm, hmm, _, hi⟩
  · exact ⟨none, 0, 0, [], rfl, FL.nil W⟩
  · have hm2 : m = c := by simpa using hmm
    have each : ∀ i, i < n → ∃ b : Nat, V i = .float .f64 b ∧ b ≤ 18446744073709551615 ∧ W.cell? (a.add i) = some (.float .f64 b) := fun i hin => by
      obtain ⟨hc, ht⟩ := hi i (by omega)
      obtain ⟨b, e, _, hw⟩ := trod_float Try.underlying49 ht
      simp only [List.cons.injEq, and_true] at e
      exact ⟨b, e, wf_f64 hw, by rw [hc, e]⟩
    have hll : ((List.range n).map fun i => match V i with | .float _ b => (b : Int) | _ => 0).length = n := by simp
    have hD : ∀ k, k < n → ∀ b, V k = .float .f64 b → D ((List.range n).map fun i => match V i with | .float _ b => (b : Int) | _ => 0) k = b := fun k hk b hb => by
      rw [D_in (by rw [hll]; exact hk), List.getElem_map, List.getElem_range, hb]
    refine ⟨some a, n, c, (List.range n).map fun i => match V i with | .float _ b => (b : Int) | _ => 0, rfl, hll, ⟨by rw [hll]; exact hl, hm, fun hn => ⟨a, rfl, ?_, fun k hk => ?_⟩⟩, fun y hy => ?_⟩
    · rw [hll] at hn
      obtain ⟨b, _, _, hc⟩ := each 0 hn
      have := lt_of_cell hc
      rw [add_block] at this; exact this
    · rw [hll] at hk
      obtain ⟨b, e, _, hc⟩ := each k hk
      rw [hc, hD k hk b e]; rfl
    · obtain ⟨i, hi2, rfl⟩ := List.mem_map.1 hy
      obtain ⟨b, e, hb, _⟩ := each i (List.mem_range.1 hi2)
      rw [e]
      simp only
      omega
end
set_option maxRecDepth 100000 in
theorem open_mat {H : Type} {enc : TypeId × Value → H} {W : World} {base b0 : Nat} {held : Bool} {r : Reach} {v : Value} {d : DataW H} {p : List MemPlace}
    (hv : Value.okWide Try.prog W r b0 24 v) (h : DataW.Trod enc Try.prog W base (fun _ => true) held 24 v d p) :
    ∃ (m s : Int) (A : Option Addr) (n c : Nat) (l : List Int), v = mV m s A n c ∧ FL W A n c l ∧ -9223372036854775808 ≤ m ∧ m ≤ 9223372036854775807 ∧ -9223372036854775808 ≤ s ∧ s ≤ 9223372036854775807 := by
  obtain ⟨c0, c1, c2, y0, y1, y2, f, rfl, rfl, rfl, hy0, hy1, hy2⟩ := open_agg3 Try.underlying24 (by kernel_rfl) cells_mat hv h
  obtain ⟨m, e0, he0, w0⟩ := DataW.trod_int Try.underlying3 hy0
  obtain ⟨s, e1, he1, w1⟩ := DataW.trod_int Try.underlying3 hy1
  simp only [List.cons.injEq, and_true] at e0 e1
  subst e0 e1
  obtain ⟨A, n, c, l, e2, hl⟩ := open_fl hy2
  simp only [List.cons.injEq, and_true] at e2
  subst e2
  have b0 := bounds_i64 w0
  have b1 := bounds_i64 w1
  exact ⟨m, s, A, n, c, l, rfl, hl, b0.1, b0.2, b1.1, b1.2⟩
set_option maxRecDepth 100000 in
theorem open_floats {H : Type} {enc : TypeId × Value → H} {W : World} {base b0 : Nat} {held : Bool} {r : Reach} {v : Value} {d : DataW H} {p : List MemPlace}
    (hv : Value.okWide Try.prog W r b0 22 v) (h : DataW.Trod enc Try.prog W base (fun _ => true) held 22 v d p) :
    ∃ (A : Option Addr) (n c : Nat) (l : List Int), v = .slice A n c ∧ FL W A n c l := by
  obtain ⟨A, n, c, rfl⟩ := okWide_slice Try.underlying22 hv
  obtain ⟨fuel, hf⟩ := h
  obtain ⟨A2, n2, c2, l, e, hl⟩ := open_fl hf
  have e2 : Value.slice A n c = .slice A2 n2 c2 := by simpa [Value.cells] using e
  cases e2
  exact ⟨A, n, c, l, rfl, hl⟩
theorem cells_refl : Try.prog.cellsOf 51 = 2 := by kernel_rfl
set_option maxRecDepth 100000 in
theorem open_refl {H : Type} {enc : TypeId × Value → H} {W : World} {base b0 : Nat} {held : Bool} {r : Reach} {v : Value} {d : DataW H} {p : List MemPlace}
    (hv : Value.okWide Try.prog W r b0 51 v) (h : DataW.Trod enc Try.prog W base (fun _ => true) held 51 v d p) :
    ∃ (A : Option Addr) (n c t : Nat) (l : List Int), v = rV A n c t ∧ FL W A n c l ∧ t ≤ 18446744073709551615 := by
  obtain ⟨c0, c1, y0, y1, f, rfl, rfl, rfl, hy0, hy1⟩ := open_agg2 Try.underlying51 (by kernel_rfl) cells_refl hv h
  obtain ⟨A, n, c, l, e2, hl⟩ := open_fl hy0
  simp only [List.cons.injEq, and_true] at e2
  subst e2
  obtain ⟨t, e, _, hw⟩ := trod_float Try.underlying49 hy1
  simp only [List.cons.injEq, and_true] at e
  subst e
  exact ⟨A, n, c, t, l, rfl, hl, wf_f64 hw⟩
theorem two_list {cs : List Value} (h : cs.length = 2) : ∃ c0 c1, cs = [c0, c1] := by
  match cs, h with
  | [c0, c1], _ => exact ⟨c0, c1, rfl⟩
set_option maxRecDepth 100000 in
theorem open_elem {H : Type} {enc : TypeId × Value → H} {W : World} {base fuel : Nat} {held : Bool} {a : Addr} {cs : List Value} {y : DataW H × List MemPlace}
    (hc : W.cells? base a 2 = some cs) (h : DataW.trod enc Try.prog W base (fun _ => true) held fuel 51 cs = some y) :
    ∃ e : Re, W.cell? a = some (.slice e.A e.l.length e.c) ∧ W.cell? (a.add 1) = some (.float .f64 e.t) ∧ FL W e.A e.l.length e.c e.l ∧ e.t ≤ 18446744073709551615 := by
  obtain ⟨_, hlen, hat⟩ := World.cells?_some hc
  obtain ⟨c0, c1, rfl⟩ := two_list hlen
  have g0 : W.cell? a = some c0 := hat 0 (by omega)
  have g1 : W.cell? (a.add 1) = some c1 := hat 1 (by omega)
  obtain ⟨y0, y1, m, _, _, h0, h1⟩ := Go.ChangeShapes.trod_struct2 Try.underlying51 h
  have k0 : DataW.trod enc Try.prog W base (fun _ => true) held m 22 [c0] = some y0 := h0
  have k1 : DataW.trod enc Try.prog W base (fun _ => true) held m 49 [c1] = some y1 := h1
  obtain ⟨A, n, c, l, e2, hl⟩ := open_fl k0
  simp only [List.cons.injEq, and_true] at e2
  subst e2
  obtain ⟨t, e, _, hw⟩ := trod_float Try.underlying49 k1
  simp only [List.cons.injEq, and_true] at e
  subst e
  have hn := hl.1
  refine ⟨⟨A, c, l, t⟩, by simp only [hn]; exact g0, g1, by simp only [hn]; exact hl, wf_f64 hw⟩
set_option maxRecDepth 100000 in
theorem open_refls {H : Type} {enc : TypeId × Value → H} {W : World} {base b0 : Nat} {held : Bool} {r : Reach} {v : Value} {d : DataW H} {p : List MemPlace}
    (hv : Value.okWide Try.prog W r b0 29 v) (h : DataW.Trod enc Try.prog W base (fun _ => true) held 29 v d p) :
    ∃ (A : Option Addr) (n c : Nat) (hs : List Re), v = .slice A n c ∧ Rl W A n c hs := by
  obtain ⟨A, n, c, rfl⟩ := okWide_slice Try.underlying29 hv
  refine ⟨A, n, c, ?_⟩
  obtain ⟨fuel, hf⟩ := h
  rcases Go.Deep.open_slice Try.underlying29 hf with ⟨hcs, _⟩ | ⟨a, len, cap, m, k, D, Pl, hcs, _, hl, hm, hmm, _, hi⟩
  · have e : Value.slice A n c = .slice none 0 0 := by simpa [Value.cells] using hcs
    cases e
    exact ⟨[], rfl, rfl, by omega, (fun e he => by cases he), fun hn => absurd rfl hn⟩
  · have e : Value.slice A n c = .slice (some a) len cap := by simpa [Value.cells] using hcs
    cases e
    have hc3 : (Try.prog).cellsOf 51 = 2 := cells_refl
    rw [hc3] at hi
    have hnm : n ≤ m := by rw [hmm]; simp; omega
    have each : ∀ i, i < n → ∃ e : Re, W.cell? (a.add (i * 2)) = some (.slice e.A e.l.length e.c) ∧ W.cell? (a.add (i * 2 + 1)) = some (.float .f64 e.t) ∧ FL W e.A e.l.length e.c e.l ∧ e.t ≤ 18446744073709551615 := by
      intro i hin
      obtain ⟨cs', hc, ht⟩ := hi i (by omega)
      obtain ⟨e, q0, q1, q2⟩ := open_elem hc ht
      rw [add_add] at q1
      exact ⟨e, q0, q1, q2⟩
    have build : ∀ j, j ≤ n → ∃ es : List Re, es.length = j ∧ ∀ i e, es[i]? = some e → W.cell? (a.add (i * 2)) = some (.slice e.A e.l.length e.c) ∧ W.cell? (a.add (i * 2 + 1)) = some (.float .f64 e.t) ∧ FL W e.A e.l.length e.c e.l ∧ e.t ≤ 18446744073709551615 := by
      intro j
      induction j with
      | zero => exact fun _ => ⟨[], rfl, fun i e he => by simp at he⟩
      | succ j ih =>
        intro hj
        obtain ⟨es, hlen, hall⟩ := ih (by omega)
        obtain ⟨e, he⟩ := each j (by omega)
        refine ⟨es ++ [e], by simp [hlen], fun i e2 h2 => ?_⟩
        rcases Nat.lt_or_ge i es.length with g | g
        · rw [List.getElem?_append_left g] at h2
          exact hall i e2 h2
        · rw [List.getElem?_append_right g] at h2
          have hi0 : i - es.length = 0 := by
            rcases Nat.eq_zero_or_pos (i - es.length) with g2 | g2
            · exact g2
            · rw [List.getElem?_eq_none (by simp; omega)] at h2; cases h2
          rw [hi0] at h2
          have : e = e2 := by simpa using h2
          subst this
          have : i = j := by omega
          subst this
          exact he
    obtain ⟨es, hlen, hall⟩ := build n (Nat.le_refl _)
    have h63 : maxLen = 9223372036854775807 := by decide
    refine ⟨es, rfl, hlen, by omega, fun e he => ?_, fun hn => ?_⟩
    · obtain ⟨i, hi⟩ := List.getElem?_of_mem he
      exact (hall i e hi).2.2
    · obtain ⟨e, q0, _⟩ := each 0 (by omega)
      have hb := World.block_lt_of_cell? _ _ q0
      rw [add_block] at hb
      exact ⟨a, rfl, hb, fun i e hi => ⟨(hall i e hi).1, (hall i e hi).2.1⟩⟩
end Go.Proofs.Ytbaeabmmokgomaa
