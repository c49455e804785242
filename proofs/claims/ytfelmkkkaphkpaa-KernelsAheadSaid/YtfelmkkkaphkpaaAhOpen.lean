/-
  Layer 7: what comes in, opened to what the walks are told of it: a float, a matrix, a step, a list of steps.
-/
import Derived.Test.YtfelmkkkaphkpaaKVz
import Derived.Lib.SmallJoins
import Derived.Below
import Derived.ProofKit
import Derived.OpenShut
import Derived.ShutString
import Derived.ChangeOld
import Derived.Deep.Slices
import Derived.Deep.Strs
namespace Go.Proofs.Ytfelmkkkaphkpaa
open Go.ChangeShapes Go.WideShapes Go.ChangeAt Go.RowKit Go.Joins Go.Bw
set_option linter.unusedVariables false

theorem laidOut : laidOutB Try.prog = true := by kernel_rfl
theorem cells_mat : Try.prog.cellsOf 24 = 3 := by kernel_rfl
theorem lt_of_cell {W : World} {p : Addr} {v : Value} (h : W.cell? p = some v) : p.block < W.heap.size := by
  rcases Nat.lt_or_ge p.block W.heap.size with g | g
  · exact g
  · simp [World.cell?, Array.getElem?_eq_none g] at h
section
variable {H : Type} {enc : TypeId × Value → H} {W : World} {base fuel : Nat} {held : Bool} {cs : List Value} {x : DataW H × List MemPlace}
theorem trod_float {P : Program} {spare : Nat → Bool} {t : TypeId} {k : FloatKind} (ht : P.underlying t = some (.float k)) (h : DataW.trod enc P W base spare held fuel t cs = some x) : ∃ n, cs = [.float k n] ∧ x = (.lit (.float k n), []) ∧ (Lit.float k n).wf = true := by
  cases fuel with
  | zero => simp [DataW.trod] at h
  | succ n =>
    unfold DataW.trod at h
    rw [ht] at h
    split at h <;> simp_all
theorem wf_f64 {n : Nat} (h : (Lit.float .f64 n).wf = true) : n ≤ 18446744073709551615 := by
  have : n < 18446744073709551616 := by simpa [Lit.wf] using h
  omega
theorem okWide_float {P : Program} {r : Reach} {b0 : Nat} {t : TypeId} {k : FloatKind} {v : Value} (ht : P.underlying t = some (.float k)) (h : Value.okWide P W r b0 t v) : ∃ n, v = .float k n := by
  simp only [Value.okWide, ht, Cell.okWide] at h
  cases v <;> simp_all [Cell.ok]
theorem open_float {P : Program} {spare : Nat → Bool} {r : Reach} {b0 : Nat} {t : TypeId} {k : FloatKind} {v : Value} {d : DataW H} {ps : List MemPlace} (ht : P.underlying t = some (.float k)) (hval : Value.okWide P W r b0 t v) (hd : DataW.Trod enc P W base spare held t v d ps) :
    ∃ n, v = .float k n ∧ d = .lit (.float k n) ∧ ps = [] ∧ (Lit.float k n).wf = true := by
  obtain ⟨n, rfl⟩ := okWide_float ht hval
  obtain ⟨fuel, hf⟩ := hd
  obtain ⟨n', h, hx, hw⟩ := trod_float ht hf
  simp [Value.cells] at h
  subst h
  simp only [Prod.mk.injEq] at hx
  exact ⟨n, rfl, hx.1, hx.2, hw⟩
theorem shut_float {P : Program} {spare : Nat → Bool} {t : TypeId} {k : FloatKind} {n : Nat} (ht : P.underlying t = some (.float k)) (hw : (Lit.float k n).wf = true) : DataW.Trod enc P W base spare held t (.float k n) (.lit (.float k n)) [] :=
  ⟨1, by simp [DataW.trod, Value.cells, ht, hw]⟩
theorem open_fl (h : DataW.trod enc Try.prog W base (fun _ => true) held fuel 22 cs = some x) : ∃ (A : Option Addr) (n c : Nat) (l : List Int), cs = [.slice A n c] ∧ FL W A n c l := by
  rcases Go.Deep.open_slice1 Try.underlying22 (by kernel_rfl) h with ⟨rfl, _⟩ | ⟨a, n, c, m, f, V, D9, Pl, rfl, _, hl, hm, hmm, _, hi⟩
  · exact ⟨none, 0, 0, [], rfl, FL.nil W⟩
  · have hm2 : m = c := by simpa using hmm
    have each : ∀ i, i < n → ∃ b : Nat, V i = .float .f64 b ∧ b ≤ 18446744073709551615 ∧ W.cell? (a.add i) = some (.float .f64 b) := fun i hin => by
      obtain ⟨hc, ht⟩ := hi i (by omega)
      obtain ⟨b, e, _, hw⟩ := trod_float Try.underlying32 ht
      simp only [List.cons.injEq, and_true] at e
      exact ⟨b, e, wf_f64 hw, by rw [hc, e]⟩
    have hll : ((List.range n).map fun i => match V i with | .float _ b => (b : Int) | _ => 0).length = n := by simp
    have hD : ∀ k, k < n → ∀ b, V k = .float .f64 b → D ((List.range n).map fun i => match V i with | .float _ b => (b : Int) | _ => 0) k = b := fun k hk b hb => by
      rw [D_in (by rw [hll]; exact hk), List.getElem_map, List.getElem_range, hb]
    refine ⟨some a, n, c, (List.range n).map fun i => match V i with | .float _ b => (b : Int) | _ => 0, rfl, hll, ⟨by rw [hll]; exact hl, hm, fun hn => ⟨a, rfl, ?_, fun k hk => ?_⟩⟩, fun y hy => ?_⟩
    · rw [hll] at hn
      obtain ⟨b, _, _, hc⟩ := each 0 hn
      have := lt_of_cell hc
      rw [add_block] at this; exact this
    · rw [hll] at hk
      obtain ⟨b, e, _, hc⟩ := each k hk
      rw [hc, hD k hk b e]; rfl
    · obtain ⟨i, hi2, rfl⟩ := List.mem_map.1 hy
      obtain ⟨b, e, hb, _⟩ := each i (List.mem_range.1 hi2)
      rw [e]
      simp only
      omega
end
set_option maxRecDepth 100000 in
theorem open_mat {H : Type} {enc : TypeId × Value → H} {W : World} {base b0 : Nat} {held : Bool} {r : Reach} {v : Value} {d : DataW H} {p : List MemPlace}
    (hv : Value.okWide Try.prog W r b0 24 v) (h : DataW.Trod enc Try.prog W base (fun _ => true) held 24 v d p) :
    ∃ (m s : Int) (A : Option Addr) (n c : Nat) (l : List Int), v = mV m s A n c ∧ FL W A n c l ∧ -9223372036854775808 ≤ m ∧ m ≤ 9223372036854775807 ∧ -9223372036854775808 ≤ s ∧ s ≤ 9223372036854775807 := by
  obtain ⟨c0, c1, c2, y0, y1, y2, f, rfl, rfl, rfl, hy0, hy1, hy2⟩ := open_agg3 Try.underlying24 (by kernel_rfl) cells_mat hv h
  obtain ⟨m, e0, he0, w0⟩ := DataW.trod_int Try.underlying3 hy0
  obtain ⟨s, e1, he1, w1⟩ := DataW.trod_int Try.underlying3 hy1
  simp only [List.cons.injEq, and_true] at e0 e1
  subst e0 e1
  obtain ⟨A, n, c, l, e2, hl⟩ := open_fl hy2
  simp only [List.cons.injEq, and_true] at e2
  subst e2
  have b0 := bounds_i64 w0
  have b1 := bounds_i64 w1
  exact ⟨m, s, A, n, c, l, rfl, hl, b0.1, b0.2, b1.1, b1.2⟩

section
variable {H : Type} {enc : TypeId × Value → H} {W : World} {base fuel : Nat} {held : Bool} {cs : List Value} {x : DataW H × List MemPlace}
end
end Go.Proofs.Ytfelmkkkaphkpaa
