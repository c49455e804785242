/-
  Layer 3: a list of numbers that comes in, opened to what the walks are told of it.
-/
import Derived.Test.YtknomchkfamajaaGreatDoorDyOpen
import Derived.Test.YtknomchkfamajaaGreatDoorDyNE
import Derived.Deep.Slices
import Derived.Deep.Strs
namespace Go.Proofs.YtknomchkfamajaaGreatDoor
open Go.ChangeShapes Go.WideShapes Go.ChangeAt Go.RowKit Go.Joins
set_option linter.unusedVariables false

theorem cells_len3 {cs : List Value} (h : cs.length = 3) : ∃ c0 c1 c2, cs = [c0, c1, c2] := by
  match cs, h with
  | [c0, c1, c2], _ => exact ⟨c0, c1, c2, rfl⟩
set_option maxRecDepth 100000 in
theorem open_elem {H : Type} {enc : TypeId × Value → H} {W : World} {base fuel : Nat} {held : Bool} {a : Addr} {cs : List Value} {y : DataW H × List MemPlace}
    (hc : W.cells? base a 3 = some cs) (h : DataW.trod enc Tryz.prog W base (fun _ => true) held fuel 24 cs = some y) :
    ∃ e : De, W.cell? a = some (.bool e.b) ∧ W.cell? (a.add 1) = some (.slice e.A e.l.length e.c) ∧ W.cell? (a.add 2) = some (.int .i64 e.x) ∧ Lv W e.A e.l.length e.c e.l ∧ -9223372036854775808 ≤ e.x ∧ e.x ≤ 9223372036854775807 := by
  obtain ⟨_, hlen, hat⟩ := World.cells?_some hc
  obtain ⟨c0, c1, c2, rfl⟩ := cells_len3 hlen
  have g0 : W.cell? a = some c0 := hat 0 (by omega)
  have g1 : W.cell? (a.add 1) = some c1 := hat 1 (by omega)
  have g2 : W.cell? (a.add 2) = some c2 := hat 2 (by omega)
  obtain ⟨y0, y1, y2, m, _, _, h0, h1, h2⟩ := Go.Deep.trod_struct3 Tryz.underlying24 h
  have k0 : DataW.trod enc Tryz.prog W base (fun _ => true) held m 4 [c0] = some y0 := h0
  have k1 : DataW.trod enc Tryz.prog W base (fun _ => true) held m 22 [c1] = some y1 := h1
  have k2 : DataW.trod enc Tryz.prog W base (fun _ => true) held m 3 [c2] = some y2 := h2
  obtain ⟨neg, e0, he0⟩ := DataW.trod_bool Tryz.underlying4 k0
  obtain ⟨x, e2, he2, we⟩ := DataW.trod_int Tryz.underlying3 k2
  simp only [List.cons.injEq, and_true] at e0 e2
  subst e0 e2
  have bx := bounds_i64 we
  have row : ∃ A n c z, c1 = .slice A n c ∧ IsRow .u64 W A n c z := by
    rcases open_ints Tryz.underlying22 Tryz.underlying35 (by kernel_rfl) k1 with ⟨hcs, _⟩ | ⟨b, l, c, zs, hcs, _, hl, hm, hz, _, hcell, hwz⟩
    · simp only [List.cons.injEq, and_true] at hcs
      exact ⟨none, 0, 0, [], hcs, .inl ⟨rfl, rfl, rfl, rfl⟩⟩
    · simp only [List.cons.injEq, and_true] at hcs
      exact ⟨some b, l, c, zs, hcs, .inr ⟨_, rfl, hl, hm, by simpa using hz, hcell, hwz⟩⟩
  obtain ⟨A, n, c, z, rfl, hr⟩ := row
  obtain ⟨l, hv⟩ := hr.lv
  have hln := hv.1
  subst hln
  exact ⟨⟨neg, A, c, x, l⟩, g0, g1, g2, hv, bx.1, bx.2⟩
set_option maxRecDepth 100000 in
theorem open_dyads {H : Type} {enc : TypeId × Value → H} {W : World} {base b0 : Nat} {held : Bool} {r : Reach} {v : Value} {d : DataW H} {p : List MemPlace}
    (hv : Value.okWide Tryz.prog W r b0 52 v) (h : DataW.Trod enc Tryz.prog W base (fun _ => true) held 52 v d p) :
    ∃ (A : Option Addr) (n c : Nat) (es : List De), v = .slice A n c ∧ Dl W A n c es := by
  obtain ⟨A, n, c, rfl⟩ := okWide_slice Tryz.underlying52 hv
  refine ⟨A, n, c, ?_⟩
  obtain ⟨fuel, hf⟩ := h
  rcases Go.Deep.open_slice Tryz.underlying52 hf with ⟨hcs, _⟩ | ⟨a, len, cap, m, k, D, Pl, hcs, _, hl, hm, hmm, _, hi⟩
  · have e : Value.slice A n c = .slice none 0 0 := by simpa [Value.cells] using hcs
    cases e
    exact ⟨[], rfl, rfl, by omega, (fun e he => by cases he), fun hn => absurd rfl hn⟩
  · have e : Value.slice A n c = .slice (some a) len cap := by simpa [Value.cells] using hcs
    cases e
    have hc3 : (Tryz.prog).cellsOf 24 = 3 := cells_dyad
    rw [hc3] at hi
    have hnm : n ≤ m := by rw [hmm]; simp; omega
    have each : ∀ i, i < n → ∃ e : De, W.cell? (a.add (i * 3)) = some (.bool e.b) ∧ W.cell? (a.add (i * 3 + 1)) = some (.slice e.A e.l.length e.c) ∧ W.cell? (a.add (i * 3 + 2)) = some (.int .i64 e.x) ∧ Lv W e.A e.l.length e.c e.l ∧ -9223372036854775808 ≤ e.x ∧ e.x ≤ 9223372036854775807 := by
      intro i hin
      obtain ⟨cs', hc, ht⟩ := hi i (by omega)
      obtain ⟨e, q0, q1, q2, q3⟩ := open_elem hc ht
      rw [add_add] at q1 q2
      exact ⟨e, q0, q1, q2, q3⟩
    have build : ∀ j, j ≤ n → ∃ es : List De, es.length = j ∧ ∀ i e, es[i]? = some e → W.cell? (a.add (i * 3)) = some (.bool e.b) ∧ W.cell? (a.add (i * 3 + 1)) = some (.slice e.A e.l.length e.c) ∧ W.cell? (a.add (i * 3 + 2)) = some (.int .i64 e.x) ∧ Lv W e.A e.l.length e.c e.l ∧ -9223372036854775808 ≤ e.x ∧ e.x ≤ 9223372036854775807 := by
      intro j
      induction j with
      | zero => exact fun _ => ⟨[], rfl, fun i e he => by simp at he⟩
      | succ j ih =>
        intro hj
        obtain ⟨es, hlen, hall⟩ := ih (by omega)
        obtain ⟨e, he⟩ := each j (by omega)
        refine ⟨es ++ [e], by simp [hlen], fun i e2 h2 => ?_⟩
        rcases Nat.lt_or_ge i es.length with g | g
        · rw [List.getElem?_append_left g] at h2
          exact hall i e2 h2
        · rw [List.getElem?_append_right g] at h2
          have hi0 : i - es.length = 0 := by
            rcases Nat.eq_zero_or_pos (i - es.length) with g2 | g2
            · exact g2
            · rw [List.getElem?_eq_none (by simp; omega)] at h2; cases h2
          rw [hi0] at h2
          have : e = e2 := by simpa using h2
          subst this
          have : i = j := by omega
          subst this
          exact he
    obtain ⟨es, hlen, hall⟩ := build n (Nat.le_refl _)
    have h63 : maxLen = 9223372036854775807 := by decide
    refine ⟨es, rfl, hlen, by omega, fun e he => ?_, fun hn => ?_⟩
    · obtain ⟨i, hi⟩ := List.getElem?_of_mem he
      exact (hall i e hi).2.2.2
    · obtain ⟨e, q0, _⟩ := each 0 (by omega)
      have hb := World.block_lt_of_cell? _ _ q0
      have bl : ∀ k, (a.add k).block = a.block := fun k => by unfold Addr.add; split <;> rfl
      rw [bl] at hb
      exact ⟨a, rfl, hb, fun i e hi => ⟨(hall i e hi).1, (hall i e hi).2.1, (hall i e hi).2.2.1⟩⟩
end Go.Proofs.YtknomchkfamajaaGreatDoor
