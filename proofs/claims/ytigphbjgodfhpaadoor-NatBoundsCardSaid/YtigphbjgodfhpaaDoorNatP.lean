/-
  Layer 2, words for memory, part two: append onto a slice of the call's own, whatever is appended; make.
-/
import Derived.Test.YtigphbjgodfhpaaDoorProg
import Derived.Test.YtigphbjgodfhpaaDoorNatW
import Derived.Maps.AppendAt
import Derived.RegionTactic
import Derived.OwnWalk
import Derived.KernelRfl
namespace Go.Proofs.YtigphbjgodfhpaaDoor
open Go.RowKit
set_option linter.unusedVariables false

theorem info39 : (Tryd.prog.info? 39).map (fun i => (i.zero, i.size, i.bytes)) = some (some (.int .u64 0), 1, 8) := by kernel_rfl

section
variable (w : World)
theorem run_app_nil (base : Nat) (ty : TypeId) (A : Option Addr) (c : Nat) (l : List Int) (hown : Own w base A c l) (c' : Nat) :
    (Builtin.append_ #[22, 22] ty #[.slice A l.length c, .slice none 0 c']).run Tryd.prog w = .ok (.slice A l.length c) w := by
  obtain ⟨i, hi, hz0, hz1, hz2⟩ := info_parts info39
  rcases hown.2 with ⟨h1, h2⟩ | ⟨g, cap, cur, h1, _, _, hnc, _⟩
  · rw [h1]
    simp [Builtin.append_, run_underlying Tryd.underlying22, sizeOf, typeInfo, hi, Builtin.lenOf, Builtin.firstCells]
  · rw [h1]
    simp [Builtin.append_, run_underlying Tryd.underlying22, sizeOf, typeInfo, hi, Builtin.lenOf, Builtin.firstCells, hnc, storeCells]

theorem run_app (base : Nat) (ty : TypeId) (A : Option Addr) (c : Nat) (l : List Int) (hown : Own w base A c l) (B : Nat) (A' : Option Addr) (c' : Nat) (m : List Int) (hr : Nums w B A' c' m)
    (hlen : l.length + m.length ≤ 4000000) (hbase : base ≤ w.heap.size) :
    ∃ A2 c2 w', (Builtin.append_ #[22, 22] ty #[.slice A l.length c, .slice A' m.length c']).run Tryd.prog w = .ok (.slice A2 (l ++ m).length c2) w' ∧ Own w' base A2 c2 (l ++ m) ∧
      w.grownBy w' (Value.slice A l.length c).ownBlock ∧ ((Value.slice A2 (l ++ m).length c2).ownBlock = (Value.slice A l.length c).ownBlock ∨ (Value.slice A2 (l ++ m).length c2).ownBlock = some w.heap.size) := by
  obtain ⟨i, hi, hz0, hz1, hz2⟩ := info_parts info39
  rcases A' with _ | ad
  · have hm : m = [] := by
      rcases Nat.eq_zero_or_pos m.length with h0 | h0
      · exact List.eq_nil_of_length_eq_zero h0
      · obtain ⟨ad, h, _⟩ := hr.2.2 h0
        cases h
    subst hm
    refine ⟨A, c, w, ?_, by simpa using hown, World.grownBy.refl w _, .inl (by simp)⟩
    simpa using run_app_nil w base ty A c l hown c'
  · have hcells : ∀ j u, (L m)[j]? = some u → w.cell? (ad.add j) = some u := by
      intro j u hu
      rcases Nat.lt_or_ge j m.length with h | h
      · rw [L_get h] at hu
        rw [← hu]; exact hr.at_some h
      · rw [List.getElem?_eq_none (by rw [L_length]; exact h)] at hu; cases hu
    obtain ⟨v', w', hrun, h2, h3, _, h5⟩ := run_append_own_at (P := Tryd.prog) w base 22 ty 39 i (.int .u64 0) 1 8 Tryd.underlying22 hi hz0 hz1 hz2 rfl (by decide) _ _ _ hown ad m.length c' (L m) (by rw [L_length]; omega) hcells (L_one m) (by unfold maxLen; omega) (by omega) hbase
    have h2' := h2
    obtain ⟨g, cap, hv⟩ : ∃ g cap, v' = .slice g (l ++ m).length cap := by
      rcases h2'.2 with ⟨e, h0⟩ | ⟨g, cap, cur, e, _⟩
      · exact ⟨none, 0, by rw [e, List.length_append, h0]⟩
      · exact ⟨_, cap, by rw [e, List.length_append]⟩
    subst hv
    refine ⟨g, cap, w', hrun, ?_, h3, h5⟩
    unfold Own
    rw [List.length_append] at h2 ⊢
    have e : L (l ++ m) = L l ++ L m := by simp [L]
    rw [e]; exact h2

theorem wp_app {o : Oper} {a : Act} {K : Act → World → Prop} {Q : Exit → Act → World → Prop} (s x : Operand)
    (ho : o.op = .call { callee := .builtin .append, args := #[s, x], argTypes := #[22, 22] })
    (base : Nat) (A : Option Addr) (c : Nat) (l : List Int) (hs : a.eval s = .slice A l.length c) (hown : Own w base A c l) (B : Nat) (A' : Option Addr) (c' : Nat) (m : List Int) (hx : a.eval x = .slice A' m.length c') (hr : Nums w B A' c' m)
    (hlen : l.length + m.length ≤ 4000000) (hbase : base ≤ w.heap.size)
    (h : ∀ A2 c2 w', Own w' base A2 c2 (l ++ m) → w.grownBy w' (Value.slice A l.length c).ownBlock → ((Value.slice A2 (l ++ m).length c2).ownBlock = (Value.slice A l.length c).ownBlock ∨ (Value.slice A2 (l ++ m).length c2).ownBlock = some w.heap.size) → K (a.put o.dst (.slice A2 (l ++ m).length c2)) w') : o.wp Tryd.prog a w K Q := by
  obtain ⟨A2, c2, w', hrun, h2, h3, h4⟩ := run_app w base o.type A c l hown B A' c' m hr hlen hbase
  unfold Oper.wp execOp
  simp only [ho, resolve, invoke, builtin, Sem.run_bind, Sem.run_pure, Result.andThen_ok, List.map_toArray, List.map_cons, List.map_nil, hs, hx, hrun]
  exact h A2 c2 w' h2 h3 h4

theorem wpList_app {ops : Array Oper} {rest : List Oper} {o : Oper} {a : Act} {Q : Exit → Act → World → Prop} (hgd : o.guard = none) (s x : Operand)
    (ho : o.op = .call { callee := .builtin .append, args := #[s, x], argTypes := #[22, 22] })
    (base : Nat) (A : Option Addr) (c : Nat) (l : List Int) (hs : a.eval s = .slice A l.length c) (hown : Own w base A c l) (B : Nat) (A' : Option Addr) (c' : Nat) (m : List Int) (hx : a.eval x = .slice A' m.length c') (hr : Nums w B A' c' m)
    (hlen : l.length + m.length ≤ 4000000) (hbase : base ≤ w.heap.size)
    (h : ∀ A2 c2 w', Own w' base A2 c2 (l ++ m) → w.grownBy w' (Value.slice A l.length c).ownBlock → ((Value.slice A2 (l ++ m).length c2).ownBlock = (Value.slice A l.length c).ownBlock ∨ (Value.slice A2 (l ++ m).length c2).ownBlock = some w.heap.size) → wpList Tryd.prog ops Q rest (a.put o.dst (.slice A2 (l ++ m).length c2)) w') : wpList Tryd.prog ops Q (o :: rest) a w :=
  wpList_plain hgd fun _ hK => wp_app w s x ho base A c l hs hown B A' c' m hx hr hlen hbase fun A2 c2 w' h2 h3 h4 => hK _ _ (h A2 c2 w' h2 h3 h4)

theorem step_app {ops : Array Oper} {o : Oper} {a : Act} {K : Act → World → Prop} {Q : Exit → Act → World → Prop} {E : Prop} (hgd : o.guard = none) (s x : Operand)
    (ho : o.op = .call { callee := .builtin .append, args := #[s, x], argTypes := #[22, 22] })
    (base : Nat) (A : Option Addr) (c : Nat) (l : List Int) (hs : a.eval s = .slice A l.length c) (hown : Own w base A c l) (B : Nat) (A' : Option Addr) (c' : Nat) (m : List Int) (hx : a.eval x = .slice A' m.length c') (hr : Nums w B A' c' m)
    (hlen : l.length + m.length ≤ 4000000) (hbase : base ≤ w.heap.size)
    (h : ∀ A2 c2 w', Own w' base A2 c2 (l ++ m) → w.grownBy w' (Value.slice A l.length c).ownBlock → ((Value.slice A2 (l ++ m).length c2).ownBlock = (Value.slice A l.length c).ownBlock ∨ (Value.slice A2 (l ++ m).length c2).ownBlock = some w.heap.size) → K (a.put o.dst (.slice A2 (l ++ m).length c2)) w') :
    if Region.wanted o (yielded ops a.tmps) = true then Oper.wp Tryd.prog o a w K Q else E := by
  have hw : Region.wanted o (yielded ops a.tmps) = true := by simp [Region.wanted, hgd]
  rw [if_pos hw]
  exact wp_app w s x ho base A c l hs hown B A' c' m hx hr hlen hbase h
end

/-- what 'make' lays -/
theorem made_L (n : Nat) : madeCells #[Value.int .u64 0] n = (L (List.replicate n 0)).toArray := by
  apply Array.ext'
  rw [toList_madeCells_one]
  simp [L]
theorem run_make (n : Nat) (hn : n ≤ 4000000) (w : World) :
    (Instr.makeSlice 22 (.int .i64 (n : Int)) (.int .i64 (n : Int))).run Tryd.prog w = .ok (.slice (some ⟨w.heap.size, 0, none⟩) n n) (w.alloc (.cells (L (List.replicate n 0)).toArray 39)) := by
  obtain ⟨i, hi, hz0, hz1, hz2⟩ := info_parts info39
  have hr := Go.run_make (P := Tryd.prog) w 22 39 i (.int .u64 0) Tryd.underlying22 hi hz0 .i64 .i64 n n (by omega) (by omega) (by rw [hz2]; omega) (by omega)
  simp only [Int.toNat_natCast, hz1, Nat.mul_one] at hr
  rw [show (Value.int IntKind.u64 0).cells = #[Value.int .u64 0] from rfl, made_L] at hr
  exact hr

/-- a new block behind an append of the call's own -/
theorem below_app {w w0 w' : World} {B : Nat} {A : Option Addr} {c : Nat} {l : List Int} (hb : Below B w0 w) (hown : Own w B A c l) (hg : w.grownBy w' (Value.slice A l.length c).ownBlock) (hB : B ≤ w.heap.size) : Below B w0 w' :=
  hb.grown hg hB fun k hk => (World.ownsRow.lt hown k hk).1
end Go.Proofs.YtigphbjgodfhpaaDoor
