/-
  Layer 10: lists of reflections of the call's own, as cells; one is put behind the others.
-/
import Derived.Test.YtbaeabmmokgomaaMJRfF
namespace Go.Proofs.Ytbaeabmmokgomaa
open Go Go.RowKit Go.Bw
set_option linter.unusedVariables false
set_option linter.unusedSimpArgs false
def RC (e : Re) : List Value := [.slice e.A e.l.length e.c, .float .f64 e.t]
def LR (es : List Re) : List Value := es.flatMap RC
theorem LR_length (es : List Re) : (LR es).length = es.length * 2 := by
  induction es with
  | nil => rfl
  | cons e es ih => show (RC e ++ LR es).length = _; rw [List.length_append, ih, List.length_cons]; show 2 + _ = _; omega
theorem LR_append (es fs : List Re) : LR (es ++ fs) = LR es ++ LR fs := by unfold LR; rw [List.flatMap_append]
theorem LR_get {es : List Re} {i : Nat} {e : Re} (h : es[i]? = some e) : (LR es)[i * 2]? = some (.slice e.A e.l.length e.c) ∧ (LR es)[i * 2 + 1]? = some (.float .f64 e.t) := by
  induction es generalizing i with
  | nil => simp at h
  | cons a es ih =>
    rcases i with _ | i
    · simp at h
      subst h
      exact ⟨rfl, rfl⟩
    · have h2 : es[i]? = some e := by simpa using h
      obtain ⟨a1, a2⟩ := ih h2
      have e3 : ∀ k, (LR (a :: es))[k + 2]? = (LR es)[k]? := fun k => by
        show (RC a ++ LR es)[k + 2]? = _
        rw [List.getElem?_append_right (by show 2 ≤ _; omega)]
        congr 1
      rw [show (i + 1) * 2 = i * 2 + 2 by omega, show i * 2 + 2 + 1 = i * 2 + 1 + 2 by omega, e3, e3]
      exact ⟨a1, a2⟩
theorem LR_one (es : List Re) : ∀ u ∈ LR es, u.oneCell' = true := by
  intro u hu
  unfold LR at hu
  rw [List.mem_flatMap] at hu
  obtain ⟨e, _, he⟩ := hu
  simp only [RC, List.mem_cons, List.not_mem_nil, or_false] at he
  rcases he with rfl | rfl <;> rfl
/-- a list of reflections of the call's own -/
def OwnR (w : World) (base : Nat) (A : Option Addr) (c : Nat) (es : List Re) : Prop := w.ownsRow base 51 2 (.slice A es.length c) es.length (LR es)
section
variable {w w' : World} {B B' c : Nat} {A : Option Addr} {es : List Re}
theorem OwnR.nil (w : World) (B : Nat) : OwnR w B none 0 [] := World.ownsRow_nil w B _ 2
theorem OwnR.below (h : OwnR w B A c es) (hb : Below w.heap.size w w') : OwnR w' B A c es := by
  rcases h with ⟨h1, h2⟩
  refine ⟨h1, h2.imp id fun ⟨g, cap, cur, hv, hg, hh, r⟩ => ⟨g, cap, cur, hv, hg, (hb.block g (lt_of_block hh)).trans hh, r⟩⟩
theorem OwnR.less (h : OwnR w B A c es) (hB : B' ≤ B) : OwnR w B' A c es := by
  rcases h with ⟨h1, h2⟩
  exact ⟨h1, h2.imp id fun ⟨g, cap, cur, hv, hg, r⟩ => ⟨g, cap, cur, hv, by omega, r⟩⟩
theorem OwnR.form (h : OwnR w B A c es) (hn : 0 < es.length) : ∃ g, A = some ⟨g, 0, none⟩ ∧ B ≤ g ∧ g < w.heap.size := by
  obtain ⟨g, cap, hv, hg, hlt⟩ := World.ownsRow.form h hn
  injection hv with hA
  exact ⟨g, hA, hg, hlt⟩
theorem OwnR.gt (h : OwnR w B A c es) {ad : Addr} (e : A = some ad) : B ≤ ad.block ∧ ad.block < w.heap.size := World.ownsRow.lt h ad.block (by rw [e]; rfl)
theorem OwnR.grown_ {row : Option Nat} (h : OwnR w B A c es) (hg : w.grownBy w' row) (hA : ∀ a, A = some a → some a.block ≠ row) : OwnR w' B A c es := by
  rcases h with ⟨h1, h2⟩
  refine ⟨h1, h2.imp id fun ⟨g, cap, cur, hv, hB, hh, r⟩ => ⟨g, cap, cur, hv, hB, (hg.block g (lt_of_block hh) (hA ⟨g, 0, none⟩ (by injection hv))).trans hh, r⟩⟩
theorem OwnR.cell {g i : Nat} {e : Re} (h : OwnR w B (some ⟨g, 0, none⟩) c es) (hi : es[i]? = some e) : w.cell? ⟨g, i * 2, none⟩ = some (.slice e.A e.l.length e.c) ∧ w.cell? ⟨g, i * 2 + 1, none⟩ = some (.float .f64 e.t) := by
  have hl : i < es.length := by
    rcases Nat.lt_or_ge i es.length with h | h
    · exact h
    · rw [List.getElem?_eq_none h] at hi; cases hi
  obtain ⟨a1, a2⟩ := LR_get hi
  exact ⟨(World.ownsRow.cellAt h _ (by omega)).trans a1, (World.ownsRow.cellAt h _ (by omega)).trans a2⟩
theorem OwnR.le (h : OwnR w B A c es) : es.length ≤ 9223372036854775807 ∧ es.length ≤ c ∧ c ≤ 9223372036854775807 := by
  rcases h.2 with ⟨h1, h2⟩ | ⟨g, cap, cur, hv, _, _, h3, h4, _⟩
  · injection h1 with _ _ h1; omega
  · injection hv with _ _ h1; unfold maxLen at h4; omega
theorem OwnR.rl (h : OwnR w B A c es) (hl : ∀ e ∈ es, FL w e.A e.l.length e.c e.l ∧ e.t ≤ 18446744073709551615) : Rl w A es.length c es := by
  refine ⟨rfl, h.le.1, hl, fun hn => ?_⟩
  obtain ⟨g, rfl, hg, hlt⟩ := h.form (by omega)
  refine ⟨_, rfl, hlt, fun i e hi => ?_⟩
  obtain ⟨a1, a2⟩ := h.cell hi
  rw [add_at, add_at, Nat.zero_add, Nat.zero_add]
  exact ⟨a1, a2⟩
end
theorem infoR : (Try.prog.info? 51).map (fun i => (i.zero, i.size, i.bytes)) = some (some (.agg #[.slice none 0 0, .float .f64 0]), 2, 32) := by kernel_rfl
set_option maxRecDepth 100000 in
/-- one reflection behind the others -/
theorem run_appR (w : World) (base : Nat) (ty : TypeId) (A : Option Addr) (c : Nat) (es : List Re) (hown : OwnR w base A c es) (a : Addr) (c' : Nat) (e : Re)
    (h0 : w.cell? a = some (.slice e.A e.l.length e.c)) (h1 : w.cell? (a.add 1) = some (.float .f64 e.t)) (hlen : es.length ≤ 1000) (hbase : base ≤ w.heap.size) :
    ∃ A2 c2 w', (Builtin.append_ #[29, 29] ty #[.slice A es.length c, .slice (some a) 1 c']).run Try.prog w = .ok (.slice A2 (es.length + 1) c2) w' ∧ OwnR w' base A2 c2 (es ++ [e]) ∧
      w.grownBy w' (Value.slice A es.length c).ownBlock ∧ ((Value.slice A2 (es.length + 1) c2).ownBlock = (Value.slice A es.length c).ownBlock ∨ (Value.slice A2 (es.length + 1) c2).ownBlock = some w.heap.size) := by
  obtain ⟨i, hi, hz0, hz1, hz2⟩ := info_parts infoR
  have hcells : ∀ j u, (RC e)[j]? = some u → w.cell? (a.add j) = some u := by
    intro j u hu
    rcases j with _ | _ | j
    · obtain rfl := Option.some.inj hu; exact h0
    · obtain rfl := Option.some.inj hu; exact h1
    · cases hu
  have one1 : ∀ u ∈ RC e, u.oneCell' = true := fun u hu => LR_one [e] u (by unfold LR; simpa using hu)
  obtain ⟨v', w', hrun, k2, k3, _, k5⟩ := run_append_own_at (P := Try.prog) w base 29 ty 51 i _ 2 32 Try.underlying29 hi hz0 hz1 hz2 rfl (by decide) _ _ _ hown a 1 c' (RC e) rfl hcells
    one1 (by unfold maxLen; omega) (by omega) hbase
  obtain ⟨g, cap, hv⟩ : ∃ g cap, v' = .slice g (es.length + 1) cap := by
    rcases k2.2 with ⟨e9, h9⟩ | ⟨g, cap, cur, e9, _⟩
    · omega
    · exact ⟨_, cap, e9⟩
  subst hv
  refine ⟨g, cap, w', hrun, ?_, k3, k5⟩
  unfold OwnR
  rw [List.length_append, LR_append, show LR [e] = RC e by unfold LR; simp]
  exact k2
theorem wpList_appR (w : World) {ops : Array Oper} {rest : List Oper} {o : Oper} {a : Act} {Q : Exit → Act → World → Prop} (hgd : o.guard = none) (s x : Operand)
    (ho : o.op = .call { callee := .builtin .append, args := #[s, x], argTypes := #[29, 29] })
    (base : Nat) (A : Option Addr) (c : Nat) (es : List Re) (n : Nat) (hn : es.length = n) (hs : a.eval s = .slice A n c) (hown : OwnR w base A c es) (ad : Addr) (c' : Nat) (e : Re) (hx : a.eval x = .slice (some ad) 1 c')
    (h0 : w.cell? ad = some (.slice e.A e.l.length e.c)) (h1 : w.cell? (ad.add 1) = some (.float .f64 e.t)) (hlen : n ≤ 1000) (hbase : base ≤ w.heap.size)
    (h : ∀ A2 c2 w', OwnR w' base A2 c2 (es ++ [e]) → w.grownBy w' (Value.slice A n c).ownBlock → ((Value.slice A2 (n + 1) c2).ownBlock = (Value.slice A n c).ownBlock ∨ (Value.slice A2 (n + 1) c2).ownBlock = some w.heap.size) → wpList Try.prog ops Q rest (a.put o.dst (.slice A2 (n + 1) c2)) w') : wpList Try.prog ops Q (o :: rest) a w := by
  subst hn
  refine wpList_plain hgd fun _ hK => ?_
  obtain ⟨A2, c2, w', hrun, k2, k3, k4⟩ := run_appR w base o.type A c es hown ad c' e h0 h1 hlen hbase
  unfold Oper.wp execOp
  simp only [ho, resolve, invoke, builtin, Sem.run_bind, Sem.run_pure, Result.andThen_ok, List.map_toArray, List.map_cons, List.map_nil, hs, hx, hrun]
  exact hK _ _ (h A2 c2 w' k2 k3 k4)
end Go.Proofs.Ytbaeabmmokgomaa
