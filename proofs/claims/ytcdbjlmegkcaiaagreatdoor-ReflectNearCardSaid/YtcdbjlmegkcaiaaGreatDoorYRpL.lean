/-
  Layer 9: lists of exact numbers of the call's own; the law's exact.
-/
import Derived.Test.YtcdbjlmegkcaiaaGreatDoorYDyNF
import Derived.Test.YtcdbjlmegkcaiaaGreatDoorYRpJ
namespace Go.Proofs.YtcdbjlmegkcaiaaGreatDoor
open Go Go.RowKit Go.Bw
set_option linter.unusedVariables false
set_option linter.unusedSimpArgs false
def DC (e : De) : List Value := [.bool e.b, .slice e.A e.l.length e.c, .int .i64 e.x]
def LD (es : List De) : List Value := es.flatMap DC
theorem LD_length (es : List De) : (LD es).length = es.length * 3 := by
  induction es with
  | nil => rfl
  | cons e es ih => show (DC e ++ LD es).length = _; rw [List.length_append, ih, List.length_cons]; show 3 + _ = _; omega
theorem LD_append (es fs : List De) : LD (es ++ fs) = LD es ++ LD fs := by unfold LD; rw [List.flatMap_append]
theorem LD_get {es : List De} {i : Nat} {e : De} (h : es[i]? = some e) : (LD es)[i * 3]? = some (.bool e.b) ∧ (LD es)[i * 3 + 1]? = some (.slice e.A e.l.length e.c) ∧ (LD es)[i * 3 + 2]? = some (.int .i64 e.x) := by
  induction es generalizing i with
  | nil => simp at h
  | cons a es ih =>
    rcases i with _ | i
    · simp at h
      subst h
      exact ⟨rfl, rfl, rfl⟩
    · have h2 : es[i]? = some e := by simpa using h
      obtain ⟨a1, a2, a3⟩ := ih h2
      have e3 : ∀ k, (LD (a :: es))[k + 3]? = (LD es)[k]? := fun k => by
        show (DC a ++ LD es)[k + 3]? = _
        rw [List.getElem?_append_right (by show 3 ≤ _; omega)]
        congr 1
      rw [show (i + 1) * 3 = i * 3 + 3 by omega, show i * 3 + 3 + 1 = i * 3 + 1 + 3 by omega, show i * 3 + 3 + 2 = i * 3 + 2 + 3 by omega, e3, e3, e3]
      exact ⟨a1, a2, a3⟩
theorem LD_one (es : List De) : ∀ u ∈ LD es, u.oneCell' = true := by
  intro u hu
  unfold LD at hu
  rw [List.mem_flatMap] at hu
  obtain ⟨e, _, he⟩ := hu
  simp only [DC, List.mem_cons, List.not_mem_nil, or_false] at he
  rcases he with rfl | rfl | rfl <;> rfl
theorem LD_set {es : List De} (e : De) (h : 0 < es.length) : LD (es.set 0 e) = (((LD es).set 0 (.bool e.b)).set 1 (.slice e.A e.l.length e.c)).set 2 (.int .i64 e.x) := by
  rcases es with _ | ⟨a, es⟩
  · simp at h
  · rfl
/-- a list of numbers of the call's own, as cells -/
def OwnD (w : World) (base : Nat) (A : Option Addr) (c : Nat) (es : List De) : Prop := w.ownsRow base 40 3 (.slice A es.length c) es.length (LD es)
section
variable {w w' : World} {B B' c : Nat} {A : Option Addr} {es : List De}
theorem OwnD.nil (w : World) (B : Nat) : OwnD w B none 0 [] := World.ownsRow_nil w B _ 3
theorem OwnD.below (h : OwnD w B A c es) (hb : Below w.heap.size w w') : OwnD w' B A c es := by
  rcases h with ⟨h1, h2⟩
  refine ⟨h1, h2.imp id fun ⟨g, cap, cur, hv, hg, hh, r⟩ => ⟨g, cap, cur, hv, hg, (hb.block g (lt_of_block hh)).trans hh, r⟩⟩
theorem OwnD.less (h : OwnD w B A c es) (hB : B' ≤ B) : OwnD w B' A c es := by
  rcases h with ⟨h1, h2⟩
  exact ⟨h1, h2.imp id fun ⟨g, cap, cur, hv, hg, r⟩ => ⟨g, cap, cur, hv, by omega, r⟩⟩
theorem OwnD.form (h : OwnD w B A c es) (hn : 0 < es.length) : ∃ g, A = some ⟨g, 0, none⟩ ∧ B ≤ g ∧ g < w.heap.size := by
  obtain ⟨g, cap, hv, hg, hlt⟩ := World.ownsRow.form h hn
  injection hv with hA
  exact ⟨g, hA, hg, hlt⟩
theorem OwnD.cell {g i : Nat} {e : De} (h : OwnD w B (some ⟨g, 0, none⟩) c es) (hi : es[i]? = some e) : w.cell? ⟨g, i * 3, none⟩ = some (.bool e.b) ∧ w.cell? ⟨g, i * 3 + 1, none⟩ = some (.slice e.A e.l.length e.c) ∧ w.cell? ⟨g, i * 3 + 2, none⟩ = some (.int .i64 e.x) := by
  have hl : i < es.length := by
    rcases Nat.lt_or_ge i es.length with h | h
    · exact h
    · rw [List.getElem?_eq_none h] at hi; cases hi
  obtain ⟨a1, a2, a3⟩ := LD_get hi
  exact ⟨(World.ownsRow.cellAt h _ (by omega)).trans a1, (World.ownsRow.cellAt h _ (by omega)).trans a2, (World.ownsRow.cellAt h _ (by omega)).trans a3⟩
theorem OwnD.free {g : Nat} (h : OwnD w B (some ⟨g, 0, none⟩) c es) (k : Nat) : w.frozen? ⟨g, k, none⟩ = false := World.ownsRow.frozenAt h k
theorem OwnD.le (h : OwnD w B A c es) : es.length ≤ 9223372036854775807 ∧ es.length ≤ c ∧ c ≤ 9223372036854775807 := by
  rcases h.2 with ⟨h1, h2⟩ | ⟨g, cap, cur, hv, _, _, h3, h4, _⟩
  · injection h1 with _ _ h1; omega
  · injection hv with _ _ h1; unfold maxLen at h4; omega
theorem OwnD.dl (h : OwnD w B A c es) (hl : ∀ e ∈ es, Lv w e.A e.l.length e.c e.l ∧ -9223372036854775808 ≤ e.x ∧ e.x ≤ 9223372036854775807) : Dl w A es.length c es := by
  refine ⟨rfl, h.le.1, hl, fun hn => ?_⟩
  obtain ⟨g, rfl, hg, hlt⟩ := h.form (by omega)
  refine ⟨_, rfl, hlt, fun i e hi => ?_⟩
  obtain ⟨a1, a2, a3⟩ := h.cell hi
  rw [add_at, add_at, add_at, Nat.zero_add, Nat.zero_add, Nat.zero_add]
  exact ⟨a1, a2, a3⟩
theorem OwnD.set0 {g : Nat} (h : OwnD w B (some ⟨g, 0, none⟩) c es) (e : De) (hn : 0 < es.length) :
    OwnD (((w.setCell ⟨g, 0, none⟩ (.bool e.b)).setCell ⟨g, 1, none⟩ (.slice e.A e.l.length e.c)).setCell ⟨g, 2, none⟩ (.int .i64 e.x)) B (some ⟨g, 0, none⟩) c (es.set 0 e) := by
  unfold OwnD
  rw [List.length_set, LD_set e hn]
  exact (World.ownsRow.stored (World.ownsRow.stored (World.ownsRow.stored h 0 _).1 1 _).1 2 _).1
/-- a number's limbs stay where a cell that is no limb is set -/
theorem Lv.setC {A : Option Addr} {n c : Nat} {l : List Int} {p : Addr} {u v : Value} (h : Lv w A n c l) (hp : w.cell? p = some v) (hv : ∀ x, v ≠ .int .u64 x) : Lv (w.setCell p u) A n c l := by
  refine ⟨h.1, ⟨h.2.1.1, h.2.1.2.1, fun hn => ?_⟩, h.2.2⟩
  obtain ⟨ad, e, hb, hc⟩ := h.2.1.2.2 hn
  refine ⟨ad, e, by simpa using hb, fun k hk => ?_⟩
  have q := hc k hk
  refine (World.cell?_setCell_other _ _ _ _ (fun e2 => ?_)).trans q
  rw [← e2] at q
  rw [q] at hp
  injection hp with hp
  exact hv _ hp.symm
end
theorem infoD : (Tryz.prog.info? 40).map (fun i => (i.zero, i.size, i.bytes)) = some (some (.agg #[.bool false, .slice none 0 0, .int .i64 0]), 3, 40) := by kernel_rfl
/-- no limb lies in the list's block -/
def RD (w : World) (A : Option Addr) : Prop := ∀ g, A = some ⟨g, 0, none⟩ → ∃ vs, Blk w g vs ∧ NoU vs
theorem RD.none (w : World) : RD w none := fun g h => by cases h
theorem RD.on {w w' : World} {A : Option Addr} (h : RD w A) (hb : Below w.heap.size w w') : RD w' A := fun g e => by
  obtain ⟨vs, h1, h2⟩ := h g e
  exact ⟨vs, h1.on hb, h2⟩
theorem noU_mem {vs : List Value} (h : ∀ u ∈ vs, ∀ y, u ≠ .int .u64 y) : NoU vs := fun i y e => by
  have := List.mem_of_getElem? e
  exact h _ this y rfl
theorem noU_all {vs : List Value} (h : NoU vs) : ∀ u ∈ vs, ∀ y, u ≠ .int .u64 y := fun u hu y e => by
  obtain ⟨i, hi⟩ := List.getElem?_of_mem hu
  rw [e] at hi
  exact h i y hi
theorem noU_app {a b : List Value} (h : NoU a) (k : NoU b) : NoU (a ++ b) := noU_mem fun u hu y => by
  rcases List.mem_append.1 hu with q | q
  · exact noU_all h u q y
  · exact noU_all k u q y
theorem noU_take {a : List Value} (h : NoU a) (n : Nat) : NoU (a.take n) := noU_mem fun u hu y => noU_all h u (List.mem_of_mem_take hu) y
theorem noU_drop {a : List Value} (h : NoU a) (n : Nat) : NoU (a.drop n) := noU_mem fun u hu y => noU_all h u (List.mem_of_mem_drop hu) y
theorem noU_LD (es : List De) : NoU (LD es) := noU_mem fun u hu y => by
  unfold LD at hu
  rw [List.mem_flatMap] at hu
  obtain ⟨e, _, he⟩ := hu
  simp only [DC, List.mem_cons, List.not_mem_nil, or_false] at he
  rcases he with rfl | rfl | rfl <;> (intro h; cases h)
theorem noU_zeros (n : Nat) : NoU (Builtin.zeroCells #[.bool false, .slice none 0 0, .int .i64 0] n).toList := noU_mem fun u hu y => by
  unfold Builtin.zeroCells at hu
  simp only [Array.toList_map, List.mem_map] at hu
  obtain ⟨i, _, rfl⟩ := hu
  have h3 : i % (#[Value.bool false, .slice none 0 0, .int .i64 0] : Array Value).size < 3 := Nat.mod_lt _ (by decide)
  generalize i % (#[Value.bool false, .slice none 0 0, .int .i64 0] : Array Value).size = k at h3
  rcases k with _ | _ | _ | k
  · intro h; cases h
  · intro h; cases h
  · intro h; cases h
  · omega
/-- a number's limbs stay where such a list grows -/
theorem Lv.grownD {w w' : World} {A G : Option Addr} {n c k cap : Nat} {l : List Int} (h : Lv w A n c l) (hr : RD w G) (hG : ∀ ad, G = some ad → ∃ g, ad = ⟨g, 0, Option.none⟩) (hg : w.grownBy w' (Value.slice G k cap).ownBlock) : Lv w' A n c l := by
  refine ⟨h.1, ⟨h.2.1.1, h.2.1.2.1, fun hn => ?_⟩, h.2.2⟩
  obtain ⟨ad, e, hb, hc⟩ := h.2.1.2.2 hn
  refine ⟨ad, e, Nat.lt_of_lt_of_le hb hg.size, fun j hj => ?_⟩
  refine (World.grownBy.cell_far hg _ (by rw [add_block]; exact hb) (fun e2 => ?_)).trans (hc j hj)
  rcases G with _ | q
  · cases e2
  · obtain ⟨g, rfl⟩ := hG q rfl
    obtain ⟨vs, h1, h2⟩ := hr g rfl
    exact h1.not h2 (hc j hj) (by simpa [Value.ownBlock] using e2)
set_option maxRecDepth 100000 in
/-- one number behind the others -/
theorem run_appD (w : World) (base : Nat) (ty : TypeId) (A : Option Addr) (c : Nat) (es : List De) (hown : OwnD w base A c es) (hRD : RD w A) (a : Addr) (c' : Nat) (e : De)
    (h0 : w.cell? a = some (.bool e.b)) (h1 : w.cell? (a.add 1) = some (.slice e.A e.l.length e.c)) (h2 : w.cell? (a.add 2) = some (.int .i64 e.x)) (hlen : es.length ≤ 1000) (hbase : base ≤ w.heap.size) :
    ∃ A2 c2 w', (Builtin.append_ #[35, 35] ty #[.slice A es.length c, .slice (some a) 1 c']).run Tryz.prog w = .ok (.slice A2 (es.length + 1) c2) w' ∧ OwnD w' base A2 c2 (es ++ [e]) ∧
      w.grownBy w' (Value.slice A es.length c).ownBlock ∧ RD w' A2 := by
  obtain ⟨i, hi, hz0, hz1, hz2⟩ := info_parts infoD
  have hcells : ∀ j u, (DC e)[j]? = some u → w.cell? (a.add j) = some u := by
    intro j u hu
    rcases j with _ | _ | _ | j
    · obtain rfl := Option.some.inj hu; exact h0
    · obtain rfl := Option.some.inj hu; exact h1
    · obtain rfl := Option.some.inj hu; exact h2
    · cases hu
  have one1 : ∀ u ∈ DC e, u.oneCell' = true := fun u hu => LD_one [e] u (by unfold LD; simpa using hu)
  have nd : NoU (DC e) := by have := noU_LD [e]; rwa [show LD [e] = DC e by unfold LD; simp] at this
  obtain ⟨v', w', hrun, k2, k3, _, _⟩ := run_append_own_at (P := Tryz.prog) w base 35 ty 40 i _ 3 40 Tryz.underlying35 hi hz0 hz1 hz2 rfl (by decide) _ _ _ hown a 1 c' (DC e) rfl hcells
    one1 (by unfold maxLen; omega) (by omega) hbase
  have alloc2 : ∀ (cs : Array Value) (T : TypeId), NoU cs.toList → RD (w.drew.alloc (.cells cs T)) (some ⟨w.heap.size, 0, none⟩) := fun cs T h g e => by
    obtain rfl : w.heap.size = g := by injection e with e; injection e
    exact ⟨cs.toList, by have := Blk.new w.drew cs.toList T; simpa using this, h⟩
  have hRD' : ∀ A2 n2 c2, v' = .slice A2 n2 c2 → RD w' A2 := by
    intro A2 n2 c2 hv2
    rcases hown.2 with ⟨e9, e8⟩ | ⟨g, cap, cur, e9, hbg, hg, hnc, hcm, hcs, htk⟩
    · injection e9 with q1 q2 q3
      subst q1; subst q3
      have hr := run_append_nil (P := Tryz.prog) w 35 ty 40 i _ Tryz.underlying35 hi hz0 a 1 c' (DC e) (by rw [hz1]; rfl) hcells (by omega) (by omega) (by rw [hz2]; omega)
      rw [e8] at hrun
      rw [hr] at hrun
      injection hrun with r1 r2
      rw [← r1] at hv2
      injection hv2 with s1 _ _
      rw [← r2, ← s1]
      refine alloc2 _ _ ?_
      rw [Array.toList_append]
      exact noU_app nd (noU_zeros _)
    · injection e9 with q1 q2 q3
      subst q1; subst q3
      obtain ⟨vs, ⟨T, hvs⟩, hnu⟩ := hRD g rfl
      rw [hg] at hvs
      have ecur : cur.toList = vs := by
        injection hvs with hvs
        injection hvs with hvs _ _
        rw [hvs]
      by_cases room : es.length + 1 ≤ c
      · have hr := run_append_room (P := Tryz.prog) w 35 ty 40 i Tryz.underlying35 hi g es.length c cur hg a 1 c' (DC e) (by rw [hz1]; rfl) hcells one1 room (by rw [hz1, hcs]; show es.length * 3 + 3 ≤ c * 3; omega)
        rw [hr] at hrun
        injection hrun with r1 r2
        rw [← r1] at hv2
        injection hv2 with s1 _ _
        rw [← r2, ← s1]
        intro g2 e2
        obtain rfl : g = g2 := by injection e2 with e2; injection e2
        refine ⟨_, ⟨_, setRow_heap w g cur _ _ _ hg⟩, ?_⟩
        rw [ecur]
        exact noU_app (noU_app (noU_take hnu _) nd) (noU_drop hnu _)
      · have hr := run_append_grow (P := Tryz.prog) w 35 ty 40 i _ Tryz.underlying35 hi hz0 ⟨g, 0, none⟩ es.length c (LD es) (by rw [hz1]; exact hown.1) (World.ownsRow.cells hown (g := g) rfl) a 1 c' (DC e) (by rw [hz1]; rfl) hcells (by omega) (by omega) (growslice_fits (by omega) (by rw [hz2]; omega))
        rw [hr] at hrun
        injection hrun with r1 r2
        rw [← r1] at hv2
        injection hv2 with s1 _ _
        rw [← r2, ← s1]
        refine alloc2 _ _ ?_
        rw [Array.toList_append, Array.toList_append]
        exact noU_app (noU_app (noU_LD es) nd) (noU_zeros _)
  obtain ⟨g, cap, hv⟩ : ∃ g cap, v' = .slice g (es.length + 1) cap := by
    rcases k2.2 with ⟨e9, h9⟩ | ⟨g, cap, cur, e9, _⟩
    · omega
    · exact ⟨_, cap, e9⟩
  subst hv
  refine ⟨g, cap, w', hrun, ?_, k3, hRD' _ _ _ rfl⟩
  unfold OwnD
  rw [List.length_append, LD_append, show LD [e] = DC e by unfold LD; simp]
  exact k2
theorem wpList_appD (w : World) {ops : Array Oper} {rest : List Oper} {o : Oper} {a : Act} {Q : Exit → Act → World → Prop} (hgd : o.guard = none) (s x : Operand)
    (ho : o.op = .call { callee := .builtin .append, args := #[s, x], argTypes := #[35, 35] })
    (base : Nat) (A : Option Addr) (c : Nat) (es : List De) (n : Nat) (hn : es.length = n) (hs : a.eval s = .slice A n c) (hown : OwnD w base A c es) (hRD : RD w A) (ad : Addr) (c' : Nat) (e : De) (hx : a.eval x = .slice (some ad) 1 c')
    (h0 : w.cell? ad = some (.bool e.b)) (h1 : w.cell? (ad.add 1) = some (.slice e.A e.l.length e.c)) (h2 : w.cell? (ad.add 2) = some (.int .i64 e.x)) (hlen : n ≤ 1000) (hbase : base ≤ w.heap.size)
    (h : ∀ A2 c2 w', OwnD w' base A2 c2 (es ++ [e]) → RD w' A2 → w.grownBy w' (Value.slice A n c).ownBlock → wpList Tryz.prog ops Q rest (a.put o.dst (.slice A2 (n + 1) c2)) w') : wpList Tryz.prog ops Q (o :: rest) a w := by
  subst hn
  refine wpList_plain hgd fun _ hK => ?_
  obtain ⟨A2, c2, w', hrun, k2, k3, k4⟩ := run_appD w base o.type A c es hown hRD ad c' e h0 h1 h2 hlen hbase
  unfold Oper.wp execOp
  simp only [ho, resolve, invoke, builtin, Sem.run_bind, Sem.run_pure, Result.andThen_ok, List.map_toArray, List.map_cons, List.map_nil, hs, hx, hrun]
  exact hK _ _ (h A2 c2 w' k2 k4 k3)
theorem below_appD {w w0 w' : World} {B n : Nat} {A : Option Addr} {c : Nat} {es : List De} (hn : es.length = n) (hb : Below B w0 w) (hown : OwnD w B A c es) (hg : w.grownBy w' (Value.slice A n c).ownBlock) (hB : B ≤ w.heap.size) : Below B w0 w' := by
  subst hn
  exact hb.grown hg hB fun k hk => (World.ownsRow.lt hown k hk).1
end Go.Proofs.YtcdbjlmegkcaiaaGreatDoor
