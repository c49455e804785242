/-
  Layer 4, walks, part one: the tables of two classes, as maps. Layer 4, walks, part two: the tables are made. Layer 4, walks, part three: the tables of sums, products, quotients.
-/
import Derived.Test.YtfjellhbcjnjkaaGreatDoorSDyC
import Derived.Maps.Own
import Derived.Maps.OwnOps
import Derived.Maps.Views
import Derived.DeepKeys4
import Derived.Test.YtfjellhbcjnjkaaGreatDoorSgA
import Derived.RegionTactic
namespace Go.Proofs.YtfjellhbcjnjkaaGreatDoor
open Go.RowKit Go.Maps Go.WideMaps
set_option linter.unusedVariables false
set_option linter.unusedSimpArgs false

theorem kOut : laidOutB Tryz.prog = true := by kernel_rfl
theorem kRow : (109 : TypeId) < Tryz.prog.types.size := of_decide_eq_true (by kernel_rfl)
theorem kWide : (match Tryz.prog.underlying 109 with | some (.array _ _) | some (.struct _) => true | _ => false) = true := by rw [Tryz.underlying109]
set_option maxRecDepth 100000 in
theorem kLaw : Keyed Tryz.prog 109 := Keyed.of_law (deep_law_laid kOut (m := 2) (by omega) kRow (by kernel_rfl) kWide)
theorem kZero (w : World) : (zeroValue 107).run Tryz.prog w = .ok (.int .i64 0) w := by kernel_rfl
/-- two classes -/
def kV (x y : Int) : Value := .agg #[.int .i64 x, .int .i64 y]
noncomputable def kl (x y : Int) : Lit := (keyOf Tryz.prog 109 (kV x y)).getD (.int .i64 0)
/-- a class -/
def rng (x : Int) : Prop := 1 ≤ x ∧ x ≤ 5
theorem kSome : ∀ i j : Fin 5, (keyOf Tryz.prog 109 (kV ((i.val : Int) + 1) ((j.val : Int) + 1))).isSome = true := by
  intro i j
  rcases i with ⟨_ | _ | _ | _ | _ | i, hi⟩ <;> rcases j with ⟨_ | _ | _ | _ | _ | j, hj⟩ <;> first | omega | kernel_rfl
set_option maxRecDepth 100000 in
theorem kKey {x y : Int} (hx : rng x) (hy : rng y) : keyOf Tryz.prog 109 (kV x y) = some (kl x y) := by
  have h := kSome ⟨(x - 1).toNat, by have := hx.1; have := hx.2; omega⟩ ⟨(y - 1).toNat, by have := hy.1; have := hy.2; omega⟩
  have ex : (((x - 1).toNat : Nat) : Int) + 1 = x := by have := hx.1; omega
  have ey : (((y - 1).toNat : Nat) : Int) + 1 = y := by have := hy.1; omega
  simp only [ex, ey] at h
  unfold kl
  obtain ⟨z, hz⟩ := Option.isSome_iff_exists.1 h
  rw [hz]
  rfl
set_option maxRecDepth 100000 in
theorem kInj {x y x' y' : Int} (hx : rng x) (hy : rng y) (hx' : rng x') (hy' : rng y') (h : kl x y = kl x' y') : x = x' ∧ y = y' := by
  have e := kLaw.inj (kKey hx hy) (h ▸ kKey hx' hy')
  unfold kV at e
  simpa using e

/-- block B is a table: of each two classes what f says -/
def Mp (W : World) (B n : Nat) (f : Int → Int → Int) : Prop :=
  ∃ D : DataW Unit, W.ownsMap Tryz.prog 109 (plainElem Tryz.prog 107) B n D ∧ IsMap D ∧ ∀ x y, rng x → rng y → D.atKey (kl x y) (.lit (.int .i64 0)) = .lit (.int .i64 (f x y))
def updT (f : Int → Int → Int) (x y v : Int) : Int → Int → Int := fun a b => if a = x ∧ b = y then v else f a b
section
variable {W W' : World} {B n : Nat} {f : Int → Int → Int}
theorem Mp.lt (h : Mp W B n f) : B < W.heap.size := by obtain ⟨D, h, _⟩ := h; exact h.lt
theorem Mp.made (W : World) : Mp (W.alloc (.map #[] 0)) W.heap.size 0 (fun _ _ => 0) := ⟨.map [], World.ownsMap_made _ _ _ _, ⟨[], rfl⟩, fun _ _ _ _ => rfl⟩
theorem Mp.on (h : Mp W B n f) {C : Nat} (hb : Below C W W') (hB : B < C) : Mp W' B n f := by
  obtain ⟨D, ⟨es, clock, h1, h2, h3, h4⟩, h5, h6⟩ := h
  exact ⟨D, ⟨es, clock, (hb.block B hB).trans h1, h2, h3, h4⟩, h5, h6⟩
theorem Mp.drewN (h : Mp W B n f) (k : Nat) : Mp (W.drewN k) B n f := h
theorem Mp.congr {g : Int → Int → Int} (h : Mp W B n f) (hg : ∀ x y, rng x → rng y → f x y = g x y) : Mp W B n g := by
  obtain ⟨D, h1, h2, h3⟩ := h
  exact ⟨D, h1, h2, fun x y hx hy => by rw [← hg x y hx hy]; exact h3 x y hx hy⟩
theorem Mp.mono (h : Mp W B n f) {m : Nat} (hm : n ≤ m) : Mp W B m f := by
  obtain ⟨D, h1, h2, h3⟩ := h
  exact ⟨D, h1.mono hm, h2, h3⟩
set_option maxRecDepth 100000 in
theorem Mp.update (h : Mp W B n f) (hn : n < 1000) {x y v : Int} (hx : rng x) (hy : rng y) (hv : (Lit.int .i64 v).wf = true) :
    ∃ W', (Instr.mapUpdate 73 (.map (some B)) (kV x y) (.int .i64 v)).run Tryz.prog W = .ok () W' ∧ Mp W' B (n + 1) (updT f x y v) ∧ W.grownBy W' (some B) := by
  obtain ⟨D, h1, h2, h3⟩ := h
  obtain ⟨W', r1, r2, r3⟩ := h1.update kLaw Tryz.underlying73 (by unfold maxLen; omega) (kKey hx hy) (plainElem_int Tryz.underlying107 hv)
  refine ⟨W', r1, ⟨_, r2, ?_, fun a b ha hb => ?_⟩, r3⟩
  · obtain ⟨es, rfl⟩ := h2
    exact ⟨_, rfl⟩
  · unfold updT
    by_cases e : a = x ∧ b = y
    · obtain ⟨rfl, rfl⟩ := e
      rw [if_pos ⟨rfl, rfl⟩]
      exact atKey_put_same h2 (kLaw.key (kKey ha hb)) _ _
    · rw [if_neg e, atKey_put_other (fun e2 => e (kInj ha hb hx hy e2))]
      exact h3 a b ha hb
set_option maxRecDepth 100000 in
theorem Mp.look (h : Mp W B n f) {x y : Int} (hx : rng x) (hy : rng y) : (Instr.lookup 73 (.map (some B)) (kV x y) false).run Tryz.prog W = .ok (.int .i64 (f x y)) W := by
  obtain ⟨D, h1, h2, h3⟩ := h
  obtain ⟨c, r1, r2, r3⟩ := h1.lookup_int kLaw Tryz.underlying73 Tryz.underlying107 (kZero _) (kKey hx hy)
  rw [r1]
  have e : (DataW.lit (.int .i64 c) : DataW Unit) = .lit (.int .i64 (f x y)) := r2.symm.trans (h3 x y hx hy)
  have : c = f x y := by simpa using e
  rw [this]
end
theorem below_by {C B : Nat} {W w w' : World} (h : Below C W w) (hg : w.grownBy w' (some B)) (hB : C ≤ B) (hC : C ≤ w.heap.size) : Below C W w' :=
  ⟨hg.os.trans h.os, hg.tape.trans h.tape, hg.output.trans h.output, Nat.le_trans h.size hg.size, fun k hk => (hg.block k (by omega) (fun e => by cases e; omega)).trans (h.block k hk)⟩
theorem grown_trans {B : Nat} {w1 w2 w3 : World} (h : w1.grownBy w2 (some B)) (k : w2.grownBy w3 (some B)) : w1.grownBy w3 (some B) :=
  ⟨k.os.trans h.os, k.tape.trans h.tape, k.output.trans h.output, Nat.le_trans h.size k.size, fun j hj hne => (k.block j (Nat.lt_of_lt_of_le hj h.size) hne).trans (h.block j hj hne)⟩
/-- a store into such a table, at the operation -/
theorem wpList_update_Mp {P : Program} (hP : P = Tryz.prog) (w : World) {ops : Array Oper} {rest : List Oper} {o : Oper} {a : Act} {Q : Exit → Act → World → Prop}
    (hg : o.guard = none) (m x v : Operand) (hop : o.op = Op.mapUpdate 73 m x v) {B n : Nat} {f : Int → Int → Int} (h : Mp w B n f) (hn : n < 1000)
    (hm : a.eval m = .map (some B)) (cx cy cv : Int) (hkx : a.eval x = kV cx cy) (hkv : a.eval v = .int .i64 cv) (rx : rng cx) (ry : rng cy) (hv : (Lit.int .i64 cv).wf = true)
    (hK : ∀ w', Mp w' B (n + 1) (updT f cx cy cv) → w.grownBy w' (some B) → wpList P ops Q rest (a.put o.dst undef) w') : wpList P ops Q (o :: rest) a w := by
  subst hP
  refine wpList_plain hg fun K' hK' => ?_
  obtain ⟨w', r1, r2, r3⟩ := h.update hn rx ry hv
  unfold Oper.wp
  simp [execOp, hop, hm, hkx, hkv, r1, Result.andThen]
  exact hK' _ _ (hK w' r2 r3)
set_option maxRecDepth 100000 in
/-- and in a region whose order is drawn -/
theorem wpOp_insert_Mp {P : Program} (hP : P = Tryz.prog) (w : World) {ops : Array Oper} {i : Nat} {o : Oper} {a : Act} {Q : Exit → Act → World → Prop} {K : Act → World → Prop} (ho : ops[i]? = some o)
    (hw : Region.wanted o (yielded ops a.tmps) = true) (m x v : Operand) (hop : o.op = Op.insert 73 m x v) {B n : Nat} {f : Int → Int → Int} (h : Mp w B n f) (hn : n < 1000)
    (hm : a.eval m = .map (some B)) (cx cy cv : Int) (hkx : a.eval x = kV cx cy) (hkv : a.eval v = .int .i64 cv) (rx : rng cx) (ry : rng cy) (hv : (Lit.int .i64 cv).wf = true)
    (hK : ∀ w', Mp w' B (n + 1) (updT f cx cy cv) → w.grownBy w' (some B) → K (a.put o.dst undef) w') : wpOp P ops Q i K a w := by
  subst hP
  obtain ⟨w', r1, r2, r3⟩ := h.update hn rx ry hv
  unfold wpOp
  simp only [ho, hw, if_true]
  refine .inl ?_
  unfold Oper.wp
  simp [execOp, hop, hm, hkx, hkv, r1, Result.andThen]
  exact hK _ r2 r3
end Go.Proofs.YtfjellhbcjnjkaaGreatDoor
namespace Go.Proofs.YtfjellhbcjnjkaaGreatDoor
open Go.RowKit Go.Maps Go.WideMaps
set_option linter.unusedVariables false
set_option linter.unusedSimpArgs false

def nanT (f : Int → Int → Int) (k : Nat) : Int → Int → Int := fun x y => if (y = 5 ∧ x ≤ k) ∨ (x = 5 ∧ y ≤ k) then 1 else f x y
theorem nanT_step {f : Int → Int → Int} {k : Nat} (x y : Int) (hx : rng x) (hy : rng y) : updT (updT (nanT f k) ((k : Int) + 1) 5 1) 5 ((k : Int) + 1) 1 x y = nanT f (k + 1) x y := by
  unfold updT nanT
  have := hx.1; have := hx.2; have := hy.1; have := hy.2
  push_cast
  repeat' split
  all_goals first | rfl | omega
/-- the entries of a table written out are laid in whatever order -/
theorem fill_any {P : Program} (hP : P = Tryz.prog) {ops : Array Oper} {Q : Exit → Act → World → Prop} {md : Region.Mode} (a : Act) (B C fuel : Nat) (w0 : World) (hC : C ≤ B) (G : Int → Int → Int) (rest : List Nat) (L : Array Bool) :
    ∀ (k : Nat) (todo : List (Nat × Int × Int)) (listed : Array Bool) (W : World) (n : Nat) (g : Int → Int → Int), todo.length = k → n + k ≤ 900 → Mp W B n g → Below C w0 W → C ≤ W.heap.size →
      todo.foldl (fun l t => l.setIfInBounds t.1 true) listed = L →
      (∀ i, listed.getD i true = false → i ∈ todo.map (·.1) ∨ i ∈ rest) →
      (∀ t ∈ todo, listed.getD t.1 false = false) → (∀ i ∈ rest, listed.getD i false = false ∧ i ∉ todo.map (·.1)) →
      (∀ i ∈ rest, ∀ o, ops[i]? = some o → (∀ t ∈ todo, ∃ e ∈ o.after, Region.binds md e = true ∧ e.on = t.1) ∨ (∃ e ∈ o.after, Region.binds md e = true ∧ e.on ∈ rest)) →
      todo.Pairwise (fun s t => s.1 ≠ t.1 ∧ s.2 ≠ t.2) →
      (∀ x y, rng x → rng y → (x, y) ∉ todo.map (·.2) → g x y = G x y) →
      (∀ t ∈ todo, rng t.2.1 ∧ rng t.2.2 ∧ (Lit.int .i64 (G t.2.1 t.2.2)).wf = true ∧ ∃ o m x v, ops[t.1]? = some o ∧ o.guard = none ∧ o.dst = none ∧ o.op = Op.insert 73 m x v ∧ a.eval m = .map (some B) ∧ a.eval x = kV t.2.1 t.2.2 ∧ a.eval v = .int .i64 (G t.2.1 t.2.2)) →
      (∀ t ∈ todo, ∀ o, ops[t.1]? = some o → ∀ e ∈ o.after, Region.binds md e = true → listed.getD e.on false = true) → (∀ t ∈ todo, t.1 < listed.size) →
      (∀ W' n', Mp W' B n' G → Below C w0 W' → C ≤ W'.heap.size → n' ≤ 900 → wpAny P md ops Q fuel L a W') → wpAny P md ops Q (k + fuel) listed a W := by
  intro k
  induction k with
  | zero =>
    intro todo listed W n g hk hn hM hb hW hL hls hun hre hrest hpw hg hops hrd hsz hfin
    obtain rfl : todo = [] := List.eq_nil_of_length_eq_zero hk
    rw [Nat.zero_add]
    have e : listed = L := hL
    subst e
    exact hfin W n (hM.congr (fun x y hx hy => hg x y hx hy (by simp))) hb hW (by omega)
  | succ k ih =>
    intro todo listed W n g hk hn hM hb hW hL hls hun hre hrest hpw hg hops hrd hsz hfin
    rw [show k + 1 + fuel = (k + fuel) + 1 by omega]
    have key : ∀ i, i ∈ Region.ready md ops listed → i ∈ todo.map (·.1) := by
      intro i hi
      obtain ⟨h1, o, ho, hall⟩ := mem_ready.1 hi
      rcases hls i h1 with h | h
      · exact h
      · exfalso
        rcases hrest i h o ho with h2 | ⟨e, he, hbd, her⟩
        · obtain ⟨t, ht⟩ := List.exists_mem_of_length_pos (l := todo) (by omega)
          obtain ⟨e, he, hbd, het⟩ := h2 t ht
          have := hall e he hbd
          rw [het, hun t ht] at this
          cases this
        · have := hall e he hbd
          rw [(hre _ her).1] at this
          cases this
    have one : ∃ i, i ∈ todo.map (·.1) := by
      obtain ⟨t, ht⟩ := List.exists_mem_of_length_pos (l := todo) (by omega)
      exact ⟨t.1, List.mem_map.2 ⟨t, ht, rfl⟩⟩
    by_cases hnil : Region.ready md ops listed = []
    · exfalso
      obtain ⟨t, ht⟩ := List.exists_mem_of_length_pos (l := todo) (by omega)
      obtain ⟨_, _, _, o, m, x, v, ho, _⟩ := hops t ht
      have hlt := hsz t ht
      have hu := hun t ht
      have : t.1 ∈ Region.ready md ops listed := mem_ready.2 ⟨by simp [hlt] at hu ⊢; exact hu, o, ho, hrd t ht o ho⟩
      rw [hnil] at this
      cases this
    refine ⟨fun h => absurd h hnil, fun i hi => ?_⟩
    obtain ⟨t, ht, rfl⟩ := List.mem_map.1 (key i hi)
    obtain ⟨rx, ry, hv, o, m, x, v, ho, hgd, hds, hop, hm, hx, hvv⟩ := hops t ht
    have hwt : Region.wanted o (yielded ops a.tmps) = true := by unfold Region.wanted; rw [hgd]
    refine wpOp_insert_Mp hP W ho hwt m x v hop hM (by omega) hm _ _ _ hx hvv rx ry hv (fun w' hM' hg' => ?_)
    have hp : (t :: todo.erase t).Perm todo := (List.perm_cons_erase ht).symm
    have hpw' := (hp.symm.pairwise_iff (fun {a b} (h : a.1 ≠ b.1 ∧ a.2 ≠ b.2) => ⟨h.1.symm, h.2.symm⟩)).1 hpw
    obtain ⟨hp1, hp2⟩ := List.pairwise_cons.1 hpw'
    have mem : ∀ s, s ∈ todo ↔ s = t ∨ s ∈ todo.erase t := fun s => by rw [← hp.mem_iff]; simp
    have ea : a.put o.dst undef = a := by rw [hds]; rfl
    rw [ea]
    refine ih (todo.erase t) _ w' (n + 1) _ (by rw [List.length_erase_of_mem ht]; omega) (by omega) hM' (below_by hb hg' hC hW) (Nat.le_trans hW hg'.size) ?_ ?_ ?_ ?_ ?_ hp2 ?_ ?_ ?_ ?_ hfin
    · rw [← hL]
      have := hp.foldl_eq' (f := fun (l : Array Bool) (t : Nat × Int × Int) => l.setIfInBounds t.1 true) (fun x _ y _ z => by
        by_cases e : x.1 = y.1
        · rw [e]
        · exact Array.setIfInBounds_comm _ _ e) listed
      rw [← this]
      rfl
    · intro i h
      by_cases e : t.1 = i
      · subst e
        exfalso
        have h0 := hun t ht
        rcases Nat.lt_or_ge t.1 listed.size with q | q
        · simp [q] at h
        · have := (mem_ready.1 hi).1
          rw [Array.getD, dif_neg (by omega)] at this
          cases this
      · rw [getD_set_ne true e] at h
        rcases hls i h with h | h
        · obtain ⟨s, hs, rfl⟩ := List.mem_map.1 h
          rcases (mem s).1 hs with rfl | hs
          · exact absurd rfl e
          · exact .inl (List.mem_map.2 ⟨s, hs, rfl⟩)
        · exact .inr h
    · intro s hs
      rw [getD_set_ne false (hp1 s hs).1]
      exact hun s ((mem s).2 (.inr hs))
    · intro i h
      have h2 := (hre i h).2
      have ne : t.1 ≠ i := fun e => h2 (List.mem_map.2 ⟨t, ht, e⟩)
      rw [getD_set_ne false ne]
      refine ⟨(hre i h).1, fun h3 => h2 ?_⟩
      obtain ⟨s, hs, e⟩ := List.mem_map.1 h3
      exact List.mem_map.2 ⟨s, (mem s).2 (.inr hs), e⟩
    · intro i h o' ho'
      rcases hrest i h o' ho' with h2 | h2
      · exact .inl (fun s hs => h2 s ((mem s).2 (.inr hs)))
      · exact .inr h2
    · intro x y hx hy hnot
      unfold updT
      by_cases e : x = t.2.1 ∧ y = t.2.2
      · rw [if_pos e, e.1, e.2]
      · rw [if_neg e]
        refine hg x y hx hy (fun h => ?_)
        obtain ⟨s, hs, e2⟩ := List.mem_map.1 h
        rcases (mem s).1 hs with rfl | hs
        · exact e (by rw [e2]; exact ⟨rfl, rfl⟩)
        · exact hnot (List.mem_map.2 ⟨s, hs, e2⟩)
    · intro s hs
      exact hops s ((mem s).2 (.inr hs))
    · intro s hs o' ho' e he hbd
      have h1 := hrd s ((mem s).2 (.inr hs)) o' ho' e he hbd
      have ne : t.1 ≠ e.on := fun q => by rw [← q, hun t ht] at h1; cases h1
      rw [getD_set_ne false ne]
      exact h1
    · intro s hs
      have := hsz s ((mem s).2 (.inr hs))
      simpa using this
section
variable {w : World} {B n : Nat} {f : Int → Int → Int}
set_option maxRecDepth 100000 in
set_option maxHeartbeats 4000000 in
theorem nans_any (h : Mp w B n f) (hn : n ≤ 950) : Calls Tryz.prog 105 #[.map (some B)] w fun e w' => e = .returned (.map (some B)) ∧ Mp w' B (n + 10) (nanT f 5) ∧ w.grownBy w' (some B) := by
  go_enter Tryz.func105, Tryz.ntmps105
  go_wp2_with fail
  go_loopw [3] (fun i wr => ∃ k : Nat, k ≤ 5 ∧ i = .int .i64 ((k : Int) + 1) ∧ Mp wr B (n + 2 * k) (nanT f k) ∧ w.grownBy wr (some B)) (fun i _ => 6 - (intOf i).toNat)
  case atStart =>
    refine ⟨0, by omega, rfl, h.congr (fun x y hx hy => ?_), ⟨rfl, rfl, rfl, Nat.le_refl _, fun _ _ _ => rfl⟩⟩
    unfold nanT
    have := hx.1; have := hy.1
    rw [if_neg (by omega)]
  case round =>
    obtain ⟨k, hk, rfl, hM, hg⟩ := hrel
    obtain ⟨c, hc⟩ : ∃ c : Int, (k : Int) + 1 = c := ⟨_, rfl⟩
    have hc1 : 1 ≤ c := by omega
    have hc6 : c ≤ 6 := by omega
    rw [hc]
    by_cases hlt : k < 5
    · have rc : rng c := ⟨hc1, by omega⟩
      have hc5 : c ≤ 5 := by omega
      go_wp2_with (first
        | (at_mapUpdate; refine wpList_update_Mp rfl _ rfl _ _ _ rfl hM (by omega) rfl c 5 1 rfl rfl rc ⟨by omega, by omega⟩ (by decide) ?_; intro w1 hM1 hg1)
        | (at_mapUpdate; refine wpList_update_Mp rfl _ rfl _ _ _ rfl hM1 (by omega) rfl 5 c 1 rfl rfl ⟨by omega, by omega⟩ rc (by decide) ?_; intro w2 hM2 hg2)
        | go_in)
      go_roundw
      case rel =>
        refine ⟨k + 1, by omega, by rw [← hc]; go_num, ?_, grown_trans hg (grown_trans hg1 hg2)⟩
        rw [← hc] at hM2
        exact (hM2.congr nanT_step).mono (by omega)
      case measure => simp [intOf]; omega
    · have hk5 : k = 5 := by omega
      subst hk5
      have hc7 : c = 6 := by omega
      subst hc7
      go_wp2_with fail
      go_ret
      exact ⟨rfl, hM, hg⟩
end
end Go.Proofs.YtfjellhbcjnjkaaGreatDoor
namespace Go.Proofs.YtfjellhbcjnjkaaGreatDoor
open Go.RowKit Go.Maps Go.WideMaps Go.Bw
set_option linter.unusedVariables false
set_option linter.unusedSimpArgs false

def fillOk (md : Region.Mode) (ops : Array Oper) (listed : Array Bool) (todo : List (Nat × Int × Int)) (rest : List Nat) : Bool :=
  (List.range listed.size).all (fun i => listed.getD i true || (todo.map (·.1)).contains i || rest.contains i) &&
  todo.all (fun t => !listed.getD t.1 false && decide (t.1 < listed.size)) &&
  rest.all (fun i => !listed.getD i false && !(todo.map (·.1)).contains i) &&
  rest.all (fun i => match ops[i]? with | none => true | some o => todo.all (fun t => o.after.any (fun e => Region.binds md e && e.on == t.1)) || o.after.any (fun e => Region.binds md e && rest.contains e.on)) &&
  todo.all (fun t => match ops[t.1]? with | none => true | some o => o.after.all (fun e => !Region.binds md e || listed.getD e.on false))
theorem fill_dec {ops : Array Oper} {Q : Exit → Act → World → Prop} {md : Region.Mode} {a : Act} {B fuel : Nat} {W : World} (w0 : World) (G : Int → Int → Int) (rest : List Nat) (L : Array Bool) (k : Nat) (todo : List (Nat × Int × Int)) {listed : Array Bool}
    (hB : w0.heap.size = B) (hk : todo.length = k) (hk2 : k ≤ 100) (hM : Mp W B 0 (fun _ _ => 0)) (hb : Below w0.heap.size w0 W) (hL : todo.foldl (fun l t => l.setIfInBounds t.1 true) listed = L) (hok : fillOk md ops listed todo rest = true)
    (hpw : todo.Pairwise (fun s t => s.1 ≠ t.1 ∧ s.2 ≠ t.2)) (hg : ∀ x y, rng x → rng y → (x, y) ∉ todo.map (·.2) → 0 = G x y)
    (hops : ∀ t ∈ todo, rng t.2.1 ∧ rng t.2.2 ∧ (Lit.int .i64 (G t.2.1 t.2.2)).wf = true ∧ ∃ o m x v, ops[t.1]? = some o ∧ o.guard = none ∧ o.dst = none ∧ o.op = Op.insert 73 m x v ∧ a.eval m = .map (some B) ∧ a.eval x = kV t.2.1 t.2.2 ∧ a.eval v = .int .i64 (G t.2.1 t.2.2))
    (hfin : ∀ W', Mp W' B 900 G → Below w0.heap.size w0 W' → wpAny Tryz.prog md ops Q fuel L a W') : wpAny Tryz.prog md ops Q (k + fuel) listed a W := by
  unfold fillOk at hok
  simp only [Bool.and_eq_true] at hok
  obtain ⟨⟨⟨⟨h1, h2⟩, h3⟩, h4⟩, h5⟩ := hok
  refine fill_any rfl a B w0.heap.size fuel w0 (by omega) G rest L k todo listed W 0 _ hk (by omega) hM hb hb.size hL ?_ ?_ ?_ ?_ hpw hg hops ?_ ?_ (fun W' n' m1 m2 m3 m4 => hfin W' (m1.mono m4) m2)
  · intro i hi
    have hlt : i < listed.size := by
      rcases Nat.lt_or_ge i listed.size with q | q
      · exact q
      · rw [Array.getD, dif_neg (by omega)] at hi; cases hi
    have := List.all_eq_true.1 h1 i (List.mem_range.2 hlt)
    rw [hi] at this
    simp only [Bool.false_or, Bool.or_eq_true, List.contains_iff_mem] at this
    exact this
  · intro t ht
    have := List.all_eq_true.1 h2 t ht
    simp only [Bool.and_eq_true, Bool.not_eq_true'] at this
    exact this.1
  · intro i hi
    have := List.all_eq_true.1 h3 i hi
    simp only [Bool.and_eq_true, Bool.not_eq_true'] at this
    exact ⟨this.1, fun h => by have := this.2; rw [List.contains_iff_mem.2 h] at this; cases this⟩
  · intro i hi o ho
    have := List.all_eq_true.1 h4 i hi
    rw [ho] at this
    simp only [Bool.or_eq_true] at this
    rcases this with h | h
    · left
      intro t ht
      obtain ⟨e, he, h6⟩ := Array.any_eq_true'.1 (List.all_eq_true.1 h t ht)
      simp only [Bool.and_eq_true, beq_iff_eq] at h6
      exact ⟨e, he, h6.1, h6.2⟩
    · right
      obtain ⟨e, he, h6⟩ := Array.any_eq_true'.1 h
      simp only [Bool.and_eq_true, List.contains_iff_mem] at h6
      exact ⟨e, he, h6.1, h6.2⟩
  · intro t ht o ho e he hbd
    have := List.all_eq_true.1 h5 t ht
    rw [ho] at this
    have := Array.all_eq_true_iff_forall_mem.1 this e he
    rw [hbd] at this
    simpa using this
  · intro t ht
    have := List.all_eq_true.1 h2 t ht
    simp only [Bool.and_eq_true, decide_eq_true_eq] at this
    exact this.2
def sumsS (x y : Int) : Int := if x = 1 ∧ y = 1 then 4 else if x = 1 ∧ y = 4 then 3 else if x = 3 ∧ y = 4 then 3 else if x = 4 ∧ y = 1 then 2 else if x = 4 ∧ y = 3 then 2 else if x = 4 ∧ y = 4 then 5 else 0
theorem sumsS_is (x y : Int) (hx : rng x) (hy : rng y) : nanT sumsS 5 x y = sumT x y := by
  unfold nanT sumsS sumT
  have := hx.1; have := hx.2; have := hy.1; have := hy.2
  repeat' split
  all_goals first | rfl | omega
set_option maxRecDepth 100000 in
set_option maxHeartbeats 8000000 in
theorem tab_sums (w : World) : Calls Tryz.prog 68 #[] w fun e w' => ∃ B, e = .returned (.map (some B)) ∧ Mp w' B 950 sumT ∧ w.heap.size ≤ B ∧ Below w.heap.size w w' := by
  have hmm := @run_makeMap Tryz.prog
  go_enter Tryz.func68, Tryz.ntmps68
  go_wp2_with fail
  refine wp_region_any (by kernel_rfl) ?_
  change wpAny _ _ _ _ _ _ _ (World.drew _)
  refine wpAny_take (i := 1) (v := ?v1) rfl (by kernel_rfl) (by kernel_rfl) (by kernel_rfl) (fun _ _ _ h => h) (Or.inl ⟨by rfl, ?hy1⟩) ?rest1
  case hy1 => (intro w; go_simp; try with_reducible rfl)
  simp only [Act.put, List.setIfInBounds_toArray, List.set_cons_zero, List.set_cons_succ, List.getElem_toArray, List.getElem_cons_zero, List.getElem_cons_succ]
  refine wpAny_take (i := 3) (v := ?v3) rfl (by kernel_rfl) (by kernel_rfl) (by kernel_rfl) (fun _ _ _ h => h) (Or.inl ⟨by rfl, ?hy3⟩) ?rest3
  case hy3 => (intro w; go_simp; try with_reducible rfl)
  simp only [Act.put, List.setIfInBounds_toArray, List.set_cons_zero, List.set_cons_succ, List.getElem_toArray, List.getElem_cons_zero, List.getElem_cons_succ]
  refine wpAny_take (i := 5) (v := ?v5) rfl (by kernel_rfl) (by kernel_rfl) (by kernel_rfl) (fun _ _ _ h => h) (Or.inl ⟨by rfl, ?hy5⟩) ?rest5
  case hy5 => (intro w; go_simp; try with_reducible rfl)
  simp only [Act.put, List.setIfInBounds_toArray, List.set_cons_zero, List.set_cons_succ, List.getElem_toArray, List.getElem_cons_zero, List.getElem_cons_succ]
  refine wpAny_take (i := 7) (v := ?v7) rfl (by kernel_rfl) (by kernel_rfl) (by kernel_rfl) (fun _ _ _ h => h) (Or.inl ⟨by rfl, ?hy7⟩) ?rest7
  case hy7 => (intro w; go_simp; try with_reducible rfl)
  simp only [Act.put, List.setIfInBounds_toArray, List.set_cons_zero, List.set_cons_succ, List.getElem_toArray, List.getElem_cons_zero, List.getElem_cons_succ]
  refine wpAny_take (i := 9) (v := ?v9) rfl (by kernel_rfl) (by kernel_rfl) (by kernel_rfl) (fun _ _ _ h => h) (Or.inl ⟨by rfl, ?hy9⟩) ?rest9
  case hy9 => (intro w; go_simp; try with_reducible rfl)
  simp only [Act.put, List.setIfInBounds_toArray, List.set_cons_zero, List.set_cons_succ, List.getElem_toArray, List.getElem_cons_zero, List.getElem_cons_succ]
  refine wpAny_take (i := 11) (v := ?v11) rfl (by kernel_rfl) (by kernel_rfl) (by kernel_rfl) (fun _ _ _ h => h) (Or.inl ⟨by rfl, ?hy11⟩) ?rest11
  case hy11 => (intro w; go_simp; try with_reducible rfl)
  simp only [Act.put, List.setIfInBounds_toArray, List.set_cons_zero, List.set_cons_succ, List.getElem_toArray, List.getElem_cons_zero, List.getElem_cons_succ]
  refine wpAny_ready (rs := [0]) (by kernel_rfl) (by simp) ?_
  refine AllReady.cons rfl (fun K hK => ?_) AllReady.nil
  go_simp
  refine hK _ _ ?_; clear hK K
  try simp only [Act.put, List.setIfInBounds_toArray, List.set_cons_zero, List.set_cons_succ, List.getElem_toArray, List.getElem_cons_zero, List.getElem_cons_succ]
  have hM0 : Mp (w.drew.alloc (.map #[] 0)) w.heap.size 0 (fun _ _ => 0) := Mp.made w.drew
  have hb0 : Below w.heap.size w (w.drew.alloc (.map #[] 0)) := by go_grown
  have hpw : ([(2, 1, 1), (4, 1, 4), (6, 3, 4), (8, 4, 1), (10, 4, 3), (12, 4, 4)] : List (Nat × Int × Int)).Pairwise (fun s t => s.1 ≠ t.1 ∧ s.2 ≠ t.2) := by decide
  refine fill_dec (fuel := 3) (B := w.heap.size) w sumsS [13, 14, 15] #[true, true, true, true, true, true, true, true, true, true, true, true, true, false, false, false] 6 [(2, 1, 1), (4, 1, 4), (6, 3, 4), (8, 4, 1), (10, 4, 3), (12, 4, 4)] rfl rfl (by omega) hM0 hb0 ?gl ?go hpw ?gg ?gt (fun W1 hM hb => ?gf)
  case gl => rfl
  case go => kernel_rfl
  case gg =>
    intro x y hx hy hn
    unfold sumsS
    simp only [List.map_cons, List.map_nil, List.mem_cons, List.not_mem_nil, Prod.mk.injEq, or_false, not_or] at hn
    repeat' split
    all_goals first | rfl | omega
  case gt =>
    intro t ht
    simp only [List.mem_cons, List.not_mem_nil, or_false] at ht
    rcases ht with rfl | rfl | rfl | rfl | rfl | rfl
    all_goals exact ⟨⟨by decide, by decide⟩, ⟨by decide, by decide⟩, by decide, _, _, _, _, rfl, rfl, rfl, rfl, rfl, rfl, rfl⟩
  refine wpAny_ready (rs := [13]) (by kernel_rfl) (by simp) ?_
  refine AllReady.cons rfl (fun K hK => ?_) AllReady.nil
  go_simp
  refine hK _ _ ?_; clear hK K
  try simp only [Act.put, List.setIfInBounds_toArray, List.set_cons_zero, List.set_cons_succ, List.getElem_toArray, List.getElem_cons_zero, List.getElem_cons_succ]
  refine wpAny_ready (rs := [14]) (by kernel_rfl) (by simp) ?_
  refine AllReady.cons rfl (fun K hK => ?_) AllReady.nil
  go_simp
  with_reducible refine (nans_any hM (by omega)).mono ?_
  rintro e w2 ⟨rfl, hM2, hg2⟩
  refine hK _ _ ?_; clear hK K
  try simp only [Act.put, List.setIfInBounds_toArray, List.set_cons_zero, List.set_cons_succ, List.getElem_toArray, List.getElem_cons_zero, List.getElem_cons_succ]
  refine wpAny_ready (rs := [15]) (by kernel_rfl) (by simp) ?_
  refine AllReady.cons rfl (fun K hK => ?_) AllReady.nil
  go_simp
  refine hK _ _ ?_; clear hK K
  try simp only [Act.put, List.setIfInBounds_toArray, List.set_cons_zero, List.set_cons_succ, List.getElem_toArray, List.getElem_cons_zero, List.getElem_cons_succ]
  refine wpAny_done (by kernel_rfl) ?_ _
  go_wp2_with fail
  go_ret
  exact ⟨_, rfl, (hM2.congr sumsS_is).mono (by omega), Nat.le_refl _, below_by hb hg2 (Nat.le_refl _) hb.size⟩
def productsS (x y : Int) : Int := if x = 1 ∧ y = 1 then 6 else if x = 1 ∧ y = 3 then 6 else if x = 1 ∧ y = 4 then 1 else if x = 3 ∧ y = 1 then 6 else if x = 3 ∧ y = 4 then 7 else if x = 4 ∧ y = 1 then 1 else if x = 4 ∧ y = 3 then 7 else if x = 4 ∧ y = 4 then 7 else 0
theorem productsS_is (x y : Int) (hx : rng x) (hy : rng y) : nanT productsS 5 x y = proT x y := by
  unfold nanT productsS proT
  have := hx.1; have := hx.2; have := hy.1; have := hy.2
  repeat' split
  all_goals first | rfl | omega
set_option maxRecDepth 100000 in
set_option maxHeartbeats 8000000 in
theorem tab_products (w : World) : Calls Tryz.prog 76 #[] w fun e w' => ∃ B, e = .returned (.map (some B)) ∧ Mp w' B 950 proT ∧ w.heap.size ≤ B ∧ Below w.heap.size w w' := by
  have hmm := @run_makeMap Tryz.prog
  go_enter Tryz.func76, Tryz.ntmps76
  go_wp2_with fail
  refine wp_region_any (by kernel_rfl) ?_
  change wpAny _ _ _ _ _ _ _ (World.drew _)
  refine wpAny_take (i := 1) (v := ?v1) rfl (by kernel_rfl) (by kernel_rfl) (by kernel_rfl) (fun _ _ _ h => h) (Or.inl ⟨by rfl, ?hy1⟩) ?rest1
  case hy1 => (intro w; go_simp; try with_reducible rfl)
  simp only [Act.put, List.setIfInBounds_toArray, List.set_cons_zero, List.set_cons_succ, List.getElem_toArray, List.getElem_cons_zero, List.getElem_cons_succ]
  refine wpAny_take (i := 3) (v := ?v3) rfl (by kernel_rfl) (by kernel_rfl) (by kernel_rfl) (fun _ _ _ h => h) (Or.inl ⟨by rfl, ?hy3⟩) ?rest3
  case hy3 => (intro w; go_simp; try with_reducible rfl)
  simp only [Act.put, List.setIfInBounds_toArray, List.set_cons_zero, List.set_cons_succ, List.getElem_toArray, List.getElem_cons_zero, List.getElem_cons_succ]
  refine wpAny_take (i := 5) (v := ?v5) rfl (by kernel_rfl) (by kernel_rfl) (by kernel_rfl) (fun _ _ _ h => h) (Or.inl ⟨by rfl, ?hy5⟩) ?rest5
  case hy5 => (intro w; go_simp; try with_reducible rfl)
  simp only [Act.put, List.setIfInBounds_toArray, List.set_cons_zero, List.set_cons_succ, List.getElem_toArray, List.getElem_cons_zero, List.getElem_cons_succ]
  refine wpAny_take (i := 7) (v := ?v7) rfl (by kernel_rfl) (by kernel_rfl) (by kernel_rfl) (fun _ _ _ h => h) (Or.inl ⟨by rfl, ?hy7⟩) ?rest7
  case hy7 => (intro w; go_simp; try with_reducible rfl)
  simp only [Act.put, List.setIfInBounds_toArray, List.set_cons_zero, List.set_cons_succ, List.getElem_toArray, List.getElem_cons_zero, List.getElem_cons_succ]
  refine wpAny_take (i := 9) (v := ?v9) rfl (by kernel_rfl) (by kernel_rfl) (by kernel_rfl) (fun _ _ _ h => h) (Or.inl ⟨by rfl, ?hy9⟩) ?rest9
  case hy9 => (intro w; go_simp; try with_reducible rfl)
  simp only [Act.put, List.setIfInBounds_toArray, List.set_cons_zero, List.set_cons_succ, List.getElem_toArray, List.getElem_cons_zero, List.getElem_cons_succ]
  refine wpAny_take (i := 11) (v := ?v11) rfl (by kernel_rfl) (by kernel_rfl) (by kernel_rfl) (fun _ _ _ h => h) (Or.inl ⟨by rfl, ?hy11⟩) ?rest11
  case hy11 => (intro w; go_simp; try with_reducible rfl)
  simp only [Act.put, List.setIfInBounds_toArray, List.set_cons_zero, List.set_cons_succ, List.getElem_toArray, List.getElem_cons_zero, List.getElem_cons_succ]
  refine wpAny_take (i := 13) (v := ?v13) rfl (by kernel_rfl) (by kernel_rfl) (by kernel_rfl) (fun _ _ _ h => h) (Or.inl ⟨by rfl, ?hy13⟩) ?rest13
  case hy13 => (intro w; go_simp; try with_reducible rfl)
  simp only [Act.put, List.setIfInBounds_toArray, List.set_cons_zero, List.set_cons_succ, List.getElem_toArray, List.getElem_cons_zero, List.getElem_cons_succ]
  refine wpAny_take (i := 15) (v := ?v15) rfl (by kernel_rfl) (by kernel_rfl) (by kernel_rfl) (fun _ _ _ h => h) (Or.inl ⟨by rfl, ?hy15⟩) ?rest15
  case hy15 => (intro w; go_simp; try with_reducible rfl)
  simp only [Act.put, List.setIfInBounds_toArray, List.set_cons_zero, List.set_cons_succ, List.getElem_toArray, List.getElem_cons_zero, List.getElem_cons_succ]
  refine wpAny_ready (rs := [0]) (by kernel_rfl) (by simp) ?_
  refine AllReady.cons rfl (fun K hK => ?_) AllReady.nil
  go_simp
  refine hK _ _ ?_; clear hK K
  try simp only [Act.put, List.setIfInBounds_toArray, List.set_cons_zero, List.set_cons_succ, List.getElem_toArray, List.getElem_cons_zero, List.getElem_cons_succ]
  have hM0 : Mp (w.drew.alloc (.map #[] 0)) w.heap.size 0 (fun _ _ => 0) := Mp.made w.drew
  have hb0 : Below w.heap.size w (w.drew.alloc (.map #[] 0)) := by go_grown
  have hpw : ([(2, 1, 1), (4, 1, 3), (6, 1, 4), (8, 3, 1), (10, 3, 4), (12, 4, 1), (14, 4, 3), (16, 4, 4)] : List (Nat × Int × Int)).Pairwise (fun s t => s.1 ≠ t.1 ∧ s.2 ≠ t.2) := by decide
  refine fill_dec (fuel := 3) (B := w.heap.size) w productsS [17, 18, 19] #[true, true, true, true, true, true, true, true, true, true, true, true, true, true, true, true, true, false, false, false] 8 [(2, 1, 1), (4, 1, 3), (6, 1, 4), (8, 3, 1), (10, 3, 4), (12, 4, 1), (14, 4, 3), (16, 4, 4)] rfl rfl (by omega) hM0 hb0 ?gl ?go hpw ?gg ?gt (fun W1 hM hb => ?gf)
  case gl => rfl
  case go => kernel_rfl
  case gg =>
    intro x y hx hy hn
    unfold productsS
    simp only [List.map_cons, List.map_nil, List.mem_cons, List.not_mem_nil, Prod.mk.injEq, or_false, not_or] at hn
    repeat' split
    all_goals first | rfl | omega
  case gt =>
    intro t ht
    simp only [List.mem_cons, List.not_mem_nil, or_false] at ht
    rcases ht with rfl | rfl | rfl | rfl | rfl | rfl | rfl | rfl
    all_goals exact ⟨⟨by decide, by decide⟩, ⟨by decide, by decide⟩, by decide, _, _, _, _, rfl, rfl, rfl, rfl, rfl, rfl, rfl⟩
  refine wpAny_ready (rs := [17]) (by kernel_rfl) (by simp) ?_
  refine AllReady.cons rfl (fun K hK => ?_) AllReady.nil
  go_simp
  refine hK _ _ ?_; clear hK K
  try simp only [Act.put, List.setIfInBounds_toArray, List.set_cons_zero, List.set_cons_succ, List.getElem_toArray, List.getElem_cons_zero, List.getElem_cons_succ]
  refine wpAny_ready (rs := [18]) (by kernel_rfl) (by simp) ?_
  refine AllReady.cons rfl (fun K hK => ?_) AllReady.nil
  go_simp
  with_reducible refine (nans_any hM (by omega)).mono ?_
  rintro e w2 ⟨rfl, hM2, hg2⟩
  refine hK _ _ ?_; clear hK K
  try simp only [Act.put, List.setIfInBounds_toArray, List.set_cons_zero, List.set_cons_succ, List.getElem_toArray, List.getElem_cons_zero, List.getElem_cons_succ]
  refine wpAny_ready (rs := [19]) (by kernel_rfl) (by simp) ?_
  refine AllReady.cons rfl (fun K hK => ?_) AllReady.nil
  go_simp
  refine hK _ _ ?_; clear hK K
  try simp only [Act.put, List.setIfInBounds_toArray, List.set_cons_zero, List.set_cons_succ, List.getElem_toArray, List.getElem_cons_zero, List.getElem_cons_succ]
  refine wpAny_done (by kernel_rfl) ?_ _
  go_wp2_with fail
  go_ret
  exact ⟨_, rfl, (hM2.congr productsS_is).mono (by omega), Nat.le_refl _, below_by hb hg2 (Nat.le_refl _) hb.size⟩
def quotientsS (x y : Int) : Int := if x = 1 ∧ y = 1 then 1 else if x = 1 ∧ y = 3 then 6 else if x = 1 ∧ y = 4 then 6 else if x = 3 ∧ y = 1 then 7 else if x = 3 ∧ y = 4 then 6 else if x = 4 ∧ y = 1 then 7 else if x = 4 ∧ y = 3 then 7 else if x = 4 ∧ y = 4 then 1 else 0
theorem quotientsS_is (x y : Int) (hx : rng x) (hy : rng y) : nanT quotientsS 5 x y = quoT x y := by
  unfold nanT quotientsS quoT
  have := hx.1; have := hx.2; have := hy.1; have := hy.2
  repeat' split
  all_goals first | rfl | omega
set_option maxRecDepth 100000 in
set_option maxHeartbeats 8000000 in
theorem tab_quotients (w : World) : Calls Tryz.prog 79 #[] w fun e w' => ∃ B, e = .returned (.map (some B)) ∧ Mp w' B 950 quoT ∧ w.heap.size ≤ B ∧ Below w.heap.size w w' := by
  have hmm := @run_makeMap Tryz.prog
  go_enter Tryz.func79, Tryz.ntmps79
  go_wp2_with fail
  refine wp_region_any (by kernel_rfl) ?_
  change wpAny _ _ _ _ _ _ _ (World.drew _)
  refine wpAny_take (i := 1) (v := ?v1) rfl (by kernel_rfl) (by kernel_rfl) (by kernel_rfl) (fun _ _ _ h => h) (Or.inl ⟨by rfl, ?hy1⟩) ?rest1
  case hy1 => (intro w; go_simp; try with_reducible rfl)
  simp only [Act.put, List.setIfInBounds_toArray, List.set_cons_zero, List.set_cons_succ, List.getElem_toArray, List.getElem_cons_zero, List.getElem_cons_succ]
  refine wpAny_take (i := 3) (v := ?v3) rfl (by kernel_rfl) (by kernel_rfl) (by kernel_rfl) (fun _ _ _ h => h) (Or.inl ⟨by rfl, ?hy3⟩) ?rest3
  case hy3 => (intro w; go_simp; try with_reducible rfl)
  simp only [Act.put, List.setIfInBounds_toArray, List.set_cons_zero, List.set_cons_succ, List.getElem_toArray, List.getElem_cons_zero, List.getElem_cons_succ]
  refine wpAny_take (i := 5) (v := ?v5) rfl (by kernel_rfl) (by kernel_rfl) (by kernel_rfl) (fun _ _ _ h => h) (Or.inl ⟨by rfl, ?hy5⟩) ?rest5
  case hy5 => (intro w; go_simp; try with_reducible rfl)
  simp only [Act.put, List.setIfInBounds_toArray, List.set_cons_zero, List.set_cons_succ, List.getElem_toArray, List.getElem_cons_zero, List.getElem_cons_succ]
  refine wpAny_take (i := 7) (v := ?v7) rfl (by kernel_rfl) (by kernel_rfl) (by kernel_rfl) (fun _ _ _ h => h) (Or.inl ⟨by rfl, ?hy7⟩) ?rest7
  case hy7 => (intro w; go_simp; try with_reducible rfl)
  simp only [Act.put, List.setIfInBounds_toArray, List.set_cons_zero, List.set_cons_succ, List.getElem_toArray, List.getElem_cons_zero, List.getElem_cons_succ]
  refine wpAny_take (i := 9) (v := ?v9) rfl (by kernel_rfl) (by kernel_rfl) (by kernel_rfl) (fun _ _ _ h => h) (Or.inl ⟨by rfl, ?hy9⟩) ?rest9
  case hy9 => (intro w; go_simp; try with_reducible rfl)
  simp only [Act.put, List.setIfInBounds_toArray, List.set_cons_zero, List.set_cons_succ, List.getElem_toArray, List.getElem_cons_zero, List.getElem_cons_succ]
  refine wpAny_take (i := 11) (v := ?v11) rfl (by kernel_rfl) (by kernel_rfl) (by kernel_rfl) (fun _ _ _ h => h) (Or.inl ⟨by rfl, ?hy11⟩) ?rest11
  case hy11 => (intro w; go_simp; try with_reducible rfl)
  simp only [Act.put, List.setIfInBounds_toArray, List.set_cons_zero, List.set_cons_succ, List.getElem_toArray, List.getElem_cons_zero, List.getElem_cons_succ]
  refine wpAny_take (i := 13) (v := ?v13) rfl (by kernel_rfl) (by kernel_rfl) (by kernel_rfl) (fun _ _ _ h => h) (Or.inl ⟨by rfl, ?hy13⟩) ?rest13
  case hy13 => (intro w; go_simp; try with_reducible rfl)
  simp only [Act.put, List.setIfInBounds_toArray, List.set_cons_zero, List.set_cons_succ, List.getElem_toArray, List.getElem_cons_zero, List.getElem_cons_succ]
  refine wpAny_take (i := 15) (v := ?v15) rfl (by kernel_rfl) (by kernel_rfl) (by kernel_rfl) (fun _ _ _ h => h) (Or.inl ⟨by rfl, ?hy15⟩) ?rest15
  case hy15 => (intro w; go_simp; try with_reducible rfl)
  simp only [Act.put, List.setIfInBounds_toArray, List.set_cons_zero, List.set_cons_succ, List.getElem_toArray, List.getElem_cons_zero, List.getElem_cons_succ]
  refine wpAny_ready (rs := [0]) (by kernel_rfl) (by simp) ?_
  refine AllReady.cons rfl (fun K hK => ?_) AllReady.nil
  go_simp
  refine hK _ _ ?_; clear hK K
  try simp only [Act.put, List.setIfInBounds_toArray, List.set_cons_zero, List.set_cons_succ, List.getElem_toArray, List.getElem_cons_zero, List.getElem_cons_succ]
  have hM0 : Mp (w.drew.alloc (.map #[] 0)) w.heap.size 0 (fun _ _ => 0) := Mp.made w.drew
  have hb0 : Below w.heap.size w (w.drew.alloc (.map #[] 0)) := by go_grown
  have hpw : ([(2, 1, 1), (4, 1, 3), (6, 1, 4), (8, 3, 1), (10, 3, 4), (12, 4, 1), (14, 4, 3), (16, 4, 4)] : List (Nat × Int × Int)).Pairwise (fun s t => s.1 ≠ t.1 ∧ s.2 ≠ t.2) := by decide
  refine fill_dec (fuel := 3) (B := w.heap.size) w quotientsS [17, 18, 19] #[true, true, true, true, true, true, true, true, true, true, true, true, true, true, true, true, true, false, false, false] 8 [(2, 1, 1), (4, 1, 3), (6, 1, 4), (8, 3, 1), (10, 3, 4), (12, 4, 1), (14, 4, 3), (16, 4, 4)] rfl rfl (by omega) hM0 hb0 ?gl ?go hpw ?gg ?gt (fun W1 hM hb => ?gf)
  case gl => rfl
  case go => kernel_rfl
  case gg =>
    intro x y hx hy hn
    unfold quotientsS
    simp only [List.map_cons, List.map_nil, List.mem_cons, List.not_mem_nil, Prod.mk.injEq, or_false, not_or] at hn
    repeat' split
    all_goals first | rfl | omega
  case gt =>
    intro t ht
    simp only [List.mem_cons, List.not_mem_nil, or_false] at ht
    rcases ht with rfl | rfl | rfl | rfl | rfl | rfl | rfl | rfl
    all_goals exact ⟨⟨by decide, by decide⟩, ⟨by decide, by decide⟩, by decide, _, _, _, _, rfl, rfl, rfl, rfl, rfl, rfl, rfl⟩
  refine wpAny_ready (rs := [17]) (by kernel_rfl) (by simp) ?_
  refine AllReady.cons rfl (fun K hK => ?_) AllReady.nil
  go_simp
  refine hK _ _ ?_; clear hK K
  try simp only [Act.put, List.setIfInBounds_toArray, List.set_cons_zero, List.set_cons_succ, List.getElem_toArray, List.getElem_cons_zero, List.getElem_cons_succ]
  refine wpAny_ready (rs := [18]) (by kernel_rfl) (by simp) ?_
  refine AllReady.cons rfl (fun K hK => ?_) AllReady.nil
  go_simp
  with_reducible refine (nans_any hM (by omega)).mono ?_
  rintro e w2 ⟨rfl, hM2, hg2⟩
  refine hK _ _ ?_; clear hK K
  try simp only [Act.put, List.setIfInBounds_toArray, List.set_cons_zero, List.set_cons_succ, List.getElem_toArray, List.getElem_cons_zero, List.getElem_cons_succ]
  refine wpAny_ready (rs := [19]) (by kernel_rfl) (by simp) ?_
  refine AllReady.cons rfl (fun K hK => ?_) AllReady.nil
  go_simp
  refine hK _ _ ?_; clear hK K
  try simp only [Act.put, List.setIfInBounds_toArray, List.set_cons_zero, List.set_cons_succ, List.getElem_toArray, List.getElem_cons_zero, List.getElem_cons_succ]
  refine wpAny_done (by kernel_rfl) ?_ _
  go_wp2_with fail
  go_ret
  exact ⟨_, rfl, (hM2.congr quotientsS_is).mono (by omega), Nat.le_refl _, below_by hb hg2 (Nat.le_refl _) hb.size⟩
end Go.Proofs.YtfjellhbcjnjkaaGreatDoor
