/-
  Layer 9: lists of floats, reflections in memory.
-/
import Derived.Test.YtcdbjlmegkcaiaaGreatDoorYAg
import Derived.Test.YtcdbjlmegkcaiaaGreatDoorZRgT
import Derived.Deep.Cut
namespace Go.Proofs.YtcdbjlmegkcaiaaGreatDoor
open Go.RowKit Go.Bw
set_option linter.unusedVariables false
set_option linter.unusedSimpArgs false

theorem run_store_float {P : Program} {w : World} {a : Addr} {m : Mode} (k : FloatKind) (n : Nat) : (store a (.float k n) m).run P w = stored P w a (.float k n) m := run_store P w a _ m rfl
/-- what 'make' lays -/
theorem made_F (n : Nat) : madeCells #[Value.float .f64 0] n = (LF (List.replicate n 0)).toArray := by
  apply Array.ext'
  rw [toList_madeCells_one]
  simp [LF]
theorem run_makeF (n : Nat) (hn : n ≤ 4000000) (w : World) :
    (Instr.makeSlice 22 (.int .i64 (n : Int)) (.int .i64 (n : Int))).run Tryz.prog w = .ok (.slice (some ⟨w.heap.size, 0, none⟩) n n) (w.alloc (.cells (LF (List.replicate n 0)).toArray 25)) := by
  obtain ⟨i, hi, hz0, hz1, hz2⟩ := info_parts info39F
  have hr := Go.run_make (P := Tryz.prog) w 22 25 i (.float .f64 0) Tryz.underlying22 hi hz0 .i64 .i64 n n (by omega) (by omega) (by rw [hz2]; omega) (by omega)
  simp only [Int.toNat_natCast, hz1, Nat.mul_one] at hr
  rw [show (Value.float .f64 0).cells = #[Value.float .f64 0] from rfl, made_F] at hr
  exact hr
theorem wd_zeros (n : Nat) : Wd (List.replicate n 0) := fun x hx => by rw [List.eq_of_mem_replicate hx]; decide
theorem D_zeros (n k : Nat) : GD (List.replicate n 0) k = 0 := by
  unfold GD
  rw [List.getD_eq_getElem?_getD, List.getElem?_replicate]
  split <;> rfl
section
variable {w w' : World} {g B : Nat} {l : List Int}
theorem RowF.on (h : RowF w g l) (hb : Below w.heap.size w w') : RowF w' g l := h.below hb h.lt
theorem RowF.dr (h : RowF w g l) (hd : Dr w w') : RowF w' g l := by obtain ⟨k, rfl⟩ := hd; exact h
theorem RowF.fl (h : RowF w g l) (hw : Wd l) (hm : l.length ≤ maxLen) : FL w (some ⟨g, 0, none⟩) l.length l.length l := by
  have := h.nums (B := w.heap.size) (c := l.length) 0 l.length (by omega) (Nat.le_refl _) hm h.lt
  refine ⟨rfl, ?_, hw⟩
  simpa using this
theorem RowF.at_ (h : RowF w g l) {k : Nat} (hk : k < l.length) : w.cell? ⟨g, k, none⟩ = some (.float .f64 (GD l k).toNat) ∧ w.frozen? ⟨g, k, none⟩ = false := ⟨h.cell hk, h.frozen k⟩
theorem FL.head {ad : Addr} {n c : Nat} (h : FL w (some ad) n c l) (hn : 0 < n) : w.cell? ad = some (.float .f64 (GD l 0).toNat) := by
  have := h.2.1.at_some (k := 0) (by rw [h.1]; exact hn)
  rwa [show ad.add 0 = ad by simp [Addr.add]] at this
/-- the end of a list -/
theorem FL.tail {A : Option Addr} {n c : Nat} (h : FL w A n c l) (hn : 0 < n) : FL w (A.map (·.add 1)) (n - 1) (c - 1) (l.drop 1) := by
  obtain ⟨h1, h2, h3⟩ := h
  refine ⟨by rw [List.length_drop]; omega, ⟨by rw [List.length_drop]; have := h2.1; omega, by have := h2.2.1; omega, fun hd => ?_⟩, fun x hx => h3 x (List.mem_of_mem_drop hx)⟩
  obtain ⟨ad, e, hb, hc⟩ := h2.2.2 (by omega)
  refine ⟨ad.add 1, by rw [e]; rfl, by rw [Gadd_block]; exact hb, fun k hk => ?_⟩
  rw [List.length_drop] at hk
  rw [Gadd_add, hc (1 + k) (by omega), GD_drop]
end
theorem RowF.newSet (w : World) (l : List Int) (k : Nat) (x : Int) : RowF (w.alloc (.cells ((LF l).set k (fV x)).toArray 25)) w.heap.size (l.set k x) := by
  have h := RowF.new w (l.set k x)
  rw [show LF (l.set k x) = (LF l).set k (fV x) by simp [LF, List.map_set]] at h
  exact h
theorem fa_one : fa 4607182418800017408 = some 4607182418800017408 := by decide
theorem FL.tail2 {w : World} {l : List Int} {ad : Addr} {n c : Nat} (h : FL w (some ad) n c l) (hn : 0 < n) : FL w (if c = 1 then some ad else some { block := ad.block, off := ad.off + 1 }) (n - 1) (c - 1) (l.drop 1) := by
  have ht : FL w (some (ad.add 1)) (n - 1) (c - 1) (l.drop 1) := h.tail hn
  have e : ad.add 1 = { block := ad.block, off := ad.off + 1 } := by simp [Addr.add]
  have hcn := h.2.1.1
  rw [h.1] at hcn
  by_cases hc : c = 1
  · rw [if_pos hc]
    have hl : (l.drop 1).length = 0 := by rw [List.length_drop, h.1]; omega
    exact ⟨ht.1, ⟨ht.2.1.1, ht.2.1.2.1, fun h0 => by omega⟩, ht.2.2⟩
  · rw [if_neg hc, ← e]
    exact ht
theorem FL.far {w : World} {l : List Int} {ad : Addr} {n c : Nat} (h : FL w (some ad) n c l) {p : Addr} (hp : ad.block ≠ p.block) (u : Value) : FL (w.setCell p u) (some ad) n c l := by
  obtain ⟨h1, h2, h3⟩ := h
  refine ⟨h1, ⟨h2.1, h2.2.1, fun hn => ?_⟩, h3⟩
  obtain ⟨a, e, hb, hc⟩ := h2.2.2 hn
  injection e with e
  subst e
  refine ⟨ad, rfl, by simpa [World.setCell] using hb, fun k hk => ?_⟩
  rw [World.cell?_setCell_other _ _ _ _ (fun e2 => hp (by rw [← Gadd_block ad k, e2])), hc k hk]
/-- a reflection as Go has it, and a block that holds one -/
abbrev rV (A : Option Addr) (n c t : Nat) : Value := .agg #[.slice A n c, .float .f64 t]
abbrev Rbx (w : World) (g : Nat) (A : Option Addr) (n c t : Nat) : Prop := GBlk w g [.slice A n c, .float .f64 t]
theorem Rbx.cells {w : World} {g n c t : Nat} {A : Option Addr} (h : Rbx w g A n c t) : w.cell? ⟨g, 0, none⟩ = some (.slice A n c) ∧ w.cell? ⟨g, 1, none⟩ = some (.float .f64 t) ∧ w.frozen? ⟨g, 0, none⟩ = false ∧ w.frozen? ⟨g, 1, none⟩ = false :=
  ⟨GBlk.cell h 0 rfl, GBlk.cell h 1 rfl, GBlk.free h 0, GBlk.free h 1⟩
/-- an operation of the machine in a drawn region -/
theorem step_arith {w : World} {ops : Array Oper} {o : Oper} {a : Act} {K : Act → World → Prop} {Q : Exit → Act → World → Prop} {E : Prop} (op : BinOp) (hop : Ari op) (hgd : o.guard = none) (x y : Operand) (t t' : TypeId) (X Y : Nat)
    (ho : o.op = .binOp op t x y t') (hx : a.eval x = .float .f64 X) (hy : a.eval y = .float .f64 Y) (bx : X ≤ 18446744073709551615) (by_ : Y ≤ 18446744073709551615)
    (h : ∀ r w', Below w.heap.size w w' → af r = aop op (af X) (af Y) → r ≤ 18446744073709551615 → Dr w w' → K (a.put o.dst (.float .f64 r)) w') :
    if Region.wanted o (yielded ops a.tmps) = true then Oper.wp Tryz.prog o a w K Q else E := by
  have hw : Region.wanted o (yielded ops a.tmps) = true := by simp [Region.wanted, hgd]
  rw [if_pos hw]
  obtain ⟨r, w', hrun, hd, hr, br⟩ := run_op (P := Tryz.prog) op t bx by_ hop w
  have hq : (Go.eqGuard op t x y (Value.float .f64 X) (Value.float .f64 Y)).run Tryz.prog w = Result.ok () w := by rcases hop with rfl | rfl | rfl | rfl <;> rfl
  unfold Oper.wp execOp
  simp only [ho, hx, hy, Sem.run_bind, Sem.run_pure, Result.andThen_ok, hq, hrun]
  exact h r w' (hd.below _) hr br hd
/-- a float that is f, up to NaNs; no more than new blocks -/
def FB (f : Option Nat) (w : World) (e : Ending) (w' : World) : Prop := ∃ r, e = .returned (.float .f64 r) ∧ af r = f ∧ r ≤ 18446744073709551615 ∧ Below w.heap.size w w'
/-- a value is handed back; no more than new blocks -/
def Ans (w : World) (v : Value) (e : Ending) (w' : World) : Prop := e = .returned v ∧ Below w.heap.size w w'
/-- a reflection that was made, and beta -/
def MkP (l : List Int) (n : Nat) (w : World) (e : Ending) (w' : World) : Prop := ∃ (g t b : Nat) (v : List Int), e = .returned (.tuple #[rV (some ⟨g, 0, none⟩) n n t, .float .f64 b, .int .i64 0]) ∧ RowF w' g v ∧ w.heap.size ≤ g ∧ Is v n (mkV l) ∧ af t = mkT l ∧ af b = mkB l ∧ t ≤ 18446744073709551615 ∧ b ≤ 18446744073709551615 ∧ Below w.heap.size w w'
def MkR (l : List Int) (n : Nat) (w : World) (e : Ending) (w' : World) : Prop := ∃ (g t b : Nat) (v : List Int), e = .returned (.tuple #[rV (some ⟨g, 0, none⟩) n n t, .float .f64 b]) ∧ RowF w' g v ∧ w.heap.size ≤ g ∧ Is v n (mkV l) ∧ af t = mkT l ∧ af b = mkB l ∧ t ≤ 18446744073709551615 ∧ b ≤ 18446744073709551615 ∧ Below w.heap.size w w'
end Go.Proofs.YtcdbjlmegkcaiaaGreatDoor
namespace Go.Proofs.YtcdbjlmegkcaiaaGreatDoor
open Go.RowKit Go.Bw
set_option linter.unusedVariables false
set_option linter.unusedSimpArgs false

theorem GBlk.grown {w w' : World} {g : Nat} {vs : List Value} {row : Option Nat} (h : GBlk w g vs) (hb : w.grownBy w' row) (hg : some g ≠ row) : GBlk w' g vs := by
  obtain ⟨T, h⟩ := h
  exact ⟨T, (hb.block g (lt_of_block h) hg).trans h⟩
theorem GBlk.drew {w : World} {g : Nat} {vs : List Value} (h : GBlk w g vs) : GBlk w.drew g vs := h
theorem FL.drew {w : World} {A : Option Addr} {n c : Nat} {l : List Int} (h : FL w A n c l) : FL w.drew A n c l := h
theorem OwnF.drew {w : World} {B c : Nat} {A : Option Addr} {l : List Int} (h : OwnF w B A c l) : OwnF w.drew B A c l := h
theorem FL.farB {w w' : World} {A : Option Addr} {n c g : Nat} {l : List Int} (h : FL w A n c l) (hg : w.grownBy w' (some g)) (hA : ∀ a, A = some a → a.block ≠ g) : FL w' A n c l :=
  ⟨h.1, ⟨h.2.1.1, h.2.1.2.1, fun hn => by
    obtain ⟨ad, e, hb, hc⟩ := h.2.1.2.2 hn
    have hbl : w'.heap[ad.block]? = w.heap[ad.block]? := hg.block _ hb (fun e2 => hA ad e (by injection e2))
    refine ⟨ad, e, Nat.lt_of_lt_of_le hb hg.size, fun k hk => ?_⟩
    rw [← hc k hk]
    unfold World.cell?
    rw [Gadd_block, hbl]⟩, h.2.2⟩
section
variable {w w' W : World} {B g cap : Nat} {A : Option Addr} {l : List Int}
theorem OwnF.on_ (h : OwnF w B A cap l) (hb : Below w.heap.size w w') : OwnF w' B A cap l := h.below hb
theorem OwnF.gt (h : OwnF w B A cap l) {ad : Addr} (e : A = some ad) : B ≤ ad.block ∧ ad.block < w.heap.size := World.ownsRow.lt h ad.block (by rw [e]; rfl)
theorem OwnF.at_ (h : OwnF w B A cap l) {k : Nat} (hk : k < l.length) : ∃ g, A = some ⟨g, 0, none⟩ ∧ w.cell? ⟨g, k, none⟩ = some (.float .f64 (GD l k).toNat) ∧ w.frozen? ⟨g, k, none⟩ = false := by
  obtain ⟨g, rfl, _, _⟩ := h.form (by omega)
  refine ⟨g, rfl, ?_, World.ownsRow.frozenAt h k⟩
  have := World.ownsRow.cellAt h k (by simpa using hk)
  rw [this, LF_get hk]
theorem OwnF.at' (h : OwnF w B (some ⟨g, 0, none⟩) cap l) {k : Nat} (hk : k < l.length) : w.cell? ⟨g, k, none⟩ = some (.float .f64 (GD l k).toNat) ∧ w.frozen? ⟨g, k, none⟩ = false := by
  obtain ⟨g', e, h1, h2⟩ := h.at_ hk
  cases e
  exact ⟨h1, h2⟩
theorem OwnF.set_ (h : OwnF w B (some ⟨g, 0, none⟩) cap l) (k : Nat) (x : Int) : OwnF (w.setCell ⟨g, k, none⟩ (fV x)) B (some ⟨g, 0, none⟩) cap (l.set k x) := by
  have := World.ownsRow.stored h k (fV x)
  unfold OwnF
  rw [List.length_set]
  simpa [LF, List.map_set] using this.1
theorem OwnF.fl (h : OwnF w B A cap l) (hw : Wd l) : FL w A l.length cap l := ⟨rfl, h.nums, hw⟩
theorem OwnF.grown_ {row : Option Nat} (h : OwnF w B A cap l) (hg : w.grownBy w' row) (hA : ∀ a, A = some a → some a.block ≠ row) : OwnF w' B A cap l := by
  rcases h with ⟨h1, h2⟩
  refine ⟨h1, h2.imp id fun ⟨g, cap, cur, hv, hgB, hh, r⟩ => ⟨g, cap, cur, hv, hgB, (hg.block g (lt_of_block hh) ?_).trans hh, r⟩⟩
  injection hv with e
  exact hA _ e
theorem OwnF.ge (h : OwnF w B (some ⟨g, 0, none⟩) cap l) : l.length ≤ cap ∧ cap ≤ 9223372036854775807 := by
  have := h.nums
  exact ⟨this.le, this.max'⟩
theorem RowF.owned (h : RowF w g l) (hm : l.length ≤ 4000000) (hB : B ≤ g) : OwnF w B (some ⟨g, 0, none⟩) l.length l := by
  have := h.own (B := B) l.length (Nat.le_refl _) (by unfold maxLen; omega) hB
  rwa [List.take_length] at this
theorem grown_on (h : w.grownBy w' (some g)) (hb : Below w'.heap.size w' W) : w.grownBy W (some g) :=
  ⟨hb.os.trans h.os, hb.tape.trans h.tape, hb.output.trans h.output, Nat.le_trans h.size hb.size, fun k hk hne => (hb.block k (Nat.lt_of_lt_of_le hk h.size)).trans (h.block k hk hne)⟩
theorem grown_trans {row : Option Nat} (h : w.grownBy w' row) (k : w'.grownBy W row) : w.grownBy W row :=
  ⟨k.os.trans h.os, k.tape.trans h.tape, k.output.trans h.output, Nat.le_trans h.size k.size, fun b hb hne => (k.block b (Nat.lt_of_lt_of_le hb h.size) hne).trans (h.block b hb hne)⟩
theorem grown_below (h : Below w.heap.size w w') (row : Option Nat) : w.grownBy w' row := ⟨h.os, h.tape, h.output, h.size, fun k hk _ => h.block k hk⟩
theorem grown_setCell (h : w.grownBy w' (some g)) (k : Nat) (u : Value) : w.grownBy (w'.setCell ⟨g, k, none⟩ u) (some g) :=
  ⟨h.os, h.tape, h.output, Nat.le_trans h.size (by simp [World.setCell]), fun b hb hne => (Below.heap_setCell w' ⟨g, k, none⟩ u b (fun e => hne (by rw [e]))).trans (h.block b hb hne)⟩
theorem below_grown {B : Nat} (h : Below B w w') (k : w'.grownBy W (some g)) (hg : B ≤ g) (hB : B ≤ w'.heap.size) : Below B w W := h.grown k hB (fun b e => by injection e with e; omega)
end

/-- of a list the places pos 0, .., pos (k - 1) are F; the rest is as it was -/
structure Tn (L L' : List Int) (pos : Nat → Nat) (k : Nat) (F : Nat → Option Nat) : Prop where
  len : L'.length = L.length
  wd : Wd L'
  new : ∀ i, i < k → fa (GD L' (pos i)) = F i
  old : ∀ p, (∀ i, i < k → p ≠ pos i) → GD L' p = GD L p
theorem Tn.start {L : List Int} (hw : Wd L) (pos : Nat → Nat) (F : Nat → Option Nat) : Tn L L pos 0 F := ⟨rfl, hw, fun i hi => by omega, fun p _ => rfl⟩
theorem Tn.next {L L' : List Int} {pos : Nat → Nat} {k : Nat} {F : Nat → Option Nat} (h : Tn L L' pos k F) {x : Int} (x0 : 0 ≤ x) (x1 : x ≤ 18446744073709551615) (hk : pos k < L.length) (hi : ∀ i, i < k → pos i ≠ pos k) (hx : fa x = F k) : Tn L (L'.set (pos k) x) pos (k + 1) F := by
  have hk' : pos k < L'.length := by rw [h.len]; exact hk
  refine ⟨by rw [List.length_set]; exact h.len, wd_set h.wd x0 x1 _, fun i hik => ?_, fun p hp => ?_⟩
  · rw [GD_set (l := L') x (pos i) hk']
    by_cases e : i = k
    · subst e; rw [if_pos rfl]; exact hx
    · rw [if_neg (hi i (by omega))]; exact h.new i (by omega)
  · rw [GD_set (l := L') x p hk', if_neg (hp k (by omega))]
    exact h.old p (fun i hik => hp i (by omega))
/-- a matrix, a line of it new -/
theorem Mr.line {L L' l : List Int} {M q m : Nat} {P P' : Nat → Nat → Bool} {f : Nat → Nat → Option Nat} {pos : Nat → Nat} {F : Nat → Option Nat} (h : Mr L l M q P f) (t : Tn L L' pos m F) (ca cb : Nat → Nat)
    (hin : ∀ i, i < m → ca i < M ∧ cb i < q) (hpos : ∀ i, i < m → pos i = ca i * q + cb i) (hF : ∀ i, i < m → F i = f (ca i) (cb i))
    (hP : ∀ a b, a < M → b < q → (P' a b = true ↔ P a b = true ∨ ∃ i, i < m ∧ a = ca i ∧ b = cb i)) : Mr L' l M q P' f := by
  have hat : ∀ a b, a < M → b < q → (∀ i, i < m → ¬ (a = ca i ∧ b = cb i)) → ma L' q a b = ma L q a b := fun a b ha hb hn => by
    unfold ma
    rw [t.old _ (fun i hi e => hn i hi (ix_eq hb (hin i hi).2 (by rw [e, hpos i hi])))]
  have hnw : ∀ i, i < m → ma L' q (ca i) (cb i) = f (ca i) (cb i) := fun i hi => by
    unfold ma
    rw [← hpos i hi, t.new i hi, hF i hi]
  refine ⟨t.len.trans h.len, t.wd, fun a b ha hb hp => ?_, fun a b ha hb hp => ?_⟩
  · by_cases e : ∃ i, i < m ∧ a = ca i ∧ b = cb i
    · obtain ⟨i, hi, e1, e2⟩ := e
      rw [e1, e2]; exact hnw i hi
    · rw [hat a b ha hb (fun i hi e2 => e ⟨i, hi, e2⟩)]
      rcases (hP a b ha hb).1 hp with h1 | h1
      · exact h.new a b ha hb h1
      · exact absurd h1 e
  · have hn : ¬ (P a b = true ∨ ∃ i, i < m ∧ a = ca i ∧ b = cb i) := fun h9 => by rw [(hP a b ha hb).2 h9] at hp; cases hp
    rw [hat a b ha hb (fun i hi e2 => hn (.inr ⟨i, hi, e2⟩))]
    exact h.old a b ha hb (by cases hq : P a b; rfl; exact absurd (.inl hq) hn)

/-- a reflection of a list, as memory has it -/
structure Re where
  A : Option Addr
  c : Nat
  l : List Int
  t : Nat
/-- a list of reflections -/
def Rl (w : World) (A : Option Addr) (n c : Nat) (hs : List Re) : Prop :=
  hs.length = n ∧ n ≤ 9223372036854775807 ∧ (∀ e ∈ hs, FL w e.A e.l.length e.c e.l ∧ e.t ≤ 18446744073709551615) ∧
  (n ≠ 0 → ∃ ad : Addr, A = some ad ∧ ad.block < w.heap.size ∧ ∀ (i : Nat) (e : Re), hs[i]? = some e → w.cell? (ad.add (i * 2)) = some (.slice e.A e.l.length e.c) ∧ w.cell? (ad.add (i * 2 + 1)) = some (.float .f64 e.t))
theorem Rl.on {w w' : World} {A : Option Addr} {n c : Nat} {hs : List Re} (h : Rl w A n c hs) (hb : Below w.heap.size w w') : Rl w' A n c hs := by
  obtain ⟨h1, h2, h3, h4⟩ := h
  refine ⟨h1, h2, fun e he => ⟨(h3 e he).1.on hb, (h3 e he).2⟩, fun hn => ?_⟩
  obtain ⟨ad, e1, hl, hc⟩ := h4 hn
  refine ⟨ad, e1, Nat.lt_of_lt_of_le hl hb.size, fun i e hi => ?_⟩
  obtain ⟨c0, c1⟩ := hc i e hi
  exact ⟨(hb.cell (by rw [Gadd_block]; exact hl)).trans c0, (hb.cell (by rw [Gadd_block]; exact hl)).trans c1⟩
theorem Rl.at_ {w : World} {A : Option Addr} {n c k : Nat} {hs : List Re} (h : Rl w A n c hs) (hk : k < n) :
    ∃ (e : Re) (ad ea : Addr), hs[k]? = some e ∧ A = some ad ∧ ad.add (k * 2) = ea ∧ ea.block < w.heap.size ∧ w.cell? ea = some (.slice e.A e.l.length e.c) ∧ w.cell? ⟨ea.block, ea.off + 1, none⟩ = some (.float .f64 e.t) ∧ FL w e.A e.l.length e.c e.l ∧ e.t ≤ 18446744073709551615 := by
  obtain ⟨h1, h2, h3, h4⟩ := h
  obtain ⟨ad, e1, hl, hc⟩ := h4 (by omega)
  have hi : k < hs.length := by omega
  obtain ⟨c0, c1⟩ := hc k hs[k] (List.getElem?_eq_getElem hi)
  obtain ⟨q1, q2⟩ := h3 hs[k] (List.getElem_mem hi)
  rw [← Gadd_add] at c1
  exact ⟨hs[k], ad, _, List.getElem?_eq_getElem hi, e1, rfl, by rw [Gadd_block]; exact hl, c0, c1, q1, q2⟩
/-- a list of one -/
theorem Rl.one {w : World} {g c t n : Nat} {A : Option Addr} {l : List Int} (h : FL w A n c l) (ht : t ≤ 18446744073709551615) (hb : Rbx w g A n c t) : Rl w (some ⟨g, 0, none⟩) 1 1 [⟨A, c, l, t⟩] := by
  have hn := h.1
  refine ⟨rfl, by omega, fun e he => ?_, fun _ => ⟨_, rfl, hb.lt, fun i e hi => ?_⟩⟩
  · rw [List.mem_singleton.1 he]
    exact ⟨by rw [hn]; exact h, ht⟩
  · rcases i with _ | i
    · simp only [List.getElem?_cons_zero, Option.some.injEq] at hi
      subst hi
      have h0 := GBlk.cell hb 0 rfl
      have h1 := GBlk.cell hb 1 rfl
      simp only [Nat.zero_mul, Nat.zero_add]
      rw [Gadd_at, Gadd_at]
      simp only [hn]
      exact ⟨h0, h1⟩
    · simp at hi
/-- may these be a matrix's rows, columns, and as many floats? -/
def mayB (R C : Int) (n : Nat) : Bool := decide (0 ≤ R ∧ R ≤ 512 ∧ 0 ≤ C ∧ C ≤ 512 ∧ (n : Int) = R * C)
/-- are all of one length? -/
def longB (n : Int) (hs : List Re) : Bool := hs.all (fun e => decide ((e.l.length : Int) = n))
/-- are there some, of one length that is not 0? -/
def togB : List Re → Bool
  | [] => false
  | e :: hs => decide (0 < e.l.length) && longB e.l.length (e :: hs)
/-- why a call is refused -/
def refC (g : Bool) (bs : List Bool) : Int := if g = true then (if bs.all id = true then 0 else 8) else 2
end Go.Proofs.YtcdbjlmegkcaiaaGreatDoor
namespace Go.Proofs.YtcdbjlmegkcaiaaGreatDoor
open Go.RowKit Go.Bw
set_option linter.unusedVariables false
set_option linter.unusedSimpArgs false

def GRet (v : Value) (W : World) (e : Ending) (w' : World) : Prop := e = .returned v ∧ W = w'
set_option maxHeartbeats 1000000 in
theorem gSized_any (x : Int) (w : World) : Calls Tryz.prog 46 #[.int .i64 x] w (GRet (.bool (decide (0 ≤ x ∧ x ≤ 512))) w) := by
  by_cases h0 : 0 ≤ x
  · by_cases h1 : x ≤ 512
    · have e : decide (0 ≤ x ∧ x ≤ 512) = true := decide_eq_true ⟨h0, h1⟩
      rw [e]
      clear e
      go_enter Tryz.func46, Tryz.ntmps46
      go_wp2_with fail
      go_ret
      exact ⟨rfl, rfl⟩
    · have e : decide (0 ≤ x ∧ x ≤ 512) = false := decide_eq_false (by omega)
      rw [e]
      clear e
      go_enter Tryz.func46, Tryz.ntmps46
      go_wp2_with fail
      go_ret
      exact ⟨by simp <;> omega, rfl⟩
  · have e : decide (0 ≤ x ∧ x ≤ 512) = false := decide_eq_false (by omega)
    rw [e]
    clear e
    go_enter Tryz.func46, Tryz.ntmps46
    go_wp2_with fail
    go_ret
    exact ⟨by simp <;> omega, rfl⟩
theorem prod512 {R C : Int} (h : 0 ≤ R ∧ R ≤ 512) (k : 0 ≤ C ∧ C ≤ 512) : 0 ≤ R * C ∧ R * C ≤ 262144 := by
  have a := Int.mul_nonneg h.1 k.1
  have b := Int.mul_le_mul h.2 k.2 k.1 (by omega)
  omega
set_option maxHeartbeats 2000000 in
theorem gMay_any {R C : Int} {A : Option Addr} {n c : Nat} (hn : n ≤ 9223372036854775807) (w : World) : Calls Tryz.prog 19 #[mV R C A n c] w (Ans w (.bool (mayB R C n))) := by
  have pR := gSized_any R
  have pC := gSized_any C
  have bz := (Below.refl _ w).alloc (Nat.le_refl _) (.cells #[.int .i64 R, .int .i64 C, .slice A n c] 32)
  unfold mayB
  by_cases hR : 0 ≤ R ∧ R ≤ 512
  · rw [decide_eq_true hR] at pR
    by_cases hC : 0 ≤ C ∧ C ≤ 512
    · rw [decide_eq_true hC] at pC
      have hp := prod512 hR hC
      have e : decide (0 ≤ R ∧ R ≤ 512 ∧ 0 ≤ C ∧ C ≤ 512 ∧ (n : Int) = R * C) = ((n : Int) == R * C) := by
        rw [Bool.eq_iff_iff, decide_eq_true_iff, beq_iff_eq]
        constructor
        · intro h; exact h.2.2.2.2
        · intro h; exact ⟨hR.1, hR.2, hC.1, hC.2, h⟩
      rw [e]
      obtain ⟨z, hz⟩ : ∃ z, R * C = z := ⟨_, rfl⟩
      rw [hz] at hp ⊢
      clear e hR hC
      go_enter Tryz.func19, Tryz.ntmps19
      go_wp2_with fail
      with_reducible refine (pR _).mono ?_
      rintro e w1 ⟨rfl, rfl⟩
      go_wp2_with fail
      with_reducible refine (pC _).mono ?_
      rintro e w1 ⟨rfl, rfl⟩
      go_wp2_with fail
      go_ret
      exact ⟨rfl, bz⟩
    · rw [decide_eq_false hC] at pC
      rw [decide_eq_false (by omega)]
      clear hR hC
      go_enter Tryz.func19, Tryz.ntmps19
      go_wp2_with fail
      with_reducible refine (pR _).mono ?_
      rintro e w1 ⟨rfl, rfl⟩
      go_wp2_with fail
      with_reducible refine (pC _).mono ?_
      rintro e w1 ⟨rfl, rfl⟩
      go_wp2_with fail
      go_ret
      exact ⟨rfl, bz⟩
  · rw [decide_eq_false hR] at pR
    rw [decide_eq_false (by omega)]
    clear hR
    go_enter Tryz.func19, Tryz.ntmps19
    go_wp2_with fail
    with_reducible refine (pR _).mono ?_
    rintro e w1 ⟨rfl, rfl⟩
    go_wp2_with fail
    go_ret
    exact ⟨rfl, bz⟩
/-- why a call is refused: two fits -/
theorem gRef_bad {A : Option Addr} {k c : Nat} (w : World) : Calls Tryz.prog 21 #[.bool false, .slice A k c] w (GRet (.int .i64 2) w) := by
  go_enter Tryz.func21, Tryz.ntmps21
  go_wp2_with fail
  go_ret
  exact ⟨rfl, rfl⟩
def Bl (w : World) (A : Option Addr) (n : Nat) (bs : List Bool) : Prop := bs.length = n ∧ n ≤ 4000 ∧ (n ≠ 0 → ∃ ad : Addr, A = some ad ∧ ∀ (i : Nat) (b : Bool), bs[i]? = some b → w.cell? (ad.add i) = some (.bool b))
set_option maxHeartbeats 4000000 in
theorem gRef_any {A : Option Addr} {n c : Nat} {bs : List Bool} {w : World} {E : Int} (h : Bl w A n bs) (hE : (if bs.all id = true then (0 : Int) else 8) = E) : Calls Tryz.prog 21 #[.bool true, .slice A n c] w (GRet (.int .i64 E) w) := by
  have HE := Lib.hid hE
  clear hE
  obtain ⟨h1, h2, h3⟩ := h
  have H3 := Lib.hid h3
  clear h3
  go_enter Tryz.func21, Tryz.ntmps21
  go_wp2_with fail
  go_loopw [11] (fun i wr => ∃ k : Nat, k ≤ n ∧ i = .int .i64 k ∧ (bs.take k).all id = true ∧ w = wr) (fun i _ => n - (intOf i).toNat)
  case atStart => exact ⟨0, Nat.zero_le _, rfl, rfl, rfl⟩
  case round =>
    obtain ⟨k, hk, rfl, ha, rfl⟩ := hrel
    by_cases hlt : k < n
    · obtain ⟨ad, rfl, hc⟩ := H3.out (by omega)
      have hg : bs[k]? = some bs[k] := List.getElem?_eq_getElem (by omega)
      have hc0 := hc k _ hg
      have ht : bs.take (k + 1) = bs.take k ++ [bs[k]] := by rw [List.take_add_one, hg]; rfl
      have k0 : (0 : Int) ≤ k := by omega
      have k1 : (k : Int) < n := by omega
      have HT := Lib.hid ht
      have HA := Lib.hid ha
      have HM : Hid (bs[k] ∈ bs) := Lib.hid (List.getElem_mem _)
      clear ht ha hg hc
      generalize bs[k] = b at *
      cases b
      · go_wp2_with fail
        go_ret
        refine ⟨?_, rfl⟩
        have : bs.all id = false := by
          rw [List.all_eq_false]
          exact ⟨false, HM.out, by simp⟩
        rw [← HE.out, this]; rfl
      · go_wp2_with fail
        go_roundw
        case rel => exact ⟨k + 1, by omega, by go_num, by rw [HT.out, List.all_append, HA.out]; rfl, by first | rfl | trivial⟩
        case measure => simp [intOf]; omega
    · obtain rfl : k = n := by omega
      rw [← h1, List.take_length] at ha
      have e0 : E = 0 := HE.out.symm.trans (if_pos ha)
      subst e0
      clear ha HE
      go_wp2_with fail
      go_ret
      exact ⟨rfl, rfl⟩
end Go.Proofs.YtcdbjlmegkcaiaaGreatDoor
