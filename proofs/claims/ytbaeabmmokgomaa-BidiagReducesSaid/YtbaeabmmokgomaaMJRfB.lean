/-
  Layer 9, words for memory: made lists of floats, reflections and matrices in boxes; a float operation in a drawn region.
-/
import Derived.Test.YtbaeabmmokgomaaMJRfA
import Derived.Test.YtbaeabmmokgomaaMJRAfQ
import Derived.Test.YtbaeabmmokgomaaMJRgT
import Derived.Deep.Cut
namespace Go.Proofs.Ytbaeabmmokgomaa
open Go.RowKit Go.Bw
set_option linter.unusedVariables false
set_option linter.unusedSimpArgs false

theorem run_store_float {P : Program} {w : World} {a : Addr} {m : Mode} (k : FloatKind) (n : Nat) : (store a (.float k n) m).run P w = stored P w a (.float k n) m := run_store P w a _ m rfl
/-- what 'make' lays -/
theorem made_F (n : Nat) : madeCells #[Value.float .f64 0] n = (LF (List.replicate n 0)).toArray := by
  apply Array.ext'
  rw [toList_madeCells_one]
  simp [LF]
theorem run_makeF (n : Nat) (hn : n ≤ 4000000) (w : World) :
    (Instr.makeSlice 22 (.int .i64 (n : Int)) (.int .i64 (n : Int))).run Try.prog w = .ok (.slice (some ⟨w.heap.size, 0, none⟩) n n) (w.alloc (.cells (LF (List.replicate n 0)).toArray 49)) := by
  obtain ⟨i, hi, hz0, hz1, hz2⟩ := info_parts info39F
  have hr := Go.run_make (P := Try.prog) w 22 49 i (.float .f64 0) Try.underlying22 hi hz0 .i64 .i64 n n (by omega) (by omega) (by rw [hz2]; omega) (by omega)
  simp only [Int.toNat_natCast, hz1, Nat.mul_one] at hr
  rw [show (Value.float .f64 0).cells = #[Value.float .f64 0] from rfl, made_F] at hr
  exact hr
theorem wd_zeros (n : Nat) : Wd (List.replicate n 0) := fun x hx => by rw [List.eq_of_mem_replicate hx]; decide
theorem D_zeros (n k : Nat) : D (List.replicate n 0) k = 0 := by
  unfold D
  rw [List.getD_eq_getElem?_getD, List.getElem?_replicate]
  split <;> rfl
section
variable {w w' : World} {g B : Nat} {l : List Int}
theorem RowF.on (h : RowF w g l) (hb : Below w.heap.size w w') : RowF w' g l := h.below hb h.lt
theorem RowF.dr (h : RowF w g l) (hd : Dr w w') : RowF w' g l := by obtain ⟨k, rfl⟩ := hd; exact h
theorem RowF.fl (h : RowF w g l) (hw : Wd l) (hm : l.length ≤ maxLen) : FL w (some ⟨g, 0, none⟩) l.length l.length l := by
  have := h.nums (B := w.heap.size) (c := l.length) 0 l.length (by omega) (Nat.le_refl _) hm h.lt
  refine ⟨rfl, ?_, hw⟩
  simpa using this
theorem RowF.at_ (h : RowF w g l) {k : Nat} (hk : k < l.length) : w.cell? ⟨g, k, none⟩ = some (.float .f64 (D l k).toNat) ∧ w.frozen? ⟨g, k, none⟩ = false := ⟨h.cell hk, h.frozen k⟩
theorem FL.head {ad : Addr} {n c : Nat} (h : FL w (some ad) n c l) (hn : 0 < n) : w.cell? ad = some (.float .f64 (D l 0).toNat) := by
  have := h.2.1.at_some (k := 0) (by rw [h.1]; exact hn)
  rwa [show ad.add 0 = ad by simp [Addr.add]] at this
/-- the end of a list -/
theorem FL.tail {A : Option Addr} {n c : Nat} (h : FL w A n c l) (hn : 0 < n) : FL w (A.map (·.add 1)) (n - 1) (c - 1) (l.drop 1) := by
  obtain ⟨h1, h2, h3⟩ := h
  refine ⟨by rw [List.length_drop]; omega, ⟨by rw [List.length_drop]; have := h2.1; omega, by have := h2.2.1; omega, fun hd => ?_⟩, fun x hx => h3 x (List.mem_of_mem_drop hx)⟩
  obtain ⟨ad, e, hb, hc⟩ := h2.2.2 (by omega)
  refine ⟨ad.add 1, by rw [e]; rfl, by rw [add_block]; exact hb, fun k hk => ?_⟩
  rw [List.length_drop] at hk
  rw [add_add, hc (1 + k) (by omega), D_drop]
end
theorem RowF.newSet (w : World) (l : List Int) (k : Nat) (x : Int) : RowF (w.alloc (.cells ((LF l).set k (fV x)).toArray 49)) w.heap.size (l.set k x) := by
  have h := RowF.new w (l.set k x)
  rw [show LF (l.set k x) = (LF l).set k (fV x) by simp [LF, List.map_set]] at h
  exact h
theorem fa_one : fa 4607182418800017408 = some 4607182418800017408 := by decide
theorem FL.tail2 {w : World} {l : List Int} {ad : Addr} {n c : Nat} (h : FL w (some ad) n c l) (hn : 0 < n) : FL w (if c = 1 then some ad else some { block := ad.block, off := ad.off + 1 }) (n - 1) (c - 1) (l.drop 1) := by
  have ht : FL w (some (ad.add 1)) (n - 1) (c - 1) (l.drop 1) := h.tail hn
  have e : ad.add 1 = { block := ad.block, off := ad.off + 1 } := by simp [Addr.add]
  have hcn := h.2.1.1
  rw [h.1] at hcn
  by_cases hc : c = 1
  · rw [if_pos hc]
    have hl : (l.drop 1).length = 0 := by rw [List.length_drop, h.1]; omega
    exact ⟨ht.1, ⟨ht.2.1.1, ht.2.1.2.1, fun h0 => by omega⟩, ht.2.2⟩
  · rw [if_neg hc, ← e]
    exact ht
theorem FL.far {w : World} {l : List Int} {ad : Addr} {n c : Nat} (h : FL w (some ad) n c l) {p : Addr} (hp : ad.block ≠ p.block) (u : Value) : FL (w.setCell p u) (some ad) n c l := by
  obtain ⟨h1, h2, h3⟩ := h
  refine ⟨h1, ⟨h2.1, h2.2.1, fun hn => ?_⟩, h3⟩
  obtain ⟨a, e, hb, hc⟩ := h2.2.2 hn
  injection e with e
  subst e
  refine ⟨ad, rfl, by simpa [World.setCell] using hb, fun k hk => ?_⟩
  rw [World.cell?_setCell_other _ _ _ _ (fun e2 => hp (by rw [← add_block ad k, e2])), hc k hk]
/-- a reflection as Go has it, and a block that holds one -/
abbrev rV (A : Option Addr) (n c t : Nat) : Value := .agg #[.slice A n c, .float .f64 t]
abbrev Rbx (w : World) (g : Nat) (A : Option Addr) (n c t : Nat) : Prop := Blk w g [.slice A n c, .float .f64 t]
theorem Rbx.cells {w : World} {g n c t : Nat} {A : Option Addr} (h : Rbx w g A n c t) : w.cell? ⟨g, 0, none⟩ = some (.slice A n c) ∧ w.cell? ⟨g, 1, none⟩ = some (.float .f64 t) ∧ w.frozen? ⟨g, 0, none⟩ = false ∧ w.frozen? ⟨g, 1, none⟩ = false :=
  ⟨Blk.cell h 0 rfl, Blk.cell h 1 rfl, Blk.free h 0, Blk.free h 1⟩
/-- an operation of the machine in a drawn region -/
theorem step_arith {w : World} {ops : Array Oper} {o : Oper} {a : Act} {K : Act → World → Prop} {Q : Exit → Act → World → Prop} {E : Prop} (op : BinOp) (hop : Ari op) (hgd : o.guard = none) (x y : Operand) (t t' : TypeId) (X Y : Nat)
    (ho : o.op = .binOp op t x y t') (hx : a.eval x = .float .f64 X) (hy : a.eval y = .float .f64 Y) (bx : X ≤ 18446744073709551615) (by_ : Y ≤ 18446744073709551615)
    (h : ∀ r w', Below w.heap.size w w' → af r = aop op (af X) (af Y) → r ≤ 18446744073709551615 → Dr w w' → K (a.put o.dst (.float .f64 r)) w') :
    if Region.wanted o (yielded ops a.tmps) = true then Oper.wp Try.prog o a w K Q else E := by
  have hw : Region.wanted o (yielded ops a.tmps) = true := by simp [Region.wanted, hgd]
  rw [if_pos hw]
  obtain ⟨r, w', hrun, hd, hr, br⟩ := run_op (P := Try.prog) op t bx by_ hop w
  have hq : (Go.eqGuard op t x y (Value.float .f64 X) (Value.float .f64 Y)).run Try.prog w = Result.ok () w := by rcases hop with rfl | rfl | rfl | rfl <;> rfl
  unfold Oper.wp execOp
  simp only [ho, hx, hy, Sem.run_bind, Sem.run_pure, Result.andThen_ok, hq, hrun]
  exact h r w' (hd.below _) hr br hd
/-- a float that is f, up to NaNs; no more than new blocks -/
def FB (f : Option Nat) (w : World) (e : Ending) (w' : World) : Prop := ∃ r, e = .returned (.float .f64 r) ∧ af r = f ∧ r ≤ 18446744073709551615 ∧ Below w.heap.size w w'
/-- a value is handed back; no more than new blocks -/
def Ans (w : World) (v : Value) (e : Ending) (w' : World) : Prop := e = .returned v ∧ Below w.heap.size w w'
/-- a reflection that was made, and beta -/
def MkP (l : List Int) (n : Nat) (w : World) (e : Ending) (w' : World) : Prop := ∃ (g t b : Nat) (v : List Int), e = .returned (.tuple #[rV (some ⟨g, 0, none⟩) n n t, .float .f64 b, .int .i64 0]) ∧ RowF w' g v ∧ w.heap.size ≤ g ∧ Is v n (mkV l) ∧ af t = mkT l ∧ af b = mkB l ∧ t ≤ 18446744073709551615 ∧ b ≤ 18446744073709551615 ∧ Below w.heap.size w w'
def MkR (l : List Int) (n : Nat) (w : World) (e : Ending) (w' : World) : Prop := ∃ (g t b : Nat) (v : List Int), e = .returned (.tuple #[rV (some ⟨g, 0, none⟩) n n t, .float .f64 b]) ∧ RowF w' g v ∧ w.heap.size ≤ g ∧ Is v n (mkV l) ∧ af t = mkT l ∧ af b = mkB l ∧ t ≤ 18446744073709551615 ∧ b ≤ 18446744073709551615 ∧ Below w.heap.size w w'
end Go.Proofs.Ytbaeabmmokgomaa
