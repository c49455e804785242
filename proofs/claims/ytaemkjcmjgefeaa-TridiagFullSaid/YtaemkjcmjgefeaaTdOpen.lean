/-
  Layer 10: a tridiagonal that comes in, opened to what the walks are told of it.
-/
import Derived.Test.YtaemkjcmjgefeaaQRfOpen
import Derived.Test.YtaemkjcmjgefeaaTdB
namespace Go.Proofs.Ytaemkjcmjgefeaa
open Go.ChangeShapes Go.WideShapes Go.ChangeAt Go.RowKit Go.Joins Go.Bw
set_option linter.unusedVariables false
theorem cells_tri : Try.prog.cellsOf 28 = 2 := by kernel_rfl
set_option maxRecDepth 100000 in
theorem open_tri {H : Type} {enc : TypeId × Value → H} {W : World} {base b0 : Nat} {held : Bool} {r : Reach} {v : Value} {d : DataW H} {p : List MemPlace}
    (hv : Value.okWide Try.prog W r b0 28 v) (h : DataW.Trod enc Try.prog W base (fun _ => true) held 28 v d p) :
    ∃ (A : Option Addr) (n c : Nat) (B : Option Addr) (m e : Nat) (l y : List Int), v = tV A n c B m e ∧ FL W A n c l ∧ FL W B m e y := by
  obtain ⟨c0, c1, y0, y1, f, rfl, rfl, rfl, hy0, hy1⟩ := open_agg2 Try.underlying28 (by kernel_rfl) cells_tri hv h
  obtain ⟨A, n, c, l, e2, hl⟩ := open_fl hy0
  simp only [List.cons.injEq, and_true] at e2
  subst e2
  obtain ⟨B, m, e, y, e3, hl2⟩ := open_fl hy1
  simp only [List.cons.injEq, and_true] at e3
  subst e3
  exact ⟨A, n, c, B, m, e, l, y, rfl, hl, hl2⟩
end Go.Proofs.Ytaemkjcmjgefeaa
