/-
  Layer 10, walks: whether a tridiagonal may be, by the reference.
-/
import Derived.Test.YtbaeabmmokgomaaMJRfH
namespace Go.Proofs.Ytbaeabmmokgomaa
open Go.RowKit Go.Bw
set_option linter.unusedVariables false
set_option linter.unusedSimpArgs false

/-- a tridiagonal -/
abbrev tV (A : Option Addr) (n c : Nat) (A2 : Option Addr) (m c2 : Nat) : Value := .agg #[.slice A n c, .slice A2 m c2]
abbrev Tbx (w : World) (g : Nat) (A : Option Addr) (n c : Nat) (A2 : Option Addr) (m c2 : Nat) : Prop := Blk w g [.slice A n c, .slice A2 m c2]
theorem Tbx.cells {w : World} {g n c m c2 : Nat} {A A2 : Option Addr} (h : Tbx w g A n c A2 m c2) : w.cell? ⟨g, 0, none⟩ = some (.slice A n c) ∧ w.cell? ⟨g, 1, none⟩ = some (.slice A2 m c2) ∧ w.frozen? ⟨g, 0, none⟩ = false ∧ w.frozen? ⟨g, 1, none⟩ = false :=
  ⟨h.cell 0 rfl, h.cell 1 rfl, h.free 0, h.free 1⟩
def mayT (n m : Nat) : Bool := decide (n ≤ 512 ∧ ((n = 0 ∧ m = 0) ∨ (0 < n ∧ m + 1 = n)))
end Go.Proofs.Ytbaeabmmokgomaa
