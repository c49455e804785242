/-
  Layer 10, walks: whether a tridiagonal may be, by the reference.
-/
import Derived.Test.YtaemkjcmjgefeaaQRfH
namespace Go.Proofs.Ytaemkjcmjgefeaa
open Go.RowKit Go.Bw
set_option linter.unusedVariables false
set_option linter.unusedSimpArgs false

abbrev triT : TypeId := 28
/-- a tridiagonal -/
abbrev tV (A : Option Addr) (n c : Nat) (A2 : Option Addr) (m c2 : Nat) : Value := .agg #[.slice A n c, .slice A2 m c2]
abbrev Tbx (w : World) (g : Nat) (A : Option Addr) (n c : Nat) (A2 : Option Addr) (m c2 : Nat) : Prop := Blk w g [.slice A n c, .slice A2 m c2]
theorem Tbx.cells {w : World} {g n c m c2 : Nat} {A A2 : Option Addr} (h : Tbx w g A n c A2 m c2) : w.cell? ⟨g, 0, none⟩ = some (.slice A n c) ∧ w.cell? ⟨g, 1, none⟩ = some (.slice A2 m c2) ∧ w.frozen? ⟨g, 0, none⟩ = false ∧ w.frozen? ⟨g, 1, none⟩ = false :=
  ⟨h.cell 0 rfl, h.cell 1 rfl, h.free 0, h.free 1⟩
def mayT (n m : Nat) : Bool := decide (n ≤ 512 ∧ ((n = 0 ∧ m = 0) ∨ (0 < n ∧ m + 1 = n)))
set_option maxRecDepth 100000 in
set_option maxHeartbeats 4000000 in
theorem rMayT_any {A A2 : Option Addr} {n c m c2 : Nat} (hn : n ≤ 9223372036854775807) (hm : m ≤ 9223372036854775807) (w : World) :
    Calls Try.prog 18 #[tV A n c A2 m c2] w (Ans w (.bool (mayT n m))) := by
  have bz := (Below.refl _ w).alloc (Nat.le_refl _) (.cells #[.slice A n c, .slice A2 m c2] 28)
  by_cases h1 : n ≤ 512
  · have i1 : (n : Int) ≤ 512 := by omega
    by_cases h0 : n = 0
    · subst h0
      by_cases hm0 : m = 0
      · subst hm0
        rw [show mayT 0 0 = true from rfl]
        go_enter Try.func18, Try.ntmps18
        go_wp2_with fail
        go_ret
        exact ⟨rfl, bz⟩
      · have e : mayT 0 m = false := decide_eq_false (by omega)
        have m1 : ¬ (m : Int) = 0 := by omega
        have m2 : ((m : Int) == 0) = false := by simpa using m1
        rw [e]
        clear e hm0
        go_enter Try.func18, Try.ntmps18
        go_wp2_with fail
        go_ret
        exact ⟨rfl, bz⟩
    · have n1 : ¬ (n : Int) = 0 := by omega
      have n2 : ((n : Int) == 0) = false := by simpa using n1
      have n3 : (0 : Int) < n := by omega
      have n4 : 0 < n := by omega
      by_cases hm1 : m + 1 = n
      · have e : mayT n m = true := decide_eq_true (by omega)
        have m1 : (m : Int) = (n : Int) - 1 := by omega
        have m2 : ((m : Int) == (n : Int) - 1) = true := by simpa using m1
        rw [e]
        clear e hm1 h0
        go_enter Try.func18, Try.ntmps18
        go_wp2_with fail
        go_ret
        exact ⟨rfl, bz⟩
      · have e : mayT n m = false := decide_eq_false (by omega)
        have m1 : ¬ (m : Int) = (n : Int) - 1 := by omega
        have m2 : ((m : Int) == (n : Int) - 1) = false := by simpa using m1
        rw [e]
        clear e hm1 h0
        go_enter Try.func18, Try.ntmps18
        go_wp2_with fail
        go_ret
        exact ⟨rfl, bz⟩
  · have i1 : ¬ (n : Int) ≤ 512 := by omega
    have e : mayT n m = false := decide_eq_false (by omega)
    rw [e]
    clear e h1
    go_enter Try.func18, Try.ntmps18
    go_wp2_with fail
    go_ret
    exact ⟨rfl, bz⟩
end Go.Proofs.Ytaemkjcmjgefeaa
