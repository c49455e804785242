/-
  Layer 2, walks, part eighteen: a number divided by a number.
-/
import Derived.Test.YtigphbjgodfhpaaDoorNatT
namespace Go.Proofs.YtigphbjgodfhpaaDoor
open Go.RowKit
set_option linter.unusedVariables false

/-- a quotient and a rest, in new memory -/
def Two (vl vm : Int) (w : World) (e : Ending) (w' : World) : Prop :=
  ∃ q r A1 c1 A2 c2, e = .returned (.tuple #[.slice A1 q.length c1, .slice A2 r.length c2]) ∧ Lim 18446744073709551616 q ∧ Lim 18446744073709551616 r ∧ Normal q ∧ Normal r ∧
    Hid (vl = val 18446744073709551616 q * vm + val 18446744073709551616 r ∧ val 18446744073709551616 r < vm) ∧ Own w' w.heap.size A1 c1 q ∧ Own w' w.heap.size A2 c2 r ∧ Below w.heap.size w w'

set_option maxHeartbeats 1000000 in
theorem divided_less (A : Option Addr) (c : Nat) (l : List Int) (A2 : Option Addr) (c2 : Nat) (m : List Int) (w : World) (h : Nums w w.heap.size A c l) (hl : Lim 18446744073709551616 l) (nl : Normal l)
    (h2 : Nums w w.heap.size A2 c2 m) (hl2 : Lim 18446744073709551616 m) (nm : Normal m) (hb1 : l.length ≤ 1000000) (hb2 : m.length ≤ 1000000) (hlt : l.length < m.length) :
    Calls Tryd.prog 60 #[.slice A l.length c, .slice A2 m.length c2] w (Two (val 18446744073709551616 l) (val 18446744073709551616 m) w) := by
  go_enter Tryd.func60, Tryd.ntmps60
  go_wp2_with (go_at_call 52; ((with_reducible refine (clone_any A c l _ h hb1).mono ?_); rintro e w1 ⟨A1, c1, rfl, hown, hb⟩))
  go_ret2
  exact ⟨[], l, none, 0, A1, c1, rfl, Lim.nil _, hl, Normal.nil, nl, ⟨by rw [val_nil, Int.zero_mul]; omega, longer_greater (by omega) hl hl2 nm hlt⟩, Own.nil _ _, hown, hb⟩

set_option maxHeartbeats 2000000 in
theorem divided_one (A : Option Addr) (c : Nat) (l : List Int) (A2 : Option Addr) (c2 : Nat) (m : List Int) (w : World) (h : Nums w w.heap.size A c l) (hl : Lim 18446744073709551616 l)
    (h2 : Nums w w.heap.size A2 c2 m) (hl2 : Lim 18446744073709551616 m) (nm : Normal m) (hb1 : l.length ≤ 1000000) (hm : m.length = 1) (hlt : 1 ≤ l.length) :
    Calls Tryd.prog 60 #[.slice A l.length c, .slice A2 m.length c2] w (Two (val 18446744073709551616 l) (val 18446744073709551616 m) w) := by
  have hmi : (m.length : Int) = 1 := by omega
  have hx := D_lim (b := 18446744073709551616) (by omega) hl2 0
  have hx0 : 0 < D m 0 := by
    rcases nm with h1 | h1
    · rw [h1] at hm; simp at hm
    · rw [hm] at h1; simp at h1; omega
  have hv : val 18446744073709551616 m = D m 0 := by unfold val; rw [hm]; simp [S]
  obtain ⟨ad, rfl, hadb, c1⟩ := h2.at_ (k := 0) (by omega)
  simp only [Addr.add, if_true] at c1
  have hmk := fun W => run_make l.length (by omega) W
  have hrow := Row.new w (List.replicate l.length 0)
  rw [hv]
  have HM := Lib.hid hm
  have hli : (1 : Int) ≤ l.length := by omega
  clear hm hv
  go_enter Tryd.func60, Tryd.ntmps60
  go_wp2_with (go_at_call 80; ((with_reducible refine (divideByLimb_any A c l (List.replicate l.length 0) w.heap.size (D m 0) w _ (h.alloc (Nat.le_refl _) _) hl hrow (by simp) (Lim.zeros (by omega) _) hb1 hx0 hx.2 ((Below.refl _ w).alloc (Nat.le_refl _) _) (Nat.le_refl _)).mono ?_); rintro e w1 ⟨q, r, A1, c1', A3, c3, rfl, hq1, hr1, hq2, hr2, hdiv, hq3, hr3, hb⟩))
  go_ret2
  exact ⟨q, r, A1, c1', A3, c3, rfl, hq1, hr1, hq2, hr2, hdiv, hq3, hr3, hb⟩
end Go.Proofs.YtigphbjgodfhpaaDoor
