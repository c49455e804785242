/-
  Layer 3, the laws: words of the laws. (Written by a script of wip/tools.)
-/
import Derived.Test.YtknomchkfamajaaGreatDoorDyTab
import Derived.Test.YtknomchkfamajaaGreatDoorDyV
import Derived.Test.YtknomchkfamajaaGreatDoorDyX
namespace Go.Proofs.YtknomchkfamajaaGreatDoor
open Go.RowKit Go.Sort Go.Bw
set_option linter.unusedVariables false
set_option linter.unusedSimpArgs false

section
variable {b : Bool} {A : Option Addr} {n c : Nat} {x : Int} {l : List Int} {w : World}
theorem lnumB (k : Int) (w : World) : Calls Tryz.prog 23 #[.int .i64 k] w fun e w' => e = .returned (.int .i64 k) ∧ Below w.heap.size w w' := (lnum_any k w).mono (by rintro e w' ⟨rfl, rfl⟩; exact ⟨rfl, Below.refl _ _⟩)
theorem rSame_nil {w : World} (h : Lv w A ([] : List Int).length c []) : Calls Tryz.prog 22 #[dyV false A ([] : List Int).length c 0, dyV false none 0 0 0] w fun e w' => e = .returned (.bool true) ∧ Below w.heap.size w w' := rSame_any h (lv_nil _)
theorem DyK.zero {k : Int} {w : World} {e : Ending} {w' : World} (h : DyK zeroN k w e w') : ∃ A c, e = .returned (.tuple #[dyV false A 0 c 0, .int .i64 k]) ∧ Lv w' A 0 c [] ∧ Below w.heap.size w w' := by
  obtain ⟨b, l, A, c, x, rfl, hd, m, hb⟩ := h
  obtain ⟨z1, z2, z3⟩ := Dn.uniq Dn.zero hd (fun _ hy => nomatch hy) m.lim
  subst z1 z2 z3
  exact ⟨A, c, rfl, m, hb⟩
set_option maxRecDepth 100000 in
set_option maxHeartbeats 8000000 in
theorem llong_true (b : Bool) (A : Option Addr) (c : Nat) (x : Int) (w : World) (hn : 40 < n) :
    Calls Tryz.prog 14 #[dyV b A n c x] w fun e w' => e = .returned (.bool true) ∧ Below w.heap.size w w' := by
  have PB := Blk.new w [.bool b, .slice A n c, .int .i64 x] 24
  have bw : Below w.heap.size w (w.alloc (.cells #[.bool b, .slice A n c, .int .i64 x] 24)) := by go_grown
  have PB_0 := Blk.cell PB 0 rfl
  have PB_1 := Blk.cell PB 1 rfl
  have PB_2 := Blk.cell PB 2 rfl
  have PB_f0 := Blk.free PB 0
  have PB_f1 := Blk.free PB 1
  have PB_f2 := Blk.free PB 2
  have k9 : decide ((40 : Int) < (n : Int)) = true := by simp; omega
  go_enter Tryz.func14, Tryz.ntmps14
  go_wp2_with fail
  go_ret
  exact ⟨rfl, by go_grown⟩

set_option maxRecDepth 100000 in
set_option maxHeartbeats 8000000 in
theorem llong_false (b : Bool) (A : Option Addr) (c : Nat) (x : Int) (w : World) (hn : n ≤ 40) :
    Calls Tryz.prog 14 #[dyV b A n c x] w fun e w' => e = .returned (.bool false) ∧ Below w.heap.size w w' := by
  have PB := Blk.new w [.bool b, .slice A n c, .int .i64 x] 24
  have bw : Below w.heap.size w (w.alloc (.cells #[.bool b, .slice A n c, .int .i64 x] 24)) := by go_grown
  have PB_0 := Blk.cell PB 0 rfl
  have PB_1 := Blk.cell PB 1 rfl
  have PB_2 := Blk.cell PB 2 rfl
  have PB_f0 := Blk.free PB 0
  have PB_f1 := Blk.free PB 1
  have PB_f2 := Blk.free PB 2
  have k9 : decide ((40 : Int) < (n : Int)) = false := by simp; omega
  go_enter Tryz.func14, Tryz.ntmps14
  go_wp2_with fail
  go_ret
  exact ⟨rfl, by go_grown⟩

end
end Go.Proofs.YtknomchkfamajaaGreatDoor
