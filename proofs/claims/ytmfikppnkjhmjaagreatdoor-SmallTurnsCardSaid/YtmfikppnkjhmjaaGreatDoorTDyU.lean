/-
  Layer 3, the laws, part one: words of the laws. (Written by wip/tools/gen_dyu.py.)
-/
import Derived.Test.YtmfikppnkjhmjaaGreatDoorTDyO
import Derived.Test.YtmfikppnkjhmjaaGreatDoorTDyR
import Derived.Test.YtmfikppnkjhmjaaGreatDoorTDyH
import Derived.Test.YtmfikppnkjhmjaaGreatDoorTDyS
import Derived.Lib.QuietBelow
namespace Go.Proofs.YtmfikppnkjhmjaaGreatDoor
open Go.RowKit Go.Sort Go.Bw
set_option linter.unusedVariables false
set_option linter.unusedSimpArgs false

section
variable {b : Bool} {A : Option Addr} {n c : Nat} {x : Int} {l : List Int} {w : World}
variable {b2 : Bool} {A2 : Option Addr} {n2 c2 : Nat} {x2 : Int} {l2 : List Int}
section
variable {d d2 : Nf} (hd : Dn b l x d) (h : Lv w A l.length c l) (hd2 : Dn b2 l2 x2 d2) (h2 : Lv w A2 l2.length c2 l2) (hT : Tab w)
include hd h
include hd2 h2 hT
theorem dAdd_dn (ho : okE x = true) (ho2 : okE x2 = true) (hN : farN d d2 = true ∨ Near d d2) : Calls Tryz.prog 11 #[dyV b A l.length c x, dyV b2 A2 l2.length c2 x2] w (DyK (addR d d2).1 (addR d d2).2 w) := by
  have := dAdd_yes (b := b) (x := x) (b2 := b2) (x2 := x2) h hd.2.1 h2 hd2.2.1 hT ho ho2 (by rw [hd.is h.2.2, hd2.is h2.2.2]; exact hN)
  rw [hd.is h.2.2, hd2.is h2.2.2] at this
  exact this
theorem dSub_dn (ho : okE x = true) (ho2 : okE x2 = true) (hN : farN d (negN d2) = true ∨ Near d (negN d2)) : Calls Tryz.prog 12 #[dyV b A l.length c x, dyV b2 A2 l2.length c2 x2] w (DyK (addR d (negN d2)).1 (addR d (negN d2)).2 w) := by
  have := dSub_yes (b := b) (x := x) (b2 := b2) (x2 := x2) h hd.2.1 h2 hd2.2.1 hT ho ho2 (by rw [hd.is h.2.2, hd2.is h2.2.2]; exact hN)
  rw [hd.is h.2.2, hd2.is h2.2.2] at this
  exact this
theorem dMul_dn (ho : okE x = true) (ho2 : okE x2 = true) (hv : (d.man : Int) * d2.man < 18446744073709551616 ^ 4096) : Calls Tryz.prog 10 #[dyV b A l.length c x, dyV b2 A2 l2.length c2 x2] w (DyK (doneR (mulN d d2)).1 (doneR (mulN d d2)).2 w) := by
  have := dMul_yes (b := b) (x := x) (b2 := b2) (x2 := x2) h hd.2.1 h2 hd2.2.1 hT ho ho2 (by rw [← hd.man h.2.2, ← hd2.man h2.2.2]; exact hv)
  rw [hd.is h.2.2, hd2.is h2.2.2] at this
  exact this
end
end
end Go.Proofs.YtmfikppnkjhmjaaGreatDoor
