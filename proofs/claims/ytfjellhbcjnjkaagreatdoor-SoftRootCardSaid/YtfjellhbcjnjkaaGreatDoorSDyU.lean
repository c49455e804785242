/-
  Layer 3, walks, part fifteen: texts; a comparison by signs. Layer 3, the laws, part one: words of the laws.
-/
import Derived.Test.YtfjellhbcjnjkaaGreatDoorSDyR
import Derived.Test.YtfjellhbcjnjkaaGreatDoorSNG6
import Derived.Lib.AppendIntMem
import Derived.Lib.ItoaLen
import Derived.Test.YtfjellhbcjnjkaaGreatDoorSDyS
import Derived.Lib.QuietBelow
namespace Go.Proofs.YtfjellhbcjnjkaaGreatDoor
open Go.RowKit Go.Sort
set_option linter.unusedVariables false
set_option linter.unusedSimpArgs false

/-- the library's table of powers of ten -/
def PowT (w : World) : Prop := Lib.TabIs Tryz.prog w "internal/strconv.uint64pow10" .u64 Lib.pow10Tab
theorem PowT.on {w w' : World} (h : PowT w) (hb : Below w.heap.size w w') : PowT w' := Lib.tabBelow_of_tabIs h w' hb
section
variable {b : Bool} {A : Option Addr} {n c : Nat} {x : Int} {l : List Int} {w : World}
end
end Go.Proofs.YtfjellhbcjnjkaaGreatDoor
namespace Go.Proofs.YtfjellhbcjnjkaaGreatDoor
open Go.RowKit Go.Sort Go.Bw
set_option linter.unusedVariables false
set_option linter.unusedSimpArgs false

section
variable {b : Bool} {A : Option Addr} {n c : Nat} {x : Int} {l : List Int} {w : World}
variable {b2 : Bool} {A2 : Option Addr} {n2 c2 : Nat} {x2 : Int} {l2 : List Int}
section
variable {d d2 : Nf} (hd : Dn b l x d) (h : Lv w A l.length c l) (hd2 : Dn b2 l2 x2 d2) (h2 : Lv w A2 l2.length c2 l2) (hT : Tab w)
include hd h
theorem dFloat_dn (hT : Tab w) (ho : okE x = true) : Calls Tryz.prog 74 #[dyV b A l.length c x] w fun e w' => e = .returned (.tuple #[.float .f64 (fw d), .int .i64 0]) ∧ Below w.heap.size w w' := by
  have := dFloat_yes (b := b) (x := x) h hd.2.1 hT ho
  rw [hd.is h.2.2] at this
  exact this
theorem dSign_dn (hT : Tab w) (ho : okE x = true) : Calls Tryz.prog 46 #[dyV b A l.length c x] w fun e w' => e = .returned (.int .i64 (sgn d)) ∧ Below w.heap.size w w' := by
  have := dSign_yes (b := b) (x := x) h hd.2.1 hT ho
  rw [hd.is h.2.2] at this
  exact this
include hd2 h2 hT
end
end
end Go.Proofs.YtfjellhbcjnjkaaGreatDoor
