/-
  Layer 9: lists of floats in memory, drawn; the length of several.
-/
import Derived.Test.YtbaeabmmokgomaaMJKVwA
import Derived.Test.YtbaeabmmokgomaaMJRAfK
namespace Go.Proofs.Ytbaeabmmokgomaa
open Go.RowKit Go.Bw
set_option linter.unusedVariables false
set_option linter.unusedSimpArgs false
section
variable {w w' : World} {A : Option Addr} {n c : Nat} {l : List Int}
theorem FL.dr (h : FL w A n c l) (hd : Dr w w') : FL w' A n c l := by
  obtain ⟨k, rfl⟩ := hd
  exact h
theorem fl_built {W : World} {l : List Int} (hl : Wd l) (hm : l.length ≤ 1000) : FL (W.alloc (.cells (LF l).toArray 49)) (some ⟨W.heap.size, 0, none⟩) l.length l.length l := by
  have h := (RowF.new W l).nums (B := W.heap.size + 1) (c := l.length) 0 l.length (by omega) (Nat.le_refl _) (by unfold maxLen; omega) (by omega)
  refine ⟨rfl, ?_, hl⟩
  simpa using h
theorem take_next {k : Nat} (hk : k < l.length) : l.take (k + 1) = l.take k ++ [D l k] := by
  rw [List.take_add_one, D_in hk, List.getElem?_eq_getElem hk]; rfl
end
/-- scale and sum, one float on -/
def nrmS (p : Option Nat × Option Nat) (x : Option Nat) : Option Nat × Option Nat :=
  if eqA x (some 0) then p
  else if ltA p.1 (absA x) then (absA x, aop .add (some 4607182418800017408) (aop .mul (aop .mul p.2 (aop .quo p.1 (absA x))) (aop .quo p.1 (absA x))))
  else (p.1, aop .add p.2 (aop .mul (aop .quo (absA x) p.1) (aop .quo (absA x) p.1)))
def nrmL (l : List Int) : Option Nat × Option Nat := l.foldl (fun p x => nrmS p (af x.toNat)) (some 0, some 4607182418800017408)
def nrmA (l : List Int) : Option Nat := aop .mul (nrmL l).1 (asq (nrmL l).2)
theorem nrmL_next {l : List Int} {k : Nat} (hk : k < l.length) : nrmL (l.take (k + 1)) = nrmS (nrmL (l.take k)) (af (D l k).toNat) := by
  unfold nrmL
  rw [take_next hk, List.foldl_append]
  rfl
end Go.Proofs.Ytbaeabmmokgomaa
