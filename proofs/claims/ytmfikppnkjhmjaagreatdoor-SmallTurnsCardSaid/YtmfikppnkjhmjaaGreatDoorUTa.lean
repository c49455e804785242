/-
  Layer 6: a rotation's length by exact numbers: what the calls of the law answer.
-/
import Derived.Test.YtmfikppnkjhmjaaGreatDoorTDyNL
import Derived.Test.YtmfikppnkjhmjaaGreatDoorTDyNA
import Derived.Test.YtmfikppnkjhmjaaGreatDoorTDyNB
import Derived.Test.YtmfikppnkjhmjaaGreatDoorURtN
import Derived.Test.YtmfikppnkjhmjaaGreatDoorUAm
namespace Go.Proofs.YtmfikppnkjhmjaaGreatDoor
open Go.RowKit Go.Sort Go.Bw
set_option linter.unusedVariables false
set_option linter.unusedSimpArgs false

theorem fin_cls {y : Nat} (h : finN y) : cls (y : Int) ≤ 3 := by
  unfold finN at h
  have : fld (y : Int) ≠ 2047 := by unfold fld; omega
  unfold cls
  rw [if_neg this]
  split
  · split <;> omega
  · omega
theorem wN_val {y : Nat} (hn : y ≤ 18446744073709551615) (h : finN y) : (wN y).val = fvm y ∨ (wN y).val = -fvm y := by
  have hc := fin_cls h
  have hr := read_is y hn hc
  have hf := fvm_of_read h hr
  rw [wN_read y hc]
  obtain ⟨m, hm, -⟩ := pman_nat y
  rw [hf, hm, Int.toNat_natCast]
  have := nfl_val (pneg (y : Int)) (m : Int) (rexp (y : Int))
  rw [Rat.intCast_natCast] at this
  exact this
theorem nf_one_val : (nf 1 0).val = 1 := by
  rw [nf_val]
  decide +kernel
theorem nf_one_in : (nf 1 0).In (-2148) 2049 := Nf.In.mono (nf_in (s := 1) (p := 0) (q := 1) (by omega) (by decide)) (by omega) (by omega)
def halfN : Nf := ⟨false, 1, -49⟩
theorem halfN_val : halfN.val = 1/562949953421312 := by
  unfold halfN Nf.val Nf.num
  decide +kernel
theorem halfN_in : halfN.In (-9000) 9000 := .inr ⟨by decide, by decide, by decide +kernel⟩
theorem halfN_ok : halfN.Ok := by unfold Nf.Ok halfN; decide
theorem halfN_is : ansR false 1 (-49) = (halfN, 0) := by
  unfold ansR
  rw [if_neg (by decide)]
  exact doneR_near halfN_ok halfN_in (by omega) (by omega)
theorem absN_in {d : Nf} {P Q : Int} (h : d.In P Q) : (absN d).In P Q := h
/-- c^2 + s^2 - 1, beside 2^-49 -/
def unitN (c s : Nat) : Nf := absN (sumN (sumN (mulN (wN c) (wN c)) (mulN (wN s) (wN s))) (negN (nf 1 0)))
theorem unitN_le {c s : Nat} (h : Unit2 c s) : sgn (sumN (unitN c s) (negN halfN)) ≤ 0 := by
  obtain ⟨fc, fs, bc, bs, u1, u2⟩ := h
  exact unit_law (wN_val bc fc) (wN_val bs fs) nf_one_val halfN_val u1 u2

section
variable {b : Bool} {A : Option Addr} {n c : Nat} {x : Int} {l : List Int} {w : World} {d : Nf}
theorem tAbs (h : Lv w A l.length c l) (hd : Dn b l x d) (hT : Tab w) (i1 : d.In (-9000) 9000) :
    Calls Tryz.prog 14 #[dyV b A l.length c x] w (DyK (absN d) 0 w) := by
  have e1 := hd.is h.lim
  have o1 : okE x = true := by rw [← hd.exp]; exact in_okE hd.2.2.2 i1 (by omega) (by omega)
  have := dAbs_yes (b := b) (x := x) h hd.2.1 hT o1
  rw [e1, doneR_near (absN_ok hd.2.2.2) (absN_in i1) (by omega) (by omega)] at this
  exact this
theorem tHalf (w : World) : Calls Tryz.prog 15 #[.int .i64 (-49)] w (DyK halfN 0 w) := by
  have := dHalf_any (-49) w
  rw [halfN_is] at this
  exact this
theorem tOf {y : Nat} (hn : y ≤ 18446744073709551615) (h : finN y) (hT : Tab w) : Calls Tryz.prog 9 #[.float .f64 y] w (DyK (wN y) 0 w) := dOf_yes y hn (fin_cls h) hT
end
end Go.Proofs.YtmfikppnkjhmjaaGreatDoor
