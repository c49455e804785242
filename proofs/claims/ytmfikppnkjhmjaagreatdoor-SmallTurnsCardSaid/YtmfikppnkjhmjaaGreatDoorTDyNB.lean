/-
  Layer 3, the laws: sums, differences, products within bounds. (Written by a script of wip/tools.)
-/
import Derived.Test.YtmfikppnkjhmjaaGreatDoorTDyU
namespace Go.Proofs.YtmfikppnkjhmjaaGreatDoor
open Go.RowKit Go.Sort Go.Bw
set_option linter.unusedVariables false
set_option linter.unusedSimpArgs false

section
variable {b : Bool} {A : Option Addr} {c : Nat} {x : Int} {l : List Int} {w : World}
variable {b2 : Bool} {A2 : Option Addr} {c2 : Nat} {x2 : Int} {l2 : List Int} {d d2 : Nf} {P Q P2 Q2 : Int}
/-- a normal number that stands at a place in memory -/
def Nd (W : World) (A : Option Addr) (b : Bool) (l : List Int) (c : Nat) (x : Int) (d : Nf) : Prop := Dn b l x d ∧ Lv W A l.length c l
theorem dAdd_in (h : Lv w A l.length c l) (hd : Dn b l x d) (h2 : Lv w A2 l2.length c2 l2) (hd2 : Dn b2 l2 x2 d2) (hT : Tab w) (i1 : d.In P Q) (i2 : d2.In P Q) (hPQ : P ≤ Q) (hw : Q - P ≤ 262143) (hp : -262144 ≤ P) (hq : Q + 1 ≤ 262144) :
    Calls Tryz.prog 11 #[dyV b A l.length c x, dyV b2 A2 l2.length c2 x2] w (DyK (sumN d d2) 0 w) := by
  have e1 := hd.is h.lim
  have e2 := hd2.is h2.lim
  have := dAdd_any (b := b) (b2 := b2) (x := x) (x2 := x2) h hd.2.1 h2 hd2.2.1 hT (by rw [e1, e2]; exact fun _ => .inr ⟨P, Q, i1, i2, hPQ, hw⟩)
  rw [e1, e2] at this
  have e : addQ x x2 d d2 = (sumN d d2, 0) := by
    unfold addQ may2
    rw [← hd.exp, ← hd2.exp, in_okE hd.2.2.2 i1 hp (by omega), in_okE hd2.2.2.2 i2 hp (by omega), if_pos (show (true && true) = true from rfl), addR_near i1 i2 (by omega), doneR_near (sumN_ok _ _) (sumN_in hd.2.2.2 hd2.2.2.2 i1 i2 hPQ) hp hq]
  rw [e] at this
  exact this
theorem dSub_in (h : Lv w A l.length c l) (hd : Dn b l x d) (h2 : Lv w A2 l2.length c2 l2) (hd2 : Dn b2 l2 x2 d2) (hT : Tab w) (i1 : d.In P Q) (i2 : d2.In P Q) (hPQ : P ≤ Q) (hw : Q - P ≤ 262143) (hp : -262144 ≤ P) (hq : Q + 1 ≤ 262144) :
    Calls Tryz.prog 12 #[dyV b A l.length c x, dyV b2 A2 l2.length c2 x2] w (DyK (sumN d (negN d2)) 0 w) := by
  have e1 := hd.is h.lim
  have e2 := hd2.is h2.lim
  have i3 := negN_in hd2.2.2.2 i2
  have := dSub_any (b := b) (b2 := b2) (x := x) (x2 := x2) h hd.2.1 h2 hd2.2.1 hT (by rw [e1, e2]; exact fun _ => .inr ⟨P, Q, i1, i3, hPQ, hw⟩)
  rw [e1, e2] at this
  have e : addQ x x2 d (negN d2) = (sumN d (negN d2), 0) := by
    unfold addQ may2
    rw [← hd.exp, ← hd2.exp, in_okE hd.2.2.2 i1 hp (by omega), in_okE hd2.2.2.2 i2 hp (by omega), if_pos (show (true && true) = true from rfl), addR_near i1 i3 (by omega), doneR_near (sumN_ok _ _) (sumN_in hd.2.2.2 (negN_ok _) i1 i3 hPQ) hp hq]
  rw [e] at this
  exact this
theorem dMul_in (h : Lv w A l.length c l) (hd : Dn b l x d) (h2 : Lv w A2 l2.length c2 l2) (hd2 : Dn b2 l2 x2 d2) (hT : Tab w) (i1 : d.In P Q) (i2 : d2.In P2 Q2) (hPQ : P ≤ Q) (hPQ2 : P2 ≤ Q2) (hw : Q - P ≤ 131072) (hw2 : Q2 - P2 ≤ 131072) (hp : -131072 ≤ P) (hq : Q ≤ 131072) (hp2 : -131072 ≤ P2) (hq2 : Q2 ≤ 131072) :
    Calls Tryz.prog 10 #[dyV b A l.length c x, dyV b2 A2 l2.length c2 x2] w (DyK (mulN d d2) 0 w) := by
  have e1 := hd.is h.lim
  have e2 := hd2.is h2.lim
  have hv : val 18446744073709551616 l * val 18446744073709551616 l2 < 18446744073709551616 ^ 4096 := by
    have a1 := Int.lt_of_lt_of_le (i1.lt hPQ) (pw_mono (show (Q - P).toNat ≤ 131072 by omega))
    have a2 := Int.lt_of_lt_of_le (i2.lt hPQ2) (pw_mono (show (Q2 - P2).toNat ≤ 131072 by omega))
    rw [hd.man h.lim] at a1
    rw [hd2.man h2.lim] at a2
    have p1 := lim_val h.lim
    have p2 := lim_val h2.lim
    rw [pow64, show 64 * 4096 = 131072 + 131072 from rfl, Int.pow_add]
    have h0 : (0 : Int) < 2 ^ 131072 := Int.pow_pos (by omega)
    generalize (2 : Int) ^ 131072 = R at *
    generalize val 18446744073709551616 l = u at *
    generalize val 18446744073709551616 l2 = v at *
    calc u * v ≤ u * R := Int.mul_le_mul_of_nonneg_left (by omega) p1
      _ < R * R := Int.mul_lt_mul_of_pos_right a1 h0
  have := dMul_any (b := b) (b2 := b2) (x := x) (x2 := x2) h hd.2.1 h2 hd2.2.1 hT (fun _ => hv)
  rw [e1, e2] at this
  have e : mulQ x x2 d d2 = (mulN d d2, 0) := by
    unfold mulQ may2 mulR
    rw [← hd.exp, ← hd2.exp, in_okE hd.2.2.2 i1 (by omega) (by omega), in_okE hd2.2.2.2 i2 (by omega) (by omega), if_pos (show (true && true) = true from rfl), doneR_near (mulN_ok _ _) (mulN_in i1 i2) (by omega) (by omega)]
  rw [e] at this
  exact this
end
end Go.Proofs.YtmfikppnkjhmjaaGreatDoor
