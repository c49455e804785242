/-
  Layer 3, the laws: the theorem of layer 3. (Written by a script of wip/tools.)
-/
import Derived.Test.YtmfikppnkjhmjaaGreatDoorTDyNK
namespace Go.Proofs.YtmfikppnkjhmjaaGreatDoor
open Go.RowKit Go.Sort Go.Bw
set_option linter.unusedVariables false
set_option linter.unusedSimpArgs false

section
variable {b : Bool} {A : Option Addr} {n c : Nat} {x : Int} {l : List Int} {w : World}
variable {b2 : Bool} {A2 : Option Addr} {n2 c2 : Nat} {x2 : Int} {l2 : List Int} {d d2 R : Nf}

/-- a number as it stands in memory, within bounds -/
def Nst (b : Bool) (l : List Int) (x : Int) (d : Nf) : Prop := l.length ≤ 4096 ∧ okE x = true ∧ val 18446744073709551616 l < 2 ^ 131072 ∧ nfl b (val 18446744073709551616 l) x = d ∧ d.Ok
theorem Nst.of (hd : Dn b l x d) (hl : Lim 18446744073709551616 l) (i : d.In (-9000) 9000) : Nst b l x d := by
  refine ⟨hd.2.1, by rw [← hd.exp]; exact in_okE hd.2.2.2 i (by omega) (by omega), ?_, hd.is hl, hd.2.2.2⟩
  rw [← hd.man hl]
  exact Int.lt_of_lt_of_le (i.lt (by omega)) (pw_mono (by omega))
theorem nAdd (h : Lv w A l.length c l) (s1 : Nst b l x d) (h2 : Lv w A2 l2.length c2 l2) (s2 : Nst b2 l2 x2 d2) (hT : Tab w) (i1 : d.In (-9000) 9000) (i2 : d2.In (-9000) 9000) (e : sumN d d2 = R) :
    Calls Tryz.prog 11 #[dyV b A l.length c x, dyV b2 A2 l2.length c2 x2] w (DyK R 0 w) := by
  obtain ⟨k1, o1, v1, e1, y1⟩ := s1
  obtain ⟨k2, o2, v2, e2, y2⟩ := s2
  have := dAdd_any (b := b) (b2 := b2) (x := x) (x2 := x2) h k1 h2 k2 hT (by rw [e1, e2]; exact fun _ => .inr ⟨-9000, 9000, i1, i2, by omega, by omega⟩)
  rw [e1, e2] at this
  have q : addQ x x2 d d2 = (R, 0) := by
    unfold addQ may2
    rw [o1, o2, if_pos (show (true && true) = true from rfl), addR_near i1 i2 (by omega), doneR_near (sumN_ok _ _) (sumN_in y1 y2 i1 i2 (by omega)) (by omega) (by omega), e]
  rw [q] at this
  exact this
theorem nSub (h : Lv w A l.length c l) (s1 : Nst b l x d) (h2 : Lv w A2 l2.length c2 l2) (s2 : Nst b2 l2 x2 d2) (hT : Tab w) (i1 : d.In (-9000) 9000) (i2 : d2.In (-9000) 9000) (e : sumN d (negN d2) = R) :
    Calls Tryz.prog 12 #[dyV b A l.length c x, dyV b2 A2 l2.length c2 x2] w (DyK R 0 w) := by
  obtain ⟨k1, o1, v1, e1, y1⟩ := s1
  obtain ⟨k2, o2, v2, e2, y2⟩ := s2
  have i3 := negN_in y2 i2
  have := dSub_any (b := b) (b2 := b2) (x := x) (x2 := x2) h k1 h2 k2 hT (by rw [e1, e2]; exact fun _ => .inr ⟨-9000, 9000, i1, i3, by omega, by omega⟩)
  rw [e1, e2] at this
  have q : addQ x x2 d (negN d2) = (R, 0) := by
    unfold addQ may2
    rw [o1, o2, if_pos (show (true && true) = true from rfl), addR_near i1 i3 (by omega), doneR_near (sumN_ok _ _) (sumN_in y1 (negN_ok _) i1 i3 (by omega)) (by omega) (by omega), e]
  rw [q] at this
  exact this
theorem mul_bnd {u v : Int} (p1 : 0 ≤ u) (p2 : 0 ≤ v) (a1 : u < 2 ^ 131072) (a2 : v < 2 ^ 131072) : u * v < 18446744073709551616 ^ 4096 := by
  rw [pow64, show 64 * 4096 = 131072 + 131072 from rfl, Int.pow_add]
  have h0 : (0 : Int) < 2 ^ 131072 := Int.pow_pos (by omega)
  generalize (2 : Int) ^ 131072 = R at *
  calc u * v ≤ u * R := Int.mul_le_mul_of_nonneg_left (by omega) p1
    _ < R * R := Int.mul_lt_mul_of_pos_right a1 h0
theorem nMul (h : Lv w A l.length c l) (s1 : Nst b l x d) (h2 : Lv w A2 l2.length c2 l2) (s2 : Nst b2 l2 x2 d2) (hT : Tab w) (i1 : d.In (-9000) 9000) (i2 : d2.In (-9000) 9000) (e : mulN d d2 = R) :
    Calls Tryz.prog 10 #[dyV b A l.length c x, dyV b2 A2 l2.length c2 x2] w (DyK R 0 w) := by
  obtain ⟨k1, o1, v1, e1, y1⟩ := s1
  obtain ⟨k2, o2, v2, e2, y2⟩ := s2
  have := dMul_any (b := b) (b2 := b2) (x := x) (x2 := x2) h k1 h2 k2 hT (fun _ => mul_bnd (lim_val h.lim) (lim_val h2.lim) v1 v2)
  rw [e1, e2] at this
  have q : mulQ x x2 d d2 = (R, 0) := by
    unfold mulQ may2 mulR
    rw [o1, o2, if_pos (show (true && true) = true from rfl), doneR_near (mulN_ok _ _) (mulN_in i1 i2) (by omega) (by omega), e]
  rw [q] at this
  exact this
theorem nCmp (h : Lv w A l.length c l) (s1 : Nst b l x d) (h2 : Lv w A2 l2.length c2 l2) (s2 : Nst b2 l2 x2 d2) (hT : Tab w) (i1 : d.In (-9000) 9000) (i2 : d2.In (-9000) 9000) {s : Int} (e : sgn (sumN d (negN d2)) = s) :
    Calls Tryz.prog 16 #[dyV b A l.length c x, dyV b2 A2 l2.length c2 x2] w fun e w' => e = .returned (.tuple #[.int .i64 s, .int .i64 0]) ∧ Below w.heap.size w w' := by
  obtain ⟨k1, o1, v1, e1, y1⟩ := s1
  obtain ⟨k2, o2, v2, e2, y2⟩ := s2
  have hc : OrdC d d2 (sgn (sumN d (negN d2))) 0 := @ord_near d d2 (-9000) 9000 i1 i2 y1 y2 (by omega) (by omega)
  rw [e, ← e1, ← e2] at hc
  exact dCmp_yes (b := b) (b2 := b2) (x := x) (x2 := x2) h k1 h2 k2 hT o1 o2 hc
end
end Go.Proofs.YtmfikppnkjhmjaaGreatDoor
