/-
  Layer 3: numbers within bounds; lists of them.
-/
import Derived.Test.YtcdbjlmegkcaiaaGreatDoorYDyI
import Derived.Test.YtcdbjlmegkcaiaaGreatDoorYDyR
import Derived.Test.YtcdbjlmegkcaiaaGreatDoorYDyG
import Derived.Test.YtcdbjlmegkcaiaaGreatDoorYDyS
import Derived.Lib.QuietBelow
namespace Go.Proofs.YtcdbjlmegkcaiaaGreatDoor
open Go.RowKit Go.Sort Go.Bw
set_option linter.unusedVariables false
set_option linter.unusedSimpArgs false

section
variable {b : Bool} {A : Option Addr} {n c : Nat} {x : Int} {l : List Int} {w : World}
variable {b2 : Bool} {A2 : Option Addr} {n2 c2 : Nat} {x2 : Int} {l2 : List Int}
section
variable {d d2 : Nf} (hd : Dn b l x d) (h : Lv w A l.length c l) (hd2 : Dn b2 l2 x2 d2) (h2 : Lv w A2 l2.length c2 l2) (hT : Tab w)
include hd h
include hd2 h2 hT
theorem dSub_dn (ho : okE x = true) (ho2 : okE x2 = true) (hN : farN d (negN d2) = true ∨ Near d (negN d2)) : Calls Tryz.prog 9 #[dyV b A l.length c x, dyV b2 A2 l2.length c2 x2] w (DyK (addR d (negN d2)).1 (addR d (negN d2)).2 w) := by
  have := dSub_yes (b := b) (x := x) (b2 := b2) (x2 := x2) h hd.2.1 h2 hd2.2.1 hT ho ho2 (by rw [hd.is h.2.2, hd2.is h2.2.2]; exact hN)
  rw [hd.is h.2.2, hd2.is h2.2.2] at this
  exact this
theorem dMul_dn (ho : okE x = true) (ho2 : okE x2 = true) (hv : (d.man : Int) * d2.man < 18446744073709551616 ^ 4096) : Calls Tryz.prog 13 #[dyV b A l.length c x, dyV b2 A2 l2.length c2 x2] w (DyK (doneR (mulN d d2)).1 (doneR (mulN d d2)).2 w) := by
  have := dMul_yes (b := b) (x := x) (b2 := b2) (x2 := x2) h hd.2.1 h2 hd2.2.1 hT ho ho2 (by rw [← hd.man h.2.2, ← hd2.man h2.2.2]; exact hv)
  rw [hd.is h.2.2, hd2.is h2.2.2] at this
  exact this
end
end
end Go.Proofs.YtcdbjlmegkcaiaaGreatDoor
namespace Go.Proofs.YtcdbjlmegkcaiaaGreatDoor
open Go.RowKit Go.Sort Go.Bw
set_option linter.unusedVariables false
set_option linter.unusedSimpArgs false

section
variable {b : Bool} {A : Option Addr} {c : Nat} {x : Int} {l : List Int} {w : World}
variable {b2 : Bool} {A2 : Option Addr} {c2 : Nat} {x2 : Int} {l2 : List Int} {d d2 : Nf} {P Q P2 Q2 : Int}
/-- a normal number that stands at a place in memory -/
def Nd (W : World) (A : Option Addr) (b : Bool) (l : List Int) (c : Nat) (x : Int) (d : Nf) : Prop := Dn b l x d ∧ Lv W A l.length c l
theorem dSub_in (h : Lv w A l.length c l) (hd : Dn b l x d) (h2 : Lv w A2 l2.length c2 l2) (hd2 : Dn b2 l2 x2 d2) (hT : Tab w) (i1 : d.In P Q) (i2 : d2.In P Q) (hPQ : P ≤ Q) (hw : Q - P ≤ 262143) (hp : -262144 ≤ P) (hq : Q + 1 ≤ 262144) :
    Calls Tryz.prog 9 #[dyV b A l.length c x, dyV b2 A2 l2.length c2 x2] w (DyK (sumN d (negN d2)) 0 w) := by
  have e1 := hd.is h.lim
  have e2 := hd2.is h2.lim
  have i3 := negN_in hd2.2.2.2 i2
  have := dSub_any (b := b) (b2 := b2) (x := x) (x2 := x2) h hd.2.1 h2 hd2.2.1 hT (by rw [e1, e2]; exact fun _ => .inr ⟨P, Q, i1, i3, hPQ, hw⟩)
  rw [e1, e2] at this
  have e : addQ x x2 d (negN d2) = (sumN d (negN d2), 0) := by
    unfold addQ may2
    rw [← hd.exp, ← hd2.exp, in_okE hd.2.2.2 i1 hp (by omega), in_okE hd2.2.2.2 i2 hp (by omega), if_pos (show (true && true) = true from rfl), addR_near i1 i3 (by omega), doneR_near (sumN_ok _ _) (sumN_in hd.2.2.2 (negN_ok _) i1 i3 hPQ) hp hq]
  rw [e] at this
  exact this
theorem dMul_in (h : Lv w A l.length c l) (hd : Dn b l x d) (h2 : Lv w A2 l2.length c2 l2) (hd2 : Dn b2 l2 x2 d2) (hT : Tab w) (i1 : d.In P Q) (i2 : d2.In P2 Q2) (hPQ : P ≤ Q) (hPQ2 : P2 ≤ Q2) (hw : Q - P ≤ 131072) (hw2 : Q2 - P2 ≤ 131072) (hp : -131072 ≤ P) (hq : Q ≤ 131072) (hp2 : -131072 ≤ P2) (hq2 : Q2 ≤ 131072) :
    Calls Tryz.prog 13 #[dyV b A l.length c x, dyV b2 A2 l2.length c2 x2] w (DyK (mulN d d2) 0 w) := by
  have e1 := hd.is h.lim
  have e2 := hd2.is h2.lim
  have hv : val 18446744073709551616 l * val 18446744073709551616 l2 < 18446744073709551616 ^ 4096 := by
    have a1 := Int.lt_of_lt_of_le (i1.lt hPQ) (pw_mono (show (Q - P).toNat ≤ 131072 by omega))
    have a2 := Int.lt_of_lt_of_le (i2.lt hPQ2) (pw_mono (show (Q2 - P2).toNat ≤ 131072 by omega))
    rw [hd.man h.lim] at a1
    rw [hd2.man h2.lim] at a2
    have p1 := lim_val h.lim
    have p2 := lim_val h2.lim
    rw [pow64, show 64 * 4096 = 131072 + 131072 from rfl, Int.pow_add]
    have h0 : (0 : Int) < 2 ^ 131072 := Int.pow_pos (by omega)
    generalize (2 : Int) ^ 131072 = R at *
    generalize val 18446744073709551616 l = u at *
    generalize val 18446744073709551616 l2 = v at *
    calc u * v ≤ u * R := Int.mul_le_mul_of_nonneg_left (by omega) p1
      _ < R * R := Int.mul_lt_mul_of_pos_right a1 h0
  have := dMul_any (b := b) (b2 := b2) (x := x) (x2 := x2) h hd.2.1 h2 hd2.2.1 hT (fun _ => hv)
  rw [e1, e2] at this
  have e : mulQ x x2 d d2 = (mulN d d2, 0) := by
    unfold mulQ may2 mulR
    rw [← hd.exp, ← hd2.exp, in_okE hd.2.2.2 i1 (by omega) (by omega), in_okE hd2.2.2.2 i2 (by omega) (by omega), if_pos (show (true && true) = true from rfl), doneR_near (mulN_ok _ _) (mulN_in i1 i2) (by omega) (by omega)]
  rw [e] at this
  exact this
end
end Go.Proofs.YtcdbjlmegkcaiaaGreatDoor
namespace Go.Proofs.YtcdbjlmegkcaiaaGreatDoor
open Go Go.RowKit Go.Bw
set_option linter.unusedVariables false
set_option linter.unusedSimpArgs false

/-- a number of a list, as memory has it -/
structure De where
  b : Bool
  A : Option Addr
  c : Nat
  x : Int
  l : List Int
abbrev De.v (e : De) : Value := dyV e.b e.A e.l.length e.c e.x
/-- a list of numbers -/
def Dl (W : World) (A : Option Addr) (n c : Nat) (es : List De) : Prop :=
  es.length = n ∧ n ≤ 9223372036854775807 ∧ (∀ e ∈ es, Lv W e.A e.l.length e.c e.l ∧ -9223372036854775808 ≤ e.x ∧ e.x ≤ 9223372036854775807) ∧
  (n ≠ 0 → ∃ ad : Addr, A = some ad ∧ ad.block < W.heap.size ∧ ∀ (i : Nat) (e : De), es[i]? = some e → W.cell? (ad.add (i * 3)) = some (.bool e.b) ∧ W.cell? (ad.add (i * 3 + 1)) = some (.slice e.A e.l.length e.c) ∧ W.cell? (ad.add (i * 3 + 2)) = some (.int .i64 e.x))
theorem Dl.on {W W' : World} {A : Option Addr} {n c : Nat} {es : List De} (h : Dl W A n c es) (hb : Below W.heap.size W W') : Dl W' A n c es := by
  obtain ⟨h1, h2, h3, h4⟩ := h
  refine ⟨h1, h2, fun e he => ⟨(h3 e he).1.on hb, (h3 e he).2⟩, fun hn => ?_⟩
  obtain ⟨ad, e1, hl, hc⟩ := h4 hn
  refine ⟨ad, e1, Nat.lt_of_lt_of_le hl hb.size, fun i e hi => ?_⟩
  obtain ⟨c0, c1, c2⟩ := hc i e hi
  have bl : ∀ k, (ad.add k).block = ad.block := fun k => by unfold Addr.add; split <;> rfl
  exact ⟨(hb.cell (by rw [bl]; exact hl)).trans c0, (hb.cell (by rw [bl]; exact hl)).trans c1, (hb.cell (by rw [bl]; exact hl)).trans c2⟩
theorem Dl.at_ {W : World} {A : Option Addr} {n c k : Nat} {es : List De} (h : Dl W A n c es) (hk : k < n) :
    ∃ (e : De) (ad ea : Addr), es[k]? = some e ∧ A = some ad ∧ ad.add (k * 3) = ea ∧ ea.block < W.heap.size ∧ W.cell? ea = some (.bool e.b) ∧ W.cell? ⟨ea.block, ea.off + 1, none⟩ = some (.slice e.A e.l.length e.c) ∧ W.cell? ⟨ea.block, ea.off + 2, none⟩ = some (.int .i64 e.x) ∧ Lv W e.A e.l.length e.c e.l ∧ -9223372036854775808 ≤ e.x ∧ e.x ≤ 9223372036854775807 := by
  obtain ⟨h1, h2, h3, h4⟩ := h
  obtain ⟨ad, e1, hl, hc⟩ := h4 (by omega)
  have hi : k < es.length := by omega
  obtain ⟨c0, c1, c2⟩ := hc k es[k] (List.getElem?_eq_getElem hi)
  obtain ⟨q1, q2, q3⟩ := h3 es[k] (List.getElem_mem hi)
  have bl : ∀ k, (ad.add k).block = ad.block := fun k => by unfold Addr.add; split <;> rfl
  rw [← add_add] at c1 c2
  exact ⟨es[k], ad, _, List.getElem?_eq_getElem hi, e1, rfl, by rw [bl]; exact hl, c0, c1, c2, q1, q2, q3⟩
def De.ok (e : De) : Prop := e.l.length ≤ 4 ∧ -2000 ≤ e.x ∧ e.x ≤ 2000
instance (e : De) : Decidable e.ok := by unfold De.ok; infer_instance
theorem first_bad (p : Nat → Prop) [DecidablePred p] : ∀ n, (∃ m, m < n ∧ ¬ p m) → ∃ m, m < n ∧ ¬ p m ∧ ∀ i, i < m → p i
  | 0, h => by obtain ⟨m, h1, _⟩ := h; omega
  | n + 1, h => by
    by_cases hn : ∃ m, m < n ∧ ¬ p m
    · obtain ⟨m, h1, h2, h3⟩ := first_bad p n hn
      exact ⟨m, by omega, h2, h3⟩
    · obtain ⟨m, h1, h2⟩ := h
      have hm : m = n := by
        rcases Nat.lt_or_ge m n with g | g
        · exact absurd ⟨m, g, h2⟩ hn
        · omega
      subst hm
      exact ⟨m, by omega, h2, fun i hi => Decidable.byContradiction fun hp => hn ⟨i, hi, hp⟩⟩
def Ret (v : Value) (W : World) (e : Ending) (w' : World) : Prop := e = .returned v ∧ W = w'
end Go.Proofs.YtcdbjlmegkcaiaaGreatDoor
