/-
  Layer 9: exact numbers of the law of nearness.
-/
import Derived.Test.YtcdbjlmegkcaiaaGreatDoorYRpM
import Derived.Test.YtcdbjlmegkcaiaaGreatDoorYRtN
import Derived.Test.YtcdbjlmegkcaiaaGreatDoorYDyG
import Derived.Test.YtcdbjlmegkcaiaaGreatDoorYDyW
import Derived.Test.YtcdbjlmegkcaiaaGreatDoorYRpJ
namespace Go.Proofs.YtcdbjlmegkcaiaaGreatDoor
open Go Go.RowKit Go.Sort Go.Bw Go.Rt
set_option linter.unusedVariables false
set_option linter.unusedSimpArgs false
theorem nfl_valr (b : Bool) (m e : Int) : (nfl b m e).val = Bw.sg b ((m : Rat) * 2 ^ e) := by
  unfold nfl
  rw [nf_val]
  cases b
  · rfl
  · unfold Bw.sg
    rw [if_pos rfl, if_pos rfl, Rat.intCast_neg]
    grind
theorem wN_valr {y : Nat} (hn : y ≤ 18446744073709551615) (h : finN y) : (wN y).val = rv y := by
  have hc := fin_cls9 h
  have hr := read_is y hn hc
  have hf := fvm_of_read h hr
  have hs : pneg (y : Int) = sb y := by
    rw [read_word y h] at hr
    injection hr with h1 _ _
    exact h1.symm
  rw [wN_read y hc, nfl_valr, hs]
  obtain ⟨m, hm, -⟩ := pman_nat y
  unfold rv
  rw [hf, hm, Int.toNat_natCast, Rat.intCast_natCast]
theorem zeroN_val : zeroN.val = 0 := by
  unfold zeroN Nf.val Nf.num
  decide +kernel
theorem sumTo_val (f : Nat → Nf) (n : Nat) : (sumTo f n).val = sumR (fun i => (f i).val) n := by
  induction n with
  | zero => exact zeroN_val
  | succ n ih => show (sumN (sumTo f n) (f n)).val = _; rw [sumN_val, ih]; rfl
theorem sumTo_congr {f g : Nat → Nf} {n : Nat} (h : ∀ i, i < n → f i = g i) : sumTo f n = sumTo g n := by
  induction n with
  | zero => rfl
  | succ n ih => show sumN (sumTo f n) (f n) = sumN (sumTo g n) (g n); rw [ih (fun i hi => h i (by omega)), h n (by omega)]
theorem le_of_pow {k n : Nat} (h : (2 : Int) ^ k < 2 ^ n) : k < n := by
  rcases Nat.lt_or_ge k n with c | c
  · exact c
  · have := pw_mono c
    omega
/-- a number within bounds has few limbs -/
theorem Dn.short {b : Bool} {l : List Int} {x P Q : Int} {d : Nf} (h : Dn b l x d) (hl : Lim 18446744073709551616 l) (i : d.In P Q) (hPQ : P ≤ Q) (hw : Q - P ≤ 60000) : l.length ≤ 1000 := by
  by_cases hn : l = []
  · rw [hn]; decide
  · have a := Int.lt_of_lt_of_le (i.lt hPQ) (pw_mono (show (Q - P).toNat ≤ 60000 by omega))
    rw [h.man hl] at a
    have b := normal_ge (b := 18446744073709551616) (by decide) hl h.1 hn
    rw [show (18446744073709551616 : Int) = 2 ^ 64 by decide, ← Int.pow_mul] at b
    have c := le_of_pow (Int.lt_of_le_of_lt b a)
    omega
theorem Dn.okE {b : Bool} {l : List Int} {x P Q : Int} {d : Nf} (h : Dn b l x d) (i : d.In P Q) (hp : -262144 ≤ P) (hq : Q ≤ 262144) : okE x = true := by rw [← h.exp]; exact in_okE h.2.2.2 i hp hq
theorem Dn.xb {b : Bool} {l : List Int} {x P Q : Int} {d : Nf} (h : Dn b l x d) (i : d.In P Q) (hp : -262144 ≤ P) (hq : Q ≤ 262144) : -9223372036854775808 ≤ x ∧ x ≤ 9223372036854775807 := by
  have := (okE_iff x).1 (h.okE i hp hq)
  omega
theorem LN.dl {w : World} {B c n : Nat} {A : Option Addr} {es : List De} {f : Nat → Nf} (h : OwnD w B A c es) (hN : LN w es f) (hn : es.length = n) (hf : ∀ i, i < n → (f i).In (-1074) 1030) : Dl w A n c es := by
  subst hn
  refine h.dl (fun e he => ?_)
  obtain ⟨i, hi⟩ := List.getElem?_of_mem he
  have hl : i < es.length := (List.getElem?_eq_some_iff.1 hi).1
  obtain ⟨a, b⟩ := hN i e hi
  exact ⟨a, b.xb (hf i hl) (by decide) (by decide)⟩
/-- the law's sums of squares -/
theorem lDot {w : World} {c n : Nat} {A : Option Addr} {es : List De} {f : Nat → Nf} (h : Dl w A n c es) (hN : LN w es f) (hT : Tab w) (hn : n ≤ 20) (hf : ∀ i, i < n → (f i).In (-1074) 1030) :
    Calls Tryz.prog 10 #[.slice A n c, .slice A n c] w (DyK (sumTo (fun i => mulN (f i) (f i)) n) 0 w) := by
  have hlen := h.1
  have at1 : ∀ i, i < n → at0 es i = f i ∧ (f i).Ok := fun i hi => by
    have hi2 : es[i]? = some es[i] := List.getElem?_eq_getElem (by omega)
    obtain ⟨a, b⟩ := hN i _ hi2
    refine ⟨?_, b.2.2.2⟩
    rw [at0_is hi2]
    exact b.is a.lim
  have mem : ∀ e ∈ es, ∃ i, i < n ∧ es[i]? = some e := fun e he => by
    obtain ⟨i, hi⟩ := List.getElem?_of_mem he
    exact ⟨i, by have := (List.getElem?_eq_some_iff.1 hi).1; omega, hi⟩
  have ok : ∀ e ∈ es, _root_.Go.Proofs.YtcdbjlmegkcaiaaGreatDoor.okE e.x = true := fun e he => by
    obtain ⟨i, hi, h2⟩ := mem e he
    exact (hN i e h2).2.okE (hf i hi) (by decide) (by decide)
  have sh : ∀ e ∈ es, e.l.length ≤ 2048 := fun e he => by
    obtain ⟨i, hi, h2⟩ := mem e he
    have := (hN i e h2).2.short (hN i e h2).1.lim (hf i hi) (by decide) (by decide)
    omega
  have prod : ∀ k, k < n → (mulN (at0 es k) (at0 es k)).In (-2148) 2060 := fun k hk => by
    rw [(at1 k hk).1]
    exact mulN_in (hf k hk) (hf k hk)
  have hs := sumTo_in (P := -2148) (Q := 2060) (fun i => mulN (at0 es i) (at0 es i)) n (by decide) (fun i _ => mulN_ok _ _) prod
  have := dDot_in (P := -2148) (Q := 2080) h h hT ok sh ok sh (Lib.hid fun k hk => in_okE (mulN_ok _ _) (prod k hk) (by decide) (by decide)) (Lib.hid fun k hk => (hs k hk).mono (by decide) (by omega)) (Lib.hid fun k hk => (prod k hk).mono (by decide) (by decide)) (by decide) (by decide) (by decide) (by decide)
  rw [sumTo_congr (g := fun i => mulN (f i) (f i)) (fun i hi => by rw [(at1 i hi).1])] at this
  exact this
theorem dot_in {f : Nat → Nf} {n : Nat} (hn : n ≤ 20) (hf : ∀ i, i < n → (f i).In (-1074) 1030) : (sumTo (fun i => mulN (f i) (f i)) n).In (-2148) 2080 :=
  (sumTo_in (P := -2148) (Q := 2060) (fun i => mulN (f i) (f i)) n (by decide) (fun i _ => mulN_ok _ _) (fun i hi => (mulN_in (hf i hi) (hf i hi)).mono (by decide) (by decide)) n (Nat.le_refl _)).mono (by decide) (by omega)
theorem dot_val (f : Nat → Nf) (n : Nat) : (sumTo (fun i => mulN (f i) (f i)) n).val = sumR (fun i => (f i).val * (f i).val) n := by
  rw [sumTo_val]
  exact sumR_congr (fun i _ => mulN_val _ _)
section
variable {b b2 : Bool} {A A2 : Option Addr} {c c2 : Nat} {x x2 P Q : Int} {l l2 : List Int} {w : World} {d d2 : Nf}
/-- the law's comparison: the one is not more -/
theorem lCmp (h : Lv w A l.length c l) (hd : Dn b l x d) (h2 : Lv w A2 l2.length c2 l2) (hd2 : Dn b2 l2 x2 d2) (hT : Tab w) (i1 : d.In P Q) (i2 : d2.In P Q) (hPQ : P ≤ Q) (hp : -60000 ≤ P) (hq : Q ≤ 60000) (hv : d.val ≤ d2.val) :
    Calls Tryz.prog 14 #[dyV b A l.length c x, dyV b2 A2 l2.length c2 x2] w (fun e w' => ∃ s : Int, e = .returned (.tuple #[.int .i64 s, .int .i64 0]) ∧ s ≤ 0 ∧ Below w.heap.size w w') := by
  have hc : OrdC d d2 (sgn (sumN d (negN d2))) 0 := @ord_near d d2 P Q i1 i2 hd.2.2.2 hd2.2.2.2 hPQ (by omega)
  refine (dCmp_dn hd h hd2 h2 hT (hd.okE i1 (by omega) (by omega)) (hd2.okE i2 (by omega) (by omega)) hc).mono ?_
  rintro e w' ⟨rfl, hb⟩
  refine ⟨_, rfl, sgn_le ?_, hb⟩
  rw [sumN_val, negN_val]
  grind
end
/-- the bound -/
def bN (n : Nat) : Nf := (shR (nf (64 * n * 64 * n : Int) 0) (-106)).1
theorem nfK_in {n : Nat} (n1 : 1 ≤ n) (n16 : n ≤ 16) : (nf (64 * n * 64 * n : Int) 0).In 0 21 ∧ (nf (64 * n * 64 * n : Int) 0).man ≠ 0 := by
  rcases n with _ | _ | _ | _ | _ | _ | _ | _ | _ | _ | _ | _ | _ | _ | _ | _ | _ | n <;> first | omega | exact ⟨.inr (by decide +kernel), by decide +kernel⟩
theorem bN_is {n : Nat} (n1 : 1 ≤ n) (n16 : n ≤ 16) : (shR (nf (64 * n * 64 * n : Int) 0) (-106)) = (bN n, 0) ∧ (bN n).val = bnd n ∧ (bN n).In (-106) 21 := by
  obtain ⟨h, hm⟩ := nfK_in n1 n16
  obtain ⟨e0, e1⟩ := h.exp hm
  have hv := nf_val (64 * n * 64 * n : Int) 0
  unfold bN
  generalize nf (64 * n * 64 * n : Int) 0 = d at *
  have e : shR d (-106) = (⟨d.neg, d.man, d.exp + -106⟩, 0) := by
    unfold shR
    rw [if_neg hm]
    exact doneR_yes (okE_true (by show -262144 ≤ d.exp + -106; omega) (by show d.exp + -106 ≤ 262144; omega))
  rw [e]
  refine ⟨rfl, ?_, ?_⟩
  · have q : (⟨d.neg, d.man, d.exp + -106⟩ : Nf).val = d.val * 2 ^ (-106 : Int) := by
      unfold Nf.val Nf.num
      rw [two_add]
      grind
    rw [q, hv, show (2 : Rat) ^ (0 : Int) = 1 by decide, show (2 : Rat) ^ (-106 : Int) = 1/9007199254740992 * (1/9007199254740992) by decide +kernel]
    unfold bnd
    rw [Rat.intCast_mul, Rat.intCast_mul, Rat.intCast_mul, Rat.intCast_natCast]
    have : ((64 : Int) : Rat) = 64 := by decide
    rw [this]
    grind
  · rcases h with h | ⟨h1, h2, h3⟩
    · exact absurd h hm
    · refine .inr ⟨by show -106 ≤ d.exp + -106; omega, by show d.exp + -106 ≤ 21; omega, Int.lt_of_lt_of_le h3 (pw_mono ?_)⟩
      show (21 - d.exp).toNat ≤ (21 - (d.exp + -106)).toNat
      omega
end Go.Proofs.YtcdbjlmegkcaiaaGreatDoor
namespace Go.Proofs.YtcdbjlmegkcaiaaGreatDoor
open Go Go.RowKit Go.Sort Go.Bw Go.Rt
set_option linter.unusedVariables false
set_option linter.unusedSimpArgs false
/-- a list's numbers -/
def wL (l : List Int) (i : Nat) : Nf := wN (GD l i).toNat
/-- what a reflection leaves, less beta -/
def fL (L : List Int) (b : Nat) (i : Nat) : Nf := if i = 0 then sumN (wL L 0) (negN (wN b)) else wL L i
/-- the sum of the squares -/
def sqN (f : Nat → Nf) (n : Nat) : Nf := sumTo (fun i => mulN (f i) (f i)) n
def tN (s T : Nf) : Nf := mulN (mulN (sumN (mulN T s) (negN (nf 2 0))) T) s
structure Nums9 (fx fl fv : Nat → Nf) (T : Nf) (n : Nat) : Prop where
  ix : ∀ i, i < n → (fx i).In (-1074) 1030
  il : ∀ i, i < n → (fl i).In (-1074) 1030
  iv : ∀ i, i < n → (fv i).In (-1074) 1030
  iT : T.In (-1074) 1024
  far : (sqN fl n).val ≤ (mulN (bN n) (sqN fx n)).val
  unit : (mulN (tN (sqN fv n) T) (tN (sqN fv n) T)).val ≤ (bN n).val
theorem wL_in {l : List Int} {i : Nat} (h : finN (GD l i).toNat) : (wL l i).In (-1074) 1024 := wN_in _ (fin_cls9 h)
theorem near_nums {l v L : List Int} {n t b : Nat} (h : NearL l v L n t b) (n1 : 1 ≤ n) (n16 : n ≤ 16) (fl : ∀ i, i < n → finN (GD l i).toNat)
    (bl : ∀ i, (GD l i).toNat ≤ 18446744073709551615) (bv : ∀ i, (GD v i).toNat ≤ 18446744073709551615) (bL : ∀ i, (GD L i).toNat ≤ 18446744073709551615)
    (bt : t ≤ 18446744073709551615) (bb : b ≤ 18446744073709551615) : Nums9 (wL l) (fL L b) (wL v) (wN t) n := by
  have vl : ∀ i, i < n → (wL l i).val = rv (GD l i).toNat := fun i hi => wN_valr (bl i) (fl i hi)
  have vv : ∀ i, i < n → (wL v i).val = rv (GD v i).toNat := fun i hi => wN_valr (bv i) (h.fv i hi)
  have vL : ∀ i, i < n → (wL L i).val = rv (GD L i).toNat := fun i hi => wN_valr (bL i) (h.fL i hi)
  have vt : (wN t).val = rv t := wN_valr bt h.ft
  have vb : (wN b).val = rv b := wN_valr bb h.fb
  refine ⟨fun i hi => (wL_in (fl i hi)).mono (by decide) (by decide), fun i hi => ?_, fun i hi => (wL_in (h.fv i hi)).mono (by decide) (by decide), wN_in _ (fin_cls9 h.ft), ?_, ?_⟩
  · unfold fL
    by_cases h0 : i = 0
    · rw [if_pos h0]
      exact (sumN_in (wN_ok _) (negN_ok _) (wL_in (h.fL 0 (by omega))) (negN_in (wN_ok _) (wN_in _ (fin_cls9 h.fb))) (by decide)).mono (by decide) (by decide)
    · rw [if_neg h0]
      exact (wL_in (h.fL i hi)).mono (by decide) (by decide)
  · unfold sqN
    have e0 : sumR (fun i => (wL l i).val * (wL l i).val) n = sumR (fun i => rv (GD l i).toNat * rv (GD l i).toNat) n := sumR_congr (fun i hi => by rw [vl i hi])
    rw [dot_val, mulN_val, dot_val, (bN_is n1 n16).2.1, e0]
    have e : sumR (fun i => (fL L b i).val * (fL L b i).val) n = (rv (GD L 0).toNat - rv b) * (rv (GD L 0).toNat - rv b) + sumR (fun i => rv (GD L (i + 1)).toNat * rv (GD L (i + 1)).toNat) (n - 1) := by
      obtain ⟨m, rfl⟩ : ∃ m, n = m + 1 := ⟨n - 1, by omega⟩
      rw [sumR_front, Nat.add_sub_cancel]
      congr 1
      · show (if 0 = 0 then sumN (wL L 0) (negN (wN b)) else wL L 0).val * (if 0 = 0 then sumN (wL L 0) (negN (wN b)) else wL L 0).val = _
        rw [if_pos rfl, sumN_val, negN_val, vL 0 (by omega), vb]
        grind
      · refine sumR_congr (fun i hi => ?_)
        show (if i + 1 = 0 then sumN (wL L 0) (negN (wN b)) else wL L (i + 1)).val * (if i + 1 = 0 then sumN (wL L 0) (negN (wN b)) else wL L (i + 1)).val = _
        rw [if_neg (by omega), vL (i + 1) (by omega)]
    rw [e]
    exact h.far
  · have es : (sqN (wL v) n).val = sumR (fun i => rv (GD v i).toNat * rv (GD v i).toNat) n := by
      unfold sqN
      rw [dot_val]
      exact sumR_congr (fun i hi => by rw [vv i hi])
    have e2 : (nf 2 0).val = 2 := by rw [nf_val]; decide +kernel
    have et : (tN (sqN (wL v) n) (wN t)).val = ((rv t * sumR (fun i => rv (GD v i).toNat * rv (GD v i).toNat) n - 2) * rv t) * sumR (fun i => rv (GD v i).toNat * rv (GD v i).toNat) n := by
      unfold tN
      rw [mulN_val, mulN_val, sumN_val, negN_val, mulN_val, es, e2, vt]
      grind
    rw [mulN_val, et, (bN_is n1 n16).2.1]
    exact h.unit _ rfl
/-- within which bounds the numbers of the law are -/
structure Bnds (S fx T : Nf) (n : Nat) : Prop where
  x : fx.In (-2148) 2080
  B : (bN n).In (-106) 21
  m : (mulN (bN n) fx).In (-2254) 2101
  s : S.In (-2148) 2080
  t0 : (mulN T S).In (-3222) 3104
  t1 : (sumN (mulN T S) (negN (nf 2 0))).In (-3222) 3105
  t2 : (mulN (sumN (mulN T S) (negN (nf 2 0))) T).In (-4296) 4129
  t3 : (tN S T).In (-6444) 6209
  t4 : (mulN (tN S T) (tN S T)).In (-12888) 12418
theorem two_in9 : (nf 2 0).In (-3222) 3104 := .inr (by decide +kernel)
theorem bnds_of {S fx T : Nf} {n : Nat} (hx : fx.In (-2148) 2080) (hs : S.In (-2148) 2080) (ht : T.In (-1074) 1024) (n1 : 1 ≤ n) (n16 : n ≤ 16) : Bnds S fx T n := by
  have B := (bN_is n1 n16).2.2
  have t0 := mulN_in ht hs
  have t1 := sumN_in (mulN_ok T S) (negN_ok (nf 2 0)) (t0.mono (by decide) (by decide)) (negN_in (nf_ok 2 0) two_in9) (by decide)
  have t2 := mulN_in t1 ht
  have t3 := mulN_in t2 hs
  exact ⟨hx, B, (mulN_in B hx).mono (by decide) (by decide), hs, t0.mono (by decide) (by decide), t1.mono (by decide) (by decide), t2.mono (by decide) (by decide), t3.mono (by decide) (by decide), (mulN_in t3 t3).mono (by decide) (by decide)⟩
theorem Nums9.bnds {fx fl fv : Nat → Nf} {T : Nf} {n : Nat} (h : Nums9 fx fl fv T n) (n1 : 1 ≤ n) (n16 : n ≤ 16) : Bnds (sqN fv n) (sqN fx n) T n :=
  bnds_of (dot_in (by omega) h.ix) (dot_in (by omega) h.iv) h.iT n1 n16
end Go.Proofs.YtcdbjlmegkcaiaaGreatDoor
namespace Go.Proofs.YtcdbjlmegkcaiaaGreatDoor
open Go Go.RowKit Go.Sort Go.Bw
set_option linter.unusedVariables false
set_option linter.unusedSimpArgs false
section
variable {w : World} {B c c' n g : Nat} {A : Option Addr} {es fs : List De} {l : List Int} {e d : De} {f : Nat → Nf} {v : Nf} {u0 u1 u2 : Value}
theorem OwnD.far {p : Addr} (h : OwnD w B A c es) (hp : p.block < B) (u : Value) : OwnD (w.setCell p u) B A c es := by
  rcases h with ⟨h1, h2⟩
  refine ⟨h1, h2.imp id fun ⟨g, cap, cur, hv, hg, hh, r⟩ => ⟨g, cap, cur, hv, hg, (Below.heap_setCell w p u g (by omega)).trans hh, r⟩⟩
theorem OwnD.far3 (h : OwnD w B A c es) (hp : g < B) (u0 u1 u2 : Value) : OwnD (((w.setCell ⟨g, 0, none⟩ u0).setCell ⟨g, 1, none⟩ u1).setCell ⟨g, 2, none⟩ u2) B A c es :=
  ((h.far hp u0).far hp u1).far hp u2
theorem cell_oth3 {h i : Nat} {u : Value} (hne : h ≠ g) (u0 u1 u2 : Value) (q : w.cell? ⟨h, i, none⟩ = some u) : (((w.setCell ⟨g, 0, none⟩ u0).setCell ⟨g, 1, none⟩ u1).setCell ⟨g, 2, none⟩ u2).cell? ⟨h, i, none⟩ = some u := by
  rw [World.cell?_setCell_other _ _ _ _ (by intro e; cases e; exact hne rfl), World.cell?_setCell_other _ _ _ _ (by intro e; cases e; exact hne rfl), World.cell?_setCell_other _ _ _ _ (by intro e; cases e; exact hne rfl)]
  exact q
theorem Lv.set0 (h : OwnD w B (some ⟨g, 0, none⟩) c es) (hd : es[0]? = some d) (hl : Lv w A n c' l) (u0 u1 u2 : Value) : Lv (((w.setCell ⟨g, 0, none⟩ u0).setCell ⟨g, 1, none⟩ u1).setCell ⟨g, 2, none⟩ u2) A n c' l := by
  obtain ⟨z0, z1, z2⟩ := h.cell hd
  have n1 : (w.setCell ⟨g, 0, none⟩ u0).cell? ⟨g, 1, none⟩ = w.cell? ⟨g, 1, none⟩ := World.cell?_setCell_other _ _ _ _ (by intro e; cases e)
  have n2 : (w.setCell ⟨g, 0, none⟩ u0).cell? ⟨g, 2, none⟩ = w.cell? ⟨g, 2, none⟩ := World.cell?_setCell_other _ _ _ _ (by intro e; cases e)
  have n3 : ((w.setCell ⟨g, 0, none⟩ u0).setCell ⟨g, 1, none⟩ u1).cell? ⟨g, 2, none⟩ = (w.setCell ⟨g, 0, none⟩ u0).cell? ⟨g, 2, none⟩ := World.cell?_setCell_other _ _ _ _ (by intro e; cases e)
  refine ((hl.setC (p := ⟨g, 0, none⟩) z0 (fun x q => by cases q)).setC (p := ⟨g, 1, none⟩) (n1.trans z1) (fun x q => by cases q)).setC (p := ⟨g, 2, none⟩) (n3.trans (n2.trans z2)) (fun x q => by cases q)
theorem LN.set3 (h : OwnD w B (some ⟨g, 0, none⟩) c es) (hd : es[0]? = some d) (hN : LN w fs f) (u0 u1 u2 : Value) : LN (((w.setCell ⟨g, 0, none⟩ u0).setCell ⟨g, 1, none⟩ u1).setCell ⟨g, 2, none⟩ u2) fs f :=
  fun i e hi => ⟨Lv.set0 h hd (hN i e hi).1 u0 u1 u2, (hN i e hi).2⟩
theorem LN.set0 (h : LN w es f) (hl : Lv w e.A e.l.length e.c e.l) (hd : Dn e.b e.l e.x v) : LN w (es.set 0 e) (fun i => if i = 0 then v else f i) := fun i a hi => by
  by_cases h0 : i = 0
  · subst h0
    show Lv w a.A a.l.length a.c a.l ∧ Dn a.b a.l a.x v
    rcases es with _ | ⟨x, es⟩
    · simp at hi
    · obtain rfl : e = a := by simpa using hi
      exact ⟨hl, hd⟩
  · show _ ∧ Dn a.b a.l a.x (if i = 0 then v else f i)
    rw [if_neg h0]
    rw [List.getElem?_set_ne (fun q => h0 q.symm)] at hi
    exact h i a hi
theorem LN.drop (h : LN w es f) (k : Nat) : LN w (es.drop k) (fun i => f (k + i)) := fun i a hi => h (k + i) a (by rwa [List.getElem?_drop] at hi)
theorem LN.congr {f' : Nat → Nf} (h : LN w es f) (he : ∀ i, i < es.length → f i = f' i) : LN w es f' := fun i a hi => by
  have hl : i < es.length := (List.getElem?_eq_some_iff.1 hi).1
  rw [← he i hl]
  exact h i a hi
/-- the list from a place on -/
theorem Dl.drop {c2 k : Nat} {ad : Addr} (h : Dl w (some ad) n c es) (hk : k ≤ n) : Dl w (some (ad.add (k * 3))) (n - k) c2 (es.drop k) := by
  obtain ⟨h1, h2, h3, h4⟩ := h
  refine ⟨by rw [List.length_drop, h1], by omega, fun e he => h3 e (List.mem_of_mem_drop he), fun hn => ?_⟩
  obtain ⟨ad', e1, hl, hc⟩ := h4 (by omega)
  obtain rfl := Option.some.inj e1
  refine ⟨_, rfl, by rw [add_block]; exact hl, fun i e hi => ?_⟩
  rw [List.getElem?_drop] at hi
  obtain ⟨a1, a2, a3⟩ := hc (k + i) e hi
  rw [add_add, add_add, add_add, show k * 3 + i * 3 = (k + i) * 3 by omega, show k * 3 + (i * 3 + 1) = (k + i) * 3 + 1 by omega, show k * 3 + (i * 3 + 2) = (k + i) * 3 + 2 by omega]
  exact ⟨a1, a2, a3⟩
end
end Go.Proofs.YtcdbjlmegkcaiaaGreatDoor
