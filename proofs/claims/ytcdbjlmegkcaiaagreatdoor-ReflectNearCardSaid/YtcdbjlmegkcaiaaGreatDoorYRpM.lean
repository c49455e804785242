/-
  Layer 9, walks: the law's exact.
-/
import Derived.Test.YtcdbjlmegkcaiaaGreatDoorYRpL
import Derived.Test.YtcdbjlmegkcaiaaGreatDoorYDyR
import Derived.Test.YtcdbjlmegkcaiaaGreatDoorYDyJ
import Derived.Test.YtcdbjlmegkcaiaaGreatDoorYDyNA
namespace Go.Proofs.YtcdbjlmegkcaiaaGreatDoor
open Go.RowKit Go.Sort Go.Bw
set_option linter.unusedVariables false
set_option linter.unusedSimpArgs false
theorem fin_cls9 {y : Nat} (h : finN y) : cls (y : Int) ≤ 3 := by
  unfold finN at h
  have : fld (y : Int) ≠ 2047 := by unfold fld; omega
  unfold cls
  rw [if_neg this]
  split
  · split <;> omega
  · omega
/-- the list's numbers are these -/
def LN (w : World) (es : List De) (f : Nat → Nf) : Prop := ∀ (i : Nat) (e : De), es[i]? = some e → Lv w e.A e.l.length e.c e.l ∧ Dn e.b e.l e.x (f i)
theorem LN.nil (w : World) (f : Nat → Nf) : LN w [] f := fun i e h => by simp at h
theorem LN.on {w w' : World} {es : List De} {f : Nat → Nf} (h : LN w es f) (hb : Below w.heap.size w w') : LN w' es f := fun i e hi => ⟨(h i e hi).1.on hb, (h i e hi).2⟩
theorem LN.grown {w w' : World} {G : Option Addr} {k cap : Nat} {es : List De} {f : Nat → Nf} (h : LN w es f) (hr : RD w G) (hG : ∀ ad, G = some ad → ∃ g, ad = ⟨g, 0, none⟩) (hg : w.grownBy w' (Value.slice G k cap).ownBlock) : LN w' es f := fun i e hi => ⟨(h i e hi).1.grownD hr hG hg, (h i e hi).2⟩
theorem LN.snoc {w : World} {es : List De} {f : Nat → Nf} {e : De} (h : LN w es f) (hl : Lv w e.A e.l.length e.c e.l) (hd : Dn e.b e.l e.x (f es.length)) : LN w (es ++ [e]) f := fun i d hi => by
  rcases Nat.lt_trichotomy i es.length with c | c | c
  · rw [List.getElem?_append_left c] at hi
    exact h i d hi
  · subst c
    rw [List.getElem?_append_right (Nat.le_refl _), Nat.sub_self] at hi
    obtain rfl : e = d := by simpa using hi
    exact ⟨hl, hd⟩
  · rw [List.getElem?_eq_none (by simp; omega)] at hi
    cases hi
def ExP (w : World) (f : Nat → Nf) (n : Nat) (e : Ending) (w' : World) : Prop :=
  ∃ A c es, e = .returned (.tuple #[.slice A n c, .bool true]) ∧ OwnD w' w.heap.size A c es ∧ es.length = n ∧ LN w' es f ∧ Below w.heap.size w w'
theorem own_addr {w : World} {B c : Nat} {A : Option Addr} {es : List De} (h : OwnD w B A c es) : ∀ ad, A = some ad → ∃ g, ad = ⟨g, 0, none⟩ := fun ad e => by
  rcases h.2 with ⟨h1, _⟩ | ⟨g, _, _, h1, _⟩
  · injection h1 with h1 _ _
    rw [h1] at e; cases e
  · injection h1 with h1 _ _
    rw [h1] at e
    exact ⟨g, (Option.some.inj e).symm⟩
set_option maxRecDepth 100000 in
set_option maxHeartbeats 8000000 in
theorem exact_any {w : World} {A : Option Addr} {n c : Nat} {l : List Int} (h : FL w A n c l) (hf : ∀ i, i < n → finN (GD l i).toNat) (hn : n ≤ 1000) (hT : Tab w) :
    Calls Tryz.prog 8 #[.slice A n c] w (ExP w (fun i => wN (GD l i).toNat) n) := by
  have hmx := h.max
  have HF := Lib.hid hf
  clear hf
  have hw := Lib.hid h.2.2
  go_enter Tryz.func8, Tryz.ntmps8
  go_wp2_with fail
  go_loopw [4, 5, 6, 7] (fun v4 v5 v6 v7 wr => ∃ (k : Nat) (A2 : Option Addr) (c2 : Nat) (es : List De), k ≤ n ∧ v4 = .slice A2 k c2 ∧ v5 = .int .i64 k ∧ OwnD wr w.heap.size A2 c2 es ∧ RD wr A2 ∧ es.length = k ∧ LN wr es (fun i => wN (GD l i).toNat) ∧ Below w.heap.size w wr) (fun _ i _ _ _ => n - (intOf i).toNat)
  case atStart => exact ⟨0, none, 0, [], Nat.zero_le _, rfl, rfl, OwnD.nil _ _, RD.none _, rfl, LN.nil _ _, Below.refl _ _⟩
  case round =>
    obtain ⟨k, A2, c2, es, hk, rfl, rfl, hO, hR, hel, hN, bz⟩ := hrel
    have hsz := bz.size
    by_cases hlt : k < n
    · have k0 : (0 : Int) ≤ k := by omega
      have k1 : (k : Int) < n := by omega
      obtain ⟨ad, hA, _, hc⟩ := (h.on bz).at_ hlt
      have hwk := hw.out.at_ k
      have fk := HF.out k hlt
      have HY := Lib.hid (rfl : wN (GD l k).toNat = wN (GD l k).toNat)
      generalize hy : (GD l k).toNat = Y at hc fk
      have yb : Y ≤ 18446744073709551615 := by omega
      have HYY := Lib.hid hy
      clear hy hwk
      subst hA
      go_wp2_with fail
      with_reducible refine (dOf_yes Y yb (fin_cls9 fk) (hT.onD bz)).mono ?_
      rintro e w1 ⟨b, q, A9, c9, x, rfl, hd, m, hb⟩
      replace hO := hO.below hb
      replace hR := hR.on hb
      replace hN := hN.on hb
      replace bz := bz.trans (hb.mono bz.size)
      have hs1 := hb.size
      clear hb hc
      have XB := Blk.new w1 [.bool b, .slice A9 q.length c9, .int .i64 x] 40
      have hbA := ((Below.refl _ w1).alloc (Nat.le_refl _) (.cells #[.bool b, .slice A9 q.length c9, .int .i64 x] 40))
      have hbB := hbA.alloc (by simp) (.cells #[.bool b, .slice A9 q.length c9, .int .i64 x] 40)
      have YB := Blk.new (w1.alloc (.cells #[.bool b, .slice A9 q.length c9, .int .i64 x] 40)) [.bool b, .slice A9 q.length c9, .int .i64 x] 40
      replace hO := hO.below hbB
      replace hR := hR.on hbB
      replace hN := hN.on hbB
      replace m := m.on hbB
      replace bz := bz.trans (hbB.mono bz.size)
      clear hbA hbB
      obtain ⟨x0, x1, x2, _, _, _⟩ := Dbx.cells XB
      obtain ⟨y0, y1, y2, _, _, _⟩ := Dbx.cells YB
      rw [World.size_alloc] at y0 y1 y2
      have ha1 := add_at (w1.heap.size + 1) 0 1
      have ha2 := add_at (w1.heap.size + 1) 0 2
      go_wp2_with (at_builtin; refine wpList_appD _ rfl _ _ rfl w.heap.size A2 c2 es k hel rfl hO hR ⟨w1.heap.size + 1, 0, none⟩ 1 ⟨b, A9, c9, x, q⟩ rfl y0 (by rw [ha1]; exact y1) (by rw [ha2]; exact y2) (by omega) (by simp; omega) ?_; intro A4 c4 w4 hO4 hR4 hg)
      have hb4 := below_appD hel (Below.refl w.heap.size _) hO hg (by simp; omega)
      have N4 := (hN.snoc (e := ⟨b, A9, c9, x, q⟩) m (by rw [hel]; show Dn b q x (wN (GD l k).toNat); rw [HYY.out]; exact hd)).grown hR (own_addr hO) hg
      go_roundw
      case rel => exact ⟨k + 1, A4, c4, _, by omega, rfl, by go_num, hO4, hR4, by simp [hel], N4, bz.trans hb4⟩
      case measure => simp [intOf]; omega
    · obtain rfl : k = n := by omega
      go_wp2_with fail
      refine bodyPost_ret (v := .tuple #[.slice A2 k c2, .bool true]) (by simp [results, Tryz.results8, go_sem]) rfl ?_
      exact ⟨A2, c2, es, rfl, hO, hel, hN, bz⟩
end Go.Proofs.YtcdbjlmegkcaiaaGreatDoor
