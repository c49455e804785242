/-
  Layer 11, walks: what reflections come to, by the program. (Written by wip/tools/gen_bpq.py.)
-/
import Derived.Test.YtbaeabmmokgomaaNBpG
import Derived.Test.YtbaeabmmokgomaaNB1
namespace Go.Proofs.Ytbaeabmmokgomaa
open Go.RowKit Go.Bw
set_option linter.unusedVariables false
set_option linter.unusedSimpArgs false
attribute [local go_sem] run_store_float
set_option maxRecDepth 100000 in
set_option maxHeartbeats 8000000 in
theorem fall_any {n K c : Nat} {F : Int} {A : Option Addr} {hs : List Re} {w : World} {b : Bool} (h : Rl w A K c hs) (n5 : n ≤ 512) (F0 : -1 ≤ F) (F1 : F ≤ 512) (hb : b = true ↔ lenB n F hs) :
    Calls Try.prog 45 #[.int .i64 n, .int .i64 F, .slice A K c] w (Ans w (.bool b)) := by
  have HLL := Lib.hid h.1
  have hmx := h.2.1
  have HB := Lib.hid hb
  clear hb
  have bz := Below.refl w.heap.size w
  by_cases hK : K = n
  · subst hK
    have d0 : ((K : Int) != (K : Int)) = false := by simp
    go_enter Try.func45, Try.ntmps45
    go_wp2_with fail
    go_loopw [15, 7, 8] (fun i i2 i3 wr => ∃ (k : Nat), k ≤ K ∧ i = .int .i64 k ∧ Hid (∀ (j : Nat) (r : Re), j < k → hs[j]? = some r → (r.l.length : Int) = F - j) ∧ Below w.heap.size w wr) (fun i _ _ _ => K - (intOf i).toNat)
    case atStart => exact ⟨0, Nat.zero_le _, rfl, Lib.hid (fun j r hj => absurd hj (Nat.not_lt_zero j)), bz⟩
    case round =>
      clear bz
      obtain ⟨k, hk, rfl, HG, bz⟩ := hrel
      by_cases hlt : k < K
      · obtain ⟨e, ad, ea, he, rfl, hE, hl, hc0, hc1, hv, bt⟩ := (h.on bz).at_ (k := k) hlt
        have hvm := hv.max
        have k0 : (0 : Int) ≤ k := by omega
        have k1 : (k : Int) < K := by omega
        obtain ⟨y, hy⟩ : ∃ y, F - (k : Int) = y := ⟨_, rfl⟩
        have w3 : IntKind.i64.wrap (y : Int) = (y : Int) := IntWalk.i64_in _ (by omega)
        have HY := Lib.hid hy
        have HE := Lib.hid he
        have bz2 := bz.alloc bz.size (.cells #[.slice e.A e.l.length e.c, .float .f64 e.t] 51)
        clear he hv
        by_cases hg : (e.l.length : Int) = y
        · have d : ((e.l.length : Int) != y) = false := by rw [hg]; simp
          have HG2 : Hid (∀ (j : Nat) (r : Re), j < k + 1 → hs[j]? = some r → (r.l.length : Int) = F - j) := Lib.hid (fun j r hj hr => by
            rcases Nat.lt_or_ge j k with g | g
            · exact HG.out j r g hr
            · obtain rfl : j = k := by omega
              have h9 := HE.out
              rw [h9] at hr
              injection hr with hr
              rw [← hr, hg, HY.out])
          clear hg
          go_wp2_with fail
          go_roundw
          case rel => exact ⟨k + 1, by omega, by go_num, HG2, bz2⟩
          case measure => simp [intOf]; omega
        · have d : ((e.l.length : Int) != y) = true := by simpa using hg
          have hb0 : b = false := by
            cases hb9 : b
            · rfl
            · exact absurd ((HB.out.1 hb9).2 k e HE.out) (by rw [HY.out]; exact hg)
          subst hb0
          clear hg
          go_wp2_with fail
          go_ret
          exact ⟨rfl, bz2⟩
      · obtain rfl : k = K := by omega
        have k1 : ¬ (k : Int) < k := by omega
        have hb1 : b = true := HB.out.2 ⟨HLL.out, fun j r hr => HG.out j r (by have := (List.getElem?_eq_some_iff.1 hr).1; rw [HLL.out] at this; exact this) hr⟩
        subst hb1
        go_wp2_with fail
        go_ret
        exact ⟨rfl, bz⟩
  · have hb0 : b = false := by
      cases hb9 : b
      · rfl
      · exact absurd (HLL.out.symm.trans (HB.out.1 hb9).1) hK
    subst hb0
    have d0 : ((K : Int) != (n : Int)) = true := by simpa using (by omega : ¬ (K : Int) = (n : Int))
    clear hK
    go_enter Try.func45, Try.ntmps45
    go_wp2_with fail
    go_ret
    exact ⟨rfl, bz⟩
/-- no matrix, and a code -/
def QnP (w : World) (E : Int) (e : Ending) (w' : World) : Prop := e = .returned (.tuple #[mV 0 0 none 0 0, .int .i64 E]) ∧ Below w.heap.size w w'
/-- a matrix of R rows, C columns, of the floats L that satisfy Q -/
def GqP (w : World) (R C N : Nat) (Q : List Int → Prop) (e : Ending) (w' : World) : Prop := ∃ A2 c2 L, e = .returned (.tuple #[mV R C A2 N c2, .int .i64 0]) ∧ FL w' A2 N c2 L ∧ Q L ∧ Below w.heap.size w w'
set_option maxRecDepth 100000 in
set_option maxHeartbeats 16000000 in
theorem gQ_size {w : World} {LA : Option Addr} {K kc : Nat} {hs : List Re} {m n : Int} (hsz : szB m n = false) :
    Calls Try.prog 17 #[.int .i64 m, .int .i64 n, .slice LA K kc] w (QnP w 2) := by
  skip
  have bz := (Below.refl _ w).alloc (Nat.le_refl _) (.cells #[.int .i64 0, .int .i64 0, .slice none 0 0] 24)
  have DZ := Blk.new w [.int .i64 0, .int .i64 0, .slice none 0 0] 24
  have hw1 := Lib.hid (World.size_alloc w (.cells #[.int .i64 0, .int .i64 0, .slice none 0 0] 24))
  have pn := fun W => New_no hsz W
  clear hsz
  skip
  go_enter Try.func17, Try.ntmps17
  go_upto_region 1 with fail
  generalize w.alloc (.cells #[.int .i64 0, .int .i64 0, .slice none 0 0] 24) = W1 at DZ bz hw1 ⊢
  go_wp2_with fail
  with_reducible refine (pn _).mono ?_
  rintro e9 w2 ⟨rfl, hb⟩
  clear pn
  have hbA := (Below.refl _ w2).alloc (Nat.le_refl _) (.cells Vu.zero.L.toArray 57)
  replace DZ := (DZ.on hb).on hbA
  replace bz := (bz.trans (hb.mono bz.size)).trans (hbA.mono (Nat.le_trans bz.size hb.size))
  have DV := Blk.new w2 Vu.zero.L 57
  clear hb hbA
  obtain ⟨hv, ev⟩ : ∃ x, w2.heap.size = x := ⟨_, rfl⟩
  rw [ev] at DV
  go_upto_region 2 with fail
  try simp only [ev] at ⊢
  clear ev
  generalize w2.alloc (.cells Vu.zero.L.toArray 57) = W3 at DZ bz DV ⊢
  obtain ⟨z0, z1, z2, z3, z4, z5⟩ := Mbx.cells DZ
  go_wp2_with fail
  obtain ⟨x0, x1, x2, _, _, _⟩ := Mbx.cells (Mbx.put DZ 0 0 none 0 0)
  refine bodyPost_ret (v := .tuple #[mV 0 0 none 0 0, .int .i64 2]) (by simp [results, Try.results17, go_sem, x0, x1, x2]) rfl ?_
  exact ⟨rfl, ((bz.setCell (p := ⟨w.heap.size, 0, none⟩) (by simp) (.int .i64 0)).setCell (p := ⟨w.heap.size, 1, none⟩) (by simp) (.int .i64 0)).setCell (p := ⟨w.heap.size, 2, none⟩) (by simp) (.slice none 0 0)⟩
set_option maxRecDepth 100000 in
set_option maxHeartbeats 16000000 in
theorem gQ_less {w : World} {LA : Option Addr} {K kc : Nat} {hs : List Re} {m n : Int} (hsz : szB m n = true) (hlt : m < n) :
    Calls Try.prog 17 #[.int .i64 m, .int .i64 n, .slice LA K kc] w (QnP w 2) := by
  skip
  have bz := (Below.refl _ w).alloc (Nat.le_refl _) (.cells #[.int .i64 0, .int .i64 0, .slice none 0 0] 24)
  have DZ := Blk.new w [.int .i64 0, .int .i64 0, .slice none 0 0] 24
  have hw1 := Lib.hid (World.size_alloc w (.cells #[.int .i64 0, .int .i64 0, .slice none 0 0] 24))
  have pn := fun W => New_yes (R := m) (C := n) hsz W
  clear hsz
  skip
  go_enter Try.func17, Try.ntmps17
  go_upto_region 1 with fail
  generalize w.alloc (.cells #[.int .i64 0, .int .i64 0, .slice none 0 0] 24) = W1 at DZ bz hw1 ⊢
  go_wp2_with fail
  with_reducible refine (pn _).mono ?_
  rintro e9 w2 ⟨s, g, cap, rfl, hS, hb⟩
  clear pn
  have hbA := (Below.refl _ w2).alloc (Nat.le_refl _) (.cells (Vu.all s m n).L.toArray 57)
  replace DZ := (DZ.on hb).on hbA
  replace bz := (bz.trans (hb.mono bz.size)).trans (hbA.mono (Nat.le_trans bz.size hb.size))
  have DV := Blk.new w2 (Vu.all s m n).L 57
  clear hb hbA
  obtain ⟨hv, ev⟩ : ∃ x, w2.heap.size = x := ⟨_, rfl⟩
  rw [ev] at DV
  go_upto_region 2 with fail
  try simp only [ev] at ⊢
  clear ev
  generalize w2.alloc (.cells (Vu.all s m n).L.toArray 57) = W3 at DZ bz DV ⊢
  obtain ⟨z0, z1, z2, z3, z4, z5⟩ := Mbx.cells DZ
  go_wp2_with fail
  obtain ⟨x0, x1, x2, _, _, _⟩ := Mbx.cells (Mbx.put DZ 0 0 none 0 0)
  refine bodyPost_ret (v := .tuple #[mV 0 0 none 0 0, .int .i64 2]) (by simp [results, Try.results17, go_sem, x0, x1, x2]) rfl ?_
  exact ⟨rfl, ((bz.setCell (p := ⟨w.heap.size, 0, none⟩) (by simp) (.int .i64 0)).setCell (p := ⟨w.heap.size, 1, none⟩) (by simp) (.int .i64 0)).setCell (p := ⟨w.heap.size, 2, none⟩) (by simp) (.slice none 0 0)⟩
set_option maxRecDepth 100000 in
set_option maxHeartbeats 16000000 in
theorem gQ_fall {w : World} {LA : Option Addr} {K kc : Nat} {hs : List Re} {m n : Nat} (hL : Rl w LA K kc hs) (hsz : szB (m : Int) (n : Int) = true) (hm : m ≤ 512) (hnm : n ≤ m) (hr : ¬ lenB n (m : Int) hs) :
    Calls Try.prog 17 #[.int .i64 m, .int .i64 n, .slice LA K kc] w (QnP w 2) := by
  have c1 : ¬ (m : Int) < (n : Int) := by omega
  have bz := (Below.refl _ w).alloc (Nat.le_refl _) (.cells #[.int .i64 0, .int .i64 0, .slice none 0 0] 24)
  have DZ := Blk.new w [.int .i64 0, .int .i64 0, .slice none 0 0] 24
  have hw1 := Lib.hid (World.size_alloc w (.cells #[.int .i64 0, .int .i64 0, .slice none 0 0] 24))
  have pn := fun W => New_yes (R := (m : Int)) (C := (n : Int)) hsz W
  have pf := fun W (h9 : Rl W LA K kc hs) => fall_any (b := false) h9 (n := n) (F := (m : Int)) (by omega) (by omega) (by omega) ⟨fun q => (by cases q), fun q => absurd q hr⟩
  clear hsz hr
  have HL := Lib.hid hL
  go_enter Try.func17, Try.ntmps17
  go_upto_region 1 with fail
  generalize w.alloc (.cells #[.int .i64 0, .int .i64 0, .slice none 0 0] 24) = W1 at DZ bz hw1 ⊢
  go_wp2_with fail
  with_reducible refine (pn _).mono ?_
  rintro e9 w2 ⟨s, g, cap, rfl, hS, hb⟩
  clear pn
  have hbA := (Below.refl _ w2).alloc (Nat.le_refl _) (.cells (Vu.all s (m : Int) (n : Int)).L.toArray 57)
  replace DZ := (DZ.on hb).on hbA
  replace bz := (bz.trans (hb.mono bz.size)).trans (hbA.mono (Nat.le_trans bz.size hb.size))
  have DV := Blk.new w2 (Vu.all s (m : Int) (n : Int)).L 57
  clear hb hbA
  obtain ⟨hv, ev⟩ : ∃ x, w2.heap.size = x := ⟨_, rfl⟩
  rw [ev] at DV
  go_upto_region 2 with fail
  try simp only [ev] at ⊢
  clear ev
  generalize w2.alloc (.cells (Vu.all s (m : Int) (n : Int)).L.toArray 57) = W3 at DZ bz DV ⊢
  go_wp2_with fail
  with_reducible refine (pf _ (HL.out.on bz)).mono ?_
  rintro e9 w4 ⟨rfl, hb⟩
  replace DZ := DZ.on hb
  replace bz := bz.trans (hb.mono bz.size)
  clear hb pf
  obtain ⟨z0, z1, z2, z3, z4, z5⟩ := Mbx.cells DZ
  go_wp2_with fail
  obtain ⟨x0, x1, x2, _, _, _⟩ := Mbx.cells (Mbx.put DZ 0 0 none 0 0)
  refine bodyPost_ret (v := .tuple #[mV 0 0 none 0 0, .int .i64 2]) (by simp [results, Try.results17, go_sem, x0, x1, x2]) rfl ?_
  exact ⟨rfl, ((bz.setCell (p := ⟨w.heap.size, 0, none⟩) (by simp) (.int .i64 0)).setCell (p := ⟨w.heap.size, 1, none⟩) (by simp) (.int .i64 0)).setCell (p := ⟨w.heap.size, 2, none⟩) (by simp) (.slice none 0 0)⟩
set_option maxRecDepth 100000 in
set_option maxHeartbeats 16000000 in
theorem gQ_yes {w : World} {LA : Option Addr} {K kc : Nat} {hs : List Re} {m n N : Nat} (hL : Rl w LA K kc hs) (hsz : szB (m : Int) (n : Int) = true) (hm : m ≤ 512) (hnm : n ≤ m) (hN : N = m * n) (hr : lenB n (m : Int) hs) :
    Calls Try.prog 17 #[.int .i64 m, .int .i64 n, .slice LA K kc] w (GqP w m n N (fun L => ∃ Qs, TqL m n 0 hs Qs ∧ Qs 0 = L)) := by
  have c1 : ¬ (m : Int) < (n : Int) := by omega
  have HN := Lib.hid hN
  have HR := Lib.hid hr
  have hKn : Hid (K = n) := Lib.hid (hL.1.symm.trans hr.1)
  clear hN
  have bz := (Below.refl _ w).alloc (Nat.le_refl _) (.cells #[.int .i64 0, .int .i64 0, .slice none 0 0] 24)
  have DZ := Blk.new w [.int .i64 0, .int .i64 0, .slice none 0 0] 24
  have hw1 := Lib.hid (World.size_alloc w (.cells #[.int .i64 0, .int .i64 0, .slice none 0 0] 24))
  have pn := fun W => New_yes (R := (m : Int)) (C := (n : Int)) hsz W
  have pf := fun W (h9 : Rl W LA K kc hs) => fall_any (b := true) h9 (n := n) (F := (m : Int)) (by omega) (by omega) (by omega) ⟨fun _ => hr, fun _ => rfl⟩
  clear hsz hr
  have HL := Lib.hid hL
  go_enter Try.func17, Try.ntmps17
  go_upto_region 1 with fail
  generalize w.alloc (.cells #[.int .i64 0, .int .i64 0, .slice none 0 0] 24) = W1 at DZ bz hw1 ⊢
  have hL1 := Lib.hid (HL.out.on bz)
  go_wp2_with fail
  with_reducible refine (pn _).mono ?_
  rintro e9 w2 ⟨s, g, cap, rfl, hS, hb⟩
  clear pn
  have hbA := (Below.refl _ w2).alloc (Nat.le_refl _) (.cells (Vu.all s (m : Int) (n : Int)).L.toArray 57)
  have hb1 := hb.trans (hbA.mono hb.size)
  replace hS := hS.on9 hbA
  have DV := Blk.new w2 (Vu.all s (m : Int) (n : Int)).L 57
  clear hb hbA
  obtain ⟨hv, ev⟩ : ∃ x, w2.heap.size = x := ⟨_, rfl⟩
  rw [ev] at DV
  go_upto_region 2 with fail
  try simp only [ev] at ⊢
  clear ev
  generalize w2.alloc (.cells (Vu.all s (m : Int) (n : Int)).L.toArray 57) = W3 at hb1 hS DV ⊢
  go_wp2_with fail
  with_reducible refine (pf _ (hL1.out.on hb1)).mono ?_
  rintro e9 w4 ⟨rfl, hb⟩
  replace DV := DV.on hb
  replace hS := hS.on9 hb
  replace hb1 := hb1.trans (hb.mono hb1.size)
  clear hb pf
  have eN : ((((m : Int)) : Int) * (((n : Int)) : Int)).toNat = N := by rw [HN.out, ← Int.toNat_natCast (m * n)]; push_cast; rfl
  have hS9 : St w4 W1.heap.size s g cap n (List.replicate N 0) := by rw [eN] at hS; exact hS
  clear hS eN
  have pg := gath_any (w0 := W1) (M := m) (q := n) (s := 0) hb1 hS9 HN.out hm hnm hL1.out (by decide) (.inl (by rw [hKn.out]; omega)) (fun j e he => by have h9 := HR.out.2 j e he; omega)
  obtain ⟨U, hU⟩ : ∃ U, Vu.all s (m : Int) (n : Int) = U := ⟨_, rfl⟩
  have pg2 : Hid (Calls Try.prog 46 #[U.V, .int .i64 0, .slice LA K kc] w4 (GtP W1 m n 0 N K hs)) := Lib.hid (by rw [← hU]; exact pg)
  rw [hU] at DV
  clear hU pg hS9 hb1
  obtain ⟨v0, v1, v2, v3, v4, v5, v6, v7, v8⟩ := Vbx.cells DV
  go_wp2_with fail
  with_reducible refine pg2.out.mono ?_
  rintro e9 w5 ⟨A2, c2, L, Qs, rfl, F5, T5, hQ0, bz5, hA5⟩
  clear pg2 v0 v1 v2 v3 v4 v5 v6 v7 v8 DV
  replace DZ := DZ.on bz5
  obtain ⟨z0, z1, z2, z3, z4, z5⟩ := Mbx.cells DZ
  replace bz := bz.trans (bz5.mono bz.size)
  go_wp2_with fail
  obtain ⟨x0, x1, x2, _, _, _⟩ := Mbx.cells (Mbx.put DZ (m : Int) (n : Int) A2 N c2)
  refine bodyPost_ret (v := .tuple #[mV (m : Int) (n : Int) A2 N c2, .int .i64 0]) (by simp [results, Try.results17, go_sem, x0, x1, x2]) rfl ?_
  have hgs : w5.grownBy (((w5.setCell ⟨w.heap.size, 0, none⟩ (.int .i64 ((m : Int)))).setCell ⟨w.heap.size, 1, none⟩ (.int .i64 ((n : Int)))).setCell ⟨w.heap.size, 2, none⟩ (.slice A2 N c2)) (some w.heap.size) := grown_setCell (grown_setCell (grown_setCell (World.grownBy.refl w5 _) 0 _) 1 _) 2 _
  exact ⟨A2, c2, L, rfl, fl_far9 F5 hgs (fun x e9 => by have := hA5 x e9; have := hw1.out; simp; omega), ⟨Qs, TqG.q (by have h9 := T5; rw [hKn.out] at h9; exact h9), hQ0⟩, bz.grown hgs bz.size (fun b e => by injection e with e; omega)⟩
set_option maxRecDepth 100000 in
set_option maxHeartbeats 16000000 in
theorem gP_size {w : World} {LA : Option Addr} {K kc : Nat} {hs : List Re} {n : Int} (hsz : szB n n = false) :
    Calls Try.prog 21 #[.int .i64 n, .slice LA K kc] w (QnP w 2) := by
  skip
  have bz := (Below.refl _ w).alloc (Nat.le_refl _) (.cells #[.int .i64 0, .int .i64 0, .slice none 0 0] 24)
  have DZ := Blk.new w [.int .i64 0, .int .i64 0, .slice none 0 0] 24
  have hw1 := Lib.hid (World.size_alloc w (.cells #[.int .i64 0, .int .i64 0, .slice none 0 0] 24))
  have pn := fun W => New_no hsz W
  clear hsz
  skip
  go_enter Try.func21, Try.ntmps21
  go_upto_region 1 with fail
  generalize w.alloc (.cells #[.int .i64 0, .int .i64 0, .slice none 0 0] 24) = W1 at DZ bz hw1 ⊢
  go_wp2_with fail
  with_reducible refine (pn _).mono ?_
  rintro e9 w2 ⟨rfl, hb⟩
  clear pn
  have hbA := (Below.refl _ w2).alloc (Nat.le_refl _) (.cells Vu.zero.L.toArray 57)
  replace DZ := (DZ.on hb).on hbA
  replace bz := (bz.trans (hb.mono bz.size)).trans (hbA.mono (Nat.le_trans bz.size hb.size))
  have DV := Blk.new w2 Vu.zero.L 57
  clear hb hbA
  obtain ⟨hv, ev⟩ : ∃ x, w2.heap.size = x := ⟨_, rfl⟩
  rw [ev] at DV
  go_upto_region 2 with fail
  try simp only [ev] at ⊢
  clear ev
  generalize w2.alloc (.cells Vu.zero.L.toArray 57) = W3 at DZ bz DV ⊢
  obtain ⟨z0, z1, z2, z3, z4, z5⟩ := Mbx.cells DZ
  go_wp2_with fail
  obtain ⟨x0, x1, x2, _, _, _⟩ := Mbx.cells (Mbx.put DZ 0 0 none 0 0)
  refine bodyPost_ret (v := .tuple #[mV 0 0 none 0 0, .int .i64 2]) (by simp [results, Try.results21, go_sem, x0, x1, x2]) rfl ?_
  exact ⟨rfl, ((bz.setCell (p := ⟨w.heap.size, 0, none⟩) (by simp) (.int .i64 0)).setCell (p := ⟨w.heap.size, 1, none⟩) (by simp) (.int .i64 0)).setCell (p := ⟨w.heap.size, 2, none⟩) (by simp) (.slice none 0 0)⟩
set_option maxRecDepth 100000 in
set_option maxHeartbeats 16000000 in
theorem gP_fall0 {w : World} {LA : Option Addr} {K kc : Nat} {hs : List Re} (hL : Rl w LA K kc hs) (hsz : szB 0 0 = true) (hr : ¬ lenB 0 (-1) hs) :
    Calls Try.prog 21 #[.int .i64 0, .slice LA K kc] w (QnP w 2) := by
  have HH : True := trivial
  have bz := (Below.refl _ w).alloc (Nat.le_refl _) (.cells #[.int .i64 0, .int .i64 0, .slice none 0 0] 24)
  have DZ := Blk.new w [.int .i64 0, .int .i64 0, .slice none 0 0] 24
  have hw1 := Lib.hid (World.size_alloc w (.cells #[.int .i64 0, .int .i64 0, .slice none 0 0] 24))
  have pn := fun W => New_yes (R := 0) (C := 0) hsz W
  have pf : ∀ W, Rl W LA K kc hs → Calls Try.prog 45 #[.int .i64 0, .int .i64 (-1), .slice LA K kc] W (Ans W (.bool false)) := fun W (h9 : Rl W LA K kc hs) => fall_any (b := false) h9 (n := 0) (F := -1) (by omega) (by omega) (by omega) ⟨fun q => (by cases q), fun q => absurd q hr⟩
  clear hsz hr
  have HL := Lib.hid hL
  go_enter Try.func21, Try.ntmps21
  go_upto_region 1 with fail
  generalize w.alloc (.cells #[.int .i64 0, .int .i64 0, .slice none 0 0] 24) = W1 at DZ bz hw1 ⊢
  go_wp2_with fail
  with_reducible refine (pn _).mono ?_
  rintro e9 w2 ⟨s, g, cap, rfl, hS, hb⟩
  clear pn
  have hbA := (Below.refl _ w2).alloc (Nat.le_refl _) (.cells (Vu.all s 0 0).L.toArray 57)
  replace DZ := (DZ.on hb).on hbA
  replace bz := (bz.trans (hb.mono bz.size)).trans (hbA.mono (Nat.le_trans bz.size hb.size))
  have DV := Blk.new w2 (Vu.all s 0 0).L 57
  clear hb hbA
  obtain ⟨hv, ev⟩ : ∃ x, w2.heap.size = x := ⟨_, rfl⟩
  rw [ev] at DV
  go_upto_region 2 with fail
  try simp only [ev] at ⊢
  clear ev
  generalize w2.alloc (.cells (Vu.all s 0 0).L.toArray 57) = W3 at DZ bz DV ⊢
  go_wp2_with fail
  with_reducible refine (pf _ (HL.out.on bz)).mono ?_
  rintro e9 w4 ⟨rfl, hb⟩
  replace DZ := DZ.on hb
  replace bz := bz.trans (hb.mono bz.size)
  clear hb pf
  obtain ⟨z0, z1, z2, z3, z4, z5⟩ := Mbx.cells DZ
  go_wp2_with fail
  obtain ⟨x0, x1, x2, _, _, _⟩ := Mbx.cells (Mbx.put DZ 0 0 none 0 0)
  refine bodyPost_ret (v := .tuple #[mV 0 0 none 0 0, .int .i64 2]) (by simp [results, Try.results21, go_sem, x0, x1, x2]) rfl ?_
  exact ⟨rfl, ((bz.setCell (p := ⟨w.heap.size, 0, none⟩) (by simp) (.int .i64 0)).setCell (p := ⟨w.heap.size, 1, none⟩) (by simp) (.int .i64 0)).setCell (p := ⟨w.heap.size, 2, none⟩) (by simp) (.slice none 0 0)⟩
set_option maxRecDepth 100000 in
set_option maxHeartbeats 16000000 in
theorem gP_yes0 {w : World} {LA : Option Addr} {K kc : Nat} {hs : List Re} {N : Nat} (hL : Rl w LA K kc hs) (hsz : szB 0 0 = true) (hN : N = 0 * 0) (hr : lenB 0 (-1) hs) :
    Calls Try.prog 21 #[.int .i64 0, .slice LA K kc] w (GqP w 0 0 N (fun L => ∃ Qs, Tq 0 K 0 hs Qs ∧ Qs 0 = L)) := by
  have HN := Lib.hid hN
  have HH : True := trivial
  have HR := Lib.hid hr
  have hKn : Hid (K = 0) := Lib.hid (hL.1.symm.trans hr.1)
  clear hN
  have bz := (Below.refl _ w).alloc (Nat.le_refl _) (.cells #[.int .i64 0, .int .i64 0, .slice none 0 0] 24)
  have DZ := Blk.new w [.int .i64 0, .int .i64 0, .slice none 0 0] 24
  have hw1 := Lib.hid (World.size_alloc w (.cells #[.int .i64 0, .int .i64 0, .slice none 0 0] 24))
  have pn := fun W => New_yes (R := 0) (C := 0) hsz W
  have pf : ∀ W, Rl W LA K kc hs → Calls Try.prog 45 #[.int .i64 0, .int .i64 (-1), .slice LA K kc] W (Ans W (.bool true)) := fun W (h9 : Rl W LA K kc hs) => fall_any (b := true) h9 (n := 0) (F := -1) (by omega) (by omega) (by omega) ⟨fun _ => hr, fun _ => rfl⟩
  clear hsz hr
  have HL := Lib.hid hL
  go_enter Try.func21, Try.ntmps21
  go_upto_region 1 with fail
  generalize w.alloc (.cells #[.int .i64 0, .int .i64 0, .slice none 0 0] 24) = W1 at DZ bz hw1 ⊢
  have hL1 := Lib.hid (HL.out.on bz)
  go_wp2_with fail
  with_reducible refine (pn _).mono ?_
  rintro e9 w2 ⟨s, g, cap, rfl, hS, hb⟩
  clear pn
  have hbA := (Below.refl _ w2).alloc (Nat.le_refl _) (.cells (Vu.all s 0 0).L.toArray 57)
  have hb1 := hb.trans (hbA.mono hb.size)
  replace hS := hS.on9 hbA
  have DV := Blk.new w2 (Vu.all s 0 0).L 57
  clear hb hbA
  obtain ⟨hv, ev⟩ : ∃ x, w2.heap.size = x := ⟨_, rfl⟩
  rw [ev] at DV
  go_upto_region 2 with fail
  try simp only [ev] at ⊢
  clear ev
  generalize w2.alloc (.cells (Vu.all s 0 0).L.toArray 57) = W3 at hb1 hS DV ⊢
  go_wp2_with fail
  with_reducible refine (pf _ (hL1.out.on hb1)).mono ?_
  rintro e9 w4 ⟨rfl, hb⟩
  replace DV := DV.on hb
  replace hS := hS.on9 hb
  replace hb1 := hb1.trans (hb.mono hb1.size)
  clear hb pf
  have eN : (((0) : Int) * ((0) : Int)).toNat = N := by rw [HN.out]; rfl
  have hS9 : St w4 W1.heap.size s g cap 0 (List.replicate N 0) := by rw [eN] at hS; exact hS
  clear hS eN
  have pg := gath_any (w0 := W1) (M := 0) (q := 0) (s := 1) hb1 hS9 HN.out (by decide) (Nat.le_refl _) hL1.out (by decide) (.inr hKn.out) (fun j e he => by have h8 := hL1.out.1; rw [hKn.out] at h8; rw [List.eq_nil_of_length_eq_zero h8] at he; simp at he)
  obtain ⟨U, hU⟩ : ∃ U, Vu.all s 0 0 = U := ⟨_, rfl⟩
  have pg2 : Hid (Calls Try.prog 46 #[U.V, .int .i64 1, .slice LA K kc] w4 (GtP W1 0 0 1 N K hs)) := Lib.hid (by rw [← hU]; exact pg)
  rw [hU] at DV
  clear hU pg hS9 hb1
  obtain ⟨v0, v1, v2, v3, v4, v5, v6, v7, v8⟩ := Vbx.cells DV
  go_wp2_with fail
  with_reducible refine pg2.out.mono ?_
  rintro e9 w5 ⟨A2, c2, L, Qs, rfl, F5, T5, hQ0, bz5, hA5⟩
  clear pg2 v0 v1 v2 v3 v4 v5 v6 v7 v8 DV
  replace DZ := DZ.on bz5
  obtain ⟨z0, z1, z2, z3, z4, z5⟩ := Mbx.cells DZ
  replace bz := bz.trans (bz5.mono bz.size)
  go_wp2_with fail
  obtain ⟨x0, x1, x2, _, _, _⟩ := Mbx.cells (Mbx.put DZ 0 0 A2 N c2)
  refine bodyPost_ret (v := .tuple #[mV 0 0 A2 N c2, .int .i64 0]) (by simp [results, Try.results21, go_sem, x0, x1, x2]) rfl ?_
  have hgs : w5.grownBy (((w5.setCell ⟨w.heap.size, 0, none⟩ (.int .i64 (0))).setCell ⟨w.heap.size, 1, none⟩ (.int .i64 (0))).setCell ⟨w.heap.size, 2, none⟩ (.slice A2 N c2)) (some w.heap.size) := grown_setCell (grown_setCell (grown_setCell (World.grownBy.refl w5 _) 0 _) 1 _) 2 _
  exact ⟨A2, c2, L, rfl, fl_far9 F5 hgs (fun x e9 => by have := hA5 x e9; have := hw1.out; simp; omega), ⟨Qs, T5.p, hQ0⟩, bz.grown hgs bz.size (fun b e => by injection e with e; omega)⟩
set_option maxRecDepth 100000 in
set_option maxHeartbeats 16000000 in
theorem gP_fall1 {w : World} {LA : Option Addr} {K kc : Nat} {hs : List Re} (hL : Rl w LA K kc hs) (hsz : szB 1 1 = true) (hr : ¬ lenB 0 (0) hs) :
    Calls Try.prog 21 #[.int .i64 1, .slice LA K kc] w (QnP w 2) := by
  have HH : True := trivial
  have bz := (Below.refl _ w).alloc (Nat.le_refl _) (.cells #[.int .i64 0, .int .i64 0, .slice none 0 0] 24)
  have DZ := Blk.new w [.int .i64 0, .int .i64 0, .slice none 0 0] 24
  have hw1 := Lib.hid (World.size_alloc w (.cells #[.int .i64 0, .int .i64 0, .slice none 0 0] 24))
  have pn := fun W => New_yes (R := 1) (C := 1) hsz W
  have pf : ∀ W, Rl W LA K kc hs → Calls Try.prog 45 #[.int .i64 0, .int .i64 (0), .slice LA K kc] W (Ans W (.bool false)) := fun W (h9 : Rl W LA K kc hs) => fall_any (b := false) h9 (n := 0) (F := 0) (by omega) (by omega) (by omega) ⟨fun q => (by cases q), fun q => absurd q hr⟩
  clear hsz hr
  have HL := Lib.hid hL
  go_enter Try.func21, Try.ntmps21
  go_upto_region 1 with fail
  generalize w.alloc (.cells #[.int .i64 0, .int .i64 0, .slice none 0 0] 24) = W1 at DZ bz hw1 ⊢
  go_wp2_with fail
  with_reducible refine (pn _).mono ?_
  rintro e9 w2 ⟨s, g, cap, rfl, hS, hb⟩
  clear pn
  have hbA := (Below.refl _ w2).alloc (Nat.le_refl _) (.cells (Vu.all s 1 1).L.toArray 57)
  replace DZ := (DZ.on hb).on hbA
  replace bz := (bz.trans (hb.mono bz.size)).trans (hbA.mono (Nat.le_trans bz.size hb.size))
  have DV := Blk.new w2 (Vu.all s 1 1).L 57
  clear hb hbA
  obtain ⟨hv, ev⟩ : ∃ x, w2.heap.size = x := ⟨_, rfl⟩
  rw [ev] at DV
  go_upto_region 2 with fail
  try simp only [ev] at ⊢
  clear ev
  generalize w2.alloc (.cells (Vu.all s 1 1).L.toArray 57) = W3 at DZ bz DV ⊢
  go_wp2_with fail
  with_reducible refine (pf _ (HL.out.on bz)).mono ?_
  rintro e9 w4 ⟨rfl, hb⟩
  replace DZ := DZ.on hb
  replace bz := bz.trans (hb.mono bz.size)
  clear hb pf
  obtain ⟨z0, z1, z2, z3, z4, z5⟩ := Mbx.cells DZ
  go_wp2_with fail
  obtain ⟨x0, x1, x2, _, _, _⟩ := Mbx.cells (Mbx.put DZ 0 0 none 0 0)
  refine bodyPost_ret (v := .tuple #[mV 0 0 none 0 0, .int .i64 2]) (by simp [results, Try.results21, go_sem, x0, x1, x2]) rfl ?_
  exact ⟨rfl, ((bz.setCell (p := ⟨w.heap.size, 0, none⟩) (by simp) (.int .i64 0)).setCell (p := ⟨w.heap.size, 1, none⟩) (by simp) (.int .i64 0)).setCell (p := ⟨w.heap.size, 2, none⟩) (by simp) (.slice none 0 0)⟩
set_option maxRecDepth 100000 in
set_option maxHeartbeats 16000000 in
theorem gP_yes1 {w : World} {LA : Option Addr} {K kc : Nat} {hs : List Re} {N : Nat} (hL : Rl w LA K kc hs) (hsz : szB 1 1 = true) (hN : N = 1 * 1) (hr : lenB 0 (0) hs) :
    Calls Try.prog 21 #[.int .i64 1, .slice LA K kc] w (GqP w 1 1 N (fun L => ∃ Qs, Tq 1 K 0 hs Qs ∧ Qs 0 = L)) := by
  have HN := Lib.hid hN
  have HH : True := trivial
  have HR := Lib.hid hr
  have hKn : Hid (K = 0) := Lib.hid (hL.1.symm.trans hr.1)
  clear hN
  have bz := (Below.refl _ w).alloc (Nat.le_refl _) (.cells #[.int .i64 0, .int .i64 0, .slice none 0 0] 24)
  have DZ := Blk.new w [.int .i64 0, .int .i64 0, .slice none 0 0] 24
  have hw1 := Lib.hid (World.size_alloc w (.cells #[.int .i64 0, .int .i64 0, .slice none 0 0] 24))
  have pn := fun W => New_yes (R := 1) (C := 1) hsz W
  have pf : ∀ W, Rl W LA K kc hs → Calls Try.prog 45 #[.int .i64 0, .int .i64 (0), .slice LA K kc] W (Ans W (.bool true)) := fun W (h9 : Rl W LA K kc hs) => fall_any (b := true) h9 (n := 0) (F := 0) (by omega) (by omega) (by omega) ⟨fun _ => hr, fun _ => rfl⟩
  clear hsz hr
  have HL := Lib.hid hL
  go_enter Try.func21, Try.ntmps21
  go_upto_region 1 with fail
  generalize w.alloc (.cells #[.int .i64 0, .int .i64 0, .slice none 0 0] 24) = W1 at DZ bz hw1 ⊢
  have hL1 := Lib.hid (HL.out.on bz)
  go_wp2_with fail
  with_reducible refine (pn _).mono ?_
  rintro e9 w2 ⟨s, g, cap, rfl, hS, hb⟩
  clear pn
  have hbA := (Below.refl _ w2).alloc (Nat.le_refl _) (.cells (Vu.all s 1 1).L.toArray 57)
  have hb1 := hb.trans (hbA.mono hb.size)
  replace hS := hS.on9 hbA
  have DV := Blk.new w2 (Vu.all s 1 1).L 57
  clear hb hbA
  obtain ⟨hv, ev⟩ : ∃ x, w2.heap.size = x := ⟨_, rfl⟩
  rw [ev] at DV
  go_upto_region 2 with fail
  try simp only [ev] at ⊢
  clear ev
  generalize w2.alloc (.cells (Vu.all s 1 1).L.toArray 57) = W3 at hb1 hS DV ⊢
  go_wp2_with fail
  with_reducible refine (pf _ (hL1.out.on hb1)).mono ?_
  rintro e9 w4 ⟨rfl, hb⟩
  replace DV := DV.on hb
  replace hS := hS.on9 hb
  replace hb1 := hb1.trans (hb.mono hb1.size)
  clear hb pf
  have eN : (((1) : Int) * ((1) : Int)).toNat = N := by rw [HN.out]; rfl
  have hS9 : St w4 W1.heap.size s g cap 1 (List.replicate N 0) := by rw [eN] at hS; exact hS
  clear hS eN
  have pg := gath_any (w0 := W1) (M := 1) (q := 1) (s := 1) hb1 hS9 HN.out (by decide) (Nat.le_refl _) hL1.out (by decide) (.inr hKn.out) (fun j e he => by have h8 := hL1.out.1; rw [hKn.out] at h8; rw [List.eq_nil_of_length_eq_zero h8] at he; simp at he)
  obtain ⟨U, hU⟩ : ∃ U, Vu.all s 1 1 = U := ⟨_, rfl⟩
  have pg2 : Hid (Calls Try.prog 46 #[U.V, .int .i64 1, .slice LA K kc] w4 (GtP W1 1 1 1 N K hs)) := Lib.hid (by rw [← hU]; exact pg)
  rw [hU] at DV
  clear hU pg hS9 hb1
  obtain ⟨v0, v1, v2, v3, v4, v5, v6, v7, v8⟩ := Vbx.cells DV
  go_wp2_with fail
  with_reducible refine pg2.out.mono ?_
  rintro e9 w5 ⟨A2, c2, L, Qs, rfl, F5, T5, hQ0, bz5, hA5⟩
  clear pg2 v0 v1 v2 v3 v4 v5 v6 v7 v8 DV
  replace DZ := DZ.on bz5
  obtain ⟨z0, z1, z2, z3, z4, z5⟩ := Mbx.cells DZ
  replace bz := bz.trans (bz5.mono bz.size)
  go_wp2_with fail
  obtain ⟨x0, x1, x2, _, _, _⟩ := Mbx.cells (Mbx.put DZ 1 1 A2 N c2)
  refine bodyPost_ret (v := .tuple #[mV 1 1 A2 N c2, .int .i64 0]) (by simp [results, Try.results21, go_sem, x0, x1, x2]) rfl ?_
  have hgs : w5.grownBy (((w5.setCell ⟨w.heap.size, 0, none⟩ (.int .i64 (1))).setCell ⟨w.heap.size, 1, none⟩ (.int .i64 (1))).setCell ⟨w.heap.size, 2, none⟩ (.slice A2 N c2)) (some w.heap.size) := grown_setCell (grown_setCell (grown_setCell (World.grownBy.refl w5 _) 0 _) 1 _) 2 _
  exact ⟨A2, c2, L, rfl, fl_far9 F5 hgs (fun x e9 => by have := hA5 x e9; have := hw1.out; simp; omega), ⟨Qs, T5.p, hQ0⟩, bz.grown hgs bz.size (fun b e => by injection e with e; omega)⟩
set_option maxRecDepth 100000 in
set_option maxHeartbeats 16000000 in
theorem gP_fall2 {w : World} {LA : Option Addr} {K kc : Nat} {hs : List Re} (hL : Rl w LA K kc hs) (hsz : szB 2 2 = true) (hr : ¬ lenB 0 (1) hs) :
    Calls Try.prog 21 #[.int .i64 2, .slice LA K kc] w (QnP w 2) := by
  have HH : True := trivial
  have bz := (Below.refl _ w).alloc (Nat.le_refl _) (.cells #[.int .i64 0, .int .i64 0, .slice none 0 0] 24)
  have DZ := Blk.new w [.int .i64 0, .int .i64 0, .slice none 0 0] 24
  have hw1 := Lib.hid (World.size_alloc w (.cells #[.int .i64 0, .int .i64 0, .slice none 0 0] 24))
  have pn := fun W => New_yes (R := 2) (C := 2) hsz W
  have pf : ∀ W, Rl W LA K kc hs → Calls Try.prog 45 #[.int .i64 0, .int .i64 (1), .slice LA K kc] W (Ans W (.bool false)) := fun W (h9 : Rl W LA K kc hs) => fall_any (b := false) h9 (n := 0) (F := 1) (by omega) (by omega) (by omega) ⟨fun q => (by cases q), fun q => absurd q hr⟩
  clear hsz hr
  have HL := Lib.hid hL
  go_enter Try.func21, Try.ntmps21
  go_upto_region 1 with fail
  generalize w.alloc (.cells #[.int .i64 0, .int .i64 0, .slice none 0 0] 24) = W1 at DZ bz hw1 ⊢
  go_wp2_with fail
  with_reducible refine (pn _).mono ?_
  rintro e9 w2 ⟨s, g, cap, rfl, hS, hb⟩
  clear pn
  have hbA := (Below.refl _ w2).alloc (Nat.le_refl _) (.cells (Vu.all s 2 2).L.toArray 57)
  replace DZ := (DZ.on hb).on hbA
  replace bz := (bz.trans (hb.mono bz.size)).trans (hbA.mono (Nat.le_trans bz.size hb.size))
  have DV := Blk.new w2 (Vu.all s 2 2).L 57
  clear hb hbA
  obtain ⟨hv, ev⟩ : ∃ x, w2.heap.size = x := ⟨_, rfl⟩
  rw [ev] at DV
  go_upto_region 2 with fail
  try simp only [ev] at ⊢
  clear ev
  generalize w2.alloc (.cells (Vu.all s 2 2).L.toArray 57) = W3 at DZ bz DV ⊢
  go_wp2_with fail
  with_reducible refine (pf _ (HL.out.on bz)).mono ?_
  rintro e9 w4 ⟨rfl, hb⟩
  replace DZ := DZ.on hb
  replace bz := bz.trans (hb.mono bz.size)
  clear hb pf
  obtain ⟨z0, z1, z2, z3, z4, z5⟩ := Mbx.cells DZ
  go_wp2_with fail
  obtain ⟨x0, x1, x2, _, _, _⟩ := Mbx.cells (Mbx.put DZ 0 0 none 0 0)
  refine bodyPost_ret (v := .tuple #[mV 0 0 none 0 0, .int .i64 2]) (by simp [results, Try.results21, go_sem, x0, x1, x2]) rfl ?_
  exact ⟨rfl, ((bz.setCell (p := ⟨w.heap.size, 0, none⟩) (by simp) (.int .i64 0)).setCell (p := ⟨w.heap.size, 1, none⟩) (by simp) (.int .i64 0)).setCell (p := ⟨w.heap.size, 2, none⟩) (by simp) (.slice none 0 0)⟩
set_option maxRecDepth 100000 in
set_option maxHeartbeats 16000000 in
theorem gP_yes2 {w : World} {LA : Option Addr} {K kc : Nat} {hs : List Re} {N : Nat} (hL : Rl w LA K kc hs) (hsz : szB 2 2 = true) (hN : N = 2 * 2) (hr : lenB 0 (1) hs) :
    Calls Try.prog 21 #[.int .i64 2, .slice LA K kc] w (GqP w 2 2 N (fun L => ∃ Qs, Tq 2 K 0 hs Qs ∧ Qs 0 = L)) := by
  have HN := Lib.hid hN
  have HH : True := trivial
  have HR := Lib.hid hr
  have hKn : Hid (K = 0) := Lib.hid (hL.1.symm.trans hr.1)
  clear hN
  have bz := (Below.refl _ w).alloc (Nat.le_refl _) (.cells #[.int .i64 0, .int .i64 0, .slice none 0 0] 24)
  have DZ := Blk.new w [.int .i64 0, .int .i64 0, .slice none 0 0] 24
  have hw1 := Lib.hid (World.size_alloc w (.cells #[.int .i64 0, .int .i64 0, .slice none 0 0] 24))
  have pn := fun W => New_yes (R := 2) (C := 2) hsz W
  have pf : ∀ W, Rl W LA K kc hs → Calls Try.prog 45 #[.int .i64 0, .int .i64 (1), .slice LA K kc] W (Ans W (.bool true)) := fun W (h9 : Rl W LA K kc hs) => fall_any (b := true) h9 (n := 0) (F := 1) (by omega) (by omega) (by omega) ⟨fun _ => hr, fun _ => rfl⟩
  clear hsz hr
  have HL := Lib.hid hL
  go_enter Try.func21, Try.ntmps21
  go_upto_region 1 with fail
  generalize w.alloc (.cells #[.int .i64 0, .int .i64 0, .slice none 0 0] 24) = W1 at DZ bz hw1 ⊢
  have hL1 := Lib.hid (HL.out.on bz)
  go_wp2_with fail
  with_reducible refine (pn _).mono ?_
  rintro e9 w2 ⟨s, g, cap, rfl, hS, hb⟩
  clear pn
  have hbA := (Below.refl _ w2).alloc (Nat.le_refl _) (.cells (Vu.all s 2 2).L.toArray 57)
  have hb1 := hb.trans (hbA.mono hb.size)
  replace hS := hS.on9 hbA
  have DV := Blk.new w2 (Vu.all s 2 2).L 57
  clear hb hbA
  obtain ⟨hv, ev⟩ : ∃ x, w2.heap.size = x := ⟨_, rfl⟩
  rw [ev] at DV
  go_upto_region 2 with fail
  try simp only [ev] at ⊢
  clear ev
  generalize w2.alloc (.cells (Vu.all s 2 2).L.toArray 57) = W3 at hb1 hS DV ⊢
  go_wp2_with fail
  with_reducible refine (pf _ (hL1.out.on hb1)).mono ?_
  rintro e9 w4 ⟨rfl, hb⟩
  replace DV := DV.on hb
  replace hS := hS.on9 hb
  replace hb1 := hb1.trans (hb.mono hb1.size)
  clear hb pf
  have eN : (((2) : Int) * ((2) : Int)).toNat = N := by rw [HN.out]; rfl
  have hS9 : St w4 W1.heap.size s g cap 2 (List.replicate N 0) := by rw [eN] at hS; exact hS
  clear hS eN
  have pg := gath_any (w0 := W1) (M := 2) (q := 2) (s := 1) hb1 hS9 HN.out (by decide) (Nat.le_refl _) hL1.out (by decide) (.inr hKn.out) (fun j e he => by have h8 := hL1.out.1; rw [hKn.out] at h8; rw [List.eq_nil_of_length_eq_zero h8] at he; simp at he)
  obtain ⟨U, hU⟩ : ∃ U, Vu.all s 2 2 = U := ⟨_, rfl⟩
  have pg2 : Hid (Calls Try.prog 46 #[U.V, .int .i64 1, .slice LA K kc] w4 (GtP W1 2 2 1 N K hs)) := Lib.hid (by rw [← hU]; exact pg)
  rw [hU] at DV
  clear hU pg hS9 hb1
  obtain ⟨v0, v1, v2, v3, v4, v5, v6, v7, v8⟩ := Vbx.cells DV
  go_wp2_with fail
  with_reducible refine pg2.out.mono ?_
  rintro e9 w5 ⟨A2, c2, L, Qs, rfl, F5, T5, hQ0, bz5, hA5⟩
  clear pg2 v0 v1 v2 v3 v4 v5 v6 v7 v8 DV
  replace DZ := DZ.on bz5
  obtain ⟨z0, z1, z2, z3, z4, z5⟩ := Mbx.cells DZ
  replace bz := bz.trans (bz5.mono bz.size)
  go_wp2_with fail
  obtain ⟨x0, x1, x2, _, _, _⟩ := Mbx.cells (Mbx.put DZ 2 2 A2 N c2)
  refine bodyPost_ret (v := .tuple #[mV 2 2 A2 N c2, .int .i64 0]) (by simp [results, Try.results21, go_sem, x0, x1, x2]) rfl ?_
  have hgs : w5.grownBy (((w5.setCell ⟨w.heap.size, 0, none⟩ (.int .i64 (2))).setCell ⟨w.heap.size, 1, none⟩ (.int .i64 (2))).setCell ⟨w.heap.size, 2, none⟩ (.slice A2 N c2)) (some w.heap.size) := grown_setCell (grown_setCell (grown_setCell (World.grownBy.refl w5 _) 0 _) 1 _) 2 _
  exact ⟨A2, c2, L, rfl, fl_far9 F5 hgs (fun x e9 => by have := hA5 x e9; have := hw1.out; simp; omega), ⟨Qs, T5.p, hQ0⟩, bz.grown hgs bz.size (fun b e => by injection e with e; omega)⟩
set_option maxRecDepth 100000 in
set_option maxHeartbeats 16000000 in
theorem gP_fall3 {w : World} {LA : Option Addr} {K kc : Nat} {hs : List Re} {n : Nat} (hL : Rl w LA K kc hs) (hsz : szB (n : Int) (n : Int) = true) (hn : n ≤ 512) (h3 : 3 ≤ n) (hr : ¬ lenB (n - 2) ((n : Int) - 1) hs) :
    Calls Try.prog 21 #[.int .i64 n, .slice LA K kc] w (QnP w 2) := by
  obtain ⟨x, hx⟩ : ∃ x, n - 2 = x := ⟨_, rfl⟩
  have e2 : (n : Int) - 2 = (x : Int) := by omega
  have c3 : ¬ (x : Int) ≤ 0 := by omega
  have c4 : (0 : Int) < (x : Int) := by omega
  have c5 : ¬ (x : Int) < 0 := by omega
  have c6 : (0 : Int) ≤ (x : Int) := by omega
  have w2 : IntKind.i64.wrap (x : Int) = (x : Int) := IntWalk.i64_in _ (by omega)
  obtain ⟨y, hy⟩ : ∃ y, n - 1 = y := ⟨_, rfl⟩
  have e1 : (n : Int) - 1 = (y : Int) := by omega
  have w1 : IntKind.i64.wrap (y : Int) = (y : Int) := IntWalk.i64_in _ (by omega)
  rw [e1, hx] at hr
  have HX := Lib.hid hx
  have HY := Lib.hid hy
  clear hx hy
  have bz := (Below.refl _ w).alloc (Nat.le_refl _) (.cells #[.int .i64 0, .int .i64 0, .slice none 0 0] 24)
  have DZ := Blk.new w [.int .i64 0, .int .i64 0, .slice none 0 0] 24
  have hw1 := Lib.hid (World.size_alloc w (.cells #[.int .i64 0, .int .i64 0, .slice none 0 0] 24))
  have pn := fun W => New_yes (R := (n : Int)) (C := (n : Int)) hsz W
  have pf := fun W (h9 : Rl W LA K kc hs) => fall_any (b := false) h9 (n := x) (F := (y : Int)) (by omega) (by omega) (by omega) ⟨fun q => (by cases q), fun q => absurd q hr⟩
  clear hsz hr
  have HL := Lib.hid hL
  go_enter Try.func21, Try.ntmps21
  go_upto_region 1 with fail
  generalize w.alloc (.cells #[.int .i64 0, .int .i64 0, .slice none 0 0] 24) = W1 at DZ bz hw1 ⊢
  go_wp2_with fail
  with_reducible refine (pn _).mono ?_
  rintro e9 w2 ⟨s, g, cap, rfl, hS, hb⟩
  clear pn
  have hbA := (Below.refl _ w2).alloc (Nat.le_refl _) (.cells (Vu.all s (n : Int) (n : Int)).L.toArray 57)
  replace DZ := (DZ.on hb).on hbA
  replace bz := (bz.trans (hb.mono bz.size)).trans (hbA.mono (Nat.le_trans bz.size hb.size))
  have DV := Blk.new w2 (Vu.all s (n : Int) (n : Int)).L 57
  clear hb hbA
  obtain ⟨hv, ev⟩ : ∃ x, w2.heap.size = x := ⟨_, rfl⟩
  rw [ev] at DV
  go_upto_region 2 with fail
  try simp only [ev] at ⊢
  clear ev
  generalize w2.alloc (.cells (Vu.all s (n : Int) (n : Int)).L.toArray 57) = W3 at DZ bz DV ⊢
  go_wp2_with fail
  with_reducible refine (pf _ (HL.out.on bz)).mono ?_
  rintro e9 w4 ⟨rfl, hb⟩
  replace DZ := DZ.on hb
  replace bz := bz.trans (hb.mono bz.size)
  clear hb pf
  obtain ⟨z0, z1, z2, z3, z4, z5⟩ := Mbx.cells DZ
  go_wp2_with fail
  obtain ⟨x0, x1, x2, _, _, _⟩ := Mbx.cells (Mbx.put DZ 0 0 none 0 0)
  refine bodyPost_ret (v := .tuple #[mV 0 0 none 0 0, .int .i64 2]) (by simp [results, Try.results21, go_sem, x0, x1, x2]) rfl ?_
  exact ⟨rfl, ((bz.setCell (p := ⟨w.heap.size, 0, none⟩) (by simp) (.int .i64 0)).setCell (p := ⟨w.heap.size, 1, none⟩) (by simp) (.int .i64 0)).setCell (p := ⟨w.heap.size, 2, none⟩) (by simp) (.slice none 0 0)⟩
set_option maxRecDepth 100000 in
set_option maxHeartbeats 16000000 in
theorem gP_yes3 {w : World} {LA : Option Addr} {K kc : Nat} {hs : List Re} {N : Nat} {n : Nat} (hL : Rl w LA K kc hs) (hsz : szB (n : Int) (n : Int) = true) (hn : n ≤ 512) (h3 : 3 ≤ n) (hN : N = n * n) (hr : lenB (n - 2) ((n : Int) - 1) hs) :
    Calls Try.prog 21 #[.int .i64 n, .slice LA K kc] w (GqP w n n N (fun L => ∃ Qs, Tq n K 0 hs Qs ∧ Qs 0 = L)) := by
  have HN := Lib.hid hN
  obtain ⟨x, hx⟩ : ∃ x, n - 2 = x := ⟨_, rfl⟩
  have e2 : (n : Int) - 2 = (x : Int) := by omega
  have c3 : ¬ (x : Int) ≤ 0 := by omega
  have c4 : (0 : Int) < (x : Int) := by omega
  have c5 : ¬ (x : Int) < 0 := by omega
  have c6 : (0 : Int) ≤ (x : Int) := by omega
  have w2 : IntKind.i64.wrap (x : Int) = (x : Int) := IntWalk.i64_in _ (by omega)
  obtain ⟨y, hy⟩ : ∃ y, n - 1 = y := ⟨_, rfl⟩
  have e1 : (n : Int) - 1 = (y : Int) := by omega
  have w1 : IntKind.i64.wrap (y : Int) = (y : Int) := IntWalk.i64_in _ (by omega)
  rw [e1, hx] at hr
  have HX := Lib.hid hx
  have HY := Lib.hid hy
  clear hx hy
  have HR := Lib.hid hr
  have hKn : Hid (K = x) := Lib.hid (hL.1.symm.trans hr.1)
  clear hN
  have bz := (Below.refl _ w).alloc (Nat.le_refl _) (.cells #[.int .i64 0, .int .i64 0, .slice none 0 0] 24)
  have DZ := Blk.new w [.int .i64 0, .int .i64 0, .slice none 0 0] 24
  have hw1 := Lib.hid (World.size_alloc w (.cells #[.int .i64 0, .int .i64 0, .slice none 0 0] 24))
  have pn := fun W => New_yes (R := (n : Int)) (C := (n : Int)) hsz W
  have pf := fun W (h9 : Rl W LA K kc hs) => fall_any (b := true) h9 (n := x) (F := (y : Int)) (by omega) (by omega) (by omega) ⟨fun _ => hr, fun _ => rfl⟩
  clear hsz hr
  have HL := Lib.hid hL
  go_enter Try.func21, Try.ntmps21
  go_upto_region 1 with fail
  generalize w.alloc (.cells #[.int .i64 0, .int .i64 0, .slice none 0 0] 24) = W1 at DZ bz hw1 ⊢
  have hL1 := Lib.hid (HL.out.on bz)
  go_wp2_with fail
  with_reducible refine (pn _).mono ?_
  rintro e9 w2 ⟨s, g, cap, rfl, hS, hb⟩
  clear pn
  have hbA := (Below.refl _ w2).alloc (Nat.le_refl _) (.cells (Vu.all s (n : Int) (n : Int)).L.toArray 57)
  have hb1 := hb.trans (hbA.mono hb.size)
  replace hS := hS.on9 hbA
  have DV := Blk.new w2 (Vu.all s (n : Int) (n : Int)).L 57
  clear hb hbA
  obtain ⟨hv, ev⟩ : ∃ x, w2.heap.size = x := ⟨_, rfl⟩
  rw [ev] at DV
  go_upto_region 2 with fail
  try simp only [ev] at ⊢
  clear ev
  generalize w2.alloc (.cells (Vu.all s (n : Int) (n : Int)).L.toArray 57) = W3 at hb1 hS DV ⊢
  go_wp2_with fail
  with_reducible refine (pf _ (hL1.out.on hb1)).mono ?_
  rintro e9 w4 ⟨rfl, hb⟩
  replace DV := DV.on hb
  replace hS := hS.on9 hb
  replace hb1 := hb1.trans (hb.mono hb1.size)
  clear hb pf
  have eN : ((((n : Int)) : Int) * (((n : Int)) : Int)).toNat = N := by rw [HN.out, ← Int.toNat_natCast (n * n)]; push_cast; rfl
  have hS9 : St w4 W1.heap.size s g cap n (List.replicate N 0) := by rw [eN] at hS; exact hS
  clear hS eN
  have pg := gath_any (w0 := W1) (M := n) (q := n) (s := 1) hb1 hS9 HN.out hn (Nat.le_refl _) hL1.out (by decide) (.inl (by rw [hKn.out]; have := HX.out; omega)) (fun j e he => by have h9 := HR.out.2 j e he; have := HY.out; omega)
  obtain ⟨U, hU⟩ : ∃ U, Vu.all s (n : Int) (n : Int) = U := ⟨_, rfl⟩
  have pg2 : Hid (Calls Try.prog 46 #[U.V, .int .i64 1, .slice LA K kc] w4 (GtP W1 n n 1 N K hs)) := Lib.hid (by rw [← hU]; exact pg)
  rw [hU] at DV
  clear hU pg hS9 hb1
  obtain ⟨v0, v1, v2, v3, v4, v5, v6, v7, v8⟩ := Vbx.cells DV
  go_wp2_with fail
  with_reducible refine pg2.out.mono ?_
  rintro e9 w5 ⟨A2, c2, L, Qs, rfl, F5, T5, hQ0, bz5, hA5⟩
  clear pg2 v0 v1 v2 v3 v4 v5 v6 v7 v8 DV
  replace DZ := DZ.on bz5
  obtain ⟨z0, z1, z2, z3, z4, z5⟩ := Mbx.cells DZ
  replace bz := bz.trans (bz5.mono bz.size)
  go_wp2_with fail
  obtain ⟨x0, x1, x2, _, _, _⟩ := Mbx.cells (Mbx.put DZ (n : Int) (n : Int) A2 N c2)
  refine bodyPost_ret (v := .tuple #[mV (n : Int) (n : Int) A2 N c2, .int .i64 0]) (by simp [results, Try.results21, go_sem, x0, x1, x2]) rfl ?_
  have hgs : w5.grownBy (((w5.setCell ⟨w.heap.size, 0, none⟩ (.int .i64 ((n : Int)))).setCell ⟨w.heap.size, 1, none⟩ (.int .i64 ((n : Int)))).setCell ⟨w.heap.size, 2, none⟩ (.slice A2 N c2)) (some w.heap.size) := grown_setCell (grown_setCell (grown_setCell (World.grownBy.refl w5 _) 0 _) 1 _) 2 _
  exact ⟨A2, c2, L, rfl, fl_far9 F5 hgs (fun x e9 => by have := hA5 x e9; have := hw1.out; simp; omega), ⟨Qs, T5.p, hQ0⟩, bz.grown hgs bz.size (fun b e => by injection e with e; omega)⟩
end Go.Proofs.Ytbaeabmmokgomaa
