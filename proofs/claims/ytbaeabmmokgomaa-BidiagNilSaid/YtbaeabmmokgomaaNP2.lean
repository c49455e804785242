/-
  Joined (by wip/tools/joinM.py) of BpF, BpT, BpN.
-/
import Derived.Test.YtbaeabmmokgomaaNP1
import Derived.Test.YtbaeabmmokgomaaNB2
import Derived.Test.YtbaeabmmokgomaaMJTdB
namespace Go.Proofs.Ytbaeabmmokgomaa
open Go.RowKit Go.Bw
set_option linter.unusedVariables false
set_option linter.unusedSimpArgs false
section
end
section
attribute [local go_sem] run_store_float

set_option maxRecDepth 100000 in
set_option maxHeartbeats 4000000 in
theorem bfinite_any {A : Option Addr} {n c : Nat} {l : List Int} {w : World} (h : FL w A n c l) :
    Calls Try.prog 51 #[.slice A n c] w (Ret (.bool (l.all fin)) w) := by
  have hmx := h.max
  have hln := Lib.hid h.1
  have H0 := Lib.hid (show ∀ k, k < l.length → fin (D l k) = false → l.all fin = false from fun k hk h => all_false hk h)
  have H1 := Lib.hid (show (∀ k, k < l.length → fin (D l k) = true) → l.all fin = true from fun h => all_true h)
  generalize hV : l.all fin = V at *
  clear hV
  go_enter Try.func51, Try.ntmps51
  go_wp2_with fail
  go_loop [7] (fun i => ∃ k : Nat, k ≤ n ∧ i = .int .i64 k ∧ Hid (∀ j, j < k → fin (D l j) = true)) (fun i => n - (intOf i).toNat)
  case atStart => exact ⟨0, Nat.zero_le _, rfl, Lib.hid (fun j hj => by omega)⟩
  case round =>
    obtain ⟨k, hk, rfl, HK⟩ := hrel
    by_cases hlt : k < n
    · obtain ⟨ad, rfl, hb, hc⟩ := h.at_ hlt
      obtain ⟨x0, x1⟩ := h.2.2.at_ k
      have i0 : (0 : Int) ≤ k := by omega
      have i1 : (k : Int) < n := by omega
      obtain ⟨X, hX⟩ : ∃ X, (D l k).toNat = X := ⟨_, rfl⟩
      have bX : X ≤ 18446744073709551615 := by omega
      have HX : Hid (D l k = (X : Int)) := Lib.hid (by omega)
      rw [hX] at hc
      clear hX
      have pn := fun W => mNaN_any bX W
      cases hN : isN X
      · have pi := fun W => mInf_any bX hN W
        rw [hN] at pn
        cases hP2 : fin (X : Int)
        · have hf : V = false := H0.out k (by rw [hln.out]; exact hlt) (by rw [HX.out]; exact hP2)
          subst hf
          rw [hP2] at pi
          go_wp2_with fail
          with_reducible refine (pn _).mono ?_
          rintro e9 w' ⟨rfl, rfl⟩
          go_wp2_with fail
          with_reducible refine (pi _).mono ?_
          rintro e9 w' ⟨rfl, rfl⟩
          go_wp2_with fail
          go_ret
          exact ⟨rfl, rfl⟩
        · have HK2 := Lib.hid (show ∀ j, j < k + 1 → fin (D l j) = true from fun j hj => by
            rcases Nat.lt_or_ge j k with g | g
            · exact HK.out j g
            · obtain rfl : j = k := by omega
              rw [HX.out]; exact hP2)
          rw [hP2] at pi
          go_wp2_with fail
          with_reducible refine (pn _).mono ?_
          rintro e9 w' ⟨rfl, rfl⟩
          go_wp2_with fail
          with_reducible refine (pi _).mono ?_
          rintro e9 w' ⟨rfl, rfl⟩
          go_wp2_with fail
          go_round
          case rel => exact ⟨k + 1, by omega, by go_num, HK2⟩
          case measure => simp [intOf]; omega
      · have hf : V = false := H0.out k (by rw [hln.out]; exact hlt) (by rw [HX.out]; exact fin_nan hN)
        subst hf
        rw [hN] at pn
        go_wp2_with fail
        with_reducible refine (pn _).mono ?_
        rintro e9 w' ⟨rfl, rfl⟩
        go_wp2_with fail
        go_ret
        exact ⟨rfl, rfl⟩
    · obtain rfl : k = n := by omega
      have hf : V = true := H1.out (fun j hj => HK.out j (by rw [hln.out] at hj; exact hj))
      subst hf
      go_wp2_with fail
      go_ret
      exact ⟨rfl, rfl⟩
end
end Go.Proofs.Ytbaeabmmokgomaa
namespace Go.Proofs.Ytbaeabmmokgomaa
open Go.RowKit Go.Bw
set_option linter.unusedVariables false
set_option linter.unusedSimpArgs false
attribute [local go_sem] run_store_float
theorem ask_zero {R C : Int} {n : Nat} {l : List Int} (h : askC R C n l = 0) : mayB R C n = true ∧ C ≤ R ∧ l.all fin = true := by
  unfold askC at h
  by_cases h1 : mayB R C n = false
  · rw [if_pos h1] at h; exact absurd h (by decide)
  · rw [if_neg h1] at h
    by_cases h2 : R < C
    · rw [if_pos h2] at h; exact absurd h (by decide)
    · rw [if_neg h2] at h
      by_cases h3 : l.all fin = false
      · rw [if_pos h3] at h; exact absurd h (by decide)
      · exact ⟨by simpa using h1, by omega, by simpa using h3⟩
theorem may_sz {R C : Int} {n : Nat} (h : mayB R C n = true) : szB R C = true ∧ (n : Int) = R * C := by
  unfold mayB at h
  have h := of_decide_eq_true h
  exact ⟨decide_eq_true ⟨h.1, h.2.1, h.2.2.1, h.2.2.2.1⟩, h.2.2.2.2⟩
theorem may_not {R C : Int} {n : Nat} (h : mayB R C n = false) : szB R C = false ∨ (szB R C = true ∧ (n : Int) ≠ R * C) := by
  unfold mayB at h
  have h := of_decide_eq_false h
  by_cases q : szB R C = true
  · have q2 := of_decide_eq_true q
    exact .inr ⟨q, fun e => h ⟨q2.1, q2.2.1, q2.2.2.1, q2.2.2.2, e⟩⟩
  · exact .inl (by simpa using q)
theorem set9_grown9 (W : World) (b : Nat) (x0 x1 x2 x3 x4 x5 x6 x7 x8 : Value) : W.grownBy (((((((((W.setCell ⟨b, 0, none⟩ x0).setCell ⟨b, 1, none⟩ x1).setCell ⟨b, 2, none⟩ x2).setCell ⟨b, 3, none⟩ x3).setCell ⟨b, 4, none⟩ x4).setCell ⟨b, 5, none⟩ x5).setCell ⟨b, 6, none⟩ x6).setCell ⟨b, 7, none⟩ x7).setCell ⟨b, 8, none⟩ x8) (some b) :=
  grown_setCell (grown_setCell (grown_setCell (grown_setCell (grown_setCell (grown_setCell (grown_setCell (grown_setCell (grown_setCell (World.grownBy.refl W _) _ _) _ _) _ _) _ _) _ _) _ _) _ _) _ _) _ _
theorem St.farG9 {w w' : World} {B s g cap c : Nat} {l : List Int} {row : Option Nat} (h : St w B s g cap c l) (hg : w.grownBy w' row) (h1 : some s ≠ row) (h2 : some g ≠ row) : St w' B s g cap c l :=
  ⟨Blk.grown h.box hg h1, h.own.grown_ hg (fun a e => by injection e with e; subst e; exact h2), h.ne, h.wd, h.lo, h.len, h.col⟩
theorem St.lower {w : World} {B B2 s g cap c : Nat} {l : List Int} (h : St w B s g cap c l) (hB : B2 ≤ B) : St w B2 s g cap c l := ⟨h.box, h.own.less hB, h.ne, h.wd, Nat.le_trans hB h.lo, h.len, h.col⟩
set_option maxRecDepth 100000 in
set_option maxHeartbeats 8000000 in
theorem taken_2 {R C : Int} {A : Option Addr} {n c : Nat} {l : List Int} {w : World} (h : FL w A n c l) (hm : mayB R C n = false) :
    Calls Try.prog 26 #[mV R C A n c] w (NoV w 2) := by
  have hmx := h.max
  have bz := ((Below.refl _ w).alloc (Nat.le_refl _) (.cells #[.int .i64 R, .int .i64 C, .slice A n c] 24)).alloc (by simp) (.cells Vu.zero.L.toArray 57)
  have DM := (Blk.new w [.int .i64 R, .int .i64 C, .slice A n c] 24).alloc (.cells Vu.zero.L.toArray 57)
  have DZ := Blk.new (w.alloc (.cells #[.int .i64 R, .int .i64 C, .slice A n c] 24)) Vu.zero.L 57
  rw [World.size_alloc] at DZ
  have hs1 : ((w.alloc (.cells #[.int .i64 R, .int .i64 C, .slice A n c] 24)).alloc (.cells Vu.zero.L.toArray 57)).heap.size = w.heap.size + 1 + 1 := by simp
  have HS1 := Lib.hid hs1
  clear hs1
  replace h := h.on bz
  have po := fun W (h9 : FL W A n c l) => Of_no h9 (may_not hm)
  clear hm
  go_enter Try.func26, Try.ntmps26
  go_upto_region 1 with fail
  generalize (w.alloc (.cells #[.int .i64 R, .int .i64 C, .slice A n c] 24)).alloc (.cells Vu.zero.L.toArray 57) = W1 at DM DZ bz HS1 h ⊢
  obtain ⟨t0, t1, t2, _, _, _⟩ := Mbx.cells DM
  go_wp2_with fail
  with_reducible refine (po _ h).mono ?_
  rintro e w2 ⟨rfl, hb⟩
  clear t0 t1 t2 po
  replace DZ := DZ.on hb
  replace DM := DM.on hb
  replace h := h.on hb
  replace bz := bz.trans (hb.mono bz.size)
  clear hb
  have DV := Blk.new w2 Vu.zero.L 57
  have hbA := (Below.refl _ w2).alloc (Nat.le_refl _) (.cells Vu.zero.L.toArray 57)
  replace DZ := DZ.on hbA
  replace DM := DM.on hbA
  replace h := h.on hbA
  replace bz := bz.trans (hbA.mono bz.size)
  obtain ⟨HV, eV⟩ : ∃ H, w2.heap.size = H := ⟨_, rfl⟩
  rw [eV] at DV
  clear hbA
  go_upto_region 2 with fail
  try simp only [eV] at ⊢
  clear eV
  generalize w2.alloc (.cells Vu.zero.L.toArray 57) = W3 at DZ DM DV bz h ⊢
  obtain ⟨t0, t1, t2, _, _, _⟩ := Mbx.cells DM
  obtain ⟨v0, v1, v2, v3, v4, v5, v6, v7, v8⟩ := Vbx.cells DV
  obtain ⟨k0, k1, k2, k3, k4, k5, k6, k7, k8⟩ := Vbx.cells DZ
  obtain ⟨f0, f1, f2, f3, f4, f5, f6, f7, f8⟩ := Vbx.free DZ
  go_wp2_with fail
  have hgS := set9_grown9 W3 (w.heap.size + 1) (.pointer (Vu.zero).p) (.int .i64 (Vu.zero).f0) (.int .i64 (Vu.zero).f1) (.int .i64 (Vu.zero).d0) (.int .i64 (Vu.zero).d1) (.int .i64 (Vu.zero).r0) (.int .i64 (Vu.zero).r1) (.int .i64 (Vu.zero).R) (.int .i64 (Vu.zero).C)
  have DY := Vbx.put DZ (Vu.zero)
  obtain ⟨x0, x1, x2, x3, x4, x5, x6, x7, x8⟩ := Vbx.cells DY
  refine bodyPost_ret (v := .tuple #[Vu.zero.V, .int .i64 2]) (by simp [results, Try.results26, go_sem, x0, x1, x2, x3, x4, x5, x6, x7, x8]) rfl ?_
  exact ⟨rfl, bz.grown hgS bz.size (fun b e => by cases e; omega)⟩
set_option maxRecDepth 100000 in
set_option maxHeartbeats 8000000 in
theorem taken_8 {R C : Int} {A : Option Addr} {n c : Nat} {l : List Int} {w : World} (h : FL w A n c l) (hm : mayB R C n = true) (hR : R < C) :
    Calls Try.prog 26 #[mV R C A n c] w (NoV w 8) := by
  have hmx := h.max
  have bz := ((Below.refl _ w).alloc (Nat.le_refl _) (.cells #[.int .i64 R, .int .i64 C, .slice A n c] 24)).alloc (by simp) (.cells Vu.zero.L.toArray 57)
  have DM := (Blk.new w [.int .i64 R, .int .i64 C, .slice A n c] 24).alloc (.cells Vu.zero.L.toArray 57)
  have DZ := Blk.new (w.alloc (.cells #[.int .i64 R, .int .i64 C, .slice A n c] 24)) Vu.zero.L 57
  rw [World.size_alloc] at DZ
  have hs1 : ((w.alloc (.cells #[.int .i64 R, .int .i64 C, .slice A n c] 24)).alloc (.cells Vu.zero.L.toArray 57)).heap.size = w.heap.size + 1 + 1 := by simp
  have HS1 := Lib.hid hs1
  clear hs1
  replace h := h.on bz
  have po := fun W (h9 : FL W A n c l) => Of_yes h9 (may_sz hm).1 (may_sz hm).2
  clear hm
  go_enter Try.func26, Try.ntmps26
  go_upto_region 1 with fail
  generalize (w.alloc (.cells #[.int .i64 R, .int .i64 C, .slice A n c] 24)).alloc (.cells Vu.zero.L.toArray 57) = W1 at DM DZ bz HS1 h ⊢
  obtain ⟨t0, t1, t2, _, _, _⟩ := Mbx.cells DM
  go_wp2_with fail
  with_reducible refine (po _ h).mono ?_
  rintro e w2 ⟨s, g, cap, rfl, hS, hb⟩
  clear t0 t1 t2 po
  replace DZ := DZ.on hb
  replace DM := DM.on hb
  replace h := h.on hb
  replace bz := bz.trans (hb.mono bz.size)
  have hsS := hb.size
  clear hb
  have DV := Blk.new w2 (Vu.all s R C).L 57
  have hbA := (Below.refl _ w2).alloc (Nat.le_refl _) (.cells (Vu.all s R C).L.toArray 57)
  replace DZ := DZ.on hbA
  replace DM := DM.on hbA
  replace h := h.on hbA
  replace bz := bz.trans (hbA.mono bz.size)
  replace hS := hS.on hbA
  obtain ⟨HV, eV⟩ : ∃ H, w2.heap.size = H := ⟨_, rfl⟩
  rw [eV] at DV
  rw [eV] at hsS
  clear hbA
  go_upto_region 2 with fail
  try simp only [eV] at ⊢
  clear eV
  generalize w2.alloc (.cells (Vu.all s R C).L.toArray 57) = W3 at DZ DM DV bz h hS ⊢
  obtain ⟨t0, t1, t2, _, _, _⟩ := Mbx.cells DM
  obtain ⟨v0, v1, v2, v3, v4, v5, v6, v7, v8⟩ := Vbx.cells DV
  obtain ⟨k0, k1, k2, k3, k4, k5, k6, k7, k8⟩ := Vbx.cells DZ
  obtain ⟨f0, f1, f2, f3, f4, f5, f6, f7, f8⟩ := Vbx.free DZ
  go_wp2_with fail
  have hgS := set9_grown9 W3 (w.heap.size + 1) (.pointer (Vu.zero).p) (.int .i64 (Vu.zero).f0) (.int .i64 (Vu.zero).f1) (.int .i64 (Vu.zero).d0) (.int .i64 (Vu.zero).d1) (.int .i64 (Vu.zero).r0) (.int .i64 (Vu.zero).r1) (.int .i64 (Vu.zero).R) (.int .i64 (Vu.zero).C)
  have DY := Vbx.put DZ (Vu.zero)
  obtain ⟨x0, x1, x2, x3, x4, x5, x6, x7, x8⟩ := Vbx.cells DY
  refine bodyPost_ret (v := .tuple #[Vu.zero.V, .int .i64 8]) (by simp [results, Try.results26, go_sem, x0, x1, x2, x3, x4, x5, x6, x7, x8]) rfl ?_
  exact ⟨rfl, bz.grown hgS bz.size (fun b e => by cases e; omega)⟩
set_option maxRecDepth 100000 in
set_option maxHeartbeats 8000000 in
theorem taken_10 {R C : Int} {A : Option Addr} {n c : Nat} {l : List Int} {w : World} (h : FL w A n c l) (hm : mayB R C n = true) (hR : ¬ R < C) (hF : l.all fin = false) :
    Calls Try.prog 26 #[mV R C A n c] w (NoV w 10) := by
  have hmx := h.max
  have bz := ((Below.refl _ w).alloc (Nat.le_refl _) (.cells #[.int .i64 R, .int .i64 C, .slice A n c] 24)).alloc (by simp) (.cells Vu.zero.L.toArray 57)
  have DM := (Blk.new w [.int .i64 R, .int .i64 C, .slice A n c] 24).alloc (.cells Vu.zero.L.toArray 57)
  have DZ := Blk.new (w.alloc (.cells #[.int .i64 R, .int .i64 C, .slice A n c] 24)) Vu.zero.L 57
  rw [World.size_alloc] at DZ
  have hs1 : ((w.alloc (.cells #[.int .i64 R, .int .i64 C, .slice A n c] 24)).alloc (.cells Vu.zero.L.toArray 57)).heap.size = w.heap.size + 1 + 1 := by simp
  have HS1 := Lib.hid hs1
  clear hs1
  replace h := h.on bz
  have po := fun W (h9 : FL W A n c l) => Of_yes h9 (may_sz hm).1 (may_sz hm).2
  have pf := fun W (h9 : FL W A n c l) => bfinite_any h9
  rw [hF] at pf
  clear hm
  go_enter Try.func26, Try.ntmps26
  go_upto_region 1 with fail
  generalize (w.alloc (.cells #[.int .i64 R, .int .i64 C, .slice A n c] 24)).alloc (.cells Vu.zero.L.toArray 57) = W1 at DM DZ bz HS1 h ⊢
  obtain ⟨t0, t1, t2, _, _, _⟩ := Mbx.cells DM
  go_wp2_with fail
  with_reducible refine (po _ h).mono ?_
  rintro e w2 ⟨s, g, cap, rfl, hS, hb⟩
  clear t0 t1 t2 po
  replace DZ := DZ.on hb
  replace DM := DM.on hb
  replace h := h.on hb
  replace bz := bz.trans (hb.mono bz.size)
  have hsS := hb.size
  clear hb
  have DV := Blk.new w2 (Vu.all s R C).L 57
  have hbA := (Below.refl _ w2).alloc (Nat.le_refl _) (.cells (Vu.all s R C).L.toArray 57)
  replace DZ := DZ.on hbA
  replace DM := DM.on hbA
  replace h := h.on hbA
  replace bz := bz.trans (hbA.mono bz.size)
  replace hS := hS.on hbA
  obtain ⟨HV, eV⟩ : ∃ H, w2.heap.size = H := ⟨_, rfl⟩
  rw [eV] at DV
  rw [eV] at hsS
  clear hbA
  go_upto_region 2 with fail
  try simp only [eV] at ⊢
  clear eV
  generalize w2.alloc (.cells (Vu.all s R C).L.toArray 57) = W3 at DZ DM DV bz h hS ⊢
  obtain ⟨t0, t1, t2, _, _, _⟩ := Mbx.cells DM
  obtain ⟨v0, v1, v2, v3, v4, v5, v6, v7, v8⟩ := Vbx.cells DV
  obtain ⟨k0, k1, k2, k3, k4, k5, k6, k7, k8⟩ := Vbx.cells DZ
  obtain ⟨f0, f1, f2, f3, f4, f5, f6, f7, f8⟩ := Vbx.free DZ
  go_wp2_with fail
  with_reducible refine (pf _ h).mono ?_
  rintro e w4 ⟨rfl, rfl⟩
  clear pf
  go_wp2_with fail
  have hgS := set9_grown9 W3 (w.heap.size + 1) (.pointer (Vu.zero).p) (.int .i64 (Vu.zero).f0) (.int .i64 (Vu.zero).f1) (.int .i64 (Vu.zero).d0) (.int .i64 (Vu.zero).d1) (.int .i64 (Vu.zero).r0) (.int .i64 (Vu.zero).r1) (.int .i64 (Vu.zero).R) (.int .i64 (Vu.zero).C)
  have DY := Vbx.put DZ (Vu.zero)
  obtain ⟨x0, x1, x2, x3, x4, x5, x6, x7, x8⟩ := Vbx.cells DY
  refine bodyPost_ret (v := .tuple #[Vu.zero.V, .int .i64 10]) (by simp [results, Try.results26, go_sem, x0, x1, x2, x3, x4, x5, x6, x7, x8]) rfl ?_
  exact ⟨rfl, bz.grown hgS bz.size (fun b e => by cases e; omega)⟩
set_option maxRecDepth 100000 in
set_option maxHeartbeats 8000000 in
theorem taken_0 {R C : Int} {A : Option Addr} {n c : Nat} {l : List Int} {w : World} (h : FL w A n c l) (hm : mayB R C n = true) (hR : ¬ R < C) (hF : l.all fin = true) :
    Calls Try.prog 26 #[mV R C A n c] w (NewV w R C l) := by
  have hmx := h.max
  have bz := ((Below.refl _ w).alloc (Nat.le_refl _) (.cells #[.int .i64 R, .int .i64 C, .slice A n c] 24)).alloc (by simp) (.cells Vu.zero.L.toArray 57)
  have DM := (Blk.new w [.int .i64 R, .int .i64 C, .slice A n c] 24).alloc (.cells Vu.zero.L.toArray 57)
  have DZ := Blk.new (w.alloc (.cells #[.int .i64 R, .int .i64 C, .slice A n c] 24)) Vu.zero.L 57
  rw [World.size_alloc] at DZ
  have hs1 : ((w.alloc (.cells #[.int .i64 R, .int .i64 C, .slice A n c] 24)).alloc (.cells Vu.zero.L.toArray 57)).heap.size = w.heap.size + 1 + 1 := by simp
  have HS1 := Lib.hid hs1
  clear hs1
  replace h := h.on bz
  have po := fun W (h9 : FL W A n c l) => Of_yes h9 (may_sz hm).1 (may_sz hm).2
  have pf := fun W (h9 : FL W A n c l) => bfinite_any h9
  rw [hF] at pf
  clear hm
  go_enter Try.func26, Try.ntmps26
  go_upto_region 1 with fail
  generalize (w.alloc (.cells #[.int .i64 R, .int .i64 C, .slice A n c] 24)).alloc (.cells Vu.zero.L.toArray 57) = W1 at DM DZ bz HS1 h ⊢
  obtain ⟨t0, t1, t2, _, _, _⟩ := Mbx.cells DM
  go_wp2_with fail
  with_reducible refine (po _ h).mono ?_
  rintro e w2 ⟨s, g, cap, rfl, hS, hb⟩
  clear t0 t1 t2 po
  replace DZ := DZ.on hb
  replace DM := DM.on hb
  replace h := h.on hb
  replace bz := bz.trans (hb.mono bz.size)
  have hsS := hb.size
  clear hb
  have DV := Blk.new w2 (Vu.all s R C).L 57
  have hbA := (Below.refl _ w2).alloc (Nat.le_refl _) (.cells (Vu.all s R C).L.toArray 57)
  replace DZ := DZ.on hbA
  replace DM := DM.on hbA
  replace h := h.on hbA
  replace bz := bz.trans (hbA.mono bz.size)
  replace hS := hS.on hbA
  obtain ⟨HV, eV⟩ : ∃ H, w2.heap.size = H := ⟨_, rfl⟩
  rw [eV] at DV
  rw [eV] at hsS
  clear hbA
  go_upto_region 2 with fail
  try simp only [eV] at ⊢
  clear eV
  generalize w2.alloc (.cells (Vu.all s R C).L.toArray 57) = W3 at DZ DM DV bz h hS ⊢
  obtain ⟨t0, t1, t2, _, _, _⟩ := Mbx.cells DM
  obtain ⟨v0, v1, v2, v3, v4, v5, v6, v7, v8⟩ := Vbx.cells DV
  obtain ⟨k0, k1, k2, k3, k4, k5, k6, k7, k8⟩ := Vbx.cells DZ
  obtain ⟨f0, f1, f2, f3, f4, f5, f6, f7, f8⟩ := Vbx.free DZ
  go_wp2_with fail
  with_reducible refine (pf _ h).mono ?_
  rintro e w4 ⟨rfl, rfl⟩
  clear pf
  go_wp2_with fail
  have hgS := set9_grown9 W3 (w.heap.size + 1) (.pointer ((Vu.all s R C)).p) (.int .i64 ((Vu.all s R C)).f0) (.int .i64 ((Vu.all s R C)).f1) (.int .i64 ((Vu.all s R C)).d0) (.int .i64 ((Vu.all s R C)).d1) (.int .i64 ((Vu.all s R C)).r0) (.int .i64 ((Vu.all s R C)).r1) (.int .i64 ((Vu.all s R C)).R) (.int .i64 ((Vu.all s R C)).C)
  have DY := Vbx.put DZ ((Vu.all s R C))
  obtain ⟨x0, x1, x2, x3, x4, x5, x6, x7, x8⟩ := Vbx.cells DY
  refine bodyPost_ret (v := .tuple #[(Vu.all s R C).V, .int .i64 0]) (by simp [results, Try.results26, go_sem, x0, x1, x2, x3, x4, x5, x6, x7, x8]) rfl ?_
  exact ⟨s, g, cap, rfl, (hS.farG9 hgS (by have := hS.lo; have := HS1.out; simp; omega) (by have h9 : W1.heap.size ≤ g := (hS.own.gt rfl).1; have := HS1.out; simp; omega)).lower (by have := HS1.out; omega), bz.grown hgS bz.size (fun b e => by cases e; omega)⟩
theorem taken_no {R C E : Int} {A : Option Addr} {n c : Nat} {l : List Int} {w : World} (h : FL w A n c l) (hE : askC R C n l = E) (hE0 : E ≠ 0) : Calls Try.prog 26 #[mV R C A n c] w (NoV w E) := by
  unfold askC at hE
  by_cases h1 : mayB R C n = false
  · rw [if_pos h1] at hE; subst hE; exact taken_2 h h1
  · rw [if_neg h1] at hE
    have h1 : mayB R C n = true := by simpa using h1
    by_cases h2 : R < C
    · rw [if_pos h2] at hE; subst hE; exact taken_8 h h1 h2
    · rw [if_neg h2] at hE
      by_cases h3 : l.all fin = false
      · rw [if_pos h3] at hE; subst hE; exact taken_10 h h1 h2 h3
      · rw [if_neg h3] at hE; exact absurd hE.symm hE0
theorem taken_yes {R C : Int} {A : Option Addr} {n c : Nat} {l : List Int} {w : World} (h : FL w A n c l) (hE : askC R C n l = 0) : Calls Try.prog 26 #[mV R C A n c] w (NewV w R C l) := by
  obtain ⟨h1, h2, h3⟩ := ask_zero hE
  exact taken_0 h h1 (by omega) h3
end Go.Proofs.Ytbaeabmmokgomaa
namespace Go.Proofs.Ytbaeabmmokgomaa
open Go.RowKit Go.Bw
set_option linter.unusedVariables false
set_option linter.unusedSimpArgs false
attribute [local go_sem] run_store_float
/-- no form, and a code -/
def BdN (w : World) (E : Int) (r : Ending) (w' : World) : Prop := r = .returned (.tuple #[tV none 0 0 none 0 0, .slice none 0 0, .slice none 0 0, .int .i64 E]) ∧ Below w.heap.size w w'
set_option maxRecDepth 100000 in
set_option maxHeartbeats 8000000 in
theorem gReduce_no {A : Option Addr} {n c : Nat} {l : List Int} {R C E : Int} {w : World} (h : FL w A n c l) (hE : askC R C n l = E) (hE0 : E ≠ 0) :
    Calls Try.prog 9 #[mV R C A n c] w (BdN w E) := by
  have bz := ((Below.refl _ w).alloc (Nat.le_refl _) (.cells #[.int .i64 R, .int .i64 C, .slice A n c] 24)).alloc (by simp) (.cells #[.slice none 0 0, .slice none 0 0] 28)
  have DM := (Blk.new w [.int .i64 R, .int .i64 C, .slice A n c] 24).alloc (.cells #[.slice none 0 0, .slice none 0 0] 28)
  have DZ := Blk.new (w.alloc (.cells #[.int .i64 R, .int .i64 C, .slice A n c] 24)) [.slice none 0 0, .slice none 0 0] 28
  rw [World.size_alloc] at DZ
  replace h := h.on bz
  have pr := taken_no (R := R) (C := C) h hE hE0
  have d : (E != 0) = true := by simpa using hE0
  clear hE h
  go_enter Try.func9, Try.ntmps9
  go_upto_region 1 with fail
  generalize (w.alloc (.cells #[.int .i64 R, .int .i64 C, .slice A n c] 24)).alloc (.cells #[.slice none 0 0, .slice none 0 0] 28) = W1 at DM DZ bz pr ⊢
  obtain ⟨t0, t1, t2, _, _, _⟩ := Mbx.cells DM
  go_wp2_with fail
  with_reducible refine pr.mono ?_
  rintro e w2 ⟨rfl, hb⟩
  have hbA := (Below.refl _ w2).alloc (Nat.le_refl _) (.cells Vu.zero.L.toArray 57)
  replace DZ := (DZ.on hb).on hbA
  replace bz := (bz.trans (hb.mono bz.size)).trans (hbA.mono (Nat.le_trans bz.size hb.size))
  clear t0 t1 t2 pr hb hbA DM
  obtain ⟨z0, z1, z2, z3⟩ := Tbx.cells DZ
  go_wp2_with fail
  have DY := Blk.set_ (Blk.set_ DZ 0 (.slice none 0 0)) 1 (.slice none 0 0)
  have x0 := Blk.cell DY 0 rfl
  have x1 := Blk.cell DY 1 rfl
  refine bodyPost_ret (v := .tuple #[tV none 0 0 none 0 0, .slice none 0 0, .slice none 0 0, .int .i64 E]) (by simp [results, Try.results9, go_sem, x0, x1]) rfl ?_
  exact ⟨rfl, (bz.setCell (p := ⟨w.heap.size + 1, 0, none⟩) (by simp) (.slice none 0 0)).setCell (p := ⟨w.heap.size + 1, 1, none⟩) (by simp) (.slice none 0 0)⟩
end Go.Proofs.Ytbaeabmmokgomaa
