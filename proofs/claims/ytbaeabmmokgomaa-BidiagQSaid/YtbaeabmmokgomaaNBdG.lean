/-
  Layer 11, walks: what reflections come to, by the reference. (Written by wip/tools/gen_bdg.py.)
-/
import Derived.Test.YtbaeabmmokgomaaNB1
namespace Go.Proofs.Ytbaeabmmokgomaa
open Go.RowKit Go.Bw
set_option linter.unusedVariables false
set_option linter.unusedSimpArgs false
attribute [local go_sem] run_store_float

set_option maxRecDepth 100000 in
set_option maxHeartbeats 16000000 in
theorem rQ11_any {LA : Option Addr} {m n kc : Nat} {hs : List Re} {w : World} (hL : Rl w LA n kc hs) (hm : m ≤ 512) (hnm : n ≤ m) (hlen : ∀ (j : Nat) (e : Re), hs[j]? = some e → e.l.length = m - j) :
    Calls Try.prog 20 #[.int .i64 m, .int .i64 n, .slice LA n kc] w (TqLP w m n hs) := by
  have hlK2 := Lib.hid hL.1
  have hn : n ≤ 512 := by omega
  have HLN := Lib.hid hlen
  have HL := Lib.hid hL
  obtain ⟨N, hN⟩ : ∃ N, m * n = N := ⟨_, rfl⟩
  have n4 : N ≤ 262144 := by rw [← hN]; exact Nat.le_trans (Nat.mul_le_mul hm hn) (by decide)
  have HN := Lib.hid hN
  have DZ := Blk.new w [.int .i64 0, .int .i64 0, .slice none 0 0] 24
  have bz := (Below.refl _ w).alloc (Nat.le_refl _) (.cells #[.int .i64 0, .int .i64 0, .slice none 0 0] 24)
  have hs1 := World.size_alloc w (.cells #[.int .i64 0, .int .i64 0, .slice none 0 0] 24)
  have pO := rEye_any m n hm (by omega) (w.alloc (.cells #[.int .i64 0, .int .i64 0, .slice none 0 0] 24))
  rw [hN] at pO
  have PO := Lib.hid pO
  clear hlen hL hN pO
  go_enter Try.func20, Try.ntmps20
  go_wp2_with fail
  with_reducible refine PO.out.mono ?_
  rintro e w1 ⟨A2, c2, L, rfl, hO, hI, hb⟩
  rw [hs1] at hO
  replace DZ := DZ.on hb
  replace bz := bz.trans (hb.mono bz.size)
  have hsb := hb.size
  rw [hs1] at hsb
  clear hb PO hs1
  obtain ⟨gq, hgq⟩ : ∃ g, w1.heap.size = g := ⟨_, rfl⟩
  have hAq : ∀ a, A2 = some a → a.block ≠ gq ∧ w.heap.size < a.block := fun a e => by have := hO.gt e; omega
  have DQ := Blk.new w1 [.int .i64 m, .int .i64 n, .slice A2 N c2] 24
  rw [hgq] at DQ hsb
  replace DZ := DZ.alloc (.cells #[.int .i64 m, .int .i64 n, .slice A2 N c2] 24)
  replace hO := (hO.alloc_ (.cells #[.int .i64 m, .int .i64 n, .slice A2 N c2] 24)).less (B' := w.heap.size) (by omega)
  replace bz := bz.alloc bz.size (.cells #[.int .i64 m, .int .i64 n, .slice A2 N c2] 24)
  go_wp2_with fail
  try simp only [hgq] at ⊢
  clear hgq
  generalize w1.alloc (.cells #[.int .i64 m, .int .i64 n, .slice A2 N c2] 24) = w2 at DZ hO DQ bz ⊢
  rw [← HN.out] at hI
  have hT := TqL.start hI hlK2.out
  go_loopw [8] (fun i wr => ∃ (k : Nat) (Qs : Nat → List Int) (A2 : Option Addr) (c2 : Nat) (x : Int), k ≤ n ∧ i = .int .i64 x ∧ ((k = 0 ∧ x < 0 ∧ -4 < x) ∨ (0 < k ∧ x = (k : Int) - 1)) ∧ TqL m n k hs Qs ∧ OwnF wr w.heap.size A2 c2 (Qs k) ∧ (∀ a, A2 = some a → a.block ≠ gq ∧ w.heap.size < a.block) ∧ Mbx wr w.heap.size 0 0 none 0 0 ∧ Mbx wr gq m n A2 N c2 ∧ Below w.heap.size w wr) (fun i _ => (intOf i + 1).toNat)
  case atStart => exact ⟨n, _, A2, c2, (n : Int) - 1, Nat.le_refl _, by first | rfl | go_num, by omega, hT, hO, hAq, DZ, DQ, bz⟩
  case round =>
    clear hT hO hAq DZ DQ bz hI
    obtain ⟨k, Qs, A2, c2, x, hk, rfl, hx, hT, hO, hAq, DZ, DQ, bz⟩ := hrel
    rcases Nat.eq_zero_or_pos k with k0 | k0
    · as_aux_lemma =>
        have x0 : ¬ (0 : Int) ≤ x := by omega
        clear hx
        subst k0
        obtain ⟨q0, q1, q2, q3, q4, q5⟩ := Mbx.cells DQ
        obtain ⟨z0, z1, z2, z3, z4, z5⟩ := Mbx.cells DZ
        go_wp2_with fail
        obtain ⟨x0, x1, x2, _, _, _⟩ := Mbx.cells (Mbx.put DZ m n A2 N c2)
        refine bodyPost_ret (v := mV m n A2 N c2) (by simp [results, Try.results20, go_sem, x0, x1, x2]) rfl ?_
        have hgs : wr.grownBy (((wr.setCell ⟨w.heap.size, 0, none⟩ (.int .i64 m)).setCell ⟨w.heap.size, 1, none⟩ (.int .i64 n)).setCell ⟨w.heap.size, 2, none⟩ (.slice A2 N c2)) (some w.heap.size) := grown_setCell (grown_setCell (grown_setCell (World.grownBy.refl wr _) 0 _) 1 _) 2 _
        exact ⟨A2, c2, Qs 0, Qs, by rw [HN.out], hO.grown_ hgs (fun a e9 => by have := hAq a e9; simp; omega), hT, rfl, bz.grown hgs bz.size (fun b e => by injection e with e; omega)⟩
    · as_aux_lemma =>
        obtain ⟨j, rfl⟩ : ∃ j, k = j + 1 := ⟨k - 1, by omega⟩
        obtain rfl : x = (j : Int) := by omega
        clear hx
        obtain ⟨e, ad, ea, he, rfl, hE, hl, hc0, hc1, hv, bt⟩ := (HL.out.on bz).at_ (k := j) (by omega)
        have hm9 := HLN.out j e he
        obtain ⟨mm, hm2⟩ : ∃ m, e.l.length = m := ⟨_, rfl⟩
        rw [hm2] at hc0 hv
        have hmn : mm = m - j := by rw [← hm2]; exact hm9
        have HE := Lib.hid he
        have hjK : j < n := by omega
        clear hm9 hm2 he
        obtain ⟨p, hp⟩ : ∃ p, j = p := ⟨_, rfl⟩
        skip
        have HP := Lib.hid hp
        have j0 : (0 : Int) ≤ j := by omega
        have j1 : (j : Int) < n := by omega
        have hwdQ : Is (Qs (j + 1)) (m * n) (fun i => fa (D (Qs (j + 1)) i)) := tqL_is hT hk hlK2.out
        have hpn : p + mm = m := by omega
        have hm0 : 0 < mm := by omega
        have hpf : p ≤ n := by omega
        have hgz : w.heap.size < gq := by omega
        clear hp hmn
        skip
        go_wp2_with fail
        replace hO := hO.drew
        replace DZ := DZ.drew
        replace DQ := DQ.drew
        replace bz := bz.drew
        replace hc0 : wr.drew.cell? ea = some (.slice e.A mm e.c) := hc0
        replace hc1 : wr.drew.cell? ⟨ea.block, ea.off + 1, none⟩ = some (.float .f64 e.t) := hc1
        replace hv : FL wr.drew e.A mm e.c e.l := hv
        have hgd := DQ.lt
        refine wp_region_late [8] (S := fun w9 : World => Mbx w9 gq m n A2 N c2 ∧ w9.cell? ea = some (.slice e.A mm e.c) ∧ w9.cell? ⟨ea.block, ea.off + 1, none⟩ = some (.float .f64 e.t)) (by kernel_rfl) ⟨DQ, hc0, hc1⟩ (fun hS => ?_)
        generalize wr.drew = wd at hS hO DZ DQ hv hc0 hc1 hgd bz ⊢
        refine wpAnyL_take (i := 0) (v := ?v0_1) rfl (by kernel_rfl) (by kernel_rfl) (by kernel_rfl) (fun _ _ _ h => h) (Or.inl ⟨by rfl, ?hy0_1⟩) (by assumption) ?rest0_1
        case hy0_1 => (intro w9 hSw; obtain ⟨ma1, ma2, ma3⟩ := hSw; obtain ⟨y0, y1, y2, _, _, _⟩ := Mbx.cells ma1; go_simp; try with_reducible rfl)
        try simp only [Act.put, List.setIfInBounds_toArray, List.set_cons_zero, List.set_cons_succ, List.getElem_toArray, List.getElem_cons_zero, List.getElem_cons_succ]
        refine wpAnyL_take (i := 1) (v := ?v1_2) rfl (by kernel_rfl) (by kernel_rfl) (by kernel_rfl) (fun _ _ _ h => h) (Or.inl ⟨by rfl, ?hy1_2⟩) (by assumption) ?rest1_2
        case hy1_2 => (intro w9 hSw; clear hSw; go_simp; try with_reducible rfl)
        try simp only [Act.put, List.setIfInBounds_toArray, List.set_cons_zero, List.set_cons_succ, List.getElem_toArray, List.getElem_cons_zero, List.getElem_cons_succ]
        refine wpAnyL_take (i := 2) (v := ?v2_3) rfl (by kernel_rfl) (by kernel_rfl) (by kernel_rfl) (fun _ _ _ h => h) (Or.inl ⟨by rfl, ?hy2_3⟩) (by assumption) ?rest2_3
        case hy2_3 => (intro w9 hSw; clear hSw; go_simp; try with_reducible rfl)
        try simp only [Act.put, List.setIfInBounds_toArray, List.set_cons_zero, List.set_cons_succ, List.getElem_toArray, List.getElem_cons_zero, List.getElem_cons_succ]
        refine wpAnyL_take (i := 3) (v := ?v3_4) rfl (by kernel_rfl) (by kernel_rfl) (by kernel_rfl) (fun _ _ _ h => h) (Or.inl ⟨by rfl, ?hy3_4⟩) (by assumption) ?rest3_4
        case hy3_4 => (intro w9 hSw; clear hSw; go_simp; try with_reducible rfl)
        try simp only [Act.put, List.setIfInBounds_toArray, List.set_cons_zero, List.set_cons_succ, List.getElem_toArray, List.getElem_cons_zero, List.getElem_cons_succ]
        refine wpAnyL_take (i := 4) (v := ?v4_5) rfl (by kernel_rfl) (by kernel_rfl) (by kernel_rfl) (fun _ _ _ h => h) (Or.inl ⟨by rfl, ?hy4_5⟩) (by assumption) ?rest4_5
        case hy4_5 => (intro w9 hSw; clear hSw; go_simp; try with_reducible rfl)
        try simp only [Act.put, List.setIfInBounds_toArray, List.set_cons_zero, List.set_cons_succ, List.getElem_toArray, List.getElem_cons_zero, List.getElem_cons_succ]
        refine wpAnyL_take (i := 5) (v := ?v5_6) rfl (by kernel_rfl) (by kernel_rfl) (by kernel_rfl) (fun _ _ _ h => h) (Or.inl ⟨by rfl, ?hy5_6⟩) (by assumption) ?rest5_6
        case hy5_6 => (intro w9 hSw; clear hSw; go_simp; try with_reducible rfl)
        try simp only [Act.put, List.setIfInBounds_toArray, List.set_cons_zero, List.set_cons_succ, List.getElem_toArray, List.getElem_cons_zero, List.getElem_cons_succ]
        refine wpAnyL_take (i := 6) (v := ?v6_7) rfl (by kernel_rfl) (by kernel_rfl) (by kernel_rfl) (fun _ _ _ h => h) (Or.inl ⟨by rfl, ?hy6_7⟩) (by assumption) ?rest6_7
        case hy6_7 => (intro w9 hSw; obtain ⟨ma1, ma2, ma3⟩ := hSw; obtain ⟨y0, y1, y2, _, _, _⟩ := Mbx.cells ma1; go_simp; try with_reducible rfl)
        try simp only [Act.put, List.setIfInBounds_toArray, List.set_cons_zero, List.set_cons_succ, List.getElem_toArray, List.getElem_cons_zero, List.getElem_cons_succ]
        refine wpAnyL_ready (rs := [7]) (by kernel_rfl) (by simp) ?_
        refine AllReadyL.cons rfl (fun K hK => ?_) AllReadyL.nil
        go_simp
        have FQ : FL wd A2 N c2 (Qs (j + 1)) := by have h9 := hO.fl hwdQ.wd; rw [hwdQ.len, HN.out] at h9; exact h9
        have pl := rLeft_any (M := m) (q := n) (p := j) (f := j) FQ hv bt hm hn HN.out.symm hm0 (by have := HP.out; omega) (by have := HP.out; omega) (fun a e9 => by obtain ⟨x, e2, hx, _⟩ := hv.at_ hm0; rw [e2] at e9; injection e9 with e9; rw [← e9]; exact hx) (fun _ a e9 => (hO.gt e9).2)
        have PL := Lib.hid pl
        clear pl
        with_reducible refine (PL.out).mono ?_
        rintro e w1 ⟨A3, c3, L3, rfl, hO3, hI3, hb⟩
        replace hO := hO.on_ hb
        replace DZ := DZ.on hb
        replace DQ := DQ.on hb
        replace hv := hv.on hb
        replace bz := bz.trans (hb.mono bz.size)
        replace hc0 := cell_on hc0 hb
        replace hc1 := cell_on hc1 hb
        have hszd := hb.size
        have hA3 : ∀ a, A3 = some a → a.block ≠ gq ∧ w.heap.size < a.block := fun a e9 => by have := (hO3.gt e9).1; omega
        clear hb FQ PL
        clear hS; refine hK.out _ _ ⟨DQ, hc0, hc1⟩ (fun hS => ?_); clear hK K
        try simp only [Act.put, List.setIfInBounds_toArray, List.set_cons_zero, List.set_cons_succ, List.getElem_toArray, List.getElem_cons_zero, List.getElem_cons_succ]
        obtain ⟨q0, q1, q2, q3, q4, q5⟩ := Mbx.cells DQ
        refine wpAnyL_ready (rs := [8]) (by kernel_rfl) (by simp) ?_
        refine AllReadyL.lat (by rfl) rfl (fun K hK => ?_) AllReadyL.nil
        go_simp
        clear q0 q1 q2 q3 q4 q5
        have hgs : w1.grownBy (((w1.setCell ⟨gq, 0, none⟩ (.int .i64 m)).setCell ⟨gq, 1, none⟩ (.int .i64 n)).setCell ⟨gq, 2, none⟩ (.slice A3 N c3)) (some gq) := grown_setCell (grown_setCell (grown_setCell (World.grownBy.refl w1 _) 0 _) 1 _) 2 _
        replace DZ := DZ.grown hgs (by simp; omega)
        replace DQ := Mbx.put DQ m n A3 N c3
        have hO4 := (hO3.less (B' := w.heap.size) (by omega)).grown_ hgs (fun a e9 => by have := hA3 a e9; simp; omega)
        replace bz := bz.grown hgs bz.size (fun b e9 => by injection e9 with e9; omega)
        clear hgs hO hv hc0 hc1 hO3
        refine hK.out _ _ trivial (fun _ => ?_)
        clear hK K
        try simp only [Act.put, List.setIfInBounds_toArray, List.set_cons_zero, List.set_cons_succ, List.getElem_toArray, List.getElem_cons_zero, List.getElem_cons_succ]
        refine wpAnyL_done (by kernel_rfl) ?_ _
        have hI4 : Is L3 (m * n) (lT (Qs (j + 1)) e.l n j (m - j) j (af e.t)) := by
          have e1 := HP.out
          rw [HN.out, show m - j = mm by omega]
          exact hI3
        have hT2 := TqL.next hT hjK HE.out hI4
        have HT2 := Lib.hid hT2
        clear hT2 hT
        go_wp2_with fail
        go_roundw
        case rel => exact ⟨j, _, A3, c3, (j : Int) - 1, by omega, by go_num, by omega, HT2.out, (by show OwnF _ _ _ _ (if j = j then L3 else Qs j); rw [if_pos rfl]; exact hO4), hA3, DZ, DQ, bz⟩
        case measure => simp [intOf] <;> omega

set_option maxRecDepth 100000 in
set_option maxHeartbeats 16000000 in
theorem rP11_any {LA : Option Addr} {n K kc : Nat} {hs : List Re} {w : World} (hL : Rl w LA K kc hs) (hn : n ≤ 512) (hK : K = n - 2) (hlen : ∀ (j : Nat) (e : Re), hs[j]? = some e → e.l.length = n - 1 - j) :
    Calls Try.prog 23 #[.int .i64 n, .slice LA K kc] w (TqP w n K hs) := by
  have hlK2 := Lib.hid hL.1
  have hm : n ≤ 512 := hn
  have HK := Lib.hid hK
  clear hK
  have HLN := Lib.hid hlen
  have HL := Lib.hid hL
  obtain ⟨N, hN⟩ : ∃ N, n * n = N := ⟨_, rfl⟩
  have n4 : N ≤ 262144 := by rw [← hN]; exact Nat.le_trans (Nat.mul_le_mul hm hn) (by decide)
  have HN := Lib.hid hN
  have DZ := Blk.new w [.int .i64 0, .int .i64 0, .slice none 0 0] 24
  have bz := (Below.refl _ w).alloc (Nat.le_refl _) (.cells #[.int .i64 0, .int .i64 0, .slice none 0 0] 24)
  have hs1 := World.size_alloc w (.cells #[.int .i64 0, .int .i64 0, .slice none 0 0] 24)
  have pO := rEye_any n n hm (by omega) (w.alloc (.cells #[.int .i64 0, .int .i64 0, .slice none 0 0] 24))
  rw [hN] at pO
  have PO := Lib.hid pO
  clear hlen hL hN pO
  go_enter Try.func23, Try.ntmps23
  go_wp2_with fail
  with_reducible refine PO.out.mono ?_
  rintro e w1 ⟨A2, c2, L, rfl, hO, hI, hb⟩
  rw [hs1] at hO
  replace DZ := DZ.on hb
  replace bz := bz.trans (hb.mono bz.size)
  have hsb := hb.size
  rw [hs1] at hsb
  clear hb PO hs1
  obtain ⟨gq, hgq⟩ : ∃ g, w1.heap.size = g := ⟨_, rfl⟩
  have hAq : ∀ a, A2 = some a → a.block ≠ gq ∧ w.heap.size < a.block := fun a e => by have := hO.gt e; omega
  have DQ := Blk.new w1 [.int .i64 n, .int .i64 n, .slice A2 N c2] 24
  rw [hgq] at DQ hsb
  replace DZ := DZ.alloc (.cells #[.int .i64 n, .int .i64 n, .slice A2 N c2] 24)
  replace hO := (hO.alloc_ (.cells #[.int .i64 n, .int .i64 n, .slice A2 N c2] 24)).less (B' := w.heap.size) (by omega)
  replace bz := bz.alloc bz.size (.cells #[.int .i64 n, .int .i64 n, .slice A2 N c2] 24)
  go_wp2_with fail
  try simp only [hgq] at ⊢
  clear hgq
  generalize w1.alloc (.cells #[.int .i64 n, .int .i64 n, .slice A2 N c2] 24) = w2 at DZ hO DQ bz ⊢
  rw [← HN.out] at hI
  have hT := Tq.start hI hlK2.out
  go_loopw [6] (fun i wr => ∃ (k : Nat) (Qs : Nat → List Int) (A2 : Option Addr) (c2 : Nat) (x : Int), k ≤ K ∧ i = .int .i64 x ∧ ((k = 0 ∧ x < 0 ∧ -4 < x) ∨ (0 < k ∧ x = (k : Int) - 1)) ∧ Tq n K k hs Qs ∧ OwnF wr w.heap.size A2 c2 (Qs k) ∧ (∀ a, A2 = some a → a.block ≠ gq ∧ w.heap.size < a.block) ∧ Mbx wr w.heap.size 0 0 none 0 0 ∧ Mbx wr gq n n A2 N c2 ∧ Below w.heap.size w wr) (fun i _ => (intOf i + 1).toNat)
  case atStart => exact ⟨K, _, A2, c2, (n : Int) - 3, Nat.le_refl _, by first | rfl | go_num, by have := HK.out; omega, hT, hO, hAq, DZ, DQ, bz⟩
  case round =>
    clear hT hO hAq DZ DQ bz hI
    obtain ⟨k, Qs, A2, c2, x, hk, rfl, hx, hT, hO, hAq, DZ, DQ, bz⟩ := hrel
    rcases Nat.eq_zero_or_pos k with k0 | k0
    · as_aux_lemma =>
        have x0 : ¬ (0 : Int) ≤ x := by omega
        clear hx
        subst k0
        obtain ⟨q0, q1, q2, q3, q4, q5⟩ := Mbx.cells DQ
        obtain ⟨z0, z1, z2, z3, z4, z5⟩ := Mbx.cells DZ
        go_wp2_with fail
        obtain ⟨x0, x1, x2, _, _, _⟩ := Mbx.cells (Mbx.put DZ n n A2 N c2)
        refine bodyPost_ret (v := mV n n A2 N c2) (by simp [results, Try.results23, go_sem, x0, x1, x2]) rfl ?_
        have hgs : wr.grownBy (((wr.setCell ⟨w.heap.size, 0, none⟩ (.int .i64 n)).setCell ⟨w.heap.size, 1, none⟩ (.int .i64 n)).setCell ⟨w.heap.size, 2, none⟩ (.slice A2 N c2)) (some w.heap.size) := grown_setCell (grown_setCell (grown_setCell (World.grownBy.refl wr _) 0 _) 1 _) 2 _
        exact ⟨A2, c2, Qs 0, Qs, by rw [HN.out], hO.grown_ hgs (fun a e9 => by have := hAq a e9; simp; omega), hT, rfl, bz.grown hgs bz.size (fun b e => by injection e with e; omega)⟩
    · as_aux_lemma =>
        obtain ⟨j, rfl⟩ : ∃ j, k = j + 1 := ⟨k - 1, by omega⟩
        obtain rfl : x = (j : Int) := by omega
        clear hx
        obtain ⟨e, ad, ea, he, rfl, hE, hl, hc0, hc1, hv, bt⟩ := (HL.out.on bz).at_ (k := j) (by omega)
        have hm9 := HLN.out j e he
        obtain ⟨mm, hm2⟩ : ∃ m, e.l.length = m := ⟨_, rfl⟩
        rw [hm2] at hc0 hv
        have hmn : mm = n - 1 - j := by rw [← hm2]; exact hm9
        have HE := Lib.hid he
        have hjK : j < K := by omega
        clear hm9 hm2 he
        obtain ⟨p, hp⟩ : ∃ p, j + 1 = p := ⟨_, rfl⟩
        have ep : (j : Int) + 1 = (p : Int) := by omega
        have wp : IntKind.i64.wrap (p : Int) = (p : Int) := IntWalk.i64_in _ (by have := HK.out; omega)
        have HP := Lib.hid hp
        have j0 : (0 : Int) ≤ j := by omega
        have j1 : (j : Int) < K := by omega
        have hwdQ : Is (Qs (j + 1)) (n * n) (fun i => fa (D (Qs (j + 1)) i)) := tq_is hT hk hlK2.out
        have hpn : p + mm = n := by have := HK.out; omega
        have hm0 : 0 < mm := by have := HK.out; omega
        have hpf : p ≤ n := by have := HK.out; omega
        have hgz : w.heap.size < gq := by omega
        clear hp hmn
        skip
        go_wp2_with fail
        replace hO := hO.drew
        replace DZ := DZ.drew
        replace DQ := DQ.drew
        replace bz := bz.drew
        replace hc0 : wr.drew.cell? ea = some (.slice e.A mm e.c) := hc0
        replace hc1 : wr.drew.cell? ⟨ea.block, ea.off + 1, none⟩ = some (.float .f64 e.t) := hc1
        replace hv : FL wr.drew e.A mm e.c e.l := hv
        have hgd := DQ.lt
        refine wp_region_late [10] (S := fun w9 : World => Mbx w9 gq n n A2 N c2 ∧ w9.cell? ea = some (.slice e.A mm e.c) ∧ w9.cell? ⟨ea.block, ea.off + 1, none⟩ = some (.float .f64 e.t)) (by kernel_rfl) ⟨DQ, hc0, hc1⟩ (fun hS => ?_)
        generalize wr.drew = wd at hS hO DZ DQ hv hc0 hc1 hgd bz ⊢
        refine wpAnyL_take (i := 0) (v := ?v0_8) rfl (by kernel_rfl) (by kernel_rfl) (by kernel_rfl) (fun _ _ _ h => h) (Or.inl ⟨by rfl, ?hy0_8⟩) (by assumption) ?rest0_8
        case hy0_8 => (intro w9 hSw; obtain ⟨ma1, ma2, ma3⟩ := hSw; obtain ⟨y0, y1, y2, _, _, _⟩ := Mbx.cells ma1; go_simp; try with_reducible rfl)
        try simp only [Act.put, List.setIfInBounds_toArray, List.set_cons_zero, List.set_cons_succ, List.getElem_toArray, List.getElem_cons_zero, List.getElem_cons_succ]
        refine wpAnyL_take (i := 1) (v := ?v1_9) rfl (by kernel_rfl) (by kernel_rfl) (by kernel_rfl) (fun _ _ _ h => h) (Or.inl ⟨by rfl, ?hy1_9⟩) (by assumption) ?rest1_9
        case hy1_9 => (intro w9 hSw; clear hSw; go_simp; try with_reducible rfl)
        try simp only [Act.put, List.setIfInBounds_toArray, List.set_cons_zero, List.set_cons_succ, List.getElem_toArray, List.getElem_cons_zero, List.getElem_cons_succ]
        refine wpAnyL_take (i := 2) (v := ?v2_10) rfl (by kernel_rfl) (by kernel_rfl) (by kernel_rfl) (fun _ _ _ h => h) (Or.inl ⟨by rfl, ?hy2_10⟩) (by assumption) ?rest2_10
        case hy2_10 => (intro w9 hSw; clear hSw; go_simp; try with_reducible rfl)
        try simp only [Act.put, List.setIfInBounds_toArray, List.set_cons_zero, List.set_cons_succ, List.getElem_toArray, List.getElem_cons_zero, List.getElem_cons_succ]
        refine wpAnyL_take (i := 3) (v := ?v3_11) rfl (by kernel_rfl) (by kernel_rfl) (by kernel_rfl) (fun _ _ _ h => h) (Or.inl ⟨by rfl, ?hy3_11⟩) (by assumption) ?rest3_11
        case hy3_11 => (intro w9 hSw; clear hSw; go_simp; try with_reducible rfl)
        try simp only [Act.put, List.setIfInBounds_toArray, List.set_cons_zero, List.set_cons_succ, List.getElem_toArray, List.getElem_cons_zero, List.getElem_cons_succ]
        refine wpAnyL_take (i := 4) (v := ?v4_12) rfl (by kernel_rfl) (by kernel_rfl) (by kernel_rfl) (fun _ _ _ h => h) (Or.inl ⟨by rfl, ?hy4_12⟩) (by assumption) ?rest4_12
        case hy4_12 => (intro w9 hSw; clear hSw; go_simp; try with_reducible rfl)
        try simp only [Act.put, List.setIfInBounds_toArray, List.set_cons_zero, List.set_cons_succ, List.getElem_toArray, List.getElem_cons_zero, List.getElem_cons_succ]
        refine wpAnyL_take (i := 5) (v := ?v5_13) rfl (by kernel_rfl) (by kernel_rfl) (by kernel_rfl) (fun _ _ _ h => h) (Or.inl ⟨by rfl, ?hy5_13⟩) (by assumption) ?rest5_13
        case hy5_13 => (intro w9 hSw; clear hSw; go_simp; try with_reducible rfl)
        try simp only [Act.put, List.setIfInBounds_toArray, List.set_cons_zero, List.set_cons_succ, List.getElem_toArray, List.getElem_cons_zero, List.getElem_cons_succ]
        refine wpAnyL_take (i := 6) (v := ?v6_14) rfl (by kernel_rfl) (by kernel_rfl) (by kernel_rfl) (fun _ _ _ h => h) (Or.inl ⟨by rfl, ?hy6_14⟩) (by assumption) ?rest6_14
        case hy6_14 => (intro w9 hSw; clear hSw; go_simp; try with_reducible rfl)
        try simp only [Act.put, List.setIfInBounds_toArray, List.set_cons_zero, List.set_cons_succ, List.getElem_toArray, List.getElem_cons_zero, List.getElem_cons_succ]
        refine wpAnyL_take (i := 7) (v := ?v7_15) rfl (by kernel_rfl) (by kernel_rfl) (by kernel_rfl) (fun _ _ _ h => h) (Or.inl ⟨by rfl, ?hy7_15⟩) (by assumption) ?rest7_15
        case hy7_15 => (intro w9 hSw; clear hSw; go_simp; try with_reducible rfl)
        try simp only [Act.put, List.setIfInBounds_toArray, List.set_cons_zero, List.set_cons_succ, List.getElem_toArray, List.getElem_cons_zero, List.getElem_cons_succ]
        refine wpAnyL_take (i := 8) (v := ?v8_16) rfl (by kernel_rfl) (by kernel_rfl) (by kernel_rfl) (fun _ _ _ h => h) (Or.inl ⟨by rfl, ?hy8_16⟩) (by assumption) ?rest8_16
        case hy8_16 => (intro w9 hSw; obtain ⟨ma1, ma2, ma3⟩ := hSw; obtain ⟨y0, y1, y2, _, _, _⟩ := Mbx.cells ma1; go_simp; try with_reducible rfl)
        try simp only [Act.put, List.setIfInBounds_toArray, List.set_cons_zero, List.set_cons_succ, List.getElem_toArray, List.getElem_cons_zero, List.getElem_cons_succ]
        refine wpAnyL_ready (rs := [9]) (by kernel_rfl) (by simp) ?_
        refine AllReadyL.cons rfl (fun K hK => ?_) AllReadyL.nil
        go_simp
        have FQ : FL wd A2 N c2 (Qs (j + 1)) := by have h9 := hO.fl hwdQ.wd; rw [hwdQ.len, HN.out] at h9; exact h9
        have pl := rLeft_any (M := n) (q := n) (p := p) (f := p) FQ hv bt hm hn HN.out.symm hm0 (by have := HP.out; omega) (by have := HP.out; omega) (fun a e9 => by obtain ⟨x, e2, hx, _⟩ := hv.at_ hm0; rw [e2] at e9; injection e9 with e9; rw [← e9]; exact hx) (fun _ a e9 => (hO.gt e9).2)
        have PL := Lib.hid pl
        clear pl
        with_reducible refine (PL.out).mono ?_
        rintro e w1 ⟨A3, c3, L3, rfl, hO3, hI3, hb⟩
        replace hO := hO.on_ hb
        replace DZ := DZ.on hb
        replace DQ := DQ.on hb
        replace hv := hv.on hb
        replace bz := bz.trans (hb.mono bz.size)
        replace hc0 := cell_on hc0 hb
        replace hc1 := cell_on hc1 hb
        have hszd := hb.size
        have hA3 : ∀ a, A3 = some a → a.block ≠ gq ∧ w.heap.size < a.block := fun a e9 => by have := (hO3.gt e9).1; omega
        clear hb FQ PL
        clear hS; refine hK.out _ _ ⟨DQ, hc0, hc1⟩ (fun hS => ?_); clear hK K
        try simp only [Act.put, List.setIfInBounds_toArray, List.set_cons_zero, List.set_cons_succ, List.getElem_toArray, List.getElem_cons_zero, List.getElem_cons_succ]
        obtain ⟨q0, q1, q2, q3, q4, q5⟩ := Mbx.cells DQ
        refine wpAnyL_ready (rs := [10]) (by kernel_rfl) (by simp) ?_
        refine AllReadyL.lat (by rfl) rfl (fun K hK => ?_) AllReadyL.nil
        go_simp
        clear q0 q1 q2 q3 q4 q5
        have hgs : w1.grownBy (((w1.setCell ⟨gq, 0, none⟩ (.int .i64 n)).setCell ⟨gq, 1, none⟩ (.int .i64 n)).setCell ⟨gq, 2, none⟩ (.slice A3 N c3)) (some gq) := grown_setCell (grown_setCell (grown_setCell (World.grownBy.refl w1 _) 0 _) 1 _) 2 _
        replace DZ := DZ.grown hgs (by simp; omega)
        replace DQ := Mbx.put DQ n n A3 N c3
        have hO4 := (hO3.less (B' := w.heap.size) (by omega)).grown_ hgs (fun a e9 => by have := hA3 a e9; simp; omega)
        replace bz := bz.grown hgs bz.size (fun b e9 => by injection e9 with e9; omega)
        clear hgs hO hv hc0 hc1 hO3
        refine hK.out _ _ trivial (fun _ => ?_)
        clear hK K
        try simp only [Act.put, List.setIfInBounds_toArray, List.set_cons_zero, List.set_cons_succ, List.getElem_toArray, List.getElem_cons_zero, List.getElem_cons_succ]
        refine wpAnyL_done (by kernel_rfl) ?_ _
        have hI4 : Is L3 (n * n) (qF (Qs (j + 1)) n j e) := by
          have e1 := HP.out
          rw [HN.out]
          unfold qF
          rw [show n - 1 - j = mm by omega, e1]
          have h9 := hI3
          rw [← e1] at h9 ⊢
          exact h9
        have hT2 := Tq.next hT hjK HE.out hI4
        have HT2 := Lib.hid hT2
        clear hT2 hT
        go_wp2_with fail
        go_roundw
        case rel => exact ⟨j, _, A3, c3, (j : Int) - 1, by omega, by go_num, by omega, HT2.out, (by show OwnF _ _ _ _ (if j = j then L3 else Qs j); rw [if_pos rfl]; exact hO4), hA3, DZ, DQ, bz⟩
        case measure => simp [intOf] <;> omega
end Go.Proofs.Ytbaeabmmokgomaa
