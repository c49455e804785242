/-
  Layer 10, walks: what reflections come to, by the reference. (Written by wip/tools/gen_tdq.py.)
-/
import Derived.Test.YtaemkjcmjgefeaaTdC
import Derived.Test.YtaemkjcmjgefeaaQVxS
namespace Go.Proofs.Ytaemkjcmjgefeaa
open Go.RowKit Go.Bw
set_option linter.unusedVariables false
set_option linter.unusedSimpArgs false
attribute [local go_sem] run_store_float

/-- the reflection at j, done from the left -/
def qF (L : List Int) (n j : Nat) (e : Re) : Nat → Option Nat := tg (lP (eqA (af e.t) (some 0)) (j + 1) (n - 1 - j) (j + 1) (n - (j + 1))) (lF L e.l n (j + 1) (n - 1 - j) (af e.t)) L n
theorem qF_same {L L2 : List Int} (h : SameF L L2) (n j : Nat) (e : Re) (i : Nat) : qF L n j e i = qF L2 n j e i := by
  have q : ma L n = ma L2 n := funext fun a => funext fun b => h.at_ _
  unfold qF tg lF
  rw [h.at_ i, q]
/-- what the reflections from k on come to -/
structure Tq (n K k : Nat) (hs : List Re) (Qs : Nat → List Int) : Prop where
  top : Is (Qs K) (n * n) (oneF n n)
  step : ∀ (j : Nat) (e : Re), k ≤ j → hs[j]? = some e → Is (Qs j) (n * n) (qF (Qs (j + 1)) n j e)
theorem Tq.start {n K : Nat} {hs : List Re} {L : List Int} (h : Is L (n * n) (oneF n n)) (hl : hs.length = K) : Tq n K K hs (fun _ => L) :=
  ⟨h, fun j e hj he => by rw [List.getElem?_eq_none (by omega)] at he; cases he⟩
theorem Tq.next {n K j : Nat} {hs : List Re} {Qs : Nat → List Int} {L : List Int} {e : Re} (h : Tq n K (j + 1) hs Qs) (hj : j < K) (he : hs[j]? = some e) (hL : Is L (n * n) (qF (Qs (j + 1)) n j e)) : Tq n K j hs (fun i => if i = j then L else Qs i) := by
  refine ⟨?_, fun i d hi hd => ?_⟩
  · show Is (if K = j then L else Qs K) _ _
    rw [if_neg (by omega)]
    exact h.top
  · show Is (if i = j then L else Qs i) _ (qF (if i + 1 = j then L else Qs (i + 1)) n i d)
    rw [if_neg (show ¬ i + 1 = j by omega)]
    by_cases c : i = j
    · subst c
      rw [if_pos rfl]
      obtain rfl : e = d := Option.some.inj (he.symm.trans hd)
      exact hL
    · rw [if_neg c]
      exact h.step i d (by omega) hd
theorem Tq.same {n K : Nat} {hs : List Re} {Qs Ps : Nat → List Int} (h : Tq n K 0 hs Qs) (k : Tq n K 0 hs Ps) (hl : hs.length = K) : SameF (Qs 0) (Ps 0) := by
  have S : ∀ d, d ≤ K → SameF (Qs (K - d)) (Ps (K - d)) := fun d => by
    induction d with
    | zero => exact fun _ => Is.same h.top k.top
    | succ d ih =>
      intro hd
      have hi := ih (by omega)
      have e : K - d = K - (d + 1) + 1 := by omega
      rw [e] at hi
      have he : hs[K - (d + 1)]? = some hs[K - (d + 1)] := List.getElem?_eq_getElem (by omega)
      exact Is.same (h.step _ _ (Nat.zero_le _) he) ((k.step _ _ (Nat.zero_le _) he).congr (fun i _ => (qF_same hi ..).symm))
  have := S K (Nat.le_refl _)
  rwa [Nat.sub_self] at this
theorem tq_is {n K k : Nat} {hs : List Re} {Qs : Nat → List Int} (h : Tq n K k hs Qs) (hk : k ≤ K) (hl : hs.length = K) : Is (Qs k) (n * n) (fun i => fa (D (Qs k) i)) := by
  rcases Nat.lt_or_ge k K with c | c
  · have := h.step k hs[k] (Nat.le_refl _) (List.getElem?_eq_getElem (by omega))
    exact ⟨this.len, this.wd, fun _ _ => rfl⟩
  · obtain rfl : k = K := by omega
    exact ⟨h.top.len, h.top.wd, fun _ _ => rfl⟩
theorem cell_on {w w' : World} {p : Addr} {v : Value} (h : w.cell? p = some v) (hb : Below w.heap.size w w') : w'.cell? p = some v := (hb.cell (World.block_lt_of_cell? _ _ h)).trans h
def TqP (w : World) (n K : Nat) (hs : List Re) (e : Ending) (w' : World) : Prop := ∃ A2 c2 L Qs, e = .returned (mV n n A2 (n * n) c2) ∧ OwnF w' w.heap.size A2 c2 L ∧ Tq n K 0 hs Qs ∧ Qs 0 = L ∧ Below w.heap.size w w'

set_option maxRecDepth 100000 in
set_option maxHeartbeats 16000000 in
theorem rQ_any {LA : Option Addr} {n K kc : Nat} {hs : List Re} {w : World} (hL : Rl w LA K kc hs) (hn : n ≤ 512) (hK : K = n - 2) (hlen : ∀ (j : Nat) (e : Re), hs[j]? = some e → e.l.length = n - 1 - j) :
    Calls Try.prog 16 #[.int .i64 n, .slice LA K kc] w (TqP w n K hs) := by
  have hKm := hL.2.1
  have hlK := hL.1
  have HLN := Lib.hid hlen
  have HL := Lib.hid hL
  have HK := Lib.hid hK
  obtain ⟨N, hN⟩ : ∃ N, n * n = N := ⟨_, rfl⟩
  have n4 : N ≤ 262144 := by rw [← hN]; exact Nat.le_trans (Nat.mul_le_mul hn hn) (by decide)
  have HN := Lib.hid hN
  have DZ := Blk.new w [.int .i64 0, .int .i64 0, .slice none 0 0] 24
  have bz := (Below.refl _ w).alloc (Nat.le_refl _) (.cells #[.int .i64 0, .int .i64 0, .slice none 0 0] 24)
  have hs1 := World.size_alloc w (.cells #[.int .i64 0, .int .i64 0, .slice none 0 0] 24)
  have pO := rOne_any n hn (w.alloc (.cells #[.int .i64 0, .int .i64 0, .slice none 0 0] 24))
  rw [hN] at pO
  have PO := Lib.hid pO
  clear hlen hL hN pO hK
  go_enter Try.func16, Try.ntmps16
  go_wp2_with fail
  with_reducible refine PO.out.mono ?_
  rintro e w1 ⟨A2, c2, L, rfl, hO, hI, hb⟩
  rw [hs1] at hO
  replace DZ := DZ.on hb
  replace bz := bz.trans (hb.mono bz.size)
  have hsb := hb.size
  rw [hs1] at hsb
  clear hb PO hs1
  obtain ⟨gq, hgq⟩ : ∃ g, w1.heap.size = g := ⟨_, rfl⟩
  have hAq : ∀ a, A2 = some a → a.block ≠ gq ∧ w.heap.size < a.block := fun a e => by have := hO.gt e; omega
  have DQ := Blk.new w1 [.int .i64 n, .int .i64 n, .slice A2 N c2] 24
  rw [hgq] at DQ
  replace DZ := DZ.alloc (.cells #[.int .i64 n, .int .i64 n, .slice A2 N c2] 24)
  replace hO := (hO.alloc_ (.cells #[.int .i64 n, .int .i64 n, .slice A2 N c2] 24)).less (B' := w.heap.size) (by omega)
  replace bz := bz.alloc bz.size (.cells #[.int .i64 n, .int .i64 n, .slice A2 N c2] 24)
  go_wp2_with fail
  generalize w1.alloc (.cells #[.int .i64 n, .int .i64 n, .slice A2 N c2] 24) = w2 at DZ hO DQ bz ⊢
  rw [← HN.out] at hI
  have hT := Tq.start hI hlK
  have hK1 : ((K : Int) - 1) = ((K : Int) - 1) := rfl
  go_loopw [6] (fun i wr => ∃ (k : Nat) (Qs : Nat → List Int) (A2 : Option Addr) (c2 : Nat), k ≤ K ∧ i = .int .i64 ((k : Int) - 1) ∧ Tq n K k hs Qs ∧ OwnF wr w.heap.size A2 c2 (Qs k) ∧ (∀ a, A2 = some a → a.block ≠ gq ∧ w.heap.size < a.block) ∧ Mbx wr w.heap.size 0 0 none 0 0 ∧ Mbx wr gq n n A2 N c2 ∧ Below w.heap.size w wr) (fun i _ => (intOf i + 1).toNat)
  case atStart => exact ⟨K, _, A2, c2, Nat.le_refl _, by go_num, hT, hO, hAq, DZ, DQ, bz⟩
  case round =>
    clear hT hO hAq DZ DQ bz hI hK1
    obtain ⟨k, Qs, A2, c2, hk, rfl, hT, hO, hAq, DZ, DQ, bz⟩ := hrel
    rcases Nat.eq_zero_or_pos k with k0 | k0
    · subst k0
      obtain ⟨q0, q1, q2, q3, q4, q5⟩ := Mbx.cells DQ
      obtain ⟨z0, z1, z2, z3, z4, z5⟩ := Mbx.cells DZ
      go_wp2_with fail
      obtain ⟨x0, x1, x2, _, _, _⟩ := Mbx.cells (Mbx.put DZ n n A2 N c2)
      refine bodyPost_ret (v := mV n n A2 N c2) (by simp [results, Try.results16, go_sem, x0, x1, x2]) rfl ?_
      have hgs : wr.grownBy (((wr.setCell ⟨w.heap.size, 0, none⟩ (.int .i64 n)).setCell ⟨w.heap.size, 1, none⟩ (.int .i64 n)).setCell ⟨w.heap.size, 2, none⟩ (.slice A2 N c2)) (some w.heap.size) := grown_setCell (grown_setCell (grown_setCell (World.grownBy.refl wr _) 0 _) 1 _) 2 _
      exact ⟨A2, c2, Qs 0, Qs, by rw [HN.out], hO.grown_ hgs (fun a e9 => by have := hAq a e9; simp; omega), hT, rfl, bz.grown hgs bz.size (fun b e => by injection e with e; omega)⟩
    · obtain ⟨j, rfl⟩ : ∃ j, k = j + 1 := ⟨k - 1, by omega⟩
      have e0 : ((j + 1 : Nat) : Int) - 1 = (j : Int) := by omega
      rw [e0]
      obtain ⟨e, ad, ea, he, rfl, hE, hl, hc0, hc1, hv, bt⟩ := (HL.out.on bz).at_ (k := j) (by omega)
      have hm := HLN.out j e he
      obtain ⟨m, hm2⟩ : ∃ m, e.l.length = m := ⟨_, rfl⟩
      rw [hm2] at hc0 hv
      have hmn : m = n - 1 - j := by rw [← hm2]; exact hm
      have HE := Lib.hid he
      have hjK : j < K := by omega
      clear hm hm2 he
      obtain ⟨p, hp⟩ : ∃ p, j + 1 = p := ⟨_, rfl⟩
      have ep : (j : Int) + 1 = (p : Int) := by omega
      have wp : IntKind.i64.wrap (p : Int) = (p : Int) := IntWalk.i64_in _ (by omega)
      have HP := Lib.hid hp
      have j0 : (0 : Int) ≤ j := by omega
      have j1 : (j : Int) < K := by omega
      have hwdQ : Is (Qs p) (n * n) (fun i => fa (D (Qs p) i)) := by rw [← hp]; exact tq_is hT hk hlK
      rw [hp] at hO hT
      have hpn : p + m = n := by have := HK.out; omega
      have hm0 : 0 < m := by have := HK.out; omega
      clear hp hmn
      go_wp2_with fail
      replace hO := hO.drew
      replace DZ := DZ.drew
      replace DQ := DQ.drew
      replace bz := bz.drew
      replace hc0 : wr.drew.cell? ea = some (.slice e.A m e.c) := hc0
      replace hc1 : wr.drew.cell? ⟨ea.block, ea.off + 1, none⟩ = some (.float .f64 e.t) := hc1
      replace hv : FL wr.drew e.A m e.c e.l := hv
      have hgd := DQ.lt
      have hgz : w.heap.size < gq := by omega
      refine wp_region_late [10] (S := fun w9 : World => Mbx w9 gq n n A2 N c2 ∧ w9.cell? ea = some (.slice e.A m e.c) ∧ w9.cell? ⟨ea.block, ea.off + 1, none⟩ = some (.float .f64 e.t)) (by kernel_rfl) ⟨DQ, hc0, hc1⟩ (fun hS => ?_)
      generalize wr.drew = wd at hS hO DZ DQ hv hc0 hc1 hgd bz ⊢
      refine wpAnyL_take (i := 0) (v := ?v0_1) rfl (by kernel_rfl) (by kernel_rfl) (by kernel_rfl) (fun _ _ _ h => h) (Or.inl ⟨by rfl, ?hy0_1⟩) (by assumption) ?rest0_1
      case hy0_1 => (intro w9 hSw; obtain ⟨ma1, ma2, ma3⟩ := hSw; obtain ⟨y0, y1, y2, _, _, _⟩ := Mbx.cells ma1; go_simp; try with_reducible rfl)
      try simp only [Act.put, List.setIfInBounds_toArray, List.set_cons_zero, List.set_cons_succ, List.getElem_toArray, List.getElem_cons_zero, List.getElem_cons_succ]
      refine wpAnyL_take (i := 1) (v := ?v1_2) rfl (by kernel_rfl) (by kernel_rfl) (by kernel_rfl) (fun _ _ _ h => h) (Or.inl ⟨by rfl, ?hy1_2⟩) (by assumption) ?rest1_2
      case hy1_2 => (intro w9 hSw; clear hSw; go_simp; try with_reducible rfl)
      try simp only [Act.put, List.setIfInBounds_toArray, List.set_cons_zero, List.set_cons_succ, List.getElem_toArray, List.getElem_cons_zero, List.getElem_cons_succ]
      refine wpAnyL_take (i := 2) (v := ?v2_3) rfl (by kernel_rfl) (by kernel_rfl) (by kernel_rfl) (fun _ _ _ h => h) (Or.inl ⟨by rfl, ?hy2_3⟩) (by assumption) ?rest2_3
      case hy2_3 => (intro w9 hSw; clear hSw; go_simp; try with_reducible rfl)
      try simp only [Act.put, List.setIfInBounds_toArray, List.set_cons_zero, List.set_cons_succ, List.getElem_toArray, List.getElem_cons_zero, List.getElem_cons_succ]
      refine wpAnyL_take (i := 3) (v := ?v3_4) rfl (by kernel_rfl) (by kernel_rfl) (by kernel_rfl) (fun _ _ _ h => h) (Or.inl ⟨by rfl, ?hy3_4⟩) (by assumption) ?rest3_4
      case hy3_4 => (intro w9 hSw; clear hSw; go_simp; try with_reducible rfl)
      try simp only [Act.put, List.setIfInBounds_toArray, List.set_cons_zero, List.set_cons_succ, List.getElem_toArray, List.getElem_cons_zero, List.getElem_cons_succ]
      refine wpAnyL_take (i := 4) (v := ?v4_5) rfl (by kernel_rfl) (by kernel_rfl) (by kernel_rfl) (fun _ _ _ h => h) (Or.inl ⟨by rfl, ?hy4_5⟩) (by assumption) ?rest4_5
      case hy4_5 => (intro w9 hSw; clear hSw; go_simp; try with_reducible rfl)
      try simp only [Act.put, List.setIfInBounds_toArray, List.set_cons_zero, List.set_cons_succ, List.getElem_toArray, List.getElem_cons_zero, List.getElem_cons_succ]
      refine wpAnyL_take (i := 5) (v := ?v5_6) rfl (by kernel_rfl) (by kernel_rfl) (by kernel_rfl) (fun _ _ _ h => h) (Or.inl ⟨by rfl, ?hy5_6⟩) (by assumption) ?rest5_6
      case hy5_6 => (intro w9 hSw; clear hSw; go_simp; try with_reducible rfl)
      try simp only [Act.put, List.setIfInBounds_toArray, List.set_cons_zero, List.set_cons_succ, List.getElem_toArray, List.getElem_cons_zero, List.getElem_cons_succ]
      refine wpAnyL_take (i := 6) (v := ?v6_7) rfl (by kernel_rfl) (by kernel_rfl) (by kernel_rfl) (fun _ _ _ h => h) (Or.inl ⟨by rfl, ?hy6_7⟩) (by assumption) ?rest6_7
      case hy6_7 => (intro w9 hSw; clear hSw; go_simp; try with_reducible rfl)
      try simp only [Act.put, List.setIfInBounds_toArray, List.set_cons_zero, List.set_cons_succ, List.getElem_toArray, List.getElem_cons_zero, List.getElem_cons_succ]
      refine wpAnyL_take (i := 7) (v := ?v7_8) rfl (by kernel_rfl) (by kernel_rfl) (by kernel_rfl) (fun _ _ _ h => h) (Or.inl ⟨by rfl, ?hy7_8⟩) (by assumption) ?rest7_8
      case hy7_8 => (intro w9 hSw; clear hSw; go_simp; try with_reducible rfl)
      try simp only [Act.put, List.setIfInBounds_toArray, List.set_cons_zero, List.set_cons_succ, List.getElem_toArray, List.getElem_cons_zero, List.getElem_cons_succ]
      refine wpAnyL_take (i := 8) (v := ?v8_9) rfl (by kernel_rfl) (by kernel_rfl) (by kernel_rfl) (fun _ _ _ h => h) (Or.inl ⟨by rfl, ?hy8_9⟩) (by assumption) ?rest8_9
      case hy8_9 => (intro w9 hSw; obtain ⟨ma1, ma2, ma3⟩ := hSw; obtain ⟨y0, y1, y2, _, _, _⟩ := Mbx.cells ma1; go_simp; try with_reducible rfl)
      try simp only [Act.put, List.setIfInBounds_toArray, List.set_cons_zero, List.set_cons_succ, List.getElem_toArray, List.getElem_cons_zero, List.getElem_cons_succ]
      refine wpAnyL_ready (rs := [9]) (by kernel_rfl) (by simp) ?_
      refine AllReadyL.cons rfl (fun K hK => ?_) AllReadyL.nil
      go_simp
      have FQ : FL wd A2 N c2 (Qs p) := by have h9 := hO.fl hwdQ.wd; rw [hwdQ.len, HN.out] at h9; exact h9
      have pl := rLeft_any (M := n) (q := n) (p := p) (f := p) FQ hv bt hn hn HN.out.symm hm0 (by omega) (by omega) (fun a e9 => by obtain ⟨x, e2, hx, _⟩ := hv.at_ hm0; rw [e2] at e9; injection e9 with e9; rw [← e9]; exact hx) (fun _ a e9 => (hO.gt e9).2)
      have PL := Lib.hid pl
      clear pl
      with_reducible refine (PL.out).mono ?_
      rintro e w1 ⟨A3, c3, L3, rfl, hO3, hI3, hb⟩
      replace hO := hO.on_ hb
      replace DZ := DZ.on hb
      replace DQ := DQ.on hb
      replace hv := hv.on hb
      replace bz := bz.trans (hb.mono bz.size)
      replace hc0 := cell_on hc0 hb
      replace hc1 := cell_on hc1 hb
      have hszd := hb.size
      have hA3 : ∀ a, A3 = some a → a.block ≠ gq ∧ w.heap.size < a.block := fun a e9 => by have := (hO3.gt e9).1; omega
      clear hb FQ PL
      clear hS; refine hK.out _ _ ⟨DQ, hc0, hc1⟩ (fun hS => ?_); clear hK K
      try simp only [Act.put, List.setIfInBounds_toArray, List.set_cons_zero, List.set_cons_succ, List.getElem_toArray, List.getElem_cons_zero, List.getElem_cons_succ]
      obtain ⟨q0, q1, q2, q3, q4, q5⟩ := Mbx.cells DQ
      refine wpAnyL_ready (rs := [10]) (by kernel_rfl) (by simp) ?_
      refine AllReadyL.lat (by rfl) rfl (fun K hK => ?_) AllReadyL.nil
      go_simp
      clear q0 q1 q2 q3 q4 q5
      have hgs : w1.grownBy (((w1.setCell ⟨gq, 0, none⟩ (.int .i64 n)).setCell ⟨gq, 1, none⟩ (.int .i64 n)).setCell ⟨gq, 2, none⟩ (.slice A3 N c3)) (some gq) := grown_setCell (grown_setCell (grown_setCell (World.grownBy.refl w1 _) 0 _) 1 _) 2 _
      replace DZ := DZ.grown hgs (by simp; omega)
      replace DQ := Mbx.put DQ n n A3 N c3
      have hO4 := (hO3.less (B' := w.heap.size) (by omega)).grown_ hgs (fun a e9 => by have := hA3 a e9; simp; omega)
      replace bz := bz.grown hgs bz.size (fun b e9 => by injection e9 with e9; omega)
      clear hgs hO hv hc0 hc1 hO3
      refine hK.out _ _ trivial (fun _ => ?_)
      clear hK K
      try simp only [Act.put, List.setIfInBounds_toArray, List.set_cons_zero, List.set_cons_succ, List.getElem_toArray, List.getElem_cons_zero, List.getElem_cons_succ]
      refine wpAnyL_done (by kernel_rfl) ?_ _
      have hI4 : Is L3 (n * n) (qF (Qs (j + 1)) n j e) := by
        have e1 := HP.out
        rw [HN.out]
        unfold qF
        rw [e1, show n - 1 - j = m by omega]
        exact hI3
      have hT2 := Tq.next (by rw [HP.out]; exact hT) hjK HE.out hI4
      go_wp2_with fail
      go_roundw
      case rel => exact ⟨j, _, A3, c3, by omega, by go_num, hT2, (by show OwnF _ _ _ _ (if j = j then L3 else Qs j); rw [if_pos rfl]; exact hO4), hA3, DZ, DQ, bz⟩
      case measure => simp [intOf] <;> omega
end Go.Proofs.Ytaemkjcmjgefeaa
