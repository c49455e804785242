/-
  Layer 10, walks: what reflections come to, by the program. (Written by wip/tools/gen_tdv.py.)
-/
import Derived.Test.YtaemkjcmjgefeaaTdU
import Derived.Test.YtaemkjcmjgefeaaTdE
import Derived.Test.YtaemkjcmjgefeaaQRfJ
namespace Go.Proofs.Ytaemkjcmjgefeaa
open Go.RowKit Go.Bw
set_option linter.unusedVariables false
set_option linter.unusedSimpArgs false
attribute [local go_sem] run_store_float
/-- no matrix, and a code -/
def QnP (w : World) (E : Int) (e : Ending) (w' : World) : Prop := e = .returned (.tuple #[mV 0 0 none 0 0, .int .i64 E]) ∧ Below w.heap.size w w'
def GqP (w : World) (n K : Nat) (hs : List Re) (e : Ending) (w' : World) : Prop := ∃ A2 c2 L Qs, e = .returned (.tuple #[mV n n A2 (n * n) c2, .int .i64 0]) ∧ OwnF w' w.heap.size A2 c2 L ∧ Tq n K 0 hs Qs ∧ Qs 0 = L ∧ Below w.heap.size w w'
set_option maxRecDepth 100000 in
set_option maxHeartbeats 4000000 in
theorem gQ_size {A : Option Addr} {K c : Nat} {n : Int} {w : World} (hn : ¬ (0 ≤ n ∧ n ≤ 512)) : Calls Try.prog 15 #[.int .i64 n, .slice A K c] w (QnP w 2) := by
  have ps := tsized_any n
  rw [decide_eq_false hn] at ps
  have bz := (Below.refl _ w).alloc (Nat.le_refl _) (.cells #[.int .i64 0, .int .i64 0, .slice none 0 0] 24)
  go_enter Try.func15, Try.ntmps15
  go_wp2_with fail
  with_reducible refine (ps _).mono ?_
  rintro e w1 ⟨rfl, rfl⟩
  go_wp2_with fail
  refine bodyPost_ret (v := .tuple #[mV 0 0 none 0 0, .int .i64 2]) (by simp [results, Try.results15, go_sem]) rfl ?_
  exact ⟨rfl, bz⟩
set_option maxRecDepth 100000 in
set_option maxHeartbeats 4000000 in
theorem gQ_no {A : Option Addr} {K c n : Nat} {hs : List Re} {w : World} (h : Rl w A K c hs) (hn : n ≤ 512) (hr : ¬ (K = n - 2 ∧ ∀ (k : Nat) (r : Re), hs[k]? = some r → r.l.length = n - 1 - k)) : Calls Try.prog 15 #[.int .i64 n, .slice A K c] w (QnP w 2) := by
  have ps := tsized_any (n : Int)
  rw [decide_eq_true (by omega : 0 ≤ (n : Int) ∧ (n : Int) ≤ 512)] at ps
  have bz := (Below.refl _ w).alloc (Nat.le_refl _) (.cells #[.int .i64 0, .int .i64 0, .slice none 0 0] 24)
  have DZ := Blk.new w [.int .i64 0, .int .i64 0, .slice none 0 0] 24
  have pr := treduces_any (b := false) (h.on bz) hn ⟨fun h9 => (by cases h9), fun h9 => absurd h9 hr⟩
  clear hr
  go_enter Try.func15, Try.ntmps15
  go_wp2_with fail
  with_reducible refine (ps _).mono ?_
  rintro e w1 ⟨rfl, rfl⟩
  go_wp2_with fail
  with_reducible refine pr.mono ?_
  rintro e w1 ⟨rfl, hb⟩
  replace DZ := DZ.on hb
  replace bz := bz.trans (hb.mono bz.size)
  obtain ⟨z0, z1, z2, z3, z4, z5⟩ := Mbx.cells DZ
  clear hb pr ps
  go_wp2_with fail
  obtain ⟨x0, x1, x2, _, _, _⟩ := Mbx.cells (Mbx.put DZ 0 0 none 0 0)
  refine bodyPost_ret (v := .tuple #[mV 0 0 none 0 0, .int .i64 2]) (by simp [results, Try.results15, go_sem, x0, x1, x2]) rfl ?_
  exact ⟨rfl, ((bz.setCell (p := ⟨w.heap.size, 0, none⟩) (by simp) (.int .i64 0)).setCell (p := ⟨w.heap.size, 1, none⟩) (by simp) (.int .i64 0)).setCell (p := ⟨w.heap.size, 2, none⟩) (by simp) (.slice none 0 0)⟩
set_option maxRecDepth 100000 in
set_option maxHeartbeats 16000000 in
theorem gQ_yes {LA : Option Addr} {n K kc : Nat} {hs : List Re} {w : World} (hL : Rl w LA K kc hs) (hn : n ≤ 512) (hK : K = n - 2) (hlen : ∀ (j : Nat) (e : Re), hs[j]? = some e → e.l.length = n - 1 - j) :
    Calls Try.prog 15 #[.int .i64 n, .slice LA K kc] w (GqP w n K hs) := by
  have hKm := hL.2.1
  have hlK := Lib.hid hL.1
  have HLN := Lib.hid hlen
  have HL := Lib.hid hL
  have HK := Lib.hid hK
  obtain ⟨N, hN⟩ : ∃ N, n * n = N := ⟨_, rfl⟩
  have n4 : N ≤ 262144 := by rw [← hN]; exact Nat.le_trans (Nat.mul_le_mul hn hn) (by decide)
  have HN := Lib.hid hN
  have ps := tsized_any (n : Int)
  rw [decide_eq_true (by omega : 0 ≤ (n : Int) ∧ (n : Int) ≤ 512)] at ps
  have DZ := Blk.new w [.int .i64 0, .int .i64 0, .slice none 0 0] 24
  have bz := (Below.refl _ w).alloc (Nat.le_refl _) (.cells #[.int .i64 0, .int .i64 0, .slice none 0 0] 24)
  have pr := treduces_any (b := true) (hL.on bz) hn ⟨fun _ => ⟨hK, hlen⟩, fun _ => rfl⟩
  have pO := fun W => tunit_any n hn W
  rw [hN] at pO
  clear hlen hL hN hK
  go_enter Try.func15, Try.ntmps15
  go_wp2_with fail
  with_reducible refine (ps _).mono ?_
  rintro e w1 ⟨rfl, rfl⟩
  go_wp2_with fail
  with_reducible refine pr.mono ?_
  rintro e w1 ⟨rfl, hb⟩
  replace DZ := DZ.on hb
  replace bz := bz.trans (hb.mono bz.size)
  have hz1 := Blk.lt DZ
  clear hb pr ps
  go_wp2_with fail
  with_reducible refine (pO _).mono ?_
  rintro e w2 ⟨A2, c2, L, rfl, hO, hI, hb⟩
  replace DZ := DZ.on hb
  replace bz := bz.trans (hb.mono bz.size)
  have hzz := Blk.lt DZ
  have hs2 := hb.size
  have hw1 : w.heap.size < w1.heap.size := hz1
  clear hb pO
  obtain ⟨gq, hgq⟩ : ∃ g, w2.heap.size = g := ⟨_, rfl⟩
  have hAq : ∀ a, A2 = some a → a.block ≠ gq ∧ w.heap.size < a.block := fun a e => by have := hO.gt e; omega
  have DQ := Blk.new w2 [.int .i64 n, .int .i64 n, .slice A2 N c2] 24
  rw [hgq] at DQ hzz
  replace DZ := DZ.alloc (.cells #[.int .i64 n, .int .i64 n, .slice A2 N c2] 24)
  replace hO := (hO.alloc_ (.cells #[.int .i64 n, .int .i64 n, .slice A2 N c2] 24)).less (B' := w.heap.size) (by omega)
  replace bz := bz.alloc bz.size (.cells #[.int .i64 n, .int .i64 n, .slice A2 N c2] 24)
  go_wp2_with fail
  try simp only [hgq] at ⊢
  clear hgq hs2 hw1
  generalize w2.alloc (.cells #[.int .i64 n, .int .i64 n, .slice A2 N c2] 24) = w3 at DZ hO DQ bz ⊢
  rw [← HN.out] at hI
  have hT := Tq.start hI hlK.out
  go_loopw [25, 7, 8, 9, 10] (fun i i2 i3 i4 i5 wr => ∃ (d : Nat) (Qs : Nat → List Int) (A2 : Option Addr) (c2 : Nat), d ≤ K ∧ i = .int .i64 d ∧ Tq n K (K - d) hs Qs ∧ OwnF wr w.heap.size A2 c2 (Qs (K - d)) ∧ (∀ a, A2 = some a → a.block ≠ gq ∧ w.heap.size < a.block) ∧ Mbx wr w.heap.size 0 0 none 0 0 ∧ Mbx wr gq n n A2 N c2 ∧ Below w.heap.size w wr) (fun i _ _ _ _ _ => K - (intOf i).toNat)
  case atStart => exact ⟨0, _, A2, c2, Nat.zero_le _, rfl, hT, hO, hAq, DZ, DQ, bz⟩
  case round =>
    clear hT hO hAq DZ DQ bz hI
    obtain ⟨d, Qs, A2, c2, hd, rfl, hT, hO, hAq, DZ, DQ, bz⟩ := hrel
    have d0 : (0 : Int) ≤ d := by omega
    by_cases hlt : d < K
    · as_aux_lemma =>
        have d1 : (d : Int) < K := by omega
        obtain ⟨j, hj⟩ : ∃ j, K - d = j + 1 := ⟨K - d - 1, by omega⟩
        rw [hj] at hT hO
        obtain ⟨K1, hK1⟩ : ∃ x, K - 1 = x := ⟨_, rfl⟩
        have eK1 : (K : Int) - 1 = (K1 : Int) := by omega
        have wK1 : IntKind.i64.wrap (K1 : Int) = (K1 : Int) := IntWalk.i64_in _ (by omega)
        have ej : (K1 : Int) - (d : Int) = (j : Int) := by omega
        have wj : IntKind.i64.wrap (j : Int) = (j : Int) := IntWalk.i64_in _ (by omega)
        have HJ := Lib.hid hj
        have j0 : (0 : Int) ≤ j := by omega
        have j1 : (j : Int) < K := by omega
        have hjK : j < K := by omega
        clear hj hK1
        obtain ⟨e, ad, ea, he, rfl, hE, hl, hc0, hc1, hv, bt⟩ := (HL.out.on bz).at_ (k := j) hjK
        have hm := HLN.out j e he
        obtain ⟨m, hm2⟩ : ∃ m, e.l.length = m := ⟨_, rfl⟩
        rw [hm2] at hc0 hv
        have hmn : m = n - 1 - j := by rw [← hm2]; exact hm
        have HE := Lib.hid he
        clear hm hm2 he
        obtain ⟨p, hp⟩ : ∃ p, j + 1 = p := ⟨_, rfl⟩
        have ep : (j : Int) + 1 = (p : Int) := by omega
        have wp : IntKind.i64.wrap (p : Int) = (p : Int) := IntWalk.i64_in _ (by omega)
        have HP := Lib.hid hp
        have hwdQ : Is (Qs p) (n * n) (fun i => fa (D (Qs p) i)) := by rw [← hp]; exact tq_is hT (by omega) hlK.out
        rw [hp] at hO hT
        have hpn : p + m = n := by have := HK.out; omega
        have hm0 : 0 < m := by have := HK.out; omega
        have hgz : w.heap.size < gq := by have := DQ.lt; omega
        clear hp hmn
        go_wp2_with fail
        replace hO := hO.drew
        replace DZ := DZ.drew
        replace DQ := DQ.drew
        replace bz := bz.drew
        replace hc0 : wr.drew.cell? ea = some (.slice e.A m e.c) := hc0
        replace hc1 : wr.drew.cell? ⟨ea.block, ea.off + 1, none⟩ = some (.float .f64 e.t) := hc1
        replace hv : FL wr.drew e.A m e.c e.l := hv
        have hev : ∀ a, e.A = some a → a.block < wr.heap.size := fun a e9 => by obtain ⟨x, e2, hx, _⟩ := hv.at_ hm0; rw [e2] at e9; injection e9 with e9; rw [← e9]; exact hx
        have hwrs : wr.heap.size ≤ wr.drew.heap.size := Nat.le_refl _
        have hvk : True := trivial
        refine wp_region_held_drew (S := fun w9 : World => Mbx w9 gq n n A2 N c2 ∧ w9.cell? ea = some (.slice e.A m e.c) ∧ w9.cell? ⟨ea.block, ea.off + 1, none⟩ = some (.float .f64 e.t)) (by kernel_rfl) ⟨DQ, hc0, hc1⟩ (fun hS => ?_)
        generalize wr.drew = wd at hS hO DZ DQ hv hc0 hc1 hwrs bz ⊢
        refine wpAnyH_take (i := 0) (v := ?v0_10) rfl (by kernel_rfl) (by kernel_rfl) (by kernel_rfl) (fun _ _ _ h => h) (Or.inl ⟨by rfl, ?hy0_10⟩) (by assumption) ?rest0_10
        case hy0_10 => (intro w9 hSw; obtain ⟨ma1, ma2, ma3⟩ := hSw; obtain ⟨y0, y1, y2, _, _, _⟩ := Mbx.cells ma1; go_simp; try with_reducible rfl)
        try simp only [Act.put, List.setIfInBounds_toArray, List.set_cons_zero, List.set_cons_succ, List.getElem_toArray, List.getElem_cons_zero, List.getElem_cons_succ]
        refine wpAnyH_take (i := 1) (v := ?v1_11) rfl (by kernel_rfl) (by kernel_rfl) (by kernel_rfl) (fun _ _ _ h => h) (Or.inl ⟨by rfl, ?hy1_11⟩) (by assumption) ?rest1_11
        case hy1_11 => (intro w9 hSw; clear hSw; go_simp; try with_reducible rfl)
        try simp only [Act.put, List.setIfInBounds_toArray, List.set_cons_zero, List.set_cons_succ, List.getElem_toArray, List.getElem_cons_zero, List.getElem_cons_succ]
        refine wpAnyH_take (i := 2) (v := ?v2_12) rfl (by kernel_rfl) (by kernel_rfl) (by kernel_rfl) (fun _ _ _ h => h) (Or.inl ⟨by rfl, ?hy2_12⟩) (by assumption) ?rest2_12
        case hy2_12 => (intro w9 hSw; clear hSw; go_simp; try with_reducible rfl)
        try simp only [Act.put, List.setIfInBounds_toArray, List.set_cons_zero, List.set_cons_succ, List.getElem_toArray, List.getElem_cons_zero, List.getElem_cons_succ]
        refine wpAnyH_take (i := 3) (v := ?v3_13) rfl (by kernel_rfl) (by kernel_rfl) (by kernel_rfl) (fun _ _ _ h => h) (Or.inl ⟨by rfl, ?hy3_13⟩) (by assumption) ?rest3_13
        case hy3_13 => (intro w9 hSw; clear hSw; go_simp; try with_reducible rfl)
        try simp only [Act.put, List.setIfInBounds_toArray, List.set_cons_zero, List.set_cons_succ, List.getElem_toArray, List.getElem_cons_zero, List.getElem_cons_succ]
        refine wpAnyH_take (i := 4) (v := ?v4_14) rfl (by kernel_rfl) (by kernel_rfl) (by kernel_rfl) (fun _ _ _ h => h) (Or.inl ⟨by rfl, ?hy4_14⟩) (by assumption) ?rest4_14
        case hy4_14 => (intro w9 hSw; clear hSw; go_simp; try with_reducible rfl)
        try simp only [Act.put, List.setIfInBounds_toArray, List.set_cons_zero, List.set_cons_succ, List.getElem_toArray, List.getElem_cons_zero, List.getElem_cons_succ]
        refine wpAnyH_take (i := 5) (v := ?v5_15) rfl (by kernel_rfl) (by kernel_rfl) (by kernel_rfl) (fun _ _ _ h => h) (Or.inl ⟨by rfl, ?hy5_15⟩) (by assumption) ?rest5_15
        case hy5_15 => (intro w9 hSw; clear hSw; go_simp; try with_reducible rfl)
        try simp only [Act.put, List.setIfInBounds_toArray, List.set_cons_zero, List.set_cons_succ, List.getElem_toArray, List.getElem_cons_zero, List.getElem_cons_succ]
        refine wpAnyH_take (i := 6) (v := ?v6_16) rfl (by kernel_rfl) (by kernel_rfl) (by kernel_rfl) (fun _ _ _ h => h) (Or.inl ⟨by rfl, ?hy6_16⟩) (by assumption) ?rest6_16
        case hy6_16 => (intro w9 hSw; clear hSw; go_simp; try with_reducible rfl)
        try simp only [Act.put, List.setIfInBounds_toArray, List.set_cons_zero, List.set_cons_succ, List.getElem_toArray, List.getElem_cons_zero, List.getElem_cons_succ]
        refine wpAnyH_take (i := 7) (v := ?v7_17) rfl (by kernel_rfl) (by kernel_rfl) (by kernel_rfl) (fun _ _ _ h => h) (Or.inl ⟨by rfl, ?hy7_17⟩) (by assumption) ?rest7_17
        case hy7_17 => (intro w9 hSw; clear hSw; go_simp; try with_reducible rfl)
        try simp only [Act.put, List.setIfInBounds_toArray, List.set_cons_zero, List.set_cons_succ, List.getElem_toArray, List.getElem_cons_zero, List.getElem_cons_succ]
        refine wpAnyH_take (i := 8) (v := ?v8_18) rfl (by kernel_rfl) (by kernel_rfl) (by kernel_rfl) (fun _ _ _ h => h) (Or.inl ⟨by rfl, ?hy8_18⟩) (by assumption) ?rest8_18
        case hy8_18 => (intro w9 hSw; obtain ⟨ma1, ma2, ma3⟩ := hSw; obtain ⟨y0, y1, y2, _, _, _⟩ := Mbx.cells ma1; go_simp; try with_reducible rfl)
        try simp only [Act.put, List.setIfInBounds_toArray, List.set_cons_zero, List.set_cons_succ, List.getElem_toArray, List.getElem_cons_zero, List.getElem_cons_succ]
        refine wpAnyH_ready (rs := [9, 13]) (by kernel_rfl) (by simp) ?_
        refine (AllReadyH.cons rfl (fun K hK => ?_) (AllReadyH.cons rfl (fun K hK => ?_) AllReadyH.nil))
        · go_simp
          have FQ : FL wd A2 N c2 (Qs p) := by have h9 := hO.fl hwdQ.wd; rw [hwdQ.len, HN.out] at h9; exact h9
          have pl := gLeft_yes (M := n) (q := n) (p := p) (f := p) FQ hv bt hn hn HN.out.symm hm0 (by omega) (by omega) (fun a e9 => by obtain ⟨x, e2, hx, _⟩ := hv.at_ hm0; rw [e2] at e9; injection e9 with e9; rw [← e9]; exact hx)
          have PL := Lib.hid pl
          have qz := Blk.lt DZ
          have qq := Blk.lt DQ
          clear pl
          with_reducible refine (PL.out).mono ?_
          rintro e w1 ⟨g3, c3, L3, rfl, hO3, hI3, hb⟩
          replace hO := hO.on_ hb
          replace DZ := DZ.on hb
          replace DQ := DQ.on hb
          replace hv := hv.on hb
          replace bz := bz.trans (hb.mono bz.size)
          replace hwrs := Nat.le_trans hwrs hb.size
          replace hc0 := cell_on hc0 hb
          replace hc1 := cell_on hc1 hb
          have hA3 := (hO3.gt rfl).1
          have hlt3 : w.heap.size < g3 ∧ gq < g3 := by refine ⟨?_, ?_⟩ <;> (simp at hA3; omega)
          clear hb FQ PL hO
          generalize w1 = Wq1 at DZ DQ hv hO3 hc0 hc1 hwrs  bz ⊢
          clear hS; refine hK.out _ _ ⟨DQ, hc0, hc1⟩ (fun hS => ?_); clear hK K
          try simp only [Act.put, List.setIfInBounds_toArray, List.set_cons_zero, List.set_cons_succ, List.getElem_toArray, List.getElem_cons_zero, List.getElem_cons_succ]
          refine wpAnyH_take (i := 10) (v := ?v10_19) rfl (by kernel_rfl) (by kernel_rfl) (by kernel_rfl) (fun _ _ _ h => h) (Or.inl ⟨by rfl, ?hy10_19⟩) (by assumption) ?rest10_19
          case hy10_19 => (intro w9 hSw; clear hSw; go_simp; try with_reducible rfl)
          try simp only [Act.put, List.setIfInBounds_toArray, List.set_cons_zero, List.set_cons_succ, List.getElem_toArray, List.getElem_cons_zero, List.getElem_cons_succ]
          refine wpAnyH_take (i := 11) (v := ?v11_20) rfl (by kernel_rfl) (by kernel_rfl) (by kernel_rfl) (fun _ _ _ h => h) (Or.inl ⟨by rfl, ?hy11_20⟩) (by assumption) ?rest11_20
          case hy11_20 => (intro w9 hSw; clear hSw; go_simp; try with_reducible rfl)
          try simp only [Act.put, List.setIfInBounds_toArray, List.set_cons_zero, List.set_cons_succ, List.getElem_toArray, List.getElem_cons_zero, List.getElem_cons_succ]
          refine wpAnyH_take (i := 12) (v := ?v12_21) rfl (by kernel_rfl) (by kernel_rfl) (by kernel_rfl) (fun _ _ _ h => h) (Or.inl ⟨by rfl, ?hy12_21⟩) (by assumption) ?rest12_21
          case hy12_21 => (intro w9 hSw; clear hSw; go_simp; try with_reducible rfl)
          try simp only [Act.put, List.setIfInBounds_toArray, List.set_cons_zero, List.set_cons_succ, List.getElem_toArray, List.getElem_cons_zero, List.getElem_cons_succ]
          refine wpAnyH_ready (rs := [13]) (by kernel_rfl) (by simp) ?_
          refine AllReadyH.cons rfl (fun K hK => ?_) AllReadyH.nil
          go_simp
          have qz_T := Blk.lt DZ
          have qq_T := Blk.lt DQ
          have qo_T := (hO3.gt rfl).2
          have qw_T := hwrs
          have DT := Blk.new Wq1 [.int .i64 0, .int .i64 0, .slice none 0 0] 24
          obtain ⟨HT, eT⟩ : ∃ H, Wq1.heap.size = H := ⟨_, rfl⟩
          rw [eT] at DT
          have hbA := (Below.refl _ Wq1).alloc (Nat.le_refl _) (.cells #[.int .i64 0, .int .i64 0, .slice none 0 0] 24)
          replace hc0 := cell_on hc0 hbA
          replace hc1 := cell_on hc1 hbA
          replace hwrs := Nat.le_trans hwrs hbA.size
          have hbA := (Below.refl _ Wq1).alloc (Nat.le_refl _) (.cells #[.int .i64 0, .int .i64 0, .slice none 0 0] 24)
          replace DZ := DZ.on hbA
          replace DQ := DQ.on hbA
          replace hv := hv.on hbA
          replace hO3 := hO3.alloc_ (.cells #[.int .i64 0, .int .i64 0, .slice none 0 0] 24)
          clear hbA
          replace bz := bz.alloc bz.size (.cells #[.int .i64 0, .int .i64 0, .slice none 0 0] 24)
          simp only [eT] at qz_T qq_T qw_T qo_T ⊢
          clear eT
          generalize Wq1.alloc (.cells #[.int .i64 0, .int .i64 0, .slice none 0 0] 24) = Wq2 at DZ DQ hv hO3 DT hc0 hc1 hwrs  bz ⊢
          clear hS; refine hK.out _ _ ⟨DQ, hc0, hc1⟩ (fun hS => ?_); clear hK K
          try simp only [Act.put, List.setIfInBounds_toArray, List.set_cons_zero, List.set_cons_succ, List.getElem_toArray, List.getElem_cons_zero, List.getElem_cons_succ]
          obtain ⟨t0, t1, t2, t3, t4, t5⟩ := Mbx.cells DT
          refine wpAnyH_ready (rs := [14]) (by kernel_rfl) (by simp) ?_
          refine AllReadyH.cons rfl (fun K hK => ?_) AllReadyH.nil
          go_simp
          clear t0 t1 t2 t3 t4 t5
          have hgs : Wq2.grownBy (((Wq2.setCell ⟨HT, 0, none⟩ (.int .i64 n)).setCell ⟨HT, 1, none⟩ (.int .i64 n)).setCell ⟨HT, 2, none⟩ (.slice (some ⟨g3, 0, none⟩) N c3)) (some HT) := grown_setCell (grown_setCell (grown_setCell (World.grownBy.refl Wq2 _) 0 _) 1 _) 2 _
          replace DZ := DZ.grown hgs (by simp; omega)
          replace DQ := DQ.grown hgs (by simp; omega)
          replace DT := Mbx.put DT n n (some ⟨g3, 0, none⟩) N c3
          replace hO3 := hO3.grown_ hgs (fun a e9 => by injection e9 with e9; subst e9; simp; omega)
          replace bz := bz.grown hgs bz.size (fun b e9 => by injection e9 with e9; omega)
          replace hv := hv.farB hgs (fun a e9 => by have h9 := hev a e9; omega)
          replace hc0 := (World.grownBy.cell_far hgs _ (World.block_lt_of_cell? _ _ hc0) (by simp; omega)).trans hc0
          replace hc1 := (World.grownBy.cell_far hgs _ (World.block_lt_of_cell? _ _ hc1) (by simp; omega)).trans hc1
          clear hgs
          clear hS; refine hK.out _ _ ⟨DQ, hc0, hc1⟩ (fun hS => ?_); clear hK K
          try simp only [Act.put, List.setIfInBounds_toArray, List.set_cons_zero, List.set_cons_succ, List.getElem_toArray, List.getElem_cons_zero, List.getElem_cons_succ]
          refine wpAnyH_take (i := 15) (v := ?v15_22) rfl (by kernel_rfl) (by kernel_rfl) (by kernel_rfl) (fun _ _ _ h => h) (Or.inl ⟨by rfl, ?hy15_22⟩) (by assumption) ?rest15_22
          case hy15_22 => (intro w9 hSw; clear hSw; go_simp; try with_reducible rfl)
          try simp only [Act.put, List.setIfInBounds_toArray, List.set_cons_zero, List.set_cons_succ, List.getElem_toArray, List.getElem_cons_zero, List.getElem_cons_succ]
          refine wpAnyH_done (by kernel_rfl) ?_ _
          generalize (((Wq2.setCell ⟨HT, 0, none⟩ (.int .i64 n)).setCell ⟨HT, 1, none⟩ (.int .i64 n)).setCell ⟨HT, 2, none⟩ (.slice (some ⟨g3, 0, none⟩) N c3)) = Wz at DZ DQ DT hO3 bz ⊢
          obtain ⟨t0, t1, t2, _, _, _⟩ := Mbx.cells DT
          obtain ⟨q0, q1, q2, q3, q4, q5⟩ := Mbx.cells DQ
          have hI4 : Is L3 (n * n) (qF (Qs (j + 1)) n j e) := by
            have e1 := HP.out
            rw [HN.out]
            unfold qF
            rw [e1, show n - 1 - j = m by omega]
            exact hI3
          have hT2 := Tq.next (by rw [HP.out]; exact hT) hjK HE.out hI4
          have HT2 := Lib.hid hT2
          clear hT2 hI4 hI3 hT
          have hgs : Wz.grownBy (((Wz.setCell ⟨gq, 0, none⟩ (.int .i64 n)).setCell ⟨gq, 1, none⟩ (.int .i64 n)).setCell ⟨gq, 2, none⟩ (.slice (some ⟨g3, 0, none⟩) N c3)) (some gq) := grown_setCell (grown_setCell (grown_setCell (World.grownBy.refl Wz _) 0 _) 1 _) 2 _
          have DZ4 := DZ.grown hgs (by simp; omega)
          have DQ4 := Mbx.put DQ n n (some ⟨g3, 0, none⟩) N c3
          have hO4 := (hO3.less (B' := w.heap.size) (by omega)).grown_ hgs (fun a e9 => by injection e9 with e9; subst e9; simp; omega)
          have bz4 := bz.grown hgs bz.size (fun b e9 => by injection e9 with e9; omega)
          have hA4 : ∀ a, (some ⟨g3, 0, none⟩ : Option Addr) = some a → a.block ≠ gq ∧ w.heap.size < a.block := fun a e9 => by injection e9 with e9; subst e9; show g3 ≠ gq ∧ w.heap.size < g3; omega
          have eKd : K - (d + 1) = j := by have := HJ.out; omega
          have EKD := Lib.hid eKd
          clear eKd hgs
          go_wp2_with fail
          go_roundw
          case rel => exact ⟨d + 1, _, some ⟨g3, 0, none⟩, c3, by omega, by go_num, (by rw [EKD.out]; exact HT2.out), (by rw [EKD.out]; show OwnF _ _ _ _ (if j = j then L3 else Qs j); rw [if_pos rfl]; exact hO4), hA4, DZ4, DQ4, bz4⟩
          case measure => simp [intOf]; omega
        go_simp
        have qz_T := Blk.lt DZ
        have qq_T := Blk.lt DQ
        have qw_T := hwrs
        have DT := Blk.new wd [.int .i64 0, .int .i64 0, .slice none 0 0] 24
        obtain ⟨HT, eT⟩ : ∃ H, wd.heap.size = H := ⟨_, rfl⟩
        rw [eT] at DT
        have hbA := (Below.refl _ wd).alloc (Nat.le_refl _) (.cells #[.int .i64 0, .int .i64 0, .slice none 0 0] 24)
        replace hc0 := cell_on hc0 hbA
        replace hc1 := cell_on hc1 hbA
        replace hwrs := Nat.le_trans hwrs hbA.size
        have hbA := (Below.refl _ wd).alloc (Nat.le_refl _) (.cells #[.int .i64 0, .int .i64 0, .slice none 0 0] 24)
        replace hO := hO.alloc_ (.cells #[.int .i64 0, .int .i64 0, .slice none 0 0] 24)
        replace DZ := DZ.on hbA
        replace DQ := DQ.on hbA
        replace hv := hv.on hbA
        clear hbA
        replace bz := bz.alloc bz.size (.cells #[.int .i64 0, .int .i64 0, .slice none 0 0] 24)
        simp only [eT] at qz_T qq_T qw_T  ⊢
        clear eT
        generalize wd.alloc (.cells #[.int .i64 0, .int .i64 0, .slice none 0 0] 24) = Wq1 at hO DZ DQ hv DT hc0 hc1 hwrs  bz ⊢
        clear hS; refine hK.out _ _ ⟨DQ, hc0, hc1⟩ (fun hS => ?_); clear hK K
        try simp only [Act.put, List.setIfInBounds_toArray, List.set_cons_zero, List.set_cons_succ, List.getElem_toArray, List.getElem_cons_zero, List.getElem_cons_succ]
        refine wpAnyH_ready (rs := [9]) (by kernel_rfl) (by simp) ?_
        refine AllReadyH.cons rfl (fun K hK => ?_) AllReadyH.nil
        go_simp
        have FQ : FL Wq1 A2 N c2 (Qs p) := by have h9 := hO.fl hwdQ.wd; rw [hwdQ.len, HN.out] at h9; exact h9
        have pl := gLeft_yes (M := n) (q := n) (p := p) (f := p) FQ hv bt hn hn HN.out.symm hm0 (by omega) (by omega) (fun a e9 => by obtain ⟨x, e2, hx, _⟩ := hv.at_ hm0; rw [e2] at e9; injection e9 with e9; rw [← e9]; exact hx)
        have PL := Lib.hid pl
        have qz := Blk.lt DZ
        have qq := Blk.lt DQ
        have qt := Blk.lt DT
        clear pl
        with_reducible refine (PL.out).mono ?_
        rintro e w1 ⟨g3, c3, L3, rfl, hO3, hI3, hb⟩
        replace hO := hO.on_ hb
        replace DZ := DZ.on hb
        replace DQ := DQ.on hb
        replace hv := hv.on hb
        replace DT := DT.on hb
        replace bz := bz.trans (hb.mono bz.size)
        replace hwrs := Nat.le_trans hwrs hb.size
        replace hc0 := cell_on hc0 hb
        replace hc1 := cell_on hc1 hb
        have hA3 := (hO3.gt rfl).1
        have hlt3 : w.heap.size < g3 ∧ gq < g3 ∧ HT < g3 := by refine ⟨?_, ?_, ?_⟩ <;> (simp at hA3; omega)
        clear hb FQ PL hO
        generalize w1 = Wq2 at DZ DQ hv DT hO3 hc0 hc1 hwrs  bz ⊢
        clear hS; refine hK.out _ _ ⟨DQ, hc0, hc1⟩ (fun hS => ?_); clear hK K
        try simp only [Act.put, List.setIfInBounds_toArray, List.set_cons_zero, List.set_cons_succ, List.getElem_toArray, List.getElem_cons_zero, List.getElem_cons_succ]
        refine wpAnyH_take (i := 10) (v := ?v10_23) rfl (by kernel_rfl) (by kernel_rfl) (by kernel_rfl) (fun _ _ _ h => h) (Or.inl ⟨by rfl, ?hy10_23⟩) (by assumption) ?rest10_23
        case hy10_23 => (intro w9 hSw; clear hSw; go_simp; try with_reducible rfl)
        try simp only [Act.put, List.setIfInBounds_toArray, List.set_cons_zero, List.set_cons_succ, List.getElem_toArray, List.getElem_cons_zero, List.getElem_cons_succ]
        refine wpAnyH_take (i := 11) (v := ?v11_24) rfl (by kernel_rfl) (by kernel_rfl) (by kernel_rfl) (fun _ _ _ h => h) (Or.inl ⟨by rfl, ?hy11_24⟩) (by assumption) ?rest11_24
        case hy11_24 => (intro w9 hSw; clear hSw; go_simp; try with_reducible rfl)
        try simp only [Act.put, List.setIfInBounds_toArray, List.set_cons_zero, List.set_cons_succ, List.getElem_toArray, List.getElem_cons_zero, List.getElem_cons_succ]
        refine wpAnyH_take (i := 12) (v := ?v12_25) rfl (by kernel_rfl) (by kernel_rfl) (by kernel_rfl) (fun _ _ _ h => h) (Or.inl ⟨by rfl, ?hy12_25⟩) (by assumption) ?rest12_25
        case hy12_25 => (intro w9 hSw; clear hSw; go_simp; try with_reducible rfl)
        try simp only [Act.put, List.setIfInBounds_toArray, List.set_cons_zero, List.set_cons_succ, List.getElem_toArray, List.getElem_cons_zero, List.getElem_cons_succ]
        obtain ⟨t0, t1, t2, t3, t4, t5⟩ := Mbx.cells DT
        refine wpAnyH_ready (rs := [14]) (by kernel_rfl) (by simp) ?_
        refine AllReadyH.cons rfl (fun K hK => ?_) AllReadyH.nil
        go_simp
        clear t0 t1 t2 t3 t4 t5
        have hgs : Wq2.grownBy (((Wq2.setCell ⟨HT, 0, none⟩ (.int .i64 n)).setCell ⟨HT, 1, none⟩ (.int .i64 n)).setCell ⟨HT, 2, none⟩ (.slice (some ⟨g3, 0, none⟩) N c3)) (some HT) := grown_setCell (grown_setCell (grown_setCell (World.grownBy.refl Wq2 _) 0 _) 1 _) 2 _
        replace DZ := DZ.grown hgs (by simp; omega)
        replace DQ := DQ.grown hgs (by simp; omega)
        replace DT := Mbx.put DT n n (some ⟨g3, 0, none⟩) N c3
        replace hO3 := hO3.grown_ hgs (fun a e9 => by injection e9 with e9; subst e9; simp; omega)
        replace bz := bz.grown hgs bz.size (fun b e9 => by injection e9 with e9; omega)
        replace hv := hv.farB hgs (fun a e9 => by have h9 := hev a e9; omega)
        replace hc0 := (World.grownBy.cell_far hgs _ (World.block_lt_of_cell? _ _ hc0) (by simp; omega)).trans hc0
        replace hc1 := (World.grownBy.cell_far hgs _ (World.block_lt_of_cell? _ _ hc1) (by simp; omega)).trans hc1
        clear hgs
        clear hS; refine hK.out _ _ ⟨DQ, hc0, hc1⟩ (fun hS => ?_); clear hK K
        try simp only [Act.put, List.setIfInBounds_toArray, List.set_cons_zero, List.set_cons_succ, List.getElem_toArray, List.getElem_cons_zero, List.getElem_cons_succ]
        refine wpAnyH_take (i := 15) (v := ?v15_26) rfl (by kernel_rfl) (by kernel_rfl) (by kernel_rfl) (fun _ _ _ h => h) (Or.inl ⟨by rfl, ?hy15_26⟩) (by assumption) ?rest15_26
        case hy15_26 => (intro w9 hSw; clear hSw; go_simp; try with_reducible rfl)
        try simp only [Act.put, List.setIfInBounds_toArray, List.set_cons_zero, List.set_cons_succ, List.getElem_toArray, List.getElem_cons_zero, List.getElem_cons_succ]
        refine wpAnyH_done (by kernel_rfl) ?_ _
        generalize (((Wq2.setCell ⟨HT, 0, none⟩ (.int .i64 n)).setCell ⟨HT, 1, none⟩ (.int .i64 n)).setCell ⟨HT, 2, none⟩ (.slice (some ⟨g3, 0, none⟩) N c3)) = Wz at DZ DQ DT hO3 bz ⊢
        obtain ⟨t0, t1, t2, _, _, _⟩ := Mbx.cells DT
        obtain ⟨q0, q1, q2, q3, q4, q5⟩ := Mbx.cells DQ
        have hI4 : Is L3 (n * n) (qF (Qs (j + 1)) n j e) := by
          have e1 := HP.out
          rw [HN.out]
          unfold qF
          rw [e1, show n - 1 - j = m by omega]
          exact hI3
        have hT2 := Tq.next (by rw [HP.out]; exact hT) hjK HE.out hI4
        have HT2 := Lib.hid hT2
        clear hT2 hI4 hI3 hT
        have hgs : Wz.grownBy (((Wz.setCell ⟨gq, 0, none⟩ (.int .i64 n)).setCell ⟨gq, 1, none⟩ (.int .i64 n)).setCell ⟨gq, 2, none⟩ (.slice (some ⟨g3, 0, none⟩) N c3)) (some gq) := grown_setCell (grown_setCell (grown_setCell (World.grownBy.refl Wz _) 0 _) 1 _) 2 _
        have DZ4 := DZ.grown hgs (by simp; omega)
        have DQ4 := Mbx.put DQ n n (some ⟨g3, 0, none⟩) N c3
        have hO4 := (hO3.less (B' := w.heap.size) (by omega)).grown_ hgs (fun a e9 => by injection e9 with e9; subst e9; simp; omega)
        have bz4 := bz.grown hgs bz.size (fun b e9 => by injection e9 with e9; omega)
        have hA4 : ∀ a, (some ⟨g3, 0, none⟩ : Option Addr) = some a → a.block ≠ gq ∧ w.heap.size < a.block := fun a e9 => by injection e9 with e9; subst e9; show g3 ≠ gq ∧ w.heap.size < g3; omega
        have eKd : K - (d + 1) = j := by have := HJ.out; omega
        have EKD := Lib.hid eKd
        clear eKd hgs
        go_wp2_with fail
        go_roundw
        case rel => exact ⟨d + 1, _, some ⟨g3, 0, none⟩, c3, by omega, by go_num, (by rw [EKD.out]; exact HT2.out), (by rw [EKD.out]; show OwnF _ _ _ _ (if j = j then L3 else Qs j); rw [if_pos rfl]; exact hO4), hA4, DZ4, DQ4, bz4⟩
        case measure => simp [intOf]; omega
    · as_aux_lemma =>
        have hdK : d = K := by omega
        have d1 : ¬ (d : Int) < K := by omega
        have e0 : K - d = 0 := by omega
        rw [e0] at hT hO
        clear hdK e0
        obtain ⟨q0, q1, q2, q3, q4, q5⟩ := Mbx.cells DQ
        obtain ⟨z0, z1, z2, z3, z4, z5⟩ := Mbx.cells DZ
        go_wp2_with fail
        obtain ⟨x0, x1, x2, _, _, _⟩ := Mbx.cells (Mbx.put DZ n n A2 N c2)
        refine bodyPost_ret (v := .tuple #[mV n n A2 N c2, .int .i64 0]) (by simp [results, Try.results15, go_sem, x0, x1, x2]) rfl ?_
        have hgs : wr.grownBy (((wr.setCell ⟨w.heap.size, 0, none⟩ (.int .i64 n)).setCell ⟨w.heap.size, 1, none⟩ (.int .i64 n)).setCell ⟨w.heap.size, 2, none⟩ (.slice A2 N c2)) (some w.heap.size) := grown_setCell (grown_setCell (grown_setCell (World.grownBy.refl wr _) 0 _) 1 _) 2 _
        exact ⟨A2, c2, Qs 0, Qs, by rw [HN.out], hO.grown_ hgs (fun a e9 => by have := hAq a e9; simp; omega), hT, rfl, bz.grown hgs bz.size (fun b e => by injection e with e; omega)⟩
end Go.Proofs.Ytaemkjcmjgefeaa
