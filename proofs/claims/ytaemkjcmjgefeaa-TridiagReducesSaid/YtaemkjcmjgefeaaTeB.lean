/-
  Layer 10: the law of the tridiagonal form. (Written by wip/tools/gen_teb.py.)
-/
import Derived.Test.YtaemkjcmjgefeaaTdY
import Derived.Test.YtaemkjcmjgefeaaTdJ
namespace Go.Proofs.Ytaemkjcmjgefeaa
open Go.RowKit Go.Bw
set_option linter.unusedVariables false
set_option linter.unusedSimpArgs false
attribute [local go_sem] run_store_float
set_option maxRecDepth 100000 in
set_option maxHeartbeats 8000000 in
theorem rReduce_none {A : Option Addr} {c : Nat} {l : List Int} {w : World} (h : FL w A 0 c l) :
    Calls Try.prog 12 #[mV 0 0 A 0 c] w (TdP w 0 l) := by
  have hmx := h.max
  have hll := h.1
  obtain rfl : l = [] := List.eq_nil_of_length_eq_zero hll
  have bz := ((Below.refl _ w).alloc (Nat.le_refl _) (.cells #[.int .i64 0, .int .i64 0, .slice A 0 c] 24)).alloc (by simp) (.cells #[.slice none 0 0, .slice none 0 0] 28)
  have DM := (Blk.new w [.int .i64 0, .int .i64 0, .slice A 0 c] 24).alloc (.cells #[.slice none 0 0, .slice none 0 0] 28)
  have DZ := Blk.new (w.alloc (.cells #[.int .i64 0, .int .i64 0, .slice A 0 c] 24)) [.slice none 0 0, .slice none 0 0] 28
  rw [World.size_alloc] at DZ
  replace h := h.on bz
  have hs1 : ((w.alloc (.cells #[.int .i64 0, .int .i64 0, .slice A 0 c] 24)).alloc (.cells #[.slice none 0 0, .slice none 0 0] 28)).heap.size = w.heap.size + 1 + 1 := by simp
  obtain ⟨y0, y1, y2, _, _, _⟩ := Mbx.cells DM
  go_enter Try.func12, Try.ntmps12
  go_upto_region 1 with fail
  generalize (w.alloc (.cells #[.int .i64 0, .int .i64 0, .slice A 0 c] 24)).alloc (.cells #[.slice none 0 0, .slice none 0 0] 28) = W1 at DM DZ bz hs1 h y0 y1 y2 ⊢
  go_wp2_with (at_builtin; refine wpList_appF _ rfl _ _ rfl w.heap.size none 0 [] rfl (OwnF.nil _ _) _ A c [] (by rfl) h.2.1 (by simp) (by omega) ?_; intro A2 cap w2 hO hg hrow; simp only [List.nil_append, List.length_nil] at hO hrow ⊢)
  have hb := below_appF (Below.refl W1.heap.size W1) (OwnF.nil _ _) hg (Nat.le_refl _)
  have hb1 := hb.size
  replace bz := bz.trans (hb.mono bz.size)
  replace DZ := DZ.on hb
  have DT := Blk.new w2 [.slice none 0 0, .slice none 0 0] 28
  replace DZ := DZ.alloc (.cells #[.slice none 0 0, .slice none 0 0] 28)
  replace bz := bz.alloc bz.size (.cells #[.slice none 0 0, .slice none 0 0] 28)
  obtain ⟨t, ht⟩ : ∃ t, w2.heap.size = t := ⟨_, rfl⟩
  rw [ht] at DT
  have htz : w.heap.size + 1 < t := by omega
  clear hO hg hrow hb hb1 DM y0 y1 y2 h hs1
  go_wp2_with fail
  generalize w2.alloc (.cells #[.slice none 0 0, .slice none 0 0] 28) = w3 at DT DZ bz ⊢
  rw [ht]
  clear ht
  go_loopw [7, 8, 9, 10, 11, 12, 13, 14, 15, 16, 17, 18, 19, 20, 21, 22, 23, 24, 25, 26, 27, 28] (fun v7 v8 v9 v10 v11 v12 v13 v14 v15 v16 v17 v18 v19 v20 v21 v22 v23 v24 v25 v26 v27 v28 wr => v7 = .slice none 0 0 ∧ v8 = .int .i64 0 ∧ w3 = wr) (fun _ _ _ _ _ _ _ _ _ _ _ _ _ _ _ _ _ _ _ _ _ _ _ => 0)
  case atStart => exact ⟨rfl, rfl, rfl⟩
  case round =>
    obtain ⟨rfl, rfl, rfl⟩ := hrel
    obtain ⟨y0, y1, _, _⟩ := Tbx.cells DT
    go_wp2_with fail
    go_loopw [29] (fun v29 wr => v29 = .int .i64 0 ∧ w3 = wr) (fun _ _ => 0)
    case atStart => exact ⟨rfl, rfl⟩
    case round =>
      obtain ⟨rfl, rfl⟩ := hrel
      obtain ⟨z0, z1, z2, z3⟩ := Tbx.cells DZ
      go_wp2_with fail
      have x0 : ((w3.setCell ⟨w.heap.size + 1, 0, none⟩ (.slice none 0 0)).setCell ⟨w.heap.size + 1, 1, none⟩ (.slice none 0 0)).cell? ⟨w.heap.size + 1, 0, none⟩ = some (.slice none 0 0) := Blk.cell (Blk.set_ (Blk.set_ DZ 0 (.slice none 0 0)) 1 (.slice none 0 0)) 0 rfl
      have x1 : ((w3.setCell ⟨w.heap.size + 1, 0, none⟩ (.slice none 0 0)).setCell ⟨w.heap.size + 1, 1, none⟩ (.slice none 0 0)).cell? ⟨w.heap.size + 1, 1, none⟩ = some (.slice none 0 0) := Blk.cell (Blk.set_ (Blk.set_ DZ 0 (.slice none 0 0)) 1 (.slice none 0 0)) 1 rfl
      have hgs : w3.grownBy ((w3.setCell ⟨w.heap.size + 1, 0, none⟩ (.slice none 0 0)).setCell ⟨w.heap.size + 1, 1, none⟩ (.slice none 0 0)) (some (w.heap.size + 1)) := grown_setCell (grown_setCell (World.grownBy.refl w3 _) 0 _) 1 _
      refine bodyPost_ret (v := .tuple #[tV none 0 0 none 0 0, .slice none 0 0]) (by simp [results, Try.results12, go_sem, x0, x1]) rfl ?_
      refine ⟨fun _ => [], none, 0, [], none, 0, [], none, 0, [], rfl, FL.nil _, FL.nil _, ⟨rfl, by simp, (fun e h => by cases h), (fun h => absurd rfl h)⟩, ?_, rfl, bz.grown hgs bz.size (fun b e9 => by injection e9 with e9; omega)⟩
      exact ⟨(fun k hk => by omega), rfl, (fun i hi => by omega), rfl, (fun k hk => by omega), rfl, (fun k r h => by simp at h)⟩
abbrev RTrueR (w : World) (e : Ending) (w' : World) : Prop := e = .returned (.bool true) ∧ Below w.heap.size w w'
theorem rReduce_any {A : Option Addr} {n N c : Nat} {l : List Int} {w : World} (h : FL w A N c l) (hN : N = n * n) (hn : n ≤ 512) : Calls Try.prog 12 #[mV n n A N c] w (TdP w n l) := by
  rcases Nat.eq_zero_or_pos n with h0 | h0
  · subst h0
    subst hN
    exact rReduce_none h
  · exact rReduce_many h hN hn h0
theorem tdE_zero {R C : Int} {n : Nat} {l : List Int} (h : tdE R C n l = 0) : ∃ m : Nat, R = m ∧ C = m ∧ m ≤ 512 ∧ n = m * m ∧ l.all fin = true := by
  unfold tdE at h
  by_cases h1 : mayB R C n = true
  · rw [if_pos h1] at h
    obtain ⟨a1, a2, a3, a4, a5⟩ := of_decide_eq_true h1
    by_cases h2 : R = C
    · rw [if_pos h2] at h
      subst h2
      obtain ⟨m, rfl⟩ := Int.eq_ofNat_of_zero_le a1
      refine ⟨m, rfl, rfl, by omega, ?_, ?_⟩
      · rw [← Int.natCast_mul] at a5
        exact Int.ofNat.inj a5
      · unfold finC at h
        by_cases h3 : l.all fin = true
        · exact h3
        · rw [if_neg h3] at h; cases h
    · rw [if_neg h2] at h; cases h
  · rw [if_neg h1] at h; cases h
set_option maxRecDepth 100000 in
set_option maxHeartbeats 16000000 in
theorem law_reduces {A : Option Addr} {n c : Nat} {l : List Int} {R C : Int} {w : World} (h : FL w A n c l) : Calls Try.prog 3 #[mV R C A n c] w (RTrueR w) := by
  have hmx := h.max
  have hll := Lib.hid h.1
  have bz := (Below.refl _ w).alloc (Nat.le_refl _) (.cells #[.int .i64 R, .int .i64 C, .slice A n c] 24)
  have DM := Blk.new w [.int .i64 R, .int .i64 C, .slice A n c] 24
  replace h := h.on bz
  have HWD := Lib.hid h.2.2
  obtain ⟨y0, y1, y2, _, _, _⟩ := Mbx.cells DM
  by_cases hbig : 200 < n
  · have i1 : (200 : Int) < n := by omega
    clear hbig
    go_enter Try.func3, Try.ntmps3
    go_wp2_with fail
    with_reducible refine (known_any _).mono ?_
    rintro e9 w9 ⟨rfl, hb⟩
    go_wp2_with fail
    go_ret
    exact ⟨rfl, bz.trans (hb.mono bz.size)⟩
  · have i1 : ¬ (200 : Int) < n := by omega
    obtain ⟨E, hE⟩ : ∃ E, tdE R C n l = E := ⟨_, rfl⟩
    have HE := Lib.hid hE
    have pc := rCopy_any (R := R) (C := C) h (by omega)
    clear hbig hE
    go_enter Try.func3, Try.ntmps3
    go_wp2_with fail
    with_reducible refine pc.mono ?_
    rintro e9 w1 ⟨KA, kc, rfl, hKO, hb, _⟩
    clear pc y0 y1 y2
    have FW := hKO.fl HWD.out
    rw [hll.out] at FW
    clear hKO
    replace h := h.on hb
    replace DM := DM.on hb
    replace bz := bz.trans (hb.mono bz.size)
    clear hb
    have DW := Blk.new w1 [.int .i64 R, .int .i64 C, .slice KA n kc] 24
    obtain ⟨bDW, eDW⟩ : ∃ H, w1.heap.size = H := ⟨_, rfl⟩
    rw [eDW] at DW
    have hbA := (Below.refl _ w1).alloc (Nat.le_refl _) (.cells #[.int .i64 R, .int .i64 C, .slice KA n kc] 24)
    replace h := h.on hbA
    replace DM := DM.on hbA
    replace FW := FW.on hbA
    replace bz := bz.trans (hbA.mono bz.size)
    clear hbA
    go_upto_region 4 with fail
    try simp only [eDW] at ⊢
    clear eDW
    generalize w1.alloc (.cells #[.int .i64 R, .int .i64 C, .slice KA n kc] 24) = VDW at h DM FW DW bz ⊢
    by_cases hE0 : E = 0
    · as_aux_lemma =>
        subst hE0
        obtain ⟨m, hR, hC, hm5, hN, hfin⟩ := tdE_zero HE.out
        subst hR
        subst hC
        have HN := Lib.hid hN
        clear hN
        have pr := gReduce_yes h HN.out hm5 hfin
        have PR := Lib.hid pr
        clear pr
        obtain ⟨m00, m01, m02, _, _, _⟩ := Mbx.cells DM
        go_wp2_with fail
        clear m00 m01 m02
        with_reducible refine (PR.out).mono ?_
        rintro e9 w2 ⟨Ls, Ad, cd, d, Ae, ce, e, Ah, ch, hs, rfl, Fd, Fe, Rh, T1, hL0, hb⟩
        replace h := h.on hb
        replace DM := DM.on hb
        replace FW := FW.on hb
        replace DW := DW.on hb
        replace bz := bz.trans (hb.mono bz.size)
        clear hb
        clear PR
        have HT1 := Lib.hid T1
        have HL1 := Lib.hid hL0
        clear T1 hL0
        have DT := Blk.new w2 [.slice Ad d.length cd, .slice Ae e.length ce] 28
        obtain ⟨bDT, eDT⟩ : ∃ H, w2.heap.size = H := ⟨_, rfl⟩
        rw [eDT] at DT
        have hbA := (Below.refl _ w2).alloc (Nat.le_refl _) (.cells #[.slice Ad d.length cd, .slice Ae e.length ce] 28)
        replace h := h.on hbA
        replace DM := DM.on hbA
        replace FW := FW.on hbA
        replace DW := DW.on hbA
        replace Fd := Fd.on hbA
        replace Fe := Fe.on hbA
        replace Rh := Rh.on hbA
        replace bz := bz.trans (hbA.mono bz.size)
        clear hbA
        go_upto_region 5 with fail
        try simp only [eDT] at ⊢
        clear eDT
        generalize w2.alloc (.cells #[.slice Ad d.length cd, .slice Ae e.length ce] 28) = VDT at h DM FW DW Fd Fe Rh DT bz ⊢
        have pw := rWrong10_any (R := (m : Int)) (C := (m : Int)) h
        rw [HE.out] at pw
        obtain ⟨m00, m01, m02, _, _, _⟩ := Mbx.cells DM
        go_wp2_with fail
        clear m00 m01 m02
        with_reducible refine (pw).mono ?_
        rintro e9 w3 ⟨rfl, hb⟩
        replace h := h.on hb
        replace DM := DM.on hb
        replace FW := FW.on hb
        replace DW := DW.on hb
        replace Fd := Fd.on hb
        replace Fe := Fe.on hb
        replace Rh := Rh.on hb
        replace DT := DT.on hb
        replace bz := bz.trans (hb.mono bz.size)
        clear hb
        clear pw
        have ps := rSameM_any (R := (m : Int)) (C := (m : Int)) FW h (fun k hk => rfl)
        obtain ⟨m00, m01, m02, _, _, _⟩ := Mbx.cells DW
        obtain ⟨m10, m11, m12, _, _, _⟩ := Mbx.cells DM
        go_wp2_with fail
        clear m00 m01 m02 m10 m11 m12
        with_reducible refine (ps).mono ?_
        rintro e9 w4 ⟨rfl, hb⟩
        replace h := h.on hb
        replace DM := DM.on hb
        replace FW := FW.on hb
        replace DW := DW.on hb
        replace Fd := Fd.on hb
        replace Fe := Fe.on hb
        replace Rh := Rh.on hb
        replace DT := DT.on hb
        replace bz := bz.trans (hb.mono bz.size)
        clear hb
        clear ps FW DW
        have pq := rReduce_any h HN.out hm5
        have PQ := Lib.hid pq
        clear pq
        obtain ⟨m00, m01, m02, _, _, _⟩ := Mbx.cells DM
        go_wp2_with fail
        clear m00 m01 m02
        with_reducible refine (PQ.out).mono ?_
        rintro e9 w5 ⟨Ks, Bd, kd, x, Be, ke, y, Bh, kh, hs2, rfl, Gd, Ge, Rg, T2, hK0, hb⟩
        replace h := h.on hb
        replace DM := DM.on hb
        replace Fd := Fd.on hb
        replace Fe := Fe.on hb
        replace Rh := Rh.on hb
        replace DT := DT.on hb
        replace bz := bz.trans (hb.mono bz.size)
        clear hb
        clear PQ h DM
        obtain ⟨sd, se, sl, sh⟩ := Td.same HT1.out T2 (by rw [HL1.out, hK0]; rfl)
        have HSD := Lib.hid sd
        have HSE := Lib.hid se
        have HSL := Lib.hid sl
        have HSH := Lib.hid sh
        clear sd se sl sh T2 hK0
        have DS := Blk.new w5 [.slice Bd x.length kd, .slice Be y.length ke] 28
        obtain ⟨bDS, eDS⟩ : ∃ H, w5.heap.size = H := ⟨_, rfl⟩
        rw [eDS] at DS
        have hbA := (Below.refl _ w5).alloc (Nat.le_refl _) (.cells #[.slice Bd x.length kd, .slice Be y.length ke] 28)
        replace Fd := Fd.on hbA
        replace Fe := Fe.on hbA
        replace Rh := Rh.on hbA
        replace DT := DT.on hbA
        replace Gd := Gd.on hbA
        replace Ge := Ge.on hbA
        replace Rg := Rg.on hbA
        replace bz := bz.trans (hbA.mono bz.size)
        clear hbA
        go_upto_region 11 with fail
        try simp only [eDS] at ⊢
        clear eDS
        generalize w5.alloc (.cells #[.slice Bd x.length kd, .slice Be y.length ke] 28) = VDS at Fd Fe Rh DT Gd Ge Rg DS bz ⊢
        have pt := sameTri_any Fd Fe Gd Ge HSD.out HSE.out
        have d3 : ((hs.length : Int) != (hs2.length : Int)) = false := by rw [HSL.out]; simp
        obtain ⟨m00, m01, _, _⟩ := Tbx.cells DT
        obtain ⟨m10, m11, _, _⟩ := Tbx.cells DS
        go_wp2_with fail
        clear m00 m01 m10 m11
        with_reducible refine (pt).mono ?_
        rintro e9 w6 ⟨rfl, hb⟩
        replace Fd := Fd.on hb
        replace Fe := Fe.on hb
        replace Rh := Rh.on hb
        replace DT := DT.on hb
        replace Gd := Gd.on hb
        replace Ge := Ge.on hb
        replace Rg := Rg.on hb
        replace DS := DS.on hb
        replace bz := bz.trans (hb.mono bz.size)
        clear hb
        clear pt
        clear Fd Fe Gd Ge DT DS
        obtain ⟨K, hK⟩ : ∃ K, hs.length = K := ⟨_, rfl⟩
        have hK2 : hs2.length = K := by rw [← HSL.out]; exact hK
        rw [hK] at Rh d3 ⊢
        rw [hK2] at Rg d3 ⊢
        have HK := Lib.hid hK
        have HK2 := Lib.hid hK2
        clear hK hK2
        have hKm := Rh.2.1
        go_wp2_with fail
        clear d3
        go_loopw [10] (fun i wr => ∃ (k : Nat), k ≤ K ∧ i = .int .i64 k ∧ Rl wr Ah K ch hs ∧ Rl wr Bh K kh hs2 ∧ Below w.heap.size w wr) (fun i _ => K - (intOf i).toNat)
        case atStart => exact ⟨0, Nat.zero_le _, rfl, Rh, Rg, bz⟩
        case round =>
          clear Rh Rg bz
          obtain ⟨k, hk, rfl, Rh, Rg, bz⟩ := hrel
          have k0 : (0 : Int) ≤ k := by omega
          by_cases hlt : k < K
          · as_aux_lemma =>
              have k1 : (k : Int) < K := by omega
              obtain ⟨r, ad, ea, he, rfl, hEa, hla, hc0, hc1, hv, bt⟩ := Rh.at_ (k := k) hlt
              obtain ⟨r2, ad2, eb, he2, rfl, hEb, hlb, hd0, hd1, hv2, bt2⟩ := Rg.at_ (k := k) hlt
              obtain ⟨hsl, hst⟩ := HSH.out k r r2 he he2
              have hlen := hsl.len
              obtain ⟨q, hq⟩ : ∃ q, r.l.length = q := ⟨_, rfl⟩
              have hq2 : r2.l.length = q := by rw [← hlen]; exact hq
              rw [hq] at hc0 hv
              rw [hq2] at hd0 hv2
              have HSLL := Lib.hid hsl
              clear he he2 hsl hlen hq hq2
              go_wp2_with fail
              replace Rh := Rh.on ((Below.refl _ wr).drew)
              replace Rg := Rg.on ((Below.refl _ wr).drew)
              replace bz := bz.drew
              replace hc0 : wr.drew.cell? ea = some (.slice r.A q r.c) := hc0
              replace hc1 : wr.drew.cell? ⟨ea.block, ea.off + 1, none⟩ = some (.float .f64 r.t) := hc1
              replace hd0 : wr.drew.cell? eb = some (.slice r2.A q r2.c) := hd0
              replace hd1 : wr.drew.cell? ⟨eb.block, eb.off + 1, none⟩ = some (.float .f64 r2.t) := hd1
              replace hv : FL wr.drew r.A q r.c r.l := hv
              replace hv2 : FL wr.drew r2.A q r2.c r2.l := hv2
              refine wp_region_held_drew (S := fun w9 : World => w9.cell? ea = some (.slice r.A q r.c) ∧ w9.cell? ⟨ea.block, ea.off + 1, none⟩ = some (.float .f64 r.t) ∧ w9.cell? eb = some (.slice r2.A q r2.c) ∧ w9.cell? ⟨eb.block, eb.off + 1, none⟩ = some (.float .f64 r2.t)) (by kernel_rfl) ⟨hc0, hc1, hd0, hd1⟩ (fun hS => ?_)
              generalize wr.drew = wl at hS Rh Rg hv hv2 hc0 hc1 hd0 hd1 bz ⊢
              refine wpAnyH_take (i := 0) (v := ?v0_1) rfl (by kernel_rfl) (by kernel_rfl) (by kernel_rfl) (fun _ _ _ h => h) (Or.inl ⟨by rfl, ?hy0_1⟩) (by assumption) ?rest0_1
              case hy0_1 => (intro w9 hSw; clear hSw; go_simp; try with_reducible rfl)
              try simp only [Act.put, List.setIfInBounds_toArray, List.set_cons_zero, List.set_cons_succ, List.getElem_toArray, List.getElem_cons_zero, List.getElem_cons_succ]
              refine wpAnyH_take (i := 1) (v := ?v1_2) rfl (by kernel_rfl) (by kernel_rfl) (by kernel_rfl) (fun _ _ _ h => h) (Or.inl ⟨by rfl, ?hy1_2⟩) (by assumption) ?rest1_2
              case hy1_2 => (intro w9 hSw; clear hSw; go_simp; try with_reducible rfl)
              try simp only [Act.put, List.setIfInBounds_toArray, List.set_cons_zero, List.set_cons_succ, List.getElem_toArray, List.getElem_cons_zero, List.getElem_cons_succ]
              refine wpAnyH_take (i := 2) (v := ?v2_3) rfl (by kernel_rfl) (by kernel_rfl) (by kernel_rfl) (fun _ _ _ h => h) (Or.inl ⟨by rfl, ?hy2_3⟩) (by assumption) ?rest2_3
              case hy2_3 => (intro w9 hSw; clear hSw; go_simp; try with_reducible rfl)
              try simp only [Act.put, List.setIfInBounds_toArray, List.set_cons_zero, List.set_cons_succ, List.getElem_toArray, List.getElem_cons_zero, List.getElem_cons_succ]
              refine wpAnyH_take (i := 3) (v := ?v3_4) rfl (by kernel_rfl) (by kernel_rfl) (by kernel_rfl) (fun _ _ _ h => h) (Or.inl ⟨by rfl, ?hy3_4⟩) (by assumption) ?rest3_4
              case hy3_4 => (intro w9 hSw; clear hSw; go_simp; try with_reducible rfl)
              try simp only [Act.put, List.setIfInBounds_toArray, List.set_cons_zero, List.set_cons_succ, List.getElem_toArray, List.getElem_cons_zero, List.getElem_cons_succ]
              refine wpAnyH_take (i := 4) (v := ?v4_5) rfl (by kernel_rfl) (by kernel_rfl) (by kernel_rfl) (fun _ _ _ h => h) (Or.inl ⟨by rfl, ?hy4_5⟩) (by assumption) ?rest4_5
              case hy4_5 => (intro w9 hSw; obtain ⟨m0, m1, m2, m3⟩ := hSw; go_simp; try with_reducible rfl)
              try simp only [Act.put, List.setIfInBounds_toArray, List.set_cons_zero, List.set_cons_succ, List.getElem_toArray, List.getElem_cons_zero, List.getElem_cons_succ]
              refine wpAnyH_take (i := 5) (v := ?v5_6) rfl (by kernel_rfl) (by kernel_rfl) (by kernel_rfl) (fun _ _ _ h => h) (Or.inl ⟨by rfl, ?hy5_6⟩) (by assumption) ?rest5_6
              case hy5_6 => (intro w9 hSw; clear hSw; go_simp; try with_reducible rfl)
              try simp only [Act.put, List.setIfInBounds_toArray, List.set_cons_zero, List.set_cons_succ, List.getElem_toArray, List.getElem_cons_zero, List.getElem_cons_succ]
              refine wpAnyH_take (i := 6) (v := ?v6_7) rfl (by kernel_rfl) (by kernel_rfl) (by kernel_rfl) (fun _ _ _ h => h) (Or.inl ⟨by rfl, ?hy6_7⟩) (by assumption) ?rest6_7
              case hy6_7 => (intro w9 hSw; clear hSw; go_simp; try with_reducible rfl)
              try simp only [Act.put, List.setIfInBounds_toArray, List.set_cons_zero, List.set_cons_succ, List.getElem_toArray, List.getElem_cons_zero, List.getElem_cons_succ]
              refine wpAnyH_take (i := 7) (v := ?v7_8) rfl (by kernel_rfl) (by kernel_rfl) (by kernel_rfl) (fun _ _ _ h => h) (Or.inl ⟨by rfl, ?hy7_8⟩) (by assumption) ?rest7_8
              case hy7_8 => (intro w9 hSw; clear hSw; go_simp; try with_reducible rfl)
              try simp only [Act.put, List.setIfInBounds_toArray, List.set_cons_zero, List.set_cons_succ, List.getElem_toArray, List.getElem_cons_zero, List.getElem_cons_succ]
              refine wpAnyH_take (i := 8) (v := ?v8_9) rfl (by kernel_rfl) (by kernel_rfl) (by kernel_rfl) (fun _ _ _ h => h) (Or.inl ⟨by rfl, ?hy8_9⟩) (by assumption) ?rest8_9
              case hy8_9 => (intro w9 hSw; clear hSw; go_simp; try with_reducible rfl)
              try simp only [Act.put, List.setIfInBounds_toArray, List.set_cons_zero, List.set_cons_succ, List.getElem_toArray, List.getElem_cons_zero, List.getElem_cons_succ]
              refine wpAnyH_take (i := 9) (v := ?v9_10) rfl (by kernel_rfl) (by kernel_rfl) (by kernel_rfl) (fun _ _ _ h => h) (Or.inl ⟨by rfl, ?hy9_10⟩) (by assumption) ?rest9_10
              case hy9_10 => (intro w9 hSw; obtain ⟨m0, m1, m2, m3⟩ := hSw; go_simp; try with_reducible rfl)
              try simp only [Act.put, List.setIfInBounds_toArray, List.set_cons_zero, List.set_cons_succ, List.getElem_toArray, List.getElem_cons_zero, List.getElem_cons_succ]
              refine wpAnyH_ready (rs := [10]) (by kernel_rfl) (by simp) ?_
              refine AllReadyH.cons rfl (fun K hK => ?_) AllReadyH.nil
              go_simp
              with_reducible refine (rSame_any bt bt2 hst _).mono ?_
              rintro e9 w7 ⟨rfl, rfl⟩
              clear hS; refine hK.out _ _ ⟨hc0, hc1, hd0, hd1⟩ (fun hS => ?_); clear hK K
              try simp only [Act.put, List.setIfInBounds_toArray, List.set_cons_zero, List.set_cons_succ, List.getElem_toArray, List.getElem_cons_zero, List.getElem_cons_succ]
              refine wpAnyH_take (i := 11) (v := ?v11_11) rfl (by kernel_rfl) (by kernel_rfl) (by kernel_rfl) (fun _ _ _ h => h) (Or.inl ⟨by rfl, ?hy11_11⟩) (by assumption) ?rest11_11
              case hy11_11 => (intro w9 hSw; clear hSw; go_simp; try with_reducible rfl)
              try simp only [Act.put, List.setIfInBounds_toArray, List.set_cons_zero, List.set_cons_succ, List.getElem_toArray, List.getElem_cons_zero, List.getElem_cons_succ]
              refine wpAnyH_take (i := 12) (v := ?v12_12) rfl (by kernel_rfl) (by kernel_rfl) (by kernel_rfl) (fun _ _ _ h => h) (Or.inl ⟨by rfl, ?hy12_12⟩) (by assumption) ?rest12_12
              case hy12_12 => (intro w9 hSw; clear hSw; go_simp; try with_reducible rfl)
              try simp only [Act.put, List.setIfInBounds_toArray, List.set_cons_zero, List.set_cons_succ, List.getElem_toArray, List.getElem_cons_zero, List.getElem_cons_succ]
              refine wpAnyH_take (i := 13) (v := ?v13_13) rfl (by kernel_rfl) (by kernel_rfl) (by kernel_rfl) (fun _ _ _ h => h) (Or.inl ⟨by rfl, ?hy13_13⟩) (by assumption) ?rest13_13
              case hy13_13 => (intro w9 hSw; clear hSw; go_simp; try with_reducible rfl)
              try simp only [Act.put, List.setIfInBounds_toArray, List.set_cons_zero, List.set_cons_succ, List.getElem_toArray, List.getElem_cons_zero, List.getElem_cons_succ]
              refine wpAnyH_take (i := 14) (v := ?v14_14) rfl (by kernel_rfl) (by kernel_rfl) (by kernel_rfl) (fun _ _ _ h => h) (Or.inl ⟨by rfl, ?hy14_14⟩) (by assumption) ?rest14_14
              case hy14_14 => (intro w9 hSw; clear hSw; go_simp; try with_reducible rfl)
              try simp only [Act.put, List.setIfInBounds_toArray, List.set_cons_zero, List.set_cons_succ, List.getElem_toArray, List.getElem_cons_zero, List.getElem_cons_succ]
              refine wpAnyH_take (i := 15) (v := ?v15_15) rfl (by kernel_rfl) (by kernel_rfl) (by kernel_rfl) (fun _ _ _ h => h) (Or.inl ⟨by rfl, ?hy15_15⟩) (by assumption) ?rest15_15
              case hy15_15 => (intro w9 hSw; clear hSw; go_simp; try with_reducible rfl)
              try simp only [Act.put, List.setIfInBounds_toArray, List.set_cons_zero, List.set_cons_succ, List.getElem_toArray, List.getElem_cons_zero, List.getElem_cons_succ]
              refine wpAnyH_take (i := 16) (v := ?v16_16) rfl (by kernel_rfl) (by kernel_rfl) (by kernel_rfl) (fun _ _ _ h => h) (Or.inl ⟨by rfl, ?hy16_16⟩) (by assumption) ?rest16_16
              case hy16_16 => (intro w9 hSw; clear hSw; go_simp; try with_reducible rfl)
              try simp only [Act.put, List.setIfInBounds_toArray, List.set_cons_zero, List.set_cons_succ, List.getElem_toArray, List.getElem_cons_zero, List.getElem_cons_succ]
              refine wpAnyH_take (i := 17) (v := ?v17_17) rfl (by kernel_rfl) (by kernel_rfl) (by kernel_rfl) (fun _ _ _ h => h) (Or.inl ⟨by rfl, ?hy17_17⟩) (by assumption) ?rest17_17
              case hy17_17 => (intro w9 hSw; obtain ⟨m0, m1, m2, m3⟩ := hSw; go_simp; try with_reducible rfl)
              try simp only [Act.put, List.setIfInBounds_toArray, List.set_cons_zero, List.set_cons_succ, List.getElem_toArray, List.getElem_cons_zero, List.getElem_cons_succ]
              refine wpAnyH_take (i := 18) (v := ?v18_18) rfl (by kernel_rfl) (by kernel_rfl) (by kernel_rfl) (fun _ _ _ h => h) (Or.inl ⟨by rfl, ?hy18_18⟩) (by assumption) ?rest18_18
              case hy18_18 => (intro w9 hSw; clear hSw; go_simp; try with_reducible rfl)
              try simp only [Act.put, List.setIfInBounds_toArray, List.set_cons_zero, List.set_cons_succ, List.getElem_toArray, List.getElem_cons_zero, List.getElem_cons_succ]
              refine wpAnyH_take (i := 19) (v := ?v19_19) rfl (by kernel_rfl) (by kernel_rfl) (by kernel_rfl) (fun _ _ _ h => h) (Or.inl ⟨by rfl, ?hy19_19⟩) (by assumption) ?rest19_19
              case hy19_19 => (intro w9 hSw; clear hSw; go_simp; try with_reducible rfl)
              try simp only [Act.put, List.setIfInBounds_toArray, List.set_cons_zero, List.set_cons_succ, List.getElem_toArray, List.getElem_cons_zero, List.getElem_cons_succ]
              refine wpAnyH_take (i := 20) (v := ?v20_20) rfl (by kernel_rfl) (by kernel_rfl) (by kernel_rfl) (fun _ _ _ h => h) (Or.inl ⟨by rfl, ?hy20_20⟩) (by assumption) ?rest20_20
              case hy20_20 => (intro w9 hSw; clear hSw; go_simp; try with_reducible rfl)
              try simp only [Act.put, List.setIfInBounds_toArray, List.set_cons_zero, List.set_cons_succ, List.getElem_toArray, List.getElem_cons_zero, List.getElem_cons_succ]
              refine wpAnyH_take (i := 21) (v := ?v21_21) rfl (by kernel_rfl) (by kernel_rfl) (by kernel_rfl) (fun _ _ _ h => h) (Or.inl ⟨by rfl, ?hy21_21⟩) (by assumption) ?rest21_21
              case hy21_21 => (intro w9 hSw; clear hSw; go_simp; try with_reducible rfl)
              try simp only [Act.put, List.setIfInBounds_toArray, List.set_cons_zero, List.set_cons_succ, List.getElem_toArray, List.getElem_cons_zero, List.getElem_cons_succ]
              refine wpAnyH_take (i := 22) (v := ?v22_22) rfl (by kernel_rfl) (by kernel_rfl) (by kernel_rfl) (fun _ _ _ h => h) (Or.inl ⟨by rfl, ?hy22_22⟩) (by assumption) ?rest22_22
              case hy22_22 => (intro w9 hSw; obtain ⟨m0, m1, m2, m3⟩ := hSw; go_simp; try with_reducible rfl)
              try simp only [Act.put, List.setIfInBounds_toArray, List.set_cons_zero, List.set_cons_succ, List.getElem_toArray, List.getElem_cons_zero, List.getElem_cons_succ]
              refine wpAnyH_ready (rs := [23]) (by kernel_rfl) (by simp) ?_
              refine AllReadyH.cons rfl (fun K hK => ?_) AllReadyH.nil
              go_simp
              with_reducible refine (rSameAll_any hv hv2 (fun k hk => HSLL.out.at_ k)).mono ?_
              rintro e9 w8 ⟨rfl, hb⟩
              replace hc0 := cell_on hc0 hb
              replace hc1 := cell_on hc1 hb
              replace hd0 := cell_on hd0 hb
              replace hd1 := cell_on hd1 hb
              replace Rh := Rh.on hb
              replace Rg := Rg.on hb
              replace hv := hv.on hb
              replace hv2 := hv2.on hb
              replace bz := bz.trans (hb.mono bz.size)
              clear hb
              clear hS; refine hK.out _ _ ⟨hc0, hc1, hd0, hd1⟩ (fun hS => ?_); clear hK K
              try simp only [Act.put, List.setIfInBounds_toArray, List.set_cons_zero, List.set_cons_succ, List.getElem_toArray, List.getElem_cons_zero, List.getElem_cons_succ]
              refine wpAnyH_take (i := 24) (v := ?v24_23) rfl (by kernel_rfl) (by kernel_rfl) (by kernel_rfl) (fun _ _ _ h => h) (Or.inl ⟨by rfl, ?hy24_23⟩) (by assumption) ?rest24_23
              case hy24_23 => (intro w9 hSw; clear hSw; go_simp; try with_reducible rfl)
              try simp only [Act.put, List.setIfInBounds_toArray, List.set_cons_zero, List.set_cons_succ, List.getElem_toArray, List.getElem_cons_zero, List.getElem_cons_succ]
              refine wpAnyH_take (i := 25) (v := ?v25_24) rfl (by kernel_rfl) (by kernel_rfl) (by kernel_rfl) (fun _ _ _ h => h) (Or.inl ⟨by rfl, ?hy25_24⟩) (by assumption) ?rest25_24
              case hy25_24 => (intro w9 hSw; clear hSw; go_simp; try with_reducible rfl)
              try simp only [Act.put, List.setIfInBounds_toArray, List.set_cons_zero, List.set_cons_succ, List.getElem_toArray, List.getElem_cons_zero, List.getElem_cons_succ]
              refine wpAnyH_done (by kernel_rfl) ?_ _
              go_wp2_with fail
              go_roundw
              case rel => exact ⟨k + 1, by omega, by go_num, Rh, Rg, bz⟩
              case measure => simp [intOf]; omega
          · as_aux_lemma =>
              have k1 : ¬ (k : Int) < K := by omega
              go_wp2_with fail
              with_reducible refine (known_any _).mono ?_
              rintro e9 w9 ⟨rfl, hb⟩
              go_wp2_with fail
              go_ret
              exact ⟨rfl, bz.trans (hb.mono bz.size)⟩
    · as_aux_lemma =>
        have pr := gReduce_no (R := R) (C := C) h HE.out hE0
        have d1 : (E != 0) = true := by simpa using hE0
        have d2 : (E != E) = false := by simp
        obtain ⟨m00, m01, m02, _, _, _⟩ := Mbx.cells DM
        go_wp2_with fail
        clear m00 m01 m02
        with_reducible refine (pr).mono ?_
        rintro e9 w2 ⟨rfl, hb⟩
        replace h := h.on hb
        replace DM := DM.on hb
        replace FW := FW.on hb
        replace DW := DW.on hb
        replace bz := bz.trans (hb.mono bz.size)
        clear hb
        clear pr
        have DT := Blk.new w2 [.slice none 0 0, .slice none 0 0] 28
        obtain ⟨bDT, eDT⟩ : ∃ H, w2.heap.size = H := ⟨_, rfl⟩
        rw [eDT] at DT
        have hbA := (Below.refl _ w2).alloc (Nat.le_refl _) (.cells #[.slice none 0 0, .slice none 0 0] 28)
        replace h := h.on hbA
        replace DM := DM.on hbA
        replace FW := FW.on hbA
        replace DW := DW.on hbA
        replace bz := bz.trans (hbA.mono bz.size)
        clear hbA
        go_upto_region 5 with fail
        try simp only [eDT] at ⊢
        clear eDT
        generalize w2.alloc (.cells #[.slice none 0 0, .slice none 0 0] 28) = VDT at h DM FW DW DT bz ⊢
        have pw := rWrong10_any (R := R) (C := C) h
        rw [HE.out] at pw
        obtain ⟨m00, m01, m02, _, _, _⟩ := Mbx.cells DM
        go_wp2_with fail
        clear m00 m01 m02
        with_reducible refine (pw).mono ?_
        rintro e9 w3 ⟨rfl, hb⟩
        replace h := h.on hb
        replace DM := DM.on hb
        replace FW := FW.on hb
        replace DW := DW.on hb
        replace DT := DT.on hb
        replace bz := bz.trans (hb.mono bz.size)
        clear hb
        clear pw
        have ps := rSameM_any (R := R) (C := C) FW h (fun k hk => rfl)
        obtain ⟨m00, m01, m02, _, _, _⟩ := Mbx.cells DW
        obtain ⟨m10, m11, m12, _, _, _⟩ := Mbx.cells DM
        go_wp2_with fail
        clear m00 m01 m02 m10 m11 m12
        with_reducible refine (ps).mono ?_
        rintro e9 w4 ⟨rfl, hb⟩
        replace h := h.on hb
        replace DM := DM.on hb
        replace FW := FW.on hb
        replace DW := DW.on hb
        replace DT := DT.on hb
        replace bz := bz.trans (hb.mono bz.size)
        clear hb
        clear ps h FW DM DW
        have pt := sameTri_any (FL.nil w4) (FL.nil w4) (FL.nil w4) (FL.nil w4) rfl rfl
        obtain ⟨m00, m01, _, _⟩ := Tbx.cells DT
        go_wp2_with fail
        clear m00 m01
        with_reducible refine (pt).mono ?_
        rintro e9 w5 ⟨rfl, hb⟩
        replace DT := DT.on hb
        replace bz := bz.trans (hb.mono bz.size)
        clear hb
        clear pt
        go_wp2_with fail
        with_reducible refine (known_any _).mono ?_
        rintro e9 w9 ⟨rfl, hb⟩
        go_wp2_with fail
        go_ret
        exact ⟨rfl, bz.trans (hb.mono bz.size)⟩
end Go.Proofs.Ytaemkjcmjgefeaa
