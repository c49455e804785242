/-
  Layer 10, walks: a step of the reduction, by the program. (Written by wip/tools/gen_tdp.py.)
-/
import Derived.Test.YtaemkjcmjgefeaaTdO
import Derived.Test.YtaemkjcmjgefeaaQVxS
namespace Go.Proofs.Ytaemkjcmjgefeaa
open Go.RowKit Go.Bw
set_option linter.unusedVariables false
set_option linter.unusedSimpArgs false
theorem run_store_func {P : Program} {w : World} {a : Addr} {m : Mode} (f : Fn) (cs ps : Array Value) : (store a (.func f cs ps) m).run P w = stored P w a (.func f cs ps) m := run_store P w a _ m rfl
attribute [local go_sem] run_store_float run_store_func
def TnP (w : World) (g n k : Nat) (L : List Int) (e : Ending) (w' : World) : Prop := ∃ L', e = .returned (.tuple #[]) ∧ RowF w' g L' ∧ Is L' (n * n) (tdF L n k) ∧ w.grownBy w' (some g)
set_option maxRecDepth 100000 in
set_option maxHeartbeats 16000000 in
theorem gturn_any {w : World} {g  vc t f k n N m : Nat} {VA : Option Addr} {L v : List Int} (HR : RowF w g L) (hw : Wd L) (hl : L.length = N) (hN : N = n * n) (hn : n ≤ 512) (h : FL w VA m vc v) (ht : t ≤ 18446744073709551615)
    (hf : k + 1 = f) (hm : m = n - 1 - k) (hk : k + 1 < n) (hT : af t = tdT L n k) (hV : Is v m (tdV L n k)) (hVA : ∀ a, VA = some a → a.block ≠ g) :
    Calls Try.prog 26 #[.slice (some ⟨g, 0, none⟩) N N, .int .i64 n, .int .i64 f, rV VA m vc t] w (TnP w g n k L) := by
  have n4 : N ≤ 262144 := by rw [hN]; exact Nat.le_trans (Nat.mul_le_mul hn hn) (by decide)
  have mmx := h.max
  have hm5 : m ≤ 512 := by omega
  have g0 := HR.lt
  have hfm : f + m = n := by omega
  have m0 : 0 < m := by omega
  have hub : ∀ a, VA = some a → a.block < w.heap.size := fun a e => by obtain ⟨y, e2, hy, _⟩ := h.at_ m0; rw [e2] at e; injection e with e; rw [← e]; exact hy
  have b0 : (0 : Nat) ≤ 18446744073709551615 := by omega
  have b05 : (4602678819172646912 : Nat) ≤ 18446744073709551615 := by omega
  have af05 : Hid (af 4602678819172646912 = some 4602678819172646912) := Lib.hid (by decide)
  have HZ : Hid (tdZ L n k = (FloatKind.f64.format.order t 0 == some .eq)) := Lib.hid (by unfold tdZ; rw [← hT, ← af_zero, eq_is ht b0])
  have HN := Lib.hid hN
  have HL := Lib.hid hl
  have HM := Lib.hid hm
  have HT := Lib.hid hT
  have HV := Lib.hid hV
  have HF := Lib.hid hf
  have HFM := Lib.hid hfm
  clear hN hl hm hT hV hf hfm
  have bz := ((((Below.refl _ w).alloc (Nat.le_refl _) (.cells #[.slice (some ⟨g, 0, none⟩) N N] 22)).alloc (by simp) (.cells #[.int .i64 n] 3)).alloc (by simp; omega) (.cells #[.int .i64 f] 3)).alloc (by simp; omega) (.cells #[.slice VA m vc, .float .f64 t] 41)
  have DE := (((Blk.new w [.slice (some ⟨g, 0, none⟩) N N] 22).alloc (.cells #[.int .i64 n] 3)).alloc (.cells #[.int .i64 f] 3)).alloc (.cells #[.slice VA m vc, .float .f64 t] 41)
  have DN := ((Blk.new (w.alloc (.cells #[.slice (some ⟨g, 0, none⟩) N N] 22)) [.int .i64 n] 3).alloc (.cells #[.int .i64 f] 3)).alloc (.cells #[.slice VA m vc, .float .f64 t] 41)
  have DF := (Blk.new ((w.alloc (.cells #[.slice (some ⟨g, 0, none⟩) N N] 22)).alloc (.cells #[.int .i64 n] 3)) [.int .i64 f] 3).alloc (.cells #[.slice VA m vc, .float .f64 t] 41)
  have DH := Blk.new (((w.alloc (.cells #[.slice (some ⟨g, 0, none⟩) N N] 22)).alloc (.cells #[.int .i64 n] 3)).alloc (.cells #[.int .i64 f] 3)) [.slice VA m vc, .float .f64 t] 41
  simp only [World.size_alloc] at DN DF DH
  replace h := h.on bz
  replace HR := HR.on bz
  have hsz : ((((w.alloc (.cells #[.slice (some ⟨g, 0, none⟩) N N] 22)).alloc (.cells #[.int .i64 n] 3)).alloc (.cells #[.int .i64 f] 3)).alloc (.cells #[.slice VA m vc, .float .f64 t] 41)).heap.size = w.heap.size + 1 + 1 + 1 + 1 := by simp
  cases cz : (FloatKind.f64.format.order t 0 == some .eq)
  · rw [cz] at HZ
    go_enter Try.func26, Try.ntmps26
    go_upto_region 2 with fail
    generalize ((((w.alloc (.cells #[.slice (some ⟨g, 0, none⟩) N N] 22)).alloc (.cells #[.int .i64 n] 3)).alloc (.cells #[.int .i64 f] 3)).alloc (.cells #[.slice VA m vc, .float .f64 t] 41)) = W0 at h HR DE DN DF DH bz hsz ⊢
    replace h := h.drew
    replace HR := HR.drew
    replace DE := DE.drew
    replace DN := DN.drew
    replace DF := DF.drew
    replace DH := DH.drew
    replace bz := bz.drew
    clear hsz
    rename_i K0 hK0
    have key : ∀ (HDV HDS : Nat) (W9 : World) (X10 X11 X12 X13 X14 X15 X16 X17 X18 X19 X20 X21 X22 X23 X24 X25 X26 X27 X28 X29 X30 X31 X32 X33 X34 X35 X36 X37 X38 X39 X40 X41 X42 X43 X44 X45 X46 X47 X48 X49 X50 X51 X52 X53 X54 X55 X56 X57 X58 X59 X60 X61 X62 X63 X64 X65 X66 X67 X68 X69 X70 X71 X72 X73 X74 X75 X76 X77 : Value), Blk W9 w.heap.size [.slice (some ⟨g, 0, none⟩) N N] → Blk W9 (w.heap.size + 1) [.int .i64 n] → Blk W9 (w.heap.size + 1 + 1) [.int .i64 f] → Rbx W9 (w.heap.size + 1 + 1 + 1) VA m vc t → RowF W9 g L → FL W9 VA m vc v → Blk W9 HDV [.slice VA m vc] → Blk W9 HDS [.int .i64 m] → Below w.heap.size w W9 → w.heap.size + 1 + 1 + 1 < HDV → w.heap.size + 1 + 1 + 1 < HDS → K0 { tmps := #[.slice (some ⟨g, 0, none⟩) N N, .int .i64 n, .int .i64 f, rV VA m vc t, .pointer (some ⟨w.heap.size, 0, none⟩), .pointer (some ⟨w.heap.size + 1, 0, none⟩), .pointer (some ⟨w.heap.size + 1 + 1, 0, none⟩), .pointer (some ⟨w.heap.size + 1 + 1 + 1, 0, none⟩), .pointer (some ⟨HDV, 0, none⟩), .pointer (some ⟨HDS, 0, none⟩), X10, X11, X12, X13, X14, X15, X16, X17, X18, X19, X20, X21, X22, X23, X24, X25, X26, X27, X28, X29, X30, X31, X32, X33, X34, X35, X36, X37, X38, X39, X40, X41, X42, X43, X44, X45, X46, X47, X48, X49, X50, X51, X52, X53, X54, X55, X56, X57, X58, X59, X60, X61, X62, X63, X64, X65, X66, X67, X68, X69, X70, X71, X72, X73, X74, X75, X76, X77], defers := [] } W9 := by
      as_aux_lemma =>
        intro HDV HDS W9 X10 X11 X12 X13 X14 X15 X16 X17 X18 X19 X20 X21 X22 X23 X24 X25 X26 X27 X28 X29 X30 X31 X32 X33 X34 X35 X36 X37 X38 X39 X40 X41 X42 X43 X44 X45 X46 X47 X48 X49 X50 X51 X52 X53 X54 X55 X56 X57 X58 X59 X60 X61 X62 X63 X64 X65 X66 X67 X68 X69 X70 X71 X72 X73 X74 X75 X76 X77 DE DN DF DH HR h DV DS bz hlV hlS
        have cDE := Blk.cell DE 0 rfl
        have cDN := Blk.cell DN 0 rfl
        have cDF := Blk.cell DF 0 rfl
        have cDS := Blk.cell DS 0 rfl
        have cDV := Blk.cell DV 0 rfl
        obtain ⟨cH0, cH1, _, _⟩ := Rbx.cells DH
        go_upto_region 4 with fail
        clear cDE cDN cDF cDS cDV cH0 cH1
        have DC := Blk.new W9 [(.func (.func 44) #[] #[.pointer (some ⟨w.heap.size, 0, none⟩), .pointer (some ⟨w.heap.size + 1 + 1, 0, none⟩), .pointer (some ⟨w.heap.size + 1, 0, none⟩), .pointer (some ⟨HDS, 0, none⟩)])] 71
        obtain ⟨HDC, eDC⟩ : ∃ H, W9.heap.size = H := ⟨_, rfl⟩
        rw [eDC] at DC
        have hlC : w.heap.size + 1 + 1 + 1 < HDC := by have := DH.lt; omega
        have hbA := (Below.refl _ W9).alloc (Nat.le_refl _) (.cells #[(.func (.func 44) #[] #[.pointer (some ⟨w.heap.size, 0, none⟩), .pointer (some ⟨w.heap.size + 1 + 1, 0, none⟩), .pointer (some ⟨w.heap.size + 1, 0, none⟩), .pointer (some ⟨HDS, 0, none⟩)])] 71)
        replace DE := DE.on hbA
        replace DN := DN.on hbA
        replace DF := DF.on hbA
        replace DH := DH.on hbA
        replace HR := HR.on hbA
        replace h := h.on hbA
        replace DV := DV.on hbA
        replace DS := DS.on hbA
        clear hbA
        replace bz := bz.alloc bz.size (.cells #[(.func (.func 44) #[] #[.pointer (some ⟨w.heap.size, 0, none⟩), .pointer (some ⟨w.heap.size + 1 + 1, 0, none⟩), .pointer (some ⟨w.heap.size + 1, 0, none⟩), .pointer (some ⟨HDS, 0, none⟩)])] 71)
        try simp only [eDC] at ⊢
        clear eDC
        generalize W9.alloc (.cells #[(.func (.func 44) #[] #[.pointer (some ⟨w.heap.size, 0, none⟩), .pointer (some ⟨w.heap.size + 1 + 1, 0, none⟩), .pointer (some ⟨w.heap.size + 1, 0, none⟩), .pointer (some ⟨HDS, 0, none⟩)])] 71) = W10 at DE DN DF DH HR h DV DS DC bz ⊢
        have HCp : Hid (∀ W, Below W10.heap.size W10 W → ∀ i, i < m → Calls Try.prog 45 #[.int .i64 i, .pointer (some ⟨w.heap.size + 1 + 1 + 1, 0, none⟩), .pointer (some ⟨HDC, 0, none⟩), .pointer (some ⟨HDV, 0, none⟩)] W (FB ((tdP L n k) i) W)) := Lib.hid (fun W hd i hi => by
          have h9 := turn2_any (HR.on hd) hw HL.out (h.on hd) ht HN.out hn (DH.on hd) (DC.on hd) (DV.on hd) (DE.on hd) (DF.on hd) (DN.on hd) (DS.on hd) hi HFM.out
          have e9 : aop .mul (af t) (sumA (fun j => aop .mul (ma L n (f + i) (f + j)) (fa (D v j))) m) = tdP L n k i := by
            unfold tdP
            rw [HT.out, ← HM.out, ← HF.out]
            congr 1
            exact sumA_congr (fun j hj => by rw [HV.out.at_ j hj])
          rw [e9] at h9
          exact h9)
        have pp := list_p (w.heap.size + 1 + 1 + 1) HDC HDV _ m (by omega) HCp
        have cDS := Blk.cell DS 0 rfl
        go_wp2_with fail
        with_reducible refine (pp).mono ?_
        rintro e w1 ⟨gp, P, rfl, RP, hgp, IP, hb⟩
        clear pp HCp cDS
        replace DE := DE.on hb
        replace DN := DN.on hb
        replace DF := DF.on hb
        replace DH := DH.on hb
        replace HR := HR.on hb
        replace h := h.on hb
        replace DV := DV.on hb
        replace DS := DS.on hb
        replace DC := DC.on hb
        replace bz := bz.trans (hb.mono bz.size)
        have HIP := Lib.hid IP
        clear IP hb
        have DP := Blk.new w1 [.slice (some ⟨gp, 0, none⟩) m m] 22
        obtain ⟨HDP, eDP⟩ : ∃ H, w1.heap.size = H := ⟨_, rfl⟩
        rw [eDP] at DP
        have hlP : w.heap.size + 1 + 1 + 1 < HDP := by have := DH.lt; omega
        have hgp2 : gp < HDP := by have := RP.lt; omega
        have hbA := (Below.refl _ w1).alloc (Nat.le_refl _) (.cells #[.slice (some ⟨gp, 0, none⟩) m m] 22)
        replace DE := DE.on hbA
        replace DN := DN.on hbA
        replace DF := DF.on hbA
        replace DH := DH.on hbA
        replace HR := HR.on hbA
        replace h := h.on hbA
        replace DV := DV.on hbA
        replace DS := DS.on hbA
        replace DC := DC.on hbA
        replace RP := RP.on hbA
        clear hbA
        replace bz := bz.alloc bz.size (.cells #[.slice (some ⟨gp, 0, none⟩) m m] 22)
        go_upto_region 5 with fail
        try simp only [eDP] at ⊢
        clear eDP
        generalize w1.alloc (.cells #[.slice (some ⟨gp, 0, none⟩) m m] 22) = W11 at DE DN DF DH HR h DV DS DC RP DP bz ⊢
        replace DE := DE.drew
        replace DN := DN.drew
        replace DF := DF.drew
        replace DH := DH.drew
        replace HR := HR.drew
        replace h := h.drew
        replace DV := DV.drew
        replace DS := DS.drew
        replace DC := DC.drew
        replace RP := RP.drew
        replace DP := DP.drew
        replace bz := bz.drew
        skip
        rename_i K0 hK0
        have key : ∀ (HDK c : Nat) (W12 : World) (X13 X14 X15 X16 X17 X18 X19 X20 X21 X22 X23 X24 X25 X26 X27 X28 X29 X30 X31 X32 X33 X34 X35 X36 X37 X38 X39 X40 X41 X42 X43 X44 X45 X46 X47 X48 X49 X50 X51 X52 X53 X54 X55 X56 X57 X58 X59 X60 X61 X62 X63 X64 X65 X66 X67 X68 X69 X70 X71 X72 X73 X74 X75 X76 X77 : Value), Blk W12 w.heap.size [.slice (some ⟨g, 0, none⟩) N N] → Blk W12 (w.heap.size + 1) [.int .i64 n] → Blk W12 (w.heap.size + 1 + 1) [.int .i64 f] → Rbx W12 (w.heap.size + 1 + 1 + 1) VA m vc t → RowF W12 g L → FL W12 VA m vc v → Blk W12 HDV [.slice VA m vc] → Blk W12 HDS [.int .i64 m] → Blk W12 HDC [(.func (.func 44) #[] #[.pointer (some ⟨w.heap.size, 0, none⟩), .pointer (some ⟨w.heap.size + 1 + 1, 0, none⟩), .pointer (some ⟨w.heap.size + 1, 0, none⟩), .pointer (some ⟨HDS, 0, none⟩)])] → RowF W12 gp P → Blk W12 HDP [.slice (some ⟨gp, 0, none⟩) m m] → Blk W12 HDK [.float .f64 c] → Below w.heap.size w W12 → Hid (af c = tdC L n k) → c ≤ 18446744073709551615 → w.heap.size + 1 + 1 + 1 < HDK → K0 { tmps := #[.slice (some ⟨g, 0, none⟩) N N, .int .i64 n, .int .i64 f, rV VA m vc t, .pointer (some ⟨w.heap.size, 0, none⟩), .pointer (some ⟨w.heap.size + 1, 0, none⟩), .pointer (some ⟨w.heap.size + 1 + 1, 0, none⟩), .pointer (some ⟨w.heap.size + 1 + 1 + 1, 0, none⟩), .pointer (some ⟨HDV, 0, none⟩), .pointer (some ⟨HDS, 0, none⟩), .pointer (some ⟨HDC, 0, none⟩), .pointer (some ⟨HDP, 0, none⟩), .pointer (some ⟨HDK, 0, none⟩), X13, X14, X15, X16, X17, X18, X19, X20, X21, X22, X23, X24, X25, X26, X27, X28, X29, X30, X31, X32, X33, X34, X35, X36, X37, X38, X39, X40, X41, X42, X43, X44, X45, X46, X47, X48, X49, X50, X51, X52, X53, X54, X55, X56, X57, X58, X59, X60, X61, X62, X63, X64, X65, X66, X67, X68, X69, X70, X71, X72, X73, X74, X75, X76, X77], defers := [] } W12 := by
          as_aux_lemma =>
            intro HDK c W12 X13 X14 X15 X16 X17 X18 X19 X20 X21 X22 X23 X24 X25 X26 X27 X28 X29 X30 X31 X32 X33 X34 X35 X36 X37 X38 X39 X40 X41 X42 X43 X44 X45 X46 X47 X48 X49 X50 X51 X52 X53 X54 X55 X56 X57 X58 X59 X60 X61 X62 X63 X64 X65 X66 X67 X68 X69 X70 X71 X72 X73 X74 X75 X76 X77 DE DN DF DH HR h DV DS DC RP DP DK bz HC bc hlK
            have hs12 := bz.size
            have HCw : Hid (∀ W, Below W12.heap.size W12 W → ∀ i, i < m → Calls Try.prog 47 #[.int .i64 i, .pointer (some ⟨HDP, 0, none⟩), .pointer (some ⟨HDK, 0, none⟩), .pointer (some ⟨HDV, 0, none⟩)] W (FB ((tdW L n k) i) W)) := Lib.hid (fun W hd i hi => by
              have h9 := turn3_any (RP.on hd) HIP.out.wd HIP.out.len (h.on hd) bc (DP.on hd) (DK.on hd) (DV.on hd) hi
              rw [HIP.out.at_ i hi, HC.out, HV.out.at_ i hi] at h9
              exact h9)
            have pw := list_w HDP HDK HDV _ m (by omega) HCw
            have cDS := Blk.cell DS 0 rfl
            go_wp2_with fail
            with_reducible refine (pw).mono ?_
            rintro e w2 ⟨gw, Wl, rfl, RW, hgw, IW, hb⟩
            clear pw HCw cDS
            replace DE := DE.on hb
            replace DN := DN.on hb
            replace DF := DF.on hb
            replace DH := DH.on hb
            replace HR := HR.on hb
            replace h := h.on hb
            replace DV := DV.on hb
            replace DS := DS.on hb
            replace DC := DC.on hb
            replace RP := RP.on hb
            replace DP := DP.on hb
            replace DK := DK.on hb
            replace bz := bz.trans (hb.mono bz.size)
            have HIW := Lib.hid IW
            clear IW hb
            clear DP
            clear DK
            clear RP
            have cDS := Blk.cell DS 0 rfl
            have hgr : w.grownBy w2 (some g) := grown_below bz _
            have hU := Lib.hid (Up.start (n := n) (k := k) (by rw [HL.out]; exact HN.out) hw)
            rw [HF.out] at hU
            have hgw2 : g ≠ gw := by have := hgw; omega
            clear bz
            go_wp2_with fail
            clear cDS
            go_loopw [41, 14, 15, 16] (fun i i2 i3 i4 wr => ∃ (a : Nat) (L2 : List Int), a ≤ m ∧ i = .int .i64 a ∧ Hid (Up n k (f + a) f L L2) ∧ RowF wr g L2 ∧ Blk wr w.heap.size [.slice (some ⟨g, 0, none⟩) N N] ∧ Blk wr (w.heap.size + 1) [.int .i64 n] ∧ Blk wr (w.heap.size + 1 + 1) [.int .i64 f] ∧ Blk wr HDV [.slice VA m vc] ∧ Blk wr HDS [.int .i64 m] ∧ Blk wr HDC [(.func (.func 44) #[] #[.pointer (some ⟨w.heap.size, 0, none⟩), .pointer (some ⟨w.heap.size + 1 + 1, 0, none⟩), .pointer (some ⟨w.heap.size + 1, 0, none⟩), .pointer (some ⟨HDS, 0, none⟩)])] ∧ FL wr VA m vc v ∧ RowF wr gw Wl ∧ w.grownBy wr (some g)) (fun i _ _ _ _ => m - (intOf i).toNat)
            case atStart => exact ⟨0, L, Nat.zero_le _, rfl, hU, HR, DE, DN, DF, DV, DS, DC, h, RW, hgr⟩
            case round =>
              clear hU HR DE DN DF DV DS DC h RW hgr DH
              obtain ⟨a, L2, ha, rfl, hU, HR, DE, DN, DF, DV, DS, DC, h, RW, hgr⟩ := hrel
              have a0 : (0 : Int) ≤ a := by omega
              by_cases hat : a < m
              · have a1 : (a : Int) < m := by omega
                have cDC := Blk.cell DC 0 rfl
                have cDS := Blk.cell DS 0 rfl
                have pr := row_any (g := g) HN.out hn DE DF DN DS hat HFM.out
                obtain ⟨o, ho⟩ : ∃ o, (f + a) * n + f = o := ⟨_, rfl⟩
                rw [ho] at pr
                have HO := Lib.hid ho
                clear ho
                have hend : o + m ≤ N := by
                  have h9 := ix_lt (i := f + a) (j := n - 1) (m := n) (q := n) (by have := HFM.out; omega) (by omega)
                  have e1 := HO.out
                  have e2 := HFM.out
                  rw [HN.out]; omega
                go_wp2_with fail
                clear cDC cDS
                with_reducible refine pr.mono ?_
                rintro e w3 ⟨rfl, dq⟩
                clear pr
                have hb := dq.below wr.heap.size
                replace HR := HR.on hb
                replace DE := DE.on hb
                replace DN := DN.on hb
                replace DF := DF.on hb
                replace DV := DV.on hb
                replace DS := DS.on hb
                replace DC := DC.on hb
                replace h := h.on hb
                replace RW := RW.on hb
                replace hgr := grown_on hgr hb
                clear hb dq
                have cDS := Blk.cell DS 0 rfl
                go_wp2_with fail
                clear cDS
                go_loopw [48, 16] (fun i i2 wr => ∃ (b : Nat) (L2 : List Int), b ≤ m ∧ i = .int .i64 b ∧ Hid (Up n k (f + a) (f + b) L L2) ∧ RowF wr g L2 ∧ Blk wr w.heap.size [.slice (some ⟨g, 0, none⟩) N N] ∧ Blk wr (w.heap.size + 1) [.int .i64 n] ∧ Blk wr (w.heap.size + 1 + 1) [.int .i64 f] ∧ Blk wr HDV [.slice VA m vc] ∧ Blk wr HDS [.int .i64 m] ∧ Blk wr HDC [(.func (.func 44) #[] #[.pointer (some ⟨w.heap.size, 0, none⟩), .pointer (some ⟨w.heap.size + 1 + 1, 0, none⟩), .pointer (some ⟨w.heap.size + 1, 0, none⟩), .pointer (some ⟨HDS, 0, none⟩)])] ∧ FL wr VA m vc v ∧ RowF wr gw Wl ∧ w.grownBy wr (some g)) (fun i _ _ => m - (intOf i).toNat)
                case atStart => exact ⟨0, L2, Nat.zero_le _, rfl, hU, HR, DE, DN, DF, DV, DS, DC, h, RW, hgr⟩
                case round =>
                  clear hU HR DE DN DF DV DS DC h RW hgr
                  obtain ⟨b, L3, hb, rfl, hU, HR, DE, DN, DF, DV, DS, DC, h, RW, hgr⟩ := hrel
                  have b0i : (0 : Int) ≤ b := by omega
                  by_cases hbt : b < m
                  · have b1i : (b : Int) < m := by omega
                    as_aux_lemma =>
                      have hz : (f + a) * n + (f + b) = o + b := by rw [← HO.out]; omega
                      have HZZ := Lib.hid hz
                      clear hz
                      have hLl : L3.length = N := by rw [hU.out.len, HN.out]
                      have hoN : o + b < N := by omega
                      have hEc : m ≤ N - o := by omega
                      obtain ⟨hcA, _⟩ := HR.at_ (k := o + b) (by rw [hLl]; exact hoN)
                      have HYA : Hid (af (D L3 (o + b)).toNat = ma L n (f + a) (f + b)) := Lib.hid (by have h9 := hU.out.old (by have := HFM.out; omega) (by have := HFM.out; omega); rw [← h9]; unfold ma; rw [HZZ.out]; rfl)
                      obtain ⟨x0, x1⟩ := hU.out.wd.at_ (o + b)
                      have bA : (D L3 (o + b)).toNat ≤ 18446744073709551615 := by omega
                      obtain ⟨ad, hA, _, hcV⟩ := h.at_ hat
                      obtain ⟨ad2, hA2, _, hcU⟩ := h.at_ hbt
                      have e12 : ad2 = ad := by rw [hA] at hA2; injection hA2 with e9; exact e9.symm
                      subst e12
                      clear hA2
                      subst hA
                      obtain ⟨x2, x3⟩ := h.2.2.at_ a
                      obtain ⟨x4, x5⟩ := h.2.2.at_ b
                      have bV : (D v a).toNat ≤ 18446744073709551615 := by omega
                      have bU : (D v b).toNat ≤ 18446744073709551615 := by omega
                      have HYV : Hid (af (D v a).toNat = tdV L n k a) := Lib.hid (HV.out.at_ a hat)
                      have HYU : Hid (af (D v b).toNat = tdV L n k b) := Lib.hid (HV.out.at_ b hbt)
                      obtain ⟨hcX, _⟩ := RW.at_ (k := a) (by rw [HIW.out.len]; exact hat)
                      obtain ⟨hcW, _⟩ := RW.at_ (k := b) (by rw [HIW.out.len]; exact hbt)
                      obtain ⟨x6, x7⟩ := HIW.out.wd.at_ a
                      obtain ⟨x8, x9⟩ := HIW.out.wd.at_ b
                      have bX : (D Wl a).toNat ≤ 18446744073709551615 := by omega
                      have bW : (D Wl b).toNat ≤ 18446744073709551615 := by omega
                      have HYX : Hid (af (D Wl a).toNat = tdW L n k a) := Lib.hid (HIW.out.at_ a hat)
                      have HYW : Hid (af (D Wl b).toNat = tdW L n k b) := Lib.hid (HIW.out.at_ b hbt)
                      have hfr := RowF.frozen HR (o + b)
                      clear x0 x1 x2 x3 x4 x5 x6 x7 x8 x9
                      generalize (D L3 (o + b)).toNat = YA at *
                      generalize (D v a).toNat = YV at *
                      generalize (D v b).toNat = YU at *
                      generalize (D Wl a).toNat = YX at *
                      generalize (D Wl b).toNat = YW at *
                      have dr : Dr wr wr.drew := ⟨1, rfl⟩
                      have cV9 : wr.drew.cell? ⟨HDV, 0, none⟩ = some (.slice (some ad2) m vc) := Blk.cell DV 0 rfl
                      replace hcA : wr.drew.cell? ⟨g, o + b, none⟩ = some (.float .f64 YA) := hcA
                      replace hcV : wr.drew.cell? (ad2.add a) = some (.float .f64 YV) := hcV
                      replace hcU : wr.drew.cell? (ad2.add b) = some (.float .f64 YU) := hcU
                      replace hcX : wr.drew.cell? ⟨gw, a, none⟩ = some (.float .f64 YX) := hcX
                      replace hcW : wr.drew.cell? ⟨gw, b, none⟩ = some (.float .f64 YW) := hcW
                      replace hfr : wr.drew.frozen? ⟨g, o + b, none⟩ = false := hfr
                      go_wp2_with fail
                      have bz : Below wr.drew.heap.size wr.drew wr.drew := Below.refl _ _
                      refine wp_region_late [25] (S := fun w9 : World => w9.cell? ⟨HDV, 0, none⟩ = some (.slice (some ad2) m vc) ∧ w9.cell? ⟨g, o + b, none⟩ = some (.float .f64 YA) ∧ w9.cell? (ad2.add a) = some (.float .f64 YV) ∧ w9.cell? (ad2.add b) = some (.float .f64 YU) ∧ w9.cell? ⟨gw, a, none⟩ = some (.float .f64 YX) ∧ w9.cell? ⟨gw, b, none⟩ = some (.float .f64 YW) ∧ w9.frozen? ⟨g, o + b, none⟩ = false) (by kernel_rfl) ⟨cV9, hcA, hcV, hcU, hcX, hcW, hfr⟩ (fun hS => ?_)
                      generalize wr.drew = wl at hS  dr hcA hcV hcU hcX hcW hfr cV9 bz ⊢
                      refine wpAnyL_take (i := 0) (v := ?v0_38) rfl (by kernel_rfl) (by kernel_rfl) (by kernel_rfl) (fun _ _ _ h => h) (Or.inl ⟨by rfl, ?hy0_38⟩) (by assumption) ?rest0_38
                      case hy0_38 => (intro w9 hSw; clear hSw; go_simp; try with_reducible rfl)
                      try simp only [Act.put, List.setIfInBounds_toArray, List.set_cons_zero, List.set_cons_succ, List.getElem_toArray, List.getElem_cons_zero, List.getElem_cons_succ]
                      refine wpAnyL_take (i := 1) (v := ?v1_39) rfl (by kernel_rfl) (by kernel_rfl) (by kernel_rfl) (fun _ _ _ h => h) (Or.inl ⟨by rfl, ?hy1_39⟩) (by assumption) ?rest1_39
                      case hy1_39 => (intro w9 hSw; clear hSw; go_simp; try with_reducible rfl)
                      try simp only [Act.put, List.setIfInBounds_toArray, List.set_cons_zero, List.set_cons_succ, List.getElem_toArray, List.getElem_cons_zero, List.getElem_cons_succ]
                      refine wpAnyL_take (i := 2) (v := ?v2_40) rfl (by kernel_rfl) (by kernel_rfl) (by kernel_rfl) (fun _ _ _ h => h) (Or.inl ⟨by rfl, ?hy2_40⟩) (by assumption) ?rest2_40
                      case hy2_40 => (intro w9 hSw; clear hSw; go_simp; try with_reducible rfl)
                      try simp only [Act.put, List.setIfInBounds_toArray, List.set_cons_zero, List.set_cons_succ, List.getElem_toArray, List.getElem_cons_zero, List.getElem_cons_succ]
                      refine wpAnyL_take (i := 3) (v := ?v3_41) rfl (by kernel_rfl) (by kernel_rfl) (by kernel_rfl) (fun _ _ _ h => h) (Or.inl ⟨by rfl, ?hy3_41⟩) (by assumption) ?rest3_41
                      case hy3_41 => (intro w9 hSw; obtain ⟨m0, m1, m2, m3, m4, m5, m6⟩ := hSw; go_simp; try with_reducible rfl)
                      try simp only [Act.put, List.setIfInBounds_toArray, List.set_cons_zero, List.set_cons_succ, List.getElem_toArray, List.getElem_cons_zero, List.getElem_cons_succ]
                      refine wpAnyL_take (i := 4) (v := ?v4_42) rfl (by kernel_rfl) (by kernel_rfl) (by kernel_rfl) (fun _ _ _ h => h) (Or.inl ⟨by rfl, ?hy4_42⟩) (by assumption) ?rest4_42
                      case hy4_42 => (intro w9 hSw; obtain ⟨m0, m1, m2, m3, m4, m5, m6⟩ := hSw; go_simp; try with_reducible rfl)
                      try simp only [Act.put, List.setIfInBounds_toArray, List.set_cons_zero, List.set_cons_succ, List.getElem_toArray, List.getElem_cons_zero, List.getElem_cons_succ]
                      refine wpAnyL_take (i := 5) (v := ?v5_43) rfl (by kernel_rfl) (by kernel_rfl) (by kernel_rfl) (fun _ _ _ h => h) (Or.inl ⟨by rfl, ?hy5_43⟩) (by assumption) ?rest5_43
                      case hy5_43 => (intro w9 hSw; clear hSw; go_simp; try with_reducible rfl)
                      try simp only [Act.put, List.setIfInBounds_toArray, List.set_cons_zero, List.set_cons_succ, List.getElem_toArray, List.getElem_cons_zero, List.getElem_cons_succ]
                      refine wpAnyL_take (i := 6) (v := ?v6_44) rfl (by kernel_rfl) (by kernel_rfl) (by kernel_rfl) (fun _ _ _ h => h) (Or.inl ⟨by rfl, ?hy6_44⟩) (by assumption) ?rest6_44
                      case hy6_44 => (intro w9 hSw; clear hSw; go_simp; try with_reducible rfl)
                      try simp only [Act.put, List.setIfInBounds_toArray, List.set_cons_zero, List.set_cons_succ, List.getElem_toArray, List.getElem_cons_zero, List.getElem_cons_succ]
                      refine wpAnyL_take (i := 7) (v := ?v7_45) rfl (by kernel_rfl) (by kernel_rfl) (by kernel_rfl) (fun _ _ _ h => h) (Or.inl ⟨by rfl, ?hy7_45⟩) (by assumption) ?rest7_45
                      case hy7_45 => (intro w9 hSw; obtain ⟨m0, m1, m2, m3, m4, m5, m6⟩ := hSw; go_simp; try with_reducible rfl)
                      try simp only [Act.put, List.setIfInBounds_toArray, List.set_cons_zero, List.set_cons_succ, List.getElem_toArray, List.getElem_cons_zero, List.getElem_cons_succ]
                      refine wpAnyL_take (i := 8) (v := ?v8_46) rfl (by kernel_rfl) (by kernel_rfl) (by kernel_rfl) (fun _ _ _ h => h) (Or.inl ⟨by rfl, ?hy8_46⟩) (by assumption) ?rest8_46
                      case hy8_46 => (intro w9 hSw; clear hSw; go_simp; try with_reducible rfl)
                      try simp only [Act.put, List.setIfInBounds_toArray, List.set_cons_zero, List.set_cons_succ, List.getElem_toArray, List.getElem_cons_zero, List.getElem_cons_succ]
                      refine wpAnyL_take (i := 9) (v := ?v9_47) rfl (by kernel_rfl) (by kernel_rfl) (by kernel_rfl) (fun _ _ _ h => h) (Or.inl ⟨by rfl, ?hy9_47⟩) (by assumption) ?rest9_47
                      case hy9_47 => (intro w9 hSw; clear hSw; go_simp; try with_reducible rfl)
                      try simp only [Act.put, List.setIfInBounds_toArray, List.set_cons_zero, List.set_cons_succ, List.getElem_toArray, List.getElem_cons_zero, List.getElem_cons_succ]
                      refine wpAnyL_take (i := 10) (v := ?v10_48) rfl (by kernel_rfl) (by kernel_rfl) (by kernel_rfl) (fun _ _ _ h => h) (Or.inl ⟨by rfl, ?hy10_48⟩) (by assumption) ?rest10_48
                      case hy10_48 => (intro w9 hSw; clear hSw; go_simp; try with_reducible rfl)
                      try simp only [Act.put, List.setIfInBounds_toArray, List.set_cons_zero, List.set_cons_succ, List.getElem_toArray, List.getElem_cons_zero, List.getElem_cons_succ]
                      refine wpAnyL_take (i := 11) (v := ?v11_49) rfl (by kernel_rfl) (by kernel_rfl) (by kernel_rfl) (fun _ _ _ h => h) (Or.inl ⟨by rfl, ?hy11_49⟩) (by assumption) ?rest11_49
                      case hy11_49 => (intro w9 hSw; obtain ⟨m0, m1, m2, m3, m4, m5, m6⟩ := hSw; go_simp; try with_reducible rfl)
                      try simp only [Act.put, List.setIfInBounds_toArray, List.set_cons_zero, List.set_cons_succ, List.getElem_toArray, List.getElem_cons_zero, List.getElem_cons_succ]
                      refine wpAnyL_take (i := 13) (v := ?v13_50) rfl (by kernel_rfl) (by kernel_rfl) (by kernel_rfl) (fun _ _ _ h => h) (Or.inl ⟨by rfl, ?hy13_50⟩) (by assumption) ?rest13_50
                      case hy13_50 => (intro w9 hSw; clear hSw; go_simp; try with_reducible rfl)
                      try simp only [Act.put, List.setIfInBounds_toArray, List.set_cons_zero, List.set_cons_succ, List.getElem_toArray, List.getElem_cons_zero, List.getElem_cons_succ]
                      refine wpAnyL_take (i := 14) (v := ?v14_51) rfl (by kernel_rfl) (by kernel_rfl) (by kernel_rfl) (fun _ _ _ h => h) (Or.inl ⟨by rfl, ?hy14_51⟩) (by assumption) ?rest14_51
                      case hy14_51 => (intro w9 hSw; clear hSw; go_simp; try with_reducible rfl)
                      try simp only [Act.put, List.setIfInBounds_toArray, List.set_cons_zero, List.set_cons_succ, List.getElem_toArray, List.getElem_cons_zero, List.getElem_cons_succ]
                      refine wpAnyL_take (i := 15) (v := ?v15_52) rfl (by kernel_rfl) (by kernel_rfl) (by kernel_rfl) (fun _ _ _ h => h) (Or.inl ⟨by rfl, ?hy15_52⟩) (by assumption) ?rest15_52
                      case hy15_52 => (intro w9 hSw; clear hSw; go_simp; try with_reducible rfl)
                      try simp only [Act.put, List.setIfInBounds_toArray, List.set_cons_zero, List.set_cons_succ, List.getElem_toArray, List.getElem_cons_zero, List.getElem_cons_succ]
                      refine wpAnyL_take (i := 16) (v := ?v16_53) rfl (by kernel_rfl) (by kernel_rfl) (by kernel_rfl) (fun _ _ _ h => h) (Or.inl ⟨by rfl, ?hy16_53⟩) (by assumption) ?rest16_53
                      case hy16_53 => (intro w9 hSw; obtain ⟨m0, m1, m2, m3, m4, m5, m6⟩ := hSw; go_simp; try with_reducible rfl)
                      try simp only [Act.put, List.setIfInBounds_toArray, List.set_cons_zero, List.set_cons_succ, List.getElem_toArray, List.getElem_cons_zero, List.getElem_cons_succ]
                      refine wpAnyL_take (i := 17) (v := ?v17_54) rfl (by kernel_rfl) (by kernel_rfl) (by kernel_rfl) (fun _ _ _ h => h) (Or.inl ⟨by rfl, ?hy17_54⟩) (by assumption) ?rest17_54
                      case hy17_54 => (intro w9 hSw; obtain ⟨m0, m1, m2, m3, m4, m5, m6⟩ := hSw; go_simp; try with_reducible rfl)
                      try simp only [Act.put, List.setIfInBounds_toArray, List.set_cons_zero, List.set_cons_succ, List.getElem_toArray, List.getElem_cons_zero, List.getElem_cons_succ]
                      refine wpAnyL_take (i := 18) (v := ?v18_55) rfl (by kernel_rfl) (by kernel_rfl) (by kernel_rfl) (fun _ _ _ h => h) (Or.inl ⟨by rfl, ?hy18_55⟩) (by assumption) ?rest18_55
                      case hy18_55 => (intro w9 hSw; clear hSw; go_simp; try with_reducible rfl)
                      try simp only [Act.put, List.setIfInBounds_toArray, List.set_cons_zero, List.set_cons_succ, List.getElem_toArray, List.getElem_cons_zero, List.getElem_cons_succ]
                      refine wpAnyL_take (i := 19) (v := ?v19_56) rfl (by kernel_rfl) (by kernel_rfl) (by kernel_rfl) (fun _ _ _ h => h) (Or.inl ⟨by rfl, ?hy19_56⟩) (by assumption) ?rest19_56
                      case hy19_56 => (intro w9 hSw; clear hSw; go_simp; try with_reducible rfl)
                      try simp only [Act.put, List.setIfInBounds_toArray, List.set_cons_zero, List.set_cons_succ, List.getElem_toArray, List.getElem_cons_zero, List.getElem_cons_succ]
                      refine wpAnyL_take (i := 20) (v := ?v20_57) rfl (by kernel_rfl) (by kernel_rfl) (by kernel_rfl) (fun _ _ _ h => h) (Or.inl ⟨by rfl, ?hy20_57⟩) (by assumption) ?rest20_57
                      case hy20_57 => (intro w9 hSw; obtain ⟨m0, m1, m2, m3, m4, m5, m6⟩ := hSw; go_simp; try with_reducible rfl)
                      try simp only [Act.put, List.setIfInBounds_toArray, List.set_cons_zero, List.set_cons_succ, List.getElem_toArray, List.getElem_cons_zero, List.getElem_cons_succ]
                      refine wpAnyL_ready (rs := [12, 21]) (by kernel_rfl) (by simp) ?_
                      refine (AllReadyL.cons rfl (fun K hK => ?_) (AllReadyL.cons rfl (fun K hK => ?_) AllReadyL.nil))
                      · refine step_arith .mul (.inr (.inr (.inl rfl))) rfl _ _ _ _ YV YW rfl rfl rfl bV bW ?_
                        intro r1 w9_r1 hb9 hq9 b1 dq
                        have H1 := Lib.hid hq9
                        clear hq9 hb9
                        replace dr := dr.trans dq
                        have hSr1 := hS
                        obtain ⟨t1, ht9⟩ := dq
                        subst ht9
                        clear hS; refine hK.out _ _ hSr1 (fun hS => ?_); clear hK K
                        try simp only [Act.put, List.setIfInBounds_toArray, List.set_cons_zero, List.set_cons_succ, List.getElem_toArray, List.getElem_cons_zero, List.getElem_cons_succ]
                        refine wpAnyL_ready (rs := [21]) (by kernel_rfl) (by simp) ?_
                        refine AllReadyL.cons rfl (fun K hK => ?_) AllReadyL.nil
                        refine step_arith .mul (.inr (.inr (.inl rfl))) rfl _ _ _ _ YX YU rfl rfl rfl bX bU ?_
                        intro r2 w9_r2 hb9 hq9 b2 dq
                        have H2 := Lib.hid hq9
                        clear hq9 hb9
                        replace dr := dr.trans dq
                        have hSr2 := hS
                        obtain ⟨t2, ht9⟩ := dq
                        subst ht9
                        clear hS; refine hK.out _ _ hSr2 (fun hS => ?_); clear hK K
                        try simp only [Act.put, List.setIfInBounds_toArray, List.set_cons_zero, List.set_cons_succ, List.getElem_toArray, List.getElem_cons_zero, List.getElem_cons_succ]
                        refine wpAnyL_ready (rs := [22]) (by kernel_rfl) (by simp) ?_
                        refine AllReadyL.cons rfl (fun K hK => ?_) AllReadyL.nil
                        refine step_arith .add (.inl rfl) rfl _ _ _ _ r1 r2 rfl rfl rfl b1 b2 ?_
                        intro r3 w9_r3 hb9 hq9 b3 dq
                        have H3 := Lib.hid hq9
                        clear hq9 hb9
                        replace dr := dr.trans dq
                        have hSr3 := hS
                        obtain ⟨t3, ht9⟩ := dq
                        subst ht9
                        clear hS; refine hK.out _ _ hSr3 (fun hS => ?_); clear hK K
                        try simp only [Act.put, List.setIfInBounds_toArray, List.set_cons_zero, List.set_cons_succ, List.getElem_toArray, List.getElem_cons_zero, List.getElem_cons_succ]
                        refine wpAnyL_ready (rs := [23]) (by kernel_rfl) (by simp) ?_
                        refine AllReadyL.cons rfl (fun K hK => ?_) AllReadyL.nil
                        refine step_arith .sub (.inr (.inl rfl)) rfl _ _ _ _ YA r3 rfl rfl rfl bA b3 ?_
                        intro r4 w9_r4 hb9 hq9 b4 dq
                        have H4 := Lib.hid hq9
                        clear hq9 hb9
                        replace dr := dr.trans dq
                        have hSr4 := hS
                        obtain ⟨t4, ht9⟩ := dq
                        subst ht9
                        clear hS; refine hK.out _ _ hSr4 (fun hS => ?_); clear hK K
                        try simp only [Act.put, List.setIfInBounds_toArray, List.set_cons_zero, List.set_cons_succ, List.getElem_toArray, List.getElem_cons_zero, List.getElem_cons_succ]
                        refine wpAnyL_take (i := 24) (v := ?v24_58) rfl (by kernel_rfl) (by kernel_rfl) (by kernel_rfl) (fun _ _ _ h => h) (Or.inl ⟨by rfl, ?hy24_58⟩) (by assumption) ?rest24_58
                        case hy24_58 => (intro w9 hSw; clear hSw; go_simp; try with_reducible rfl)
                        try simp only [Act.put, List.setIfInBounds_toArray, List.set_cons_zero, List.set_cons_succ, List.getElem_toArray, List.getElem_cons_zero, List.getElem_cons_succ]
                        have c25 : ((((wl.drewN t1).drewN t2).drewN t3).drewN t4).cell? ⟨g, o + b, none⟩ = some (.float .f64 YA) := hS.2.1
                        have f25 : ((((wl.drewN t1).drewN t2).drewN t3).drewN t4).frozen? ⟨g, o + b, none⟩ = false := hS.2.2.2.2.2.2
                        refine wpAnyL_ready (rs := [25]) (by kernel_rfl) (by simp) ?_
                        refine AllReadyL.lat (by rfl) rfl (fun K hK => ?_) AllReadyL.nil
                        go_simp
                        clear c25 f25
                        refine hK.out _ _ trivial (fun _ => ?_)
                        clear hK K
                        try simp only [Act.put, List.setIfInBounds_toArray, List.set_cons_zero, List.set_cons_succ, List.getElem_toArray, List.getElem_cons_zero, List.getElem_cons_succ]
                        refine wpAnyL_done (by kernel_rfl) ?_ _
                        have HX4 : Hid (fa (r4 : Int) = tdN L n k (f + a) (f + b)) := Lib.hid (by
                          have e1 : f + a - k - 1 = a := by have := HF.out; omega
                          have e2 : f + b - k - 1 = b := by have := HF.out; omega
                          unfold tdN
                          rw [fa_nat, H4.out, H3.out, H1.out, H2.out, HYA.out, HYV.out, HYU.out, HYX.out, HYW.out, e1, e2])
                        have hbD := dr.below wr.heap.size
                        have hgs : ((((wl.drewN t1).drewN t2).drewN t3).drewN t4).grownBy (((((wl.drewN t1).drewN t2).drewN t3).drewN t4).setCell ⟨g, o + b, none⟩ (.float .f64 r4)) (some g) := grown_setCell (World.grownBy.refl ((((wl.drewN t1).drewN t2).drewN t3).drewN t4) _) _ _
                        have HR5 : RowF (((((wl.drewN t1).drewN t2).drewN t3).drewN t4).setCell ⟨g, o + b, none⟩ (.float .f64 r4)) g (L3.set (o + b) (r4 : Int)) := (HR.on hbD).set_ (o + b) (r4 : Int)
                        have DE5 := Blk.grown (Blk.on DE hbD) hgs (by simp <;> omega)
                        have DN5 := Blk.grown (Blk.on DN hbD) hgs (by simp <;> omega)
                        have DF5 := Blk.grown (Blk.on DF hbD) hgs (by simp <;> omega)
                        have DV5 := Blk.grown (Blk.on DV hbD) hgs (by simp <;> omega)
                        have DS5 := Blk.grown (Blk.on DS hbD) hgs (by simp <;> omega)
                        have DC5 := Blk.grown (Blk.on DC hbD) hgs (by simp <;> omega)
                        have h5 := (h.on hbD).farB hgs hVA
                        have RW5 := RowF.grown (RW.on hbD) hgs (by simp <;> omega)
                        have hgr5 := grown_setCell (grown_on hgr hbD) (o + b) (.float .f64 r4)
                        have HUn := Lib.hid (hU.out.set (by have := HFM.out; omega) (by have := HFM.out; omega) (by have := HF.out; omega) (by have := HF.out; omega) HZZ.out (x := (r4 : Int)) (by omega) (by omega) HX4.out)
                        go_wp2_with fail
                        go_roundw
                        case rel => exact ⟨b + 1, _, by omega, by go_num, HUn, HR5, DE5, DN5, DF5, DV5, DS5, DC5, h5, RW5, ⟨hgr5.os, hgr5.tape, hgr5.output, hgr5.size, hgr5.block⟩⟩
                        case measure => simp [intOf]; omega
                      refine step_arith .mul (.inr (.inr (.inl rfl))) rfl _ _ _ _ YX YU rfl rfl rfl bX bU ?_
                      intro r2 w9_r2 hb9 hq9 b2 dq
                      have H2 := Lib.hid hq9
                      clear hq9 hb9
                      replace dr := dr.trans dq
                      have hSr2 := hS
                      obtain ⟨t2, ht9⟩ := dq
                      subst ht9
                      clear hS; refine hK.out _ _ hSr2 (fun hS => ?_); clear hK K
                      try simp only [Act.put, List.setIfInBounds_toArray, List.set_cons_zero, List.set_cons_succ, List.getElem_toArray, List.getElem_cons_zero, List.getElem_cons_succ]
                      refine wpAnyL_ready (rs := [12]) (by kernel_rfl) (by simp) ?_
                      refine AllReadyL.cons rfl (fun K hK => ?_) AllReadyL.nil
                      refine step_arith .mul (.inr (.inr (.inl rfl))) rfl _ _ _ _ YV YW rfl rfl rfl bV bW ?_
                      intro r1 w9_r1 hb9 hq9 b1 dq
                      have H1 := Lib.hid hq9
                      clear hq9 hb9
                      replace dr := dr.trans dq
                      have hSr1 := hS
                      obtain ⟨t1, ht9⟩ := dq
                      subst ht9
                      clear hS; refine hK.out _ _ hSr1 (fun hS => ?_); clear hK K
                      try simp only [Act.put, List.setIfInBounds_toArray, List.set_cons_zero, List.set_cons_succ, List.getElem_toArray, List.getElem_cons_zero, List.getElem_cons_succ]
                      refine wpAnyL_ready (rs := [22]) (by kernel_rfl) (by simp) ?_
                      refine AllReadyL.cons rfl (fun K hK => ?_) AllReadyL.nil
                      refine step_arith .add (.inl rfl) rfl _ _ _ _ r1 r2 rfl rfl rfl b1 b2 ?_
                      intro r3 w9_r3 hb9 hq9 b3 dq
                      have H3 := Lib.hid hq9
                      clear hq9 hb9
                      replace dr := dr.trans dq
                      have hSr3 := hS
                      obtain ⟨t3, ht9⟩ := dq
                      subst ht9
                      clear hS; refine hK.out _ _ hSr3 (fun hS => ?_); clear hK K
                      try simp only [Act.put, List.setIfInBounds_toArray, List.set_cons_zero, List.set_cons_succ, List.getElem_toArray, List.getElem_cons_zero, List.getElem_cons_succ]
                      refine wpAnyL_ready (rs := [23]) (by kernel_rfl) (by simp) ?_
                      refine AllReadyL.cons rfl (fun K hK => ?_) AllReadyL.nil
                      refine step_arith .sub (.inr (.inl rfl)) rfl _ _ _ _ YA r3 rfl rfl rfl bA b3 ?_
                      intro r4 w9_r4 hb9 hq9 b4 dq
                      have H4 := Lib.hid hq9
                      clear hq9 hb9
                      replace dr := dr.trans dq
                      have hSr4 := hS
                      obtain ⟨t4, ht9⟩ := dq
                      subst ht9
                      clear hS; refine hK.out _ _ hSr4 (fun hS => ?_); clear hK K
                      try simp only [Act.put, List.setIfInBounds_toArray, List.set_cons_zero, List.set_cons_succ, List.getElem_toArray, List.getElem_cons_zero, List.getElem_cons_succ]
                      refine wpAnyL_take (i := 24) (v := ?v24_59) rfl (by kernel_rfl) (by kernel_rfl) (by kernel_rfl) (fun _ _ _ h => h) (Or.inl ⟨by rfl, ?hy24_59⟩) (by assumption) ?rest24_59
                      case hy24_59 => (intro w9 hSw; clear hSw; go_simp; try with_reducible rfl)
                      try simp only [Act.put, List.setIfInBounds_toArray, List.set_cons_zero, List.set_cons_succ, List.getElem_toArray, List.getElem_cons_zero, List.getElem_cons_succ]
                      have c25 : ((((wl.drewN t2).drewN t1).drewN t3).drewN t4).cell? ⟨g, o + b, none⟩ = some (.float .f64 YA) := hS.2.1
                      have f25 : ((((wl.drewN t2).drewN t1).drewN t3).drewN t4).frozen? ⟨g, o + b, none⟩ = false := hS.2.2.2.2.2.2
                      refine wpAnyL_ready (rs := [25]) (by kernel_rfl) (by simp) ?_
                      refine AllReadyL.lat (by rfl) rfl (fun K hK => ?_) AllReadyL.nil
                      go_simp
                      clear c25 f25
                      refine hK.out _ _ trivial (fun _ => ?_)
                      clear hK K
                      try simp only [Act.put, List.setIfInBounds_toArray, List.set_cons_zero, List.set_cons_succ, List.getElem_toArray, List.getElem_cons_zero, List.getElem_cons_succ]
                      refine wpAnyL_done (by kernel_rfl) ?_ _
                      have HX4 : Hid (fa (r4 : Int) = tdN L n k (f + a) (f + b)) := Lib.hid (by
                        have e1 : f + a - k - 1 = a := by have := HF.out; omega
                        have e2 : f + b - k - 1 = b := by have := HF.out; omega
                        unfold tdN
                        rw [fa_nat, H4.out, H3.out, H1.out, H2.out, HYA.out, HYV.out, HYU.out, HYX.out, HYW.out, e1, e2])
                      have hbD := dr.below wr.heap.size
                      have hgs : ((((wl.drewN t2).drewN t1).drewN t3).drewN t4).grownBy (((((wl.drewN t2).drewN t1).drewN t3).drewN t4).setCell ⟨g, o + b, none⟩ (.float .f64 r4)) (some g) := grown_setCell (World.grownBy.refl ((((wl.drewN t2).drewN t1).drewN t3).drewN t4) _) _ _
                      have HR5 : RowF (((((wl.drewN t2).drewN t1).drewN t3).drewN t4).setCell ⟨g, o + b, none⟩ (.float .f64 r4)) g (L3.set (o + b) (r4 : Int)) := (HR.on hbD).set_ (o + b) (r4 : Int)
                      have DE5 := Blk.grown (Blk.on DE hbD) hgs (by simp <;> omega)
                      have DN5 := Blk.grown (Blk.on DN hbD) hgs (by simp <;> omega)
                      have DF5 := Blk.grown (Blk.on DF hbD) hgs (by simp <;> omega)
                      have DV5 := Blk.grown (Blk.on DV hbD) hgs (by simp <;> omega)
                      have DS5 := Blk.grown (Blk.on DS hbD) hgs (by simp <;> omega)
                      have DC5 := Blk.grown (Blk.on DC hbD) hgs (by simp <;> omega)
                      have h5 := (h.on hbD).farB hgs hVA
                      have RW5 := RowF.grown (RW.on hbD) hgs (by simp <;> omega)
                      have hgr5 := grown_setCell (grown_on hgr hbD) (o + b) (.float .f64 r4)
                      have HUn := Lib.hid (hU.out.set (by have := HFM.out; omega) (by have := HFM.out; omega) (by have := HF.out; omega) (by have := HF.out; omega) HZZ.out (x := (r4 : Int)) (by omega) (by omega) HX4.out)
                      go_wp2_with fail
                      go_roundw
                      case rel => exact ⟨b + 1, _, by omega, by go_num, HUn, HR5, DE5, DN5, DF5, DV5, DS5, DC5, h5, RW5, ⟨hgr5.os, hgr5.tape, hgr5.output, hgr5.size, hgr5.block⟩⟩
                      case measure => simp [intOf]; omega
                  · obtain rfl : b = m := by omega
                    have hU2 := hU.out
                    have e9 := HFM.out
                    rw [e9] at hU2
                    have hU3 := Lib.hid hU2.row
                    clear hU2 e9 hU
                    have hU := hU3
                    clear hU3
                    have eF := HF.out
                    go_wp2_with fail
                    go_roundw
                    case rel => exact ⟨a + 1, L3, by omega, by go_num, (by rw [HF.out] at hU; exact hU), HR, DE, DN, DF, DV, DS, DC, h, RW, hgr⟩
                    case measure => simp [intOf]; omega
              · obtain rfl : a = m := by omega
                have hU2 := hU.out
                rw [HFM.out, ← HF.out] at hU2
                have hI := hU2.done HZ.out
                clear hU hU2
                go_wp2_with fail
                refine bodyPost_ret (v := .tuple #[]) (by simp [results, Try.results26, go_sem]) rfl ?_
                exact ⟨L2, rfl, HR, hI, hgr⟩
        refine wp_region_held_drew (S := fun w9 : World => Rbx w9 (w.heap.size + 1 + 1 + 1) VA m vc t ∧ Blk w9 HDP [.slice (some ⟨gp, 0, none⟩) m m] ∧ Blk w9 HDV [.slice VA m vc]) (by kernel_rfl) ⟨DH, DP, DV⟩ (fun hS => ?_)
        generalize W11.drew = wd at hS DE DN DF DH HR h DV DS DC RP DP  bz ⊢
        refine wpAnyH_take (i := 0) (v := ?v0_60) rfl (by kernel_rfl) (by kernel_rfl) (by kernel_rfl) (fun _ _ _ h => h) (Or.inl ⟨by rfl, ?hy0_60⟩) (by assumption) ?rest0_60
        case hy0_60 => (intro w9 hSw; clear hSw; go_simp; try with_reducible rfl)
        try simp only [Act.put, List.setIfInBounds_toArray, List.set_cons_zero, List.set_cons_succ, List.getElem_toArray, List.getElem_cons_zero, List.getElem_cons_succ]
        refine wpAnyH_take (i := 1) (v := ?v1_61) rfl (by kernel_rfl) (by kernel_rfl) (by kernel_rfl) (fun _ _ _ h => h) (Or.inl ⟨by rfl, ?hy1_61⟩) (by assumption) ?rest1_61
        case hy1_61 => (intro w9 hSw; obtain ⟨m0, m1, m2⟩ := hSw; obtain ⟨y0, y1, _, _⟩ := Rbx.cells m0; have y2 := Blk.cell m1 0 rfl; have y3 := Blk.cell m2 0 rfl; go_simp; try with_reducible rfl)
        try simp only [Act.put, List.setIfInBounds_toArray, List.set_cons_zero, List.set_cons_succ, List.getElem_toArray, List.getElem_cons_zero, List.getElem_cons_succ]
        refine wpAnyH_take (i := 4) (v := ?v4_62) rfl (by kernel_rfl) (by kernel_rfl) (by kernel_rfl) (fun _ _ _ h => h) (Or.inl ⟨by rfl, ?hy4_62⟩) (by assumption) ?rest4_62
        case hy4_62 => (intro w9 hSw; obtain ⟨m0, m1, m2⟩ := hSw; obtain ⟨y0, y1, _, _⟩ := Rbx.cells m0; have y2 := Blk.cell m1 0 rfl; have y3 := Blk.cell m2 0 rfl; go_simp; try with_reducible rfl)
        try simp only [Act.put, List.setIfInBounds_toArray, List.set_cons_zero, List.set_cons_succ, List.getElem_toArray, List.getElem_cons_zero, List.getElem_cons_succ]
        refine wpAnyH_take (i := 5) (v := ?v5_63) rfl (by kernel_rfl) (by kernel_rfl) (by kernel_rfl) (fun _ _ _ h => h) (Or.inl ⟨by rfl, ?hy5_63⟩) (by assumption) ?rest5_63
        case hy5_63 => (intro w9 hSw; obtain ⟨m0, m1, m2⟩ := hSw; obtain ⟨y0, y1, _, _⟩ := Rbx.cells m0; have y2 := Blk.cell m1 0 rfl; have y3 := Blk.cell m2 0 rfl; go_simp; try with_reducible rfl)
        try simp only [Act.put, List.setIfInBounds_toArray, List.set_cons_zero, List.set_cons_succ, List.getElem_toArray, List.getElem_cons_zero, List.getElem_cons_succ]
        refine wpAnyH_ready (rs := [2, 6, 8]) (by kernel_rfl) (by simp) ?_
        refine (AllReadyH.cons rfl (fun K hK => ?_) (AllReadyH.cons rfl (fun K hK => ?_) (AllReadyH.cons rfl (fun K hK => ?_) AllReadyH.nil)))
        · refine step_arith .mul (.inr (.inr (.inl rfl))) rfl _ _ _ _ 4602678819172646912 t rfl rfl rfl b05 ht ?_
          intro r1 Wm1 hb hq9 b1 dq
          have H1 := Lib.hid hq9
          clear hq9 dq
          replace DE := DE.on hb
          replace DN := DN.on hb
          replace DF := DF.on hb
          replace DH := DH.on hb
          replace HR := HR.on hb
          replace h := h.on hb
          replace DV := DV.on hb
          replace DS := DS.on hb
          replace DC := DC.on hb
          replace RP := RP.on hb
          replace DP := DP.on hb
          replace bz := bz.trans (hb.mono bz.size)
          clear hb
          obtain ⟨nc, hnc, hNc, bnc⟩ := run_neg (P := Try.prog) b1
          clear hS; refine hK.out _ _ ⟨DH, DP, DV⟩ (fun hS => ?_); clear hK K
          try simp only [Act.put, List.setIfInBounds_toArray, List.set_cons_zero, List.set_cons_succ, List.getElem_toArray, List.getElem_cons_zero, List.getElem_cons_succ]
          refine wpAnyH_take (i := 3) (v := ?v3_64) rfl (by kernel_rfl) (by kernel_rfl) (by kernel_rfl) (fun _ _ _ h => h) (Or.inl ⟨by rfl, ?hy3_64⟩) (by assumption) ?rest3_64
          case hy3_64 => (intro w9 hSw; clear hSw; go_simp; try with_reducible rfl)
          try simp only [Act.put, List.setIfInBounds_toArray, List.set_cons_zero, List.set_cons_succ, List.getElem_toArray, List.getElem_cons_zero, List.getElem_cons_succ]
          refine wpAnyH_ready (rs := [6, 8]) (by kernel_rfl) (by simp) ?_
          refine (AllReadyH.cons rfl (fun K hK => ?_) (AllReadyH.cons rfl (fun K hK => ?_) AllReadyH.nil))
          · go_simp
            have FP := RP.fl HIP.out.wd (by rw [HIP.out.len]; unfold maxLen; omega)
            rw [HIP.out.len] at FP
            with_reducible refine (dot_any FP h (Nat.le_refl _)).mono ?_
            rintro e w2 ⟨r2, rfl, hq2, b2, hb⟩
            have H2 := Lib.hid hq2
            clear hq2 FP
            replace DE := DE.on hb
            replace DN := DN.on hb
            replace DF := DF.on hb
            replace DH := DH.on hb
            replace HR := HR.on hb
            replace h := h.on hb
            replace DV := DV.on hb
            replace DS := DS.on hb
            replace DC := DC.on hb
            replace RP := RP.on hb
            replace DP := DP.on hb
            replace bz := bz.trans (hb.mono bz.size)
            clear hb
            generalize w2 = Wd2 at DE DN DF DH HR h DV DS DC RP DP bz ⊢
            clear hS; refine hK.out _ _ ⟨DH, DP, DV⟩ (fun hS => ?_); clear hK K
            try simp only [Act.put, List.setIfInBounds_toArray, List.set_cons_zero, List.set_cons_succ, List.getElem_toArray, List.getElem_cons_zero, List.getElem_cons_succ]
            refine wpAnyH_ready (rs := [7, 8]) (by kernel_rfl) (by simp) ?_
            refine (AllReadyH.cons rfl (fun K hK => ?_) (AllReadyH.cons rfl (fun K hK => ?_) AllReadyH.nil))
            · refine step_arith .mul (.inr (.inr (.inl rfl))) rfl _ _ _ _ nc r2 rfl rfl rfl bnc b2 ?_
              intro c2 Wm3 hb hq9 b3 dq
              have H3 := Lib.hid hq9
              clear hq9 dq
              replace DE := DE.on hb
              replace DN := DN.on hb
              replace DF := DF.on hb
              replace DH := DH.on hb
              replace HR := HR.on hb
              replace h := h.on hb
              replace DV := DV.on hb
              replace DS := DS.on hb
              replace DC := DC.on hb
              replace RP := RP.on hb
              replace DP := DP.on hb
              replace bz := bz.trans (hb.mono bz.size)
              clear hb
              clear hS; refine hK.out _ _ ⟨DH, DP, DV⟩ (fun hS => ?_); clear hK K
              try simp only [Act.put, List.setIfInBounds_toArray, List.set_cons_zero, List.set_cons_succ, List.getElem_toArray, List.getElem_cons_zero, List.getElem_cons_succ]
              refine wpAnyH_ready (rs := [8]) (by kernel_rfl) (by simp) ?_
              refine AllReadyH.cons rfl (fun K hK => ?_) AllReadyH.nil
              go_simp
              have qDE := DE.lt
              have qDN := DN.lt
              have qDF := DF.lt
              have qDH := DH.lt
              have qDV := DV.lt
              have qDS := DS.lt
              have qDC := DC.lt
              have qDP := DP.lt
              have DK := Blk.new Wm3 [.float .f64 0] 39
              obtain ⟨HDK, eDK⟩ : ∃ H, Wm3.heap.size = H := ⟨_, rfl⟩
              rw [eDK] at DK
              have hbA := (Below.refl _ Wm3).alloc (Nat.le_refl _) (.cells #[.float .f64 0] 39)
              replace DE := DE.on hbA
              replace DN := DN.on hbA
              replace DF := DF.on hbA
              replace DH := DH.on hbA
              replace HR := HR.on hbA
              replace h := h.on hbA
              replace DV := DV.on hbA
              replace DS := DS.on hbA
              replace DC := DC.on hbA
              replace RP := RP.on hbA
              replace DP := DP.on hbA
              clear hbA
              replace bz := bz.alloc bz.size (.cells #[.float .f64 0] 39)
              have hlDK : w.heap.size + 1 + 1 + 1 < HDK := by omega
              have huDK : g ≠ HDK := by omega
              simp only [eDK] at qDE qDN qDF qDH qDV qDS qDC qDP ⊢
              clear eDK
              generalize Wm3.alloc (.cells #[.float .f64 0] 39) = WaDK4 at DE DN DF DH HR h DV DS DC RP DP DK bz ⊢
              clear hS; refine hK.out _ _ ⟨DH, DP, DV⟩ (fun hS => ?_); clear hK K
              try simp only [Act.put, List.setIfInBounds_toArray, List.set_cons_zero, List.set_cons_succ, List.getElem_toArray, List.getElem_cons_zero, List.getElem_cons_succ]
              have fcDK := Blk.cell DK 0 rfl
              have frDK := Blk.free DK 0
              refine wpAnyH_ready (rs := [9]) (by kernel_rfl) (by simp) ?_
              refine AllReadyH.cons rfl (fun K hK => ?_) AllReadyH.nil
              go_simp
              clear fcDK frDK
              have hgS : WaDK4.grownBy (WaDK4.setCell ⟨HDK, 0, none⟩ (.float .f64 c2)) (some HDK) := grown_setCell (World.grownBy.refl WaDK4 _) _ _
              replace DE := Blk.grown DE hgS (by simp <;> omega)
              replace DN := Blk.grown DN hgS (by simp <;> omega)
              replace DF := Blk.grown DF hgS (by simp <;> omega)
              replace DH := Blk.grown DH hgS (by simp <;> omega)
              replace HR := RowF.grown HR hgS (by simp <;> omega)
              replace h := FL.farB h hgS (fun a e => by have h9 := hub a e; omega)
              replace DV := Blk.grown DV hgS (by simp <;> omega)
              replace DS := Blk.grown DS hgS (by simp <;> omega)
              replace DC := Blk.grown DC hgS (by simp <;> omega)
              replace RP := RowF.grown RP hgS (by simp <;> omega)
              replace DP := Blk.grown DP hgS (by simp <;> omega)
              replace DK := Blk.set_ DK 0 (.float .f64 c2)
              replace bz := bz.grown hgS bz.size (fun k e => by injection e with e; omega)
              generalize WaDK4.setCell ⟨HDK, 0, none⟩ (.float .f64 c2) = WsDK5 at DE DN DF DH HR h DV DS DC RP DP DK bz ⊢
              clear hgS
              clear hS; refine hK.out _ _ ⟨DH, DP, DV⟩ (fun hS => ?_); clear hK K
              try simp only [Act.put, List.setIfInBounds_toArray, List.set_cons_zero, List.set_cons_succ, List.getElem_toArray, List.getElem_cons_zero, List.getElem_cons_succ]
              refine wpAnyH_done (by kernel_rfl) ?_ _
              have HC : Hid (af c2 = tdC L n k) := Lib.hid (by
                rw [H3.out, hNc, neg_mul_A b1, H1.out, H2.out, af05.out, HT.out]
                unfold tdC tdS
                rw [← HM.out]
                congr 2
                exact sumA_congr (fun j hj => by rw [HIP.out.at_ j hj, HV.out.at_ j hj]))
              exact key _ _ _ _ _ _ _ _ _ _ _ _ _ _ _ _ _ _ _ _ _ _ _ _ _ _ _ _ _ _ _ _ _ _ _ _ _ _ _ _ _ _ _ _ _ _ _ _ _ _ _ _ _ _ _ _ _ _ _ _ _ _ _ _ _ _ _ _ DE DN DF DH HR h DV DS DC RP DP DK bz HC b3 hlDK
            go_simp
            have qDE := DE.lt
            have qDN := DN.lt
            have qDF := DF.lt
            have qDH := DH.lt
            have qDV := DV.lt
            have qDS := DS.lt
            have qDC := DC.lt
            have qDP := DP.lt
            have DK := Blk.new Wd2 [.float .f64 0] 39
            obtain ⟨HDK, eDK⟩ : ∃ H, Wd2.heap.size = H := ⟨_, rfl⟩
            rw [eDK] at DK
            have hbA := (Below.refl _ Wd2).alloc (Nat.le_refl _) (.cells #[.float .f64 0] 39)
            replace DE := DE.on hbA
            replace DN := DN.on hbA
            replace DF := DF.on hbA
            replace DH := DH.on hbA
            replace HR := HR.on hbA
            replace h := h.on hbA
            replace DV := DV.on hbA
            replace DS := DS.on hbA
            replace DC := DC.on hbA
            replace RP := RP.on hbA
            replace DP := DP.on hbA
            clear hbA
            replace bz := bz.alloc bz.size (.cells #[.float .f64 0] 39)
            have hlDK : w.heap.size + 1 + 1 + 1 < HDK := by omega
            have huDK : g ≠ HDK := by omega
            simp only [eDK] at qDE qDN qDF qDH qDV qDS qDC qDP ⊢
            clear eDK
            generalize Wd2.alloc (.cells #[.float .f64 0] 39) = WaDK3 at DE DN DF DH HR h DV DS DC RP DP DK bz ⊢
            clear hS; refine hK.out _ _ ⟨DH, DP, DV⟩ (fun hS => ?_); clear hK K
            try simp only [Act.put, List.setIfInBounds_toArray, List.set_cons_zero, List.set_cons_succ, List.getElem_toArray, List.getElem_cons_zero, List.getElem_cons_succ]
            refine wpAnyH_ready (rs := [7]) (by kernel_rfl) (by simp) ?_
            refine AllReadyH.cons rfl (fun K hK => ?_) AllReadyH.nil
            refine step_arith .mul (.inr (.inr (.inl rfl))) rfl _ _ _ _ nc r2 rfl rfl rfl bnc b2 ?_
            intro c2 Wm4 hb hq9 b3 dq
            have H3 := Lib.hid hq9
            clear hq9 dq
            replace DE := DE.on hb
            replace DN := DN.on hb
            replace DF := DF.on hb
            replace DH := DH.on hb
            replace HR := HR.on hb
            replace h := h.on hb
            replace DV := DV.on hb
            replace DS := DS.on hb
            replace DC := DC.on hb
            replace RP := RP.on hb
            replace DP := DP.on hb
            replace DK := DK.on hb
            replace bz := bz.trans (hb.mono bz.size)
            clear hb
            clear hS; refine hK.out _ _ ⟨DH, DP, DV⟩ (fun hS => ?_); clear hK K
            try simp only [Act.put, List.setIfInBounds_toArray, List.set_cons_zero, List.set_cons_succ, List.getElem_toArray, List.getElem_cons_zero, List.getElem_cons_succ]
            have fcDK := Blk.cell DK 0 rfl
            have frDK := Blk.free DK 0
            refine wpAnyH_ready (rs := [9]) (by kernel_rfl) (by simp) ?_
            refine AllReadyH.cons rfl (fun K hK => ?_) AllReadyH.nil
            go_simp
            clear fcDK frDK
            have hgS : Wm4.grownBy (Wm4.setCell ⟨HDK, 0, none⟩ (.float .f64 c2)) (some HDK) := grown_setCell (World.grownBy.refl Wm4 _) _ _
            replace DE := Blk.grown DE hgS (by simp <;> omega)
            replace DN := Blk.grown DN hgS (by simp <;> omega)
            replace DF := Blk.grown DF hgS (by simp <;> omega)
            replace DH := Blk.grown DH hgS (by simp <;> omega)
            replace HR := RowF.grown HR hgS (by simp <;> omega)
            replace h := FL.farB h hgS (fun a e => by have h9 := hub a e; omega)
            replace DV := Blk.grown DV hgS (by simp <;> omega)
            replace DS := Blk.grown DS hgS (by simp <;> omega)
            replace DC := Blk.grown DC hgS (by simp <;> omega)
            replace RP := RowF.grown RP hgS (by simp <;> omega)
            replace DP := Blk.grown DP hgS (by simp <;> omega)
            replace DK := Blk.set_ DK 0 (.float .f64 c2)
            replace bz := bz.grown hgS bz.size (fun k e => by injection e with e; omega)
            generalize Wm4.setCell ⟨HDK, 0, none⟩ (.float .f64 c2) = WsDK5 at DE DN DF DH HR h DV DS DC RP DP DK bz ⊢
            clear hgS
            clear hS; refine hK.out _ _ ⟨DH, DP, DV⟩ (fun hS => ?_); clear hK K
            try simp only [Act.put, List.setIfInBounds_toArray, List.set_cons_zero, List.set_cons_succ, List.getElem_toArray, List.getElem_cons_zero, List.getElem_cons_succ]
            refine wpAnyH_done (by kernel_rfl) ?_ _
            have HC : Hid (af c2 = tdC L n k) := Lib.hid (by
              rw [H3.out, hNc, neg_mul_A b1, H1.out, H2.out, af05.out, HT.out]
              unfold tdC tdS
              rw [← HM.out]
              congr 2
              exact sumA_congr (fun j hj => by rw [HIP.out.at_ j hj, HV.out.at_ j hj]))
            exact key _ _ _ _ _ _ _ _ _ _ _ _ _ _ _ _ _ _ _ _ _ _ _ _ _ _ _ _ _ _ _ _ _ _ _ _ _ _ _ _ _ _ _ _ _ _ _ _ _ _ _ _ _ _ _ _ _ _ _ _ _ _ _ _ _ _ _ _ DE DN DF DH HR h DV DS DC RP DP DK bz HC b3 hlDK
          go_simp
          have qDE := DE.lt
          have qDN := DN.lt
          have qDF := DF.lt
          have qDH := DH.lt
          have qDV := DV.lt
          have qDS := DS.lt
          have qDC := DC.lt
          have qDP := DP.lt
          have DK := Blk.new Wm1 [.float .f64 0] 39
          obtain ⟨HDK, eDK⟩ : ∃ H, Wm1.heap.size = H := ⟨_, rfl⟩
          rw [eDK] at DK
          have hbA := (Below.refl _ Wm1).alloc (Nat.le_refl _) (.cells #[.float .f64 0] 39)
          replace DE := DE.on hbA
          replace DN := DN.on hbA
          replace DF := DF.on hbA
          replace DH := DH.on hbA
          replace HR := HR.on hbA
          replace h := h.on hbA
          replace DV := DV.on hbA
          replace DS := DS.on hbA
          replace DC := DC.on hbA
          replace RP := RP.on hbA
          replace DP := DP.on hbA
          clear hbA
          replace bz := bz.alloc bz.size (.cells #[.float .f64 0] 39)
          have hlDK : w.heap.size + 1 + 1 + 1 < HDK := by omega
          have huDK : g ≠ HDK := by omega
          simp only [eDK] at qDE qDN qDF qDH qDV qDS qDC qDP ⊢
          clear eDK
          generalize Wm1.alloc (.cells #[.float .f64 0] 39) = WaDK2 at DE DN DF DH HR h DV DS DC RP DP DK bz ⊢
          clear hS; refine hK.out _ _ ⟨DH, DP, DV⟩ (fun hS => ?_); clear hK K
          try simp only [Act.put, List.setIfInBounds_toArray, List.set_cons_zero, List.set_cons_succ, List.getElem_toArray, List.getElem_cons_zero, List.getElem_cons_succ]
          refine wpAnyH_ready (rs := [6]) (by kernel_rfl) (by simp) ?_
          refine AllReadyH.cons rfl (fun K hK => ?_) AllReadyH.nil
          go_simp
          have FP := RP.fl HIP.out.wd (by rw [HIP.out.len]; unfold maxLen; omega)
          rw [HIP.out.len] at FP
          with_reducible refine (dot_any FP h (Nat.le_refl _)).mono ?_
          rintro e w2 ⟨r2, rfl, hq2, b2, hb⟩
          have H2 := Lib.hid hq2
          clear hq2 FP
          replace DE := DE.on hb
          replace DN := DN.on hb
          replace DF := DF.on hb
          replace DH := DH.on hb
          replace HR := HR.on hb
          replace h := h.on hb
          replace DV := DV.on hb
          replace DS := DS.on hb
          replace DC := DC.on hb
          replace RP := RP.on hb
          replace DP := DP.on hb
          replace DK := DK.on hb
          replace bz := bz.trans (hb.mono bz.size)
          clear hb
          generalize w2 = Wd3 at DE DN DF DH HR h DV DS DC RP DP DK bz ⊢
          clear hS; refine hK.out _ _ ⟨DH, DP, DV⟩ (fun hS => ?_); clear hK K
          try simp only [Act.put, List.setIfInBounds_toArray, List.set_cons_zero, List.set_cons_succ, List.getElem_toArray, List.getElem_cons_zero, List.getElem_cons_succ]
          refine wpAnyH_ready (rs := [7]) (by kernel_rfl) (by simp) ?_
          refine AllReadyH.cons rfl (fun K hK => ?_) AllReadyH.nil
          refine step_arith .mul (.inr (.inr (.inl rfl))) rfl _ _ _ _ nc r2 rfl rfl rfl bnc b2 ?_
          intro c2 Wm4 hb hq9 b3 dq
          have H3 := Lib.hid hq9
          clear hq9 dq
          replace DE := DE.on hb
          replace DN := DN.on hb
          replace DF := DF.on hb
          replace DH := DH.on hb
          replace HR := HR.on hb
          replace h := h.on hb
          replace DV := DV.on hb
          replace DS := DS.on hb
          replace DC := DC.on hb
          replace RP := RP.on hb
          replace DP := DP.on hb
          replace DK := DK.on hb
          replace bz := bz.trans (hb.mono bz.size)
          clear hb
          clear hS; refine hK.out _ _ ⟨DH, DP, DV⟩ (fun hS => ?_); clear hK K
          try simp only [Act.put, List.setIfInBounds_toArray, List.set_cons_zero, List.set_cons_succ, List.getElem_toArray, List.getElem_cons_zero, List.getElem_cons_succ]
          have fcDK := Blk.cell DK 0 rfl
          have frDK := Blk.free DK 0
          refine wpAnyH_ready (rs := [9]) (by kernel_rfl) (by simp) ?_
          refine AllReadyH.cons rfl (fun K hK => ?_) AllReadyH.nil
          go_simp
          clear fcDK frDK
          have hgS : Wm4.grownBy (Wm4.setCell ⟨HDK, 0, none⟩ (.float .f64 c2)) (some HDK) := grown_setCell (World.grownBy.refl Wm4 _) _ _
          replace DE := Blk.grown DE hgS (by simp <;> omega)
          replace DN := Blk.grown DN hgS (by simp <;> omega)
          replace DF := Blk.grown DF hgS (by simp <;> omega)
          replace DH := Blk.grown DH hgS (by simp <;> omega)
          replace HR := RowF.grown HR hgS (by simp <;> omega)
          replace h := FL.farB h hgS (fun a e => by have h9 := hub a e; omega)
          replace DV := Blk.grown DV hgS (by simp <;> omega)
          replace DS := Blk.grown DS hgS (by simp <;> omega)
          replace DC := Blk.grown DC hgS (by simp <;> omega)
          replace RP := RowF.grown RP hgS (by simp <;> omega)
          replace DP := Blk.grown DP hgS (by simp <;> omega)
          replace DK := Blk.set_ DK 0 (.float .f64 c2)
          replace bz := bz.grown hgS bz.size (fun k e => by injection e with e; omega)
          generalize Wm4.setCell ⟨HDK, 0, none⟩ (.float .f64 c2) = WsDK5 at DE DN DF DH HR h DV DS DC RP DP DK bz ⊢
          clear hgS
          clear hS; refine hK.out _ _ ⟨DH, DP, DV⟩ (fun hS => ?_); clear hK K
          try simp only [Act.put, List.setIfInBounds_toArray, List.set_cons_zero, List.set_cons_succ, List.getElem_toArray, List.getElem_cons_zero, List.getElem_cons_succ]
          refine wpAnyH_done (by kernel_rfl) ?_ _
          have HC : Hid (af c2 = tdC L n k) := Lib.hid (by
            rw [H3.out, hNc, neg_mul_A b1, H1.out, H2.out, af05.out, HT.out]
            unfold tdC tdS
            rw [← HM.out]
            congr 2
            exact sumA_congr (fun j hj => by rw [HIP.out.at_ j hj, HV.out.at_ j hj]))
          exact key _ _ _ _ _ _ _ _ _ _ _ _ _ _ _ _ _ _ _ _ _ _ _ _ _ _ _ _ _ _ _ _ _ _ _ _ _ _ _ _ _ _ _ _ _ _ _ _ _ _ _ _ _ _ _ _ _ _ _ _ _ _ _ _ _ _ _ _ DE DN DF DH HR h DV DS DC RP DP DK bz HC b3 hlDK
        · go_simp
          have FP := RP.fl HIP.out.wd (by rw [HIP.out.len]; unfold maxLen; omega)
          rw [HIP.out.len] at FP
          with_reducible refine (dot_any FP h (Nat.le_refl _)).mono ?_
          rintro e w2 ⟨r2, rfl, hq2, b2, hb⟩
          have H2 := Lib.hid hq2
          clear hq2 FP
          replace DE := DE.on hb
          replace DN := DN.on hb
          replace DF := DF.on hb
          replace DH := DH.on hb
          replace HR := HR.on hb
          replace h := h.on hb
          replace DV := DV.on hb
          replace DS := DS.on hb
          replace DC := DC.on hb
          replace RP := RP.on hb
          replace DP := DP.on hb
          replace bz := bz.trans (hb.mono bz.size)
          clear hb
          generalize w2 = Wd1 at DE DN DF DH HR h DV DS DC RP DP bz ⊢
          clear hS; refine hK.out _ _ ⟨DH, DP, DV⟩ (fun hS => ?_); clear hK K
          try simp only [Act.put, List.setIfInBounds_toArray, List.set_cons_zero, List.set_cons_succ, List.getElem_toArray, List.getElem_cons_zero, List.getElem_cons_succ]
          refine wpAnyH_ready (rs := [2, 8]) (by kernel_rfl) (by simp) ?_
          refine (AllReadyH.cons rfl (fun K hK => ?_) (AllReadyH.cons rfl (fun K hK => ?_) AllReadyH.nil))
          · refine step_arith .mul (.inr (.inr (.inl rfl))) rfl _ _ _ _ 4602678819172646912 t rfl rfl rfl b05 ht ?_
            intro r1 Wm2 hb hq9 b1 dq
            have H1 := Lib.hid hq9
            clear hq9 dq
            replace DE := DE.on hb
            replace DN := DN.on hb
            replace DF := DF.on hb
            replace DH := DH.on hb
            replace HR := HR.on hb
            replace h := h.on hb
            replace DV := DV.on hb
            replace DS := DS.on hb
            replace DC := DC.on hb
            replace RP := RP.on hb
            replace DP := DP.on hb
            replace bz := bz.trans (hb.mono bz.size)
            clear hb
            obtain ⟨nc, hnc, hNc, bnc⟩ := run_neg (P := Try.prog) b1
            clear hS; refine hK.out _ _ ⟨DH, DP, DV⟩ (fun hS => ?_); clear hK K
            try simp only [Act.put, List.setIfInBounds_toArray, List.set_cons_zero, List.set_cons_succ, List.getElem_toArray, List.getElem_cons_zero, List.getElem_cons_succ]
            refine wpAnyH_take (i := 3) (v := ?v3_65) rfl (by kernel_rfl) (by kernel_rfl) (by kernel_rfl) (fun _ _ _ h => h) (Or.inl ⟨by rfl, ?hy3_65⟩) (by assumption) ?rest3_65
            case hy3_65 => (intro w9 hSw; clear hSw; go_simp; try with_reducible rfl)
            try simp only [Act.put, List.setIfInBounds_toArray, List.set_cons_zero, List.set_cons_succ, List.getElem_toArray, List.getElem_cons_zero, List.getElem_cons_succ]
            refine wpAnyH_ready (rs := [7, 8]) (by kernel_rfl) (by simp) ?_
            refine (AllReadyH.cons rfl (fun K hK => ?_) (AllReadyH.cons rfl (fun K hK => ?_) AllReadyH.nil))
            · refine step_arith .mul (.inr (.inr (.inl rfl))) rfl _ _ _ _ nc r2 rfl rfl rfl bnc b2 ?_
              intro c2 Wm3 hb hq9 b3 dq
              have H3 := Lib.hid hq9
              clear hq9 dq
              replace DE := DE.on hb
              replace DN := DN.on hb
              replace DF := DF.on hb
              replace DH := DH.on hb
              replace HR := HR.on hb
              replace h := h.on hb
              replace DV := DV.on hb
              replace DS := DS.on hb
              replace DC := DC.on hb
              replace RP := RP.on hb
              replace DP := DP.on hb
              replace bz := bz.trans (hb.mono bz.size)
              clear hb
              clear hS; refine hK.out _ _ ⟨DH, DP, DV⟩ (fun hS => ?_); clear hK K
              try simp only [Act.put, List.setIfInBounds_toArray, List.set_cons_zero, List.set_cons_succ, List.getElem_toArray, List.getElem_cons_zero, List.getElem_cons_succ]
              refine wpAnyH_ready (rs := [8]) (by kernel_rfl) (by simp) ?_
              refine AllReadyH.cons rfl (fun K hK => ?_) AllReadyH.nil
              go_simp
              have qDE := DE.lt
              have qDN := DN.lt
              have qDF := DF.lt
              have qDH := DH.lt
              have qDV := DV.lt
              have qDS := DS.lt
              have qDC := DC.lt
              have qDP := DP.lt
              have DK := Blk.new Wm3 [.float .f64 0] 39
              obtain ⟨HDK, eDK⟩ : ∃ H, Wm3.heap.size = H := ⟨_, rfl⟩
              rw [eDK] at DK
              have hbA := (Below.refl _ Wm3).alloc (Nat.le_refl _) (.cells #[.float .f64 0] 39)
              replace DE := DE.on hbA
              replace DN := DN.on hbA
              replace DF := DF.on hbA
              replace DH := DH.on hbA
              replace HR := HR.on hbA
              replace h := h.on hbA
              replace DV := DV.on hbA
              replace DS := DS.on hbA
              replace DC := DC.on hbA
              replace RP := RP.on hbA
              replace DP := DP.on hbA
              clear hbA
              replace bz := bz.alloc bz.size (.cells #[.float .f64 0] 39)
              have hlDK : w.heap.size + 1 + 1 + 1 < HDK := by omega
              have huDK : g ≠ HDK := by omega
              simp only [eDK] at qDE qDN qDF qDH qDV qDS qDC qDP ⊢
              clear eDK
              generalize Wm3.alloc (.cells #[.float .f64 0] 39) = WaDK4 at DE DN DF DH HR h DV DS DC RP DP DK bz ⊢
              clear hS; refine hK.out _ _ ⟨DH, DP, DV⟩ (fun hS => ?_); clear hK K
              try simp only [Act.put, List.setIfInBounds_toArray, List.set_cons_zero, List.set_cons_succ, List.getElem_toArray, List.getElem_cons_zero, List.getElem_cons_succ]
              have fcDK := Blk.cell DK 0 rfl
              have frDK := Blk.free DK 0
              refine wpAnyH_ready (rs := [9]) (by kernel_rfl) (by simp) ?_
              refine AllReadyH.cons rfl (fun K hK => ?_) AllReadyH.nil
              go_simp
              clear fcDK frDK
              have hgS : WaDK4.grownBy (WaDK4.setCell ⟨HDK, 0, none⟩ (.float .f64 c2)) (some HDK) := grown_setCell (World.grownBy.refl WaDK4 _) _ _
              replace DE := Blk.grown DE hgS (by simp <;> omega)
              replace DN := Blk.grown DN hgS (by simp <;> omega)
              replace DF := Blk.grown DF hgS (by simp <;> omega)
              replace DH := Blk.grown DH hgS (by simp <;> omega)
              replace HR := RowF.grown HR hgS (by simp <;> omega)
              replace h := FL.farB h hgS (fun a e => by have h9 := hub a e; omega)
              replace DV := Blk.grown DV hgS (by simp <;> omega)
              replace DS := Blk.grown DS hgS (by simp <;> omega)
              replace DC := Blk.grown DC hgS (by simp <;> omega)
              replace RP := RowF.grown RP hgS (by simp <;> omega)
              replace DP := Blk.grown DP hgS (by simp <;> omega)
              replace DK := Blk.set_ DK 0 (.float .f64 c2)
              replace bz := bz.grown hgS bz.size (fun k e => by injection e with e; omega)
              generalize WaDK4.setCell ⟨HDK, 0, none⟩ (.float .f64 c2) = WsDK5 at DE DN DF DH HR h DV DS DC RP DP DK bz ⊢
              clear hgS
              clear hS; refine hK.out _ _ ⟨DH, DP, DV⟩ (fun hS => ?_); clear hK K
              try simp only [Act.put, List.setIfInBounds_toArray, List.set_cons_zero, List.set_cons_succ, List.getElem_toArray, List.getElem_cons_zero, List.getElem_cons_succ]
              refine wpAnyH_done (by kernel_rfl) ?_ _
              have HC : Hid (af c2 = tdC L n k) := Lib.hid (by
                rw [H3.out, hNc, neg_mul_A b1, H1.out, H2.out, af05.out, HT.out]
                unfold tdC tdS
                rw [← HM.out]
                congr 2
                exact sumA_congr (fun j hj => by rw [HIP.out.at_ j hj, HV.out.at_ j hj]))
              exact key _ _ _ _ _ _ _ _ _ _ _ _ _ _ _ _ _ _ _ _ _ _ _ _ _ _ _ _ _ _ _ _ _ _ _ _ _ _ _ _ _ _ _ _ _ _ _ _ _ _ _ _ _ _ _ _ _ _ _ _ _ _ _ _ _ _ _ _ DE DN DF DH HR h DV DS DC RP DP DK bz HC b3 hlDK
            go_simp
            have qDE := DE.lt
            have qDN := DN.lt
            have qDF := DF.lt
            have qDH := DH.lt
            have qDV := DV.lt
            have qDS := DS.lt
            have qDC := DC.lt
            have qDP := DP.lt
            have DK := Blk.new Wm2 [.float .f64 0] 39
            obtain ⟨HDK, eDK⟩ : ∃ H, Wm2.heap.size = H := ⟨_, rfl⟩
            rw [eDK] at DK
            have hbA := (Below.refl _ Wm2).alloc (Nat.le_refl _) (.cells #[.float .f64 0] 39)
            replace DE := DE.on hbA
            replace DN := DN.on hbA
            replace DF := DF.on hbA
            replace DH := DH.on hbA
            replace HR := HR.on hbA
            replace h := h.on hbA
            replace DV := DV.on hbA
            replace DS := DS.on hbA
            replace DC := DC.on hbA
            replace RP := RP.on hbA
            replace DP := DP.on hbA
            clear hbA
            replace bz := bz.alloc bz.size (.cells #[.float .f64 0] 39)
            have hlDK : w.heap.size + 1 + 1 + 1 < HDK := by omega
            have huDK : g ≠ HDK := by omega
            simp only [eDK] at qDE qDN qDF qDH qDV qDS qDC qDP ⊢
            clear eDK
            generalize Wm2.alloc (.cells #[.float .f64 0] 39) = WaDK3 at DE DN DF DH HR h DV DS DC RP DP DK bz ⊢
            clear hS; refine hK.out _ _ ⟨DH, DP, DV⟩ (fun hS => ?_); clear hK K
            try simp only [Act.put, List.setIfInBounds_toArray, List.set_cons_zero, List.set_cons_succ, List.getElem_toArray, List.getElem_cons_zero, List.getElem_cons_succ]
            refine wpAnyH_ready (rs := [7]) (by kernel_rfl) (by simp) ?_
            refine AllReadyH.cons rfl (fun K hK => ?_) AllReadyH.nil
            refine step_arith .mul (.inr (.inr (.inl rfl))) rfl _ _ _ _ nc r2 rfl rfl rfl bnc b2 ?_
            intro c2 Wm4 hb hq9 b3 dq
            have H3 := Lib.hid hq9
            clear hq9 dq
            replace DE := DE.on hb
            replace DN := DN.on hb
            replace DF := DF.on hb
            replace DH := DH.on hb
            replace HR := HR.on hb
            replace h := h.on hb
            replace DV := DV.on hb
            replace DS := DS.on hb
            replace DC := DC.on hb
            replace RP := RP.on hb
            replace DP := DP.on hb
            replace DK := DK.on hb
            replace bz := bz.trans (hb.mono bz.size)
            clear hb
            clear hS; refine hK.out _ _ ⟨DH, DP, DV⟩ (fun hS => ?_); clear hK K
            try simp only [Act.put, List.setIfInBounds_toArray, List.set_cons_zero, List.set_cons_succ, List.getElem_toArray, List.getElem_cons_zero, List.getElem_cons_succ]
            have fcDK := Blk.cell DK 0 rfl
            have frDK := Blk.free DK 0
            refine wpAnyH_ready (rs := [9]) (by kernel_rfl) (by simp) ?_
            refine AllReadyH.cons rfl (fun K hK => ?_) AllReadyH.nil
            go_simp
            clear fcDK frDK
            have hgS : Wm4.grownBy (Wm4.setCell ⟨HDK, 0, none⟩ (.float .f64 c2)) (some HDK) := grown_setCell (World.grownBy.refl Wm4 _) _ _
            replace DE := Blk.grown DE hgS (by simp <;> omega)
            replace DN := Blk.grown DN hgS (by simp <;> omega)
            replace DF := Blk.grown DF hgS (by simp <;> omega)
            replace DH := Blk.grown DH hgS (by simp <;> omega)
            replace HR := RowF.grown HR hgS (by simp <;> omega)
            replace h := FL.farB h hgS (fun a e => by have h9 := hub a e; omega)
            replace DV := Blk.grown DV hgS (by simp <;> omega)
            replace DS := Blk.grown DS hgS (by simp <;> omega)
            replace DC := Blk.grown DC hgS (by simp <;> omega)
            replace RP := RowF.grown RP hgS (by simp <;> omega)
            replace DP := Blk.grown DP hgS (by simp <;> omega)
            replace DK := Blk.set_ DK 0 (.float .f64 c2)
            replace bz := bz.grown hgS bz.size (fun k e => by injection e with e; omega)
            generalize Wm4.setCell ⟨HDK, 0, none⟩ (.float .f64 c2) = WsDK5 at DE DN DF DH HR h DV DS DC RP DP DK bz ⊢
            clear hgS
            clear hS; refine hK.out _ _ ⟨DH, DP, DV⟩ (fun hS => ?_); clear hK K
            try simp only [Act.put, List.setIfInBounds_toArray, List.set_cons_zero, List.set_cons_succ, List.getElem_toArray, List.getElem_cons_zero, List.getElem_cons_succ]
            refine wpAnyH_done (by kernel_rfl) ?_ _
            have HC : Hid (af c2 = tdC L n k) := Lib.hid (by
              rw [H3.out, hNc, neg_mul_A b1, H1.out, H2.out, af05.out, HT.out]
              unfold tdC tdS
              rw [← HM.out]
              congr 2
              exact sumA_congr (fun j hj => by rw [HIP.out.at_ j hj, HV.out.at_ j hj]))
            exact key _ _ _ _ _ _ _ _ _ _ _ _ _ _ _ _ _ _ _ _ _ _ _ _ _ _ _ _ _ _ _ _ _ _ _ _ _ _ _ _ _ _ _ _ _ _ _ _ _ _ _ _ _ _ _ _ _ _ _ _ _ _ _ _ _ _ _ _ DE DN DF DH HR h DV DS DC RP DP DK bz HC b3 hlDK
          go_simp
          have qDE := DE.lt
          have qDN := DN.lt
          have qDF := DF.lt
          have qDH := DH.lt
          have qDV := DV.lt
          have qDS := DS.lt
          have qDC := DC.lt
          have qDP := DP.lt
          have DK := Blk.new Wd1 [.float .f64 0] 39
          obtain ⟨HDK, eDK⟩ : ∃ H, Wd1.heap.size = H := ⟨_, rfl⟩
          rw [eDK] at DK
          have hbA := (Below.refl _ Wd1).alloc (Nat.le_refl _) (.cells #[.float .f64 0] 39)
          replace DE := DE.on hbA
          replace DN := DN.on hbA
          replace DF := DF.on hbA
          replace DH := DH.on hbA
          replace HR := HR.on hbA
          replace h := h.on hbA
          replace DV := DV.on hbA
          replace DS := DS.on hbA
          replace DC := DC.on hbA
          replace RP := RP.on hbA
          replace DP := DP.on hbA
          clear hbA
          replace bz := bz.alloc bz.size (.cells #[.float .f64 0] 39)
          have hlDK : w.heap.size + 1 + 1 + 1 < HDK := by omega
          have huDK : g ≠ HDK := by omega
          simp only [eDK] at qDE qDN qDF qDH qDV qDS qDC qDP ⊢
          clear eDK
          generalize Wd1.alloc (.cells #[.float .f64 0] 39) = WaDK2 at DE DN DF DH HR h DV DS DC RP DP DK bz ⊢
          clear hS; refine hK.out _ _ ⟨DH, DP, DV⟩ (fun hS => ?_); clear hK K
          try simp only [Act.put, List.setIfInBounds_toArray, List.set_cons_zero, List.set_cons_succ, List.getElem_toArray, List.getElem_cons_zero, List.getElem_cons_succ]
          refine wpAnyH_ready (rs := [2]) (by kernel_rfl) (by simp) ?_
          refine AllReadyH.cons rfl (fun K hK => ?_) AllReadyH.nil
          refine step_arith .mul (.inr (.inr (.inl rfl))) rfl _ _ _ _ 4602678819172646912 t rfl rfl rfl b05 ht ?_
          intro r1 Wm3 hb hq9 b1 dq
          have H1 := Lib.hid hq9
          clear hq9 dq
          replace DE := DE.on hb
          replace DN := DN.on hb
          replace DF := DF.on hb
          replace DH := DH.on hb
          replace HR := HR.on hb
          replace h := h.on hb
          replace DV := DV.on hb
          replace DS := DS.on hb
          replace DC := DC.on hb
          replace RP := RP.on hb
          replace DP := DP.on hb
          replace DK := DK.on hb
          replace bz := bz.trans (hb.mono bz.size)
          clear hb
          obtain ⟨nc, hnc, hNc, bnc⟩ := run_neg (P := Try.prog) b1
          clear hS; refine hK.out _ _ ⟨DH, DP, DV⟩ (fun hS => ?_); clear hK K
          try simp only [Act.put, List.setIfInBounds_toArray, List.set_cons_zero, List.set_cons_succ, List.getElem_toArray, List.getElem_cons_zero, List.getElem_cons_succ]
          refine wpAnyH_take (i := 3) (v := ?v3_66) rfl (by kernel_rfl) (by kernel_rfl) (by kernel_rfl) (fun _ _ _ h => h) (Or.inl ⟨by rfl, ?hy3_66⟩) (by assumption) ?rest3_66
          case hy3_66 => (intro w9 hSw; clear hSw; go_simp; try with_reducible rfl)
          try simp only [Act.put, List.setIfInBounds_toArray, List.set_cons_zero, List.set_cons_succ, List.getElem_toArray, List.getElem_cons_zero, List.getElem_cons_succ]
          refine wpAnyH_ready (rs := [7]) (by kernel_rfl) (by simp) ?_
          refine AllReadyH.cons rfl (fun K hK => ?_) AllReadyH.nil
          refine step_arith .mul (.inr (.inr (.inl rfl))) rfl _ _ _ _ nc r2 rfl rfl rfl bnc b2 ?_
          intro c2 Wm4 hb hq9 b3 dq
          have H3 := Lib.hid hq9
          clear hq9 dq
          replace DE := DE.on hb
          replace DN := DN.on hb
          replace DF := DF.on hb
          replace DH := DH.on hb
          replace HR := HR.on hb
          replace h := h.on hb
          replace DV := DV.on hb
          replace DS := DS.on hb
          replace DC := DC.on hb
          replace RP := RP.on hb
          replace DP := DP.on hb
          replace DK := DK.on hb
          replace bz := bz.trans (hb.mono bz.size)
          clear hb
          clear hS; refine hK.out _ _ ⟨DH, DP, DV⟩ (fun hS => ?_); clear hK K
          try simp only [Act.put, List.setIfInBounds_toArray, List.set_cons_zero, List.set_cons_succ, List.getElem_toArray, List.getElem_cons_zero, List.getElem_cons_succ]
          have fcDK := Blk.cell DK 0 rfl
          have frDK := Blk.free DK 0
          refine wpAnyH_ready (rs := [9]) (by kernel_rfl) (by simp) ?_
          refine AllReadyH.cons rfl (fun K hK => ?_) AllReadyH.nil
          go_simp
          clear fcDK frDK
          have hgS : Wm4.grownBy (Wm4.setCell ⟨HDK, 0, none⟩ (.float .f64 c2)) (some HDK) := grown_setCell (World.grownBy.refl Wm4 _) _ _
          replace DE := Blk.grown DE hgS (by simp <;> omega)
          replace DN := Blk.grown DN hgS (by simp <;> omega)
          replace DF := Blk.grown DF hgS (by simp <;> omega)
          replace DH := Blk.grown DH hgS (by simp <;> omega)
          replace HR := RowF.grown HR hgS (by simp <;> omega)
          replace h := FL.farB h hgS (fun a e => by have h9 := hub a e; omega)
          replace DV := Blk.grown DV hgS (by simp <;> omega)
          replace DS := Blk.grown DS hgS (by simp <;> omega)
          replace DC := Blk.grown DC hgS (by simp <;> omega)
          replace RP := RowF.grown RP hgS (by simp <;> omega)
          replace DP := Blk.grown DP hgS (by simp <;> omega)
          replace DK := Blk.set_ DK 0 (.float .f64 c2)
          replace bz := bz.grown hgS bz.size (fun k e => by injection e with e; omega)
          generalize Wm4.setCell ⟨HDK, 0, none⟩ (.float .f64 c2) = WsDK5 at DE DN DF DH HR h DV DS DC RP DP DK bz ⊢
          clear hgS
          clear hS; refine hK.out _ _ ⟨DH, DP, DV⟩ (fun hS => ?_); clear hK K
          try simp only [Act.put, List.setIfInBounds_toArray, List.set_cons_zero, List.set_cons_succ, List.getElem_toArray, List.getElem_cons_zero, List.getElem_cons_succ]
          refine wpAnyH_done (by kernel_rfl) ?_ _
          have HC : Hid (af c2 = tdC L n k) := Lib.hid (by
            rw [H3.out, hNc, neg_mul_A b1, H1.out, H2.out, af05.out, HT.out]
            unfold tdC tdS
            rw [← HM.out]
            congr 2
            exact sumA_congr (fun j hj => by rw [HIP.out.at_ j hj, HV.out.at_ j hj]))
          exact key _ _ _ _ _ _ _ _ _ _ _ _ _ _ _ _ _ _ _ _ _ _ _ _ _ _ _ _ _ _ _ _ _ _ _ _ _ _ _ _ _ _ _ _ _ _ _ _ _ _ _ _ _ _ _ _ _ _ _ _ _ _ _ _ _ _ _ _ DE DN DF DH HR h DV DS DC RP DP DK bz HC b3 hlDK
        go_simp
        have qDE := DE.lt
        have qDN := DN.lt
        have qDF := DF.lt
        have qDH := DH.lt
        have qDV := DV.lt
        have qDS := DS.lt
        have qDC := DC.lt
        have qDP := DP.lt
        have DK := Blk.new wd [.float .f64 0] 39
        obtain ⟨HDK, eDK⟩ : ∃ H, wd.heap.size = H := ⟨_, rfl⟩
        rw [eDK] at DK
        have hbA := (Below.refl _ wd).alloc (Nat.le_refl _) (.cells #[.float .f64 0] 39)
        replace DE := DE.on hbA
        replace DN := DN.on hbA
        replace DF := DF.on hbA
        replace DH := DH.on hbA
        replace HR := HR.on hbA
        replace h := h.on hbA
        replace DV := DV.on hbA
        replace DS := DS.on hbA
        replace DC := DC.on hbA
        replace RP := RP.on hbA
        replace DP := DP.on hbA
        clear hbA
        replace bz := bz.alloc bz.size (.cells #[.float .f64 0] 39)
        have hlDK : w.heap.size + 1 + 1 + 1 < HDK := by omega
        have huDK : g ≠ HDK := by omega
        simp only [eDK] at qDE qDN qDF qDH qDV qDS qDC qDP ⊢
        clear eDK
        generalize wd.alloc (.cells #[.float .f64 0] 39) = WaDK1 at DE DN DF DH HR h DV DS DC RP DP DK bz ⊢
        clear hS; refine hK.out _ _ ⟨DH, DP, DV⟩ (fun hS => ?_); clear hK K
        try simp only [Act.put, List.setIfInBounds_toArray, List.set_cons_zero, List.set_cons_succ, List.getElem_toArray, List.getElem_cons_zero, List.getElem_cons_succ]
        refine wpAnyH_ready (rs := [2, 6]) (by kernel_rfl) (by simp) ?_
        refine (AllReadyH.cons rfl (fun K hK => ?_) (AllReadyH.cons rfl (fun K hK => ?_) AllReadyH.nil))
        · refine step_arith .mul (.inr (.inr (.inl rfl))) rfl _ _ _ _ 4602678819172646912 t rfl rfl rfl b05 ht ?_
          intro r1 Wm2 hb hq9 b1 dq
          have H1 := Lib.hid hq9
          clear hq9 dq
          replace DE := DE.on hb
          replace DN := DN.on hb
          replace DF := DF.on hb
          replace DH := DH.on hb
          replace HR := HR.on hb
          replace h := h.on hb
          replace DV := DV.on hb
          replace DS := DS.on hb
          replace DC := DC.on hb
          replace RP := RP.on hb
          replace DP := DP.on hb
          replace DK := DK.on hb
          replace bz := bz.trans (hb.mono bz.size)
          clear hb
          obtain ⟨nc, hnc, hNc, bnc⟩ := run_neg (P := Try.prog) b1
          clear hS; refine hK.out _ _ ⟨DH, DP, DV⟩ (fun hS => ?_); clear hK K
          try simp only [Act.put, List.setIfInBounds_toArray, List.set_cons_zero, List.set_cons_succ, List.getElem_toArray, List.getElem_cons_zero, List.getElem_cons_succ]
          refine wpAnyH_take (i := 3) (v := ?v3_67) rfl (by kernel_rfl) (by kernel_rfl) (by kernel_rfl) (fun _ _ _ h => h) (Or.inl ⟨by rfl, ?hy3_67⟩) (by assumption) ?rest3_67
          case hy3_67 => (intro w9 hSw; clear hSw; go_simp; try with_reducible rfl)
          try simp only [Act.put, List.setIfInBounds_toArray, List.set_cons_zero, List.set_cons_succ, List.getElem_toArray, List.getElem_cons_zero, List.getElem_cons_succ]
          refine wpAnyH_ready (rs := [6]) (by kernel_rfl) (by simp) ?_
          refine AllReadyH.cons rfl (fun K hK => ?_) AllReadyH.nil
          go_simp
          have FP := RP.fl HIP.out.wd (by rw [HIP.out.len]; unfold maxLen; omega)
          rw [HIP.out.len] at FP
          with_reducible refine (dot_any FP h (Nat.le_refl _)).mono ?_
          rintro e w2 ⟨r2, rfl, hq2, b2, hb⟩
          have H2 := Lib.hid hq2
          clear hq2 FP
          replace DE := DE.on hb
          replace DN := DN.on hb
          replace DF := DF.on hb
          replace DH := DH.on hb
          replace HR := HR.on hb
          replace h := h.on hb
          replace DV := DV.on hb
          replace DS := DS.on hb
          replace DC := DC.on hb
          replace RP := RP.on hb
          replace DP := DP.on hb
          replace DK := DK.on hb
          replace bz := bz.trans (hb.mono bz.size)
          clear hb
          generalize w2 = Wd3 at DE DN DF DH HR h DV DS DC RP DP DK bz ⊢
          clear hS; refine hK.out _ _ ⟨DH, DP, DV⟩ (fun hS => ?_); clear hK K
          try simp only [Act.put, List.setIfInBounds_toArray, List.set_cons_zero, List.set_cons_succ, List.getElem_toArray, List.getElem_cons_zero, List.getElem_cons_succ]
          refine wpAnyH_ready (rs := [7]) (by kernel_rfl) (by simp) ?_
          refine AllReadyH.cons rfl (fun K hK => ?_) AllReadyH.nil
          refine step_arith .mul (.inr (.inr (.inl rfl))) rfl _ _ _ _ nc r2 rfl rfl rfl bnc b2 ?_
          intro c2 Wm4 hb hq9 b3 dq
          have H3 := Lib.hid hq9
          clear hq9 dq
          replace DE := DE.on hb
          replace DN := DN.on hb
          replace DF := DF.on hb
          replace DH := DH.on hb
          replace HR := HR.on hb
          replace h := h.on hb
          replace DV := DV.on hb
          replace DS := DS.on hb
          replace DC := DC.on hb
          replace RP := RP.on hb
          replace DP := DP.on hb
          replace DK := DK.on hb
          replace bz := bz.trans (hb.mono bz.size)
          clear hb
          clear hS; refine hK.out _ _ ⟨DH, DP, DV⟩ (fun hS => ?_); clear hK K
          try simp only [Act.put, List.setIfInBounds_toArray, List.set_cons_zero, List.set_cons_succ, List.getElem_toArray, List.getElem_cons_zero, List.getElem_cons_succ]
          have fcDK := Blk.cell DK 0 rfl
          have frDK := Blk.free DK 0
          refine wpAnyH_ready (rs := [9]) (by kernel_rfl) (by simp) ?_
          refine AllReadyH.cons rfl (fun K hK => ?_) AllReadyH.nil
          go_simp
          clear fcDK frDK
          have hgS : Wm4.grownBy (Wm4.setCell ⟨HDK, 0, none⟩ (.float .f64 c2)) (some HDK) := grown_setCell (World.grownBy.refl Wm4 _) _ _
          replace DE := Blk.grown DE hgS (by simp <;> omega)
          replace DN := Blk.grown DN hgS (by simp <;> omega)
          replace DF := Blk.grown DF hgS (by simp <;> omega)
          replace DH := Blk.grown DH hgS (by simp <;> omega)
          replace HR := RowF.grown HR hgS (by simp <;> omega)
          replace h := FL.farB h hgS (fun a e => by have h9 := hub a e; omega)
          replace DV := Blk.grown DV hgS (by simp <;> omega)
          replace DS := Blk.grown DS hgS (by simp <;> omega)
          replace DC := Blk.grown DC hgS (by simp <;> omega)
          replace RP := RowF.grown RP hgS (by simp <;> omega)
          replace DP := Blk.grown DP hgS (by simp <;> omega)
          replace DK := Blk.set_ DK 0 (.float .f64 c2)
          replace bz := bz.grown hgS bz.size (fun k e => by injection e with e; omega)
          generalize Wm4.setCell ⟨HDK, 0, none⟩ (.float .f64 c2) = WsDK5 at DE DN DF DH HR h DV DS DC RP DP DK bz ⊢
          clear hgS
          clear hS; refine hK.out _ _ ⟨DH, DP, DV⟩ (fun hS => ?_); clear hK K
          try simp only [Act.put, List.setIfInBounds_toArray, List.set_cons_zero, List.set_cons_succ, List.getElem_toArray, List.getElem_cons_zero, List.getElem_cons_succ]
          refine wpAnyH_done (by kernel_rfl) ?_ _
          have HC : Hid (af c2 = tdC L n k) := Lib.hid (by
            rw [H3.out, hNc, neg_mul_A b1, H1.out, H2.out, af05.out, HT.out]
            unfold tdC tdS
            rw [← HM.out]
            congr 2
            exact sumA_congr (fun j hj => by rw [HIP.out.at_ j hj, HV.out.at_ j hj]))
          exact key _ _ _ _ _ _ _ _ _ _ _ _ _ _ _ _ _ _ _ _ _ _ _ _ _ _ _ _ _ _ _ _ _ _ _ _ _ _ _ _ _ _ _ _ _ _ _ _ _ _ _ _ _ _ _ _ _ _ _ _ _ _ _ _ _ _ _ _ DE DN DF DH HR h DV DS DC RP DP DK bz HC b3 hlDK
        go_simp
        have FP := RP.fl HIP.out.wd (by rw [HIP.out.len]; unfold maxLen; omega)
        rw [HIP.out.len] at FP
        with_reducible refine (dot_any FP h (Nat.le_refl _)).mono ?_
        rintro e w2 ⟨r2, rfl, hq2, b2, hb⟩
        have H2 := Lib.hid hq2
        clear hq2 FP
        replace DE := DE.on hb
        replace DN := DN.on hb
        replace DF := DF.on hb
        replace DH := DH.on hb
        replace HR := HR.on hb
        replace h := h.on hb
        replace DV := DV.on hb
        replace DS := DS.on hb
        replace DC := DC.on hb
        replace RP := RP.on hb
        replace DP := DP.on hb
        replace DK := DK.on hb
        replace bz := bz.trans (hb.mono bz.size)
        clear hb
        generalize w2 = Wd2 at DE DN DF DH HR h DV DS DC RP DP DK bz ⊢
        clear hS; refine hK.out _ _ ⟨DH, DP, DV⟩ (fun hS => ?_); clear hK K
        try simp only [Act.put, List.setIfInBounds_toArray, List.set_cons_zero, List.set_cons_succ, List.getElem_toArray, List.getElem_cons_zero, List.getElem_cons_succ]
        refine wpAnyH_ready (rs := [2]) (by kernel_rfl) (by simp) ?_
        refine AllReadyH.cons rfl (fun K hK => ?_) AllReadyH.nil
        refine step_arith .mul (.inr (.inr (.inl rfl))) rfl _ _ _ _ 4602678819172646912 t rfl rfl rfl b05 ht ?_
        intro r1 Wm3 hb hq9 b1 dq
        have H1 := Lib.hid hq9
        clear hq9 dq
        replace DE := DE.on hb
        replace DN := DN.on hb
        replace DF := DF.on hb
        replace DH := DH.on hb
        replace HR := HR.on hb
        replace h := h.on hb
        replace DV := DV.on hb
        replace DS := DS.on hb
        replace DC := DC.on hb
        replace RP := RP.on hb
        replace DP := DP.on hb
        replace DK := DK.on hb
        replace bz := bz.trans (hb.mono bz.size)
        clear hb
        obtain ⟨nc, hnc, hNc, bnc⟩ := run_neg (P := Try.prog) b1
        clear hS; refine hK.out _ _ ⟨DH, DP, DV⟩ (fun hS => ?_); clear hK K
        try simp only [Act.put, List.setIfInBounds_toArray, List.set_cons_zero, List.set_cons_succ, List.getElem_toArray, List.getElem_cons_zero, List.getElem_cons_succ]
        refine wpAnyH_take (i := 3) (v := ?v3_68) rfl (by kernel_rfl) (by kernel_rfl) (by kernel_rfl) (fun _ _ _ h => h) (Or.inl ⟨by rfl, ?hy3_68⟩) (by assumption) ?rest3_68
        case hy3_68 => (intro w9 hSw; clear hSw; go_simp; try with_reducible rfl)
        try simp only [Act.put, List.setIfInBounds_toArray, List.set_cons_zero, List.set_cons_succ, List.getElem_toArray, List.getElem_cons_zero, List.getElem_cons_succ]
        refine wpAnyH_ready (rs := [7]) (by kernel_rfl) (by simp) ?_
        refine AllReadyH.cons rfl (fun K hK => ?_) AllReadyH.nil
        refine step_arith .mul (.inr (.inr (.inl rfl))) rfl _ _ _ _ nc r2 rfl rfl rfl bnc b2 ?_
        intro c2 Wm4 hb hq9 b3 dq
        have H3 := Lib.hid hq9
        clear hq9 dq
        replace DE := DE.on hb
        replace DN := DN.on hb
        replace DF := DF.on hb
        replace DH := DH.on hb
        replace HR := HR.on hb
        replace h := h.on hb
        replace DV := DV.on hb
        replace DS := DS.on hb
        replace DC := DC.on hb
        replace RP := RP.on hb
        replace DP := DP.on hb
        replace DK := DK.on hb
        replace bz := bz.trans (hb.mono bz.size)
        clear hb
        clear hS; refine hK.out _ _ ⟨DH, DP, DV⟩ (fun hS => ?_); clear hK K
        try simp only [Act.put, List.setIfInBounds_toArray, List.set_cons_zero, List.set_cons_succ, List.getElem_toArray, List.getElem_cons_zero, List.getElem_cons_succ]
        have fcDK := Blk.cell DK 0 rfl
        have frDK := Blk.free DK 0
        refine wpAnyH_ready (rs := [9]) (by kernel_rfl) (by simp) ?_
        refine AllReadyH.cons rfl (fun K hK => ?_) AllReadyH.nil
        go_simp
        clear fcDK frDK
        have hgS : Wm4.grownBy (Wm4.setCell ⟨HDK, 0, none⟩ (.float .f64 c2)) (some HDK) := grown_setCell (World.grownBy.refl Wm4 _) _ _
        replace DE := Blk.grown DE hgS (by simp <;> omega)
        replace DN := Blk.grown DN hgS (by simp <;> omega)
        replace DF := Blk.grown DF hgS (by simp <;> omega)
        replace DH := Blk.grown DH hgS (by simp <;> omega)
        replace HR := RowF.grown HR hgS (by simp <;> omega)
        replace h := FL.farB h hgS (fun a e => by have h9 := hub a e; omega)
        replace DV := Blk.grown DV hgS (by simp <;> omega)
        replace DS := Blk.grown DS hgS (by simp <;> omega)
        replace DC := Blk.grown DC hgS (by simp <;> omega)
        replace RP := RowF.grown RP hgS (by simp <;> omega)
        replace DP := Blk.grown DP hgS (by simp <;> omega)
        replace DK := Blk.set_ DK 0 (.float .f64 c2)
        replace bz := bz.grown hgS bz.size (fun k e => by injection e with e; omega)
        generalize Wm4.setCell ⟨HDK, 0, none⟩ (.float .f64 c2) = WsDK5 at DE DN DF DH HR h DV DS DC RP DP DK bz ⊢
        clear hgS
        clear hS; refine hK.out _ _ ⟨DH, DP, DV⟩ (fun hS => ?_); clear hK K
        try simp only [Act.put, List.setIfInBounds_toArray, List.set_cons_zero, List.set_cons_succ, List.getElem_toArray, List.getElem_cons_zero, List.getElem_cons_succ]
        refine wpAnyH_done (by kernel_rfl) ?_ _
        have HC : Hid (af c2 = tdC L n k) := Lib.hid (by
          rw [H3.out, hNc, neg_mul_A b1, H1.out, H2.out, af05.out, HT.out]
          unfold tdC tdS
          rw [← HM.out]
          congr 2
          exact sumA_congr (fun j hj => by rw [HIP.out.at_ j hj, HV.out.at_ j hj]))
        exact key _ _ _ _ _ _ _ _ _ _ _ _ _ _ _ _ _ _ _ _ _ _ _ _ _ _ _ _ _ _ _ _ _ _ _ _ _ _ _ _ _ _ _ _ _ _ _ _ _ _ _ _ _ _ _ _ _ _ _ _ _ _ _ _ _ _ _ _ DE DN DF DH HR h DV DS DC RP DP DK bz HC b3 hlDK
    refine wp_region_held_drew (S := fun w9 : World => Rbx w9 (w.heap.size + 1 + 1 + 1) VA m vc t) (by kernel_rfl) DH (fun hS => ?_)
    generalize W0.drew = wd at hS DE DN DF DH HR h  bz ⊢
    refine wpAnyH_take (i := 0) (v := ?v0_69) rfl (by kernel_rfl) (by kernel_rfl) (by kernel_rfl) (fun _ _ _ h => h) (Or.inl ⟨by rfl, ?hy0_69⟩) (by assumption) ?rest0_69
    case hy0_69 => (intro w9 hSw; clear hSw; go_simp; try with_reducible rfl)
    try simp only [Act.put, List.setIfInBounds_toArray, List.set_cons_zero, List.set_cons_succ, List.getElem_toArray, List.getElem_cons_zero, List.getElem_cons_succ]
    refine wpAnyH_take (i := 1) (v := ?v1_70) rfl (by kernel_rfl) (by kernel_rfl) (by kernel_rfl) (fun _ _ _ h => h) (Or.inl ⟨by rfl, ?hy1_70⟩) (by assumption) ?rest1_70
    case hy1_70 => (intro w9 hSw; obtain ⟨y0, y1, _, _⟩ := Rbx.cells hSw; go_simp; try with_reducible rfl)
    try simp only [Act.put, List.setIfInBounds_toArray, List.set_cons_zero, List.set_cons_succ, List.getElem_toArray, List.getElem_cons_zero, List.getElem_cons_succ]
    refine wpAnyH_take (i := 2) (v := ?v2_71) rfl (by kernel_rfl) (by kernel_rfl) (by kernel_rfl) (fun _ _ _ h => h) (Or.inl ⟨by rfl, ?hy2_71⟩) (by assumption) ?rest2_71
    case hy2_71 => (intro w9 hSw; clear hSw; go_simp; try with_reducible rfl)
    try simp only [Act.put, List.setIfInBounds_toArray, List.set_cons_zero, List.set_cons_succ, List.getElem_toArray, List.getElem_cons_zero, List.getElem_cons_succ]
    refine wpAnyH_take (i := 3) (v := ?v3_72) rfl (by kernel_rfl) (by kernel_rfl) (by kernel_rfl) (fun _ _ _ h => h) (Or.inl ⟨by rfl, ?hy3_72⟩) (by assumption) ?rest3_72
    case hy3_72 => (intro w9 hSw; obtain ⟨y0, y1, _, _⟩ := Rbx.cells hSw; go_simp; try with_reducible rfl)
    try simp only [Act.put, List.setIfInBounds_toArray, List.set_cons_zero, List.set_cons_succ, List.getElem_toArray, List.getElem_cons_zero, List.getElem_cons_succ]
    refine wpAnyH_take (i := 4) (v := ?v4_73) rfl (by kernel_rfl) (by kernel_rfl) (by kernel_rfl) (fun _ _ _ h => h) (Or.inl ⟨by rfl, ?hy4_73⟩) (by assumption) ?rest4_73
    case hy4_73 => (intro w9 hSw; obtain ⟨y0, y1, _, _⟩ := Rbx.cells hSw; go_simp; try with_reducible rfl)
    try simp only [Act.put, List.setIfInBounds_toArray, List.set_cons_zero, List.set_cons_succ, List.getElem_toArray, List.getElem_cons_zero, List.getElem_cons_succ]
    refine wpAnyH_ready (rs := [5, 6]) (by kernel_rfl) (by simp) ?_
    refine (AllReadyH.cons rfl (fun K hK => ?_) (AllReadyH.cons rfl (fun K hK => ?_) AllReadyH.nil))
    · go_simp
      have qDE := DE.lt
      have qDN := DN.lt
      have qDF := DF.lt
      have qDH := DH.lt
      have DV := Blk.new wd [.slice none 0 0] 22
      obtain ⟨HDV, eDV⟩ : ∃ H, wd.heap.size = H := ⟨_, rfl⟩
      rw [eDV] at DV
      have hbA := (Below.refl _ wd).alloc (Nat.le_refl _) (.cells #[.slice none 0 0] 22)
      replace DE := DE.on hbA
      replace DN := DN.on hbA
      replace DF := DF.on hbA
      replace DH := DH.on hbA
      replace HR := HR.on hbA
      replace h := h.on hbA
      clear hbA
      replace bz := bz.alloc bz.size (.cells #[.slice none 0 0] 22)
      have hlDV : w.heap.size + 1 + 1 + 1 < HDV := by omega
      have huDV : g ≠ HDV := by omega
      simp only [eDV] at qDE qDN qDF qDH ⊢
      clear eDV
      generalize wd.alloc (.cells #[.slice none 0 0] 22) = WaDV1 at DE DN DF DH HR h DV bz ⊢
      clear hS; refine hK.out _ _ DH (fun hS => ?_); clear hK K
      try simp only [Act.put, List.setIfInBounds_toArray, List.set_cons_zero, List.set_cons_succ, List.getElem_toArray, List.getElem_cons_zero, List.getElem_cons_succ]
      refine wpAnyH_ready (rs := [6]) (by kernel_rfl) (by simp) ?_
      refine AllReadyH.cons rfl (fun K hK => ?_) AllReadyH.nil
      go_simp
      have qDE := DE.lt
      have qDN := DN.lt
      have qDF := DF.lt
      have qDH := DH.lt
      have qDV := DV.lt
      have DS := Blk.new WaDV1 [.int .i64 0] 3
      obtain ⟨HDS, eDS⟩ : ∃ H, WaDV1.heap.size = H := ⟨_, rfl⟩
      rw [eDS] at DS
      have hbA := (Below.refl _ WaDV1).alloc (Nat.le_refl _) (.cells #[.int .i64 0] 3)
      replace DE := DE.on hbA
      replace DN := DN.on hbA
      replace DF := DF.on hbA
      replace DH := DH.on hbA
      replace HR := HR.on hbA
      replace h := h.on hbA
      replace DV := DV.on hbA
      clear hbA
      replace bz := bz.alloc bz.size (.cells #[.int .i64 0] 3)
      have hlDS : w.heap.size + 1 + 1 + 1 < HDS := by omega
      have huDS : g ≠ HDS := by omega
      simp only [eDS] at qDE qDN qDF qDH qDV ⊢
      clear eDS
      generalize WaDV1.alloc (.cells #[.int .i64 0] 3) = WaDS2 at DE DN DF DH HR h DV DS bz ⊢
      clear hS; refine hK.out _ _ DH (fun hS => ?_); clear hK K
      try simp only [Act.put, List.setIfInBounds_toArray, List.set_cons_zero, List.set_cons_succ, List.getElem_toArray, List.getElem_cons_zero, List.getElem_cons_succ]
      have fcDV := Blk.cell DV 0 rfl
      have frDV := Blk.free DV 0
      refine wpAnyH_ready (rs := [7]) (by kernel_rfl) (by simp) ?_
      refine AllReadyH.cons rfl (fun K hK => ?_) AllReadyH.nil
      go_simp
      clear fcDV frDV
      have hgS : WaDS2.grownBy (WaDS2.setCell ⟨HDV, 0, none⟩ (.slice VA m vc)) (some HDV) := grown_setCell (World.grownBy.refl WaDS2 _) _ _
      replace DE := Blk.grown DE hgS (by simp <;> omega)
      replace DN := Blk.grown DN hgS (by simp <;> omega)
      replace DF := Blk.grown DF hgS (by simp <;> omega)
      replace DH := Blk.grown DH hgS (by simp <;> omega)
      replace HR := RowF.grown HR hgS (by simp <;> omega)
      replace h := FL.farB h hgS (fun a e => by have h9 := hub a e; omega)
      replace DV := Blk.set_ DV 0 (.slice VA m vc)
      replace DS := Blk.grown DS hgS (by simp <;> omega)
      replace bz := bz.grown hgS bz.size (fun k e => by injection e with e; omega)
      generalize WaDS2.setCell ⟨HDV, 0, none⟩ (.slice VA m vc) = WsDV3 at DE DN DF DH HR h DV DS bz ⊢
      clear hgS
      clear hS; refine hK.out _ _ DH (fun hS => ?_); clear hK K
      try simp only [Act.put, List.setIfInBounds_toArray, List.set_cons_zero, List.set_cons_succ, List.getElem_toArray, List.getElem_cons_zero, List.getElem_cons_succ]
      have fcDS := Blk.cell DS 0 rfl
      have frDS := Blk.free DS 0
      refine wpAnyH_ready (rs := [8]) (by kernel_rfl) (by simp) ?_
      refine AllReadyH.cons rfl (fun K hK => ?_) AllReadyH.nil
      go_simp
      clear fcDS frDS
      have hgS : WsDV3.grownBy (WsDV3.setCell ⟨HDS, 0, none⟩ (.int .i64 m)) (some HDS) := grown_setCell (World.grownBy.refl WsDV3 _) _ _
      replace DE := Blk.grown DE hgS (by simp <;> omega)
      replace DN := Blk.grown DN hgS (by simp <;> omega)
      replace DF := Blk.grown DF hgS (by simp <;> omega)
      replace DH := Blk.grown DH hgS (by simp <;> omega)
      replace HR := RowF.grown HR hgS (by simp <;> omega)
      replace h := FL.farB h hgS (fun a e => by have h9 := hub a e; omega)
      replace DV := Blk.grown DV hgS (by simp <;> omega)
      replace DS := Blk.set_ DS 0 (.int .i64 m)
      replace bz := bz.grown hgS bz.size (fun k e => by injection e with e; omega)
      generalize WsDV3.setCell ⟨HDS, 0, none⟩ (.int .i64 m) = WsDS4 at DE DN DF DH HR h DV DS bz ⊢
      clear hgS
      clear hS; refine hK.out _ _ DH (fun hS => ?_); clear hK K
      try simp only [Act.put, List.setIfInBounds_toArray, List.set_cons_zero, List.set_cons_succ, List.getElem_toArray, List.getElem_cons_zero, List.getElem_cons_succ]
      refine wpAnyH_done (by kernel_rfl) ?_ _
      exact key _ _ _ _ _ _ _ _ _ _ _ _ _ _ _ _ _ _ _ _ _ _ _ _ _ _ _ _ _ _ _ _ _ _ _ _ _ _ _ _ _ _ _ _ _ _ _ _ _ _ _ _ _ _ _ _ _ _ _ _ _ _ _ _ _ _ _ _ _ _ _ DE DN DF DH HR h DV DS bz hlDV hlDS
    go_simp
    have qDE := DE.lt
    have qDN := DN.lt
    have qDF := DF.lt
    have qDH := DH.lt
    have DS := Blk.new wd [.int .i64 0] 3
    obtain ⟨HDS, eDS⟩ : ∃ H, wd.heap.size = H := ⟨_, rfl⟩
    rw [eDS] at DS
    have hbA := (Below.refl _ wd).alloc (Nat.le_refl _) (.cells #[.int .i64 0] 3)
    replace DE := DE.on hbA
    replace DN := DN.on hbA
    replace DF := DF.on hbA
    replace DH := DH.on hbA
    replace HR := HR.on hbA
    replace h := h.on hbA
    clear hbA
    replace bz := bz.alloc bz.size (.cells #[.int .i64 0] 3)
    have hlDS : w.heap.size + 1 + 1 + 1 < HDS := by omega
    have huDS : g ≠ HDS := by omega
    simp only [eDS] at qDE qDN qDF qDH ⊢
    clear eDS
    generalize wd.alloc (.cells #[.int .i64 0] 3) = WaDS1 at DE DN DF DH HR h DS bz ⊢
    clear hS; refine hK.out _ _ DH (fun hS => ?_); clear hK K
    try simp only [Act.put, List.setIfInBounds_toArray, List.set_cons_zero, List.set_cons_succ, List.getElem_toArray, List.getElem_cons_zero, List.getElem_cons_succ]
    refine wpAnyH_ready (rs := [5]) (by kernel_rfl) (by simp) ?_
    refine AllReadyH.cons rfl (fun K hK => ?_) AllReadyH.nil
    go_simp
    have qDE := DE.lt
    have qDN := DN.lt
    have qDF := DF.lt
    have qDH := DH.lt
    have qDS := DS.lt
    have DV := Blk.new WaDS1 [.slice none 0 0] 22
    obtain ⟨HDV, eDV⟩ : ∃ H, WaDS1.heap.size = H := ⟨_, rfl⟩
    rw [eDV] at DV
    have hbA := (Below.refl _ WaDS1).alloc (Nat.le_refl _) (.cells #[.slice none 0 0] 22)
    replace DE := DE.on hbA
    replace DN := DN.on hbA
    replace DF := DF.on hbA
    replace DH := DH.on hbA
    replace HR := HR.on hbA
    replace h := h.on hbA
    replace DS := DS.on hbA
    clear hbA
    replace bz := bz.alloc bz.size (.cells #[.slice none 0 0] 22)
    have hlDV : w.heap.size + 1 + 1 + 1 < HDV := by omega
    have huDV : g ≠ HDV := by omega
    simp only [eDV] at qDE qDN qDF qDH qDS ⊢
    clear eDV
    generalize WaDS1.alloc (.cells #[.slice none 0 0] 22) = WaDV2 at DE DN DF DH HR h DS DV bz ⊢
    clear hS; refine hK.out _ _ DH (fun hS => ?_); clear hK K
    try simp only [Act.put, List.setIfInBounds_toArray, List.set_cons_zero, List.set_cons_succ, List.getElem_toArray, List.getElem_cons_zero, List.getElem_cons_succ]
    have fcDV := Blk.cell DV 0 rfl
    have frDV := Blk.free DV 0
    refine wpAnyH_ready (rs := [7]) (by kernel_rfl) (by simp) ?_
    refine AllReadyH.cons rfl (fun K hK => ?_) AllReadyH.nil
    go_simp
    clear fcDV frDV
    have hgS : WaDV2.grownBy (WaDV2.setCell ⟨HDV, 0, none⟩ (.slice VA m vc)) (some HDV) := grown_setCell (World.grownBy.refl WaDV2 _) _ _
    replace DE := Blk.grown DE hgS (by simp <;> omega)
    replace DN := Blk.grown DN hgS (by simp <;> omega)
    replace DF := Blk.grown DF hgS (by simp <;> omega)
    replace DH := Blk.grown DH hgS (by simp <;> omega)
    replace HR := RowF.grown HR hgS (by simp <;> omega)
    replace h := FL.farB h hgS (fun a e => by have h9 := hub a e; omega)
    replace DS := Blk.grown DS hgS (by simp <;> omega)
    replace DV := Blk.set_ DV 0 (.slice VA m vc)
    replace bz := bz.grown hgS bz.size (fun k e => by injection e with e; omega)
    generalize WaDV2.setCell ⟨HDV, 0, none⟩ (.slice VA m vc) = WsDV3 at DE DN DF DH HR h DS DV bz ⊢
    clear hgS
    clear hS; refine hK.out _ _ DH (fun hS => ?_); clear hK K
    try simp only [Act.put, List.setIfInBounds_toArray, List.set_cons_zero, List.set_cons_succ, List.getElem_toArray, List.getElem_cons_zero, List.getElem_cons_succ]
    have fcDS := Blk.cell DS 0 rfl
    have frDS := Blk.free DS 0
    refine wpAnyH_ready (rs := [8]) (by kernel_rfl) (by simp) ?_
    refine AllReadyH.cons rfl (fun K hK => ?_) AllReadyH.nil
    go_simp
    clear fcDS frDS
    have hgS : WsDV3.grownBy (WsDV3.setCell ⟨HDS, 0, none⟩ (.int .i64 m)) (some HDS) := grown_setCell (World.grownBy.refl WsDV3 _) _ _
    replace DE := Blk.grown DE hgS (by simp <;> omega)
    replace DN := Blk.grown DN hgS (by simp <;> omega)
    replace DF := Blk.grown DF hgS (by simp <;> omega)
    replace DH := Blk.grown DH hgS (by simp <;> omega)
    replace HR := RowF.grown HR hgS (by simp <;> omega)
    replace h := FL.farB h hgS (fun a e => by have h9 := hub a e; omega)
    replace DS := Blk.set_ DS 0 (.int .i64 m)
    replace DV := Blk.grown DV hgS (by simp <;> omega)
    replace bz := bz.grown hgS bz.size (fun k e => by injection e with e; omega)
    generalize WsDV3.setCell ⟨HDS, 0, none⟩ (.int .i64 m) = WsDS4 at DE DN DF DH HR h DS DV bz ⊢
    clear hgS
    clear hS; refine hK.out _ _ DH (fun hS => ?_); clear hK K
    try simp only [Act.put, List.setIfInBounds_toArray, List.set_cons_zero, List.set_cons_succ, List.getElem_toArray, List.getElem_cons_zero, List.getElem_cons_succ]
    refine wpAnyH_done (by kernel_rfl) ?_ _
    exact key _ _ _ _ _ _ _ _ _ _ _ _ _ _ _ _ _ _ _ _ _ _ _ _ _ _ _ _ _ _ _ _ _ _ _ _ _ _ _ _ _ _ _ _ _ _ _ _ _ _ _ _ _ _ _ _ _ _ _ _ _ _ _ _ _ _ _ _ _ _ _ DE DN DF DH HR h DV DS bz hlDV hlDS
  · rw [cz] at HZ
    go_enter Try.func26, Try.ntmps26
    go_wp2_with fail
    refine bodyPost_ret (v := .tuple #[]) (by simp [results, Try.results26, go_sem]) rfl ?_
    exact ⟨L, rfl, HR, tdF_zero (by rw [HL.out]; exact HN.out) hw HZ.out, grown_below bz _⟩
end Go.Proofs.Ytaemkjcmjgefeaa
