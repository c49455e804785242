/-
  Layer 10, walks: the tridiagonal form, by the program. (Written by wip/tools/gen_tds.py.)
-/
import Derived.Test.YtaemkjcmjgefeaaTdR
import Derived.Test.YtaemkjcmjgefeaaQRfD
namespace Go.Proofs.Ytaemkjcmjgefeaa
open Go.RowKit Go.Bw
set_option linter.unusedVariables false
set_option linter.unusedSimpArgs false
attribute [local go_sem] run_store_float
/-- the answer of the program's Reduce -/
def GrP (w : World) (n : Nat) (a : List Int) (r : Ending) (w' : World) : Prop :=
  ∃ Ls Ad cd d Ae ce e Ah ch hs, r = .returned (.tuple #[tV Ad d.length cd Ae e.length ce, .slice Ah hs.length ch, .int .i64 0]) ∧ FL w' Ad d.length cd d ∧ FL w' Ae e.length ce e ∧ Rl w' Ah hs.length ch hs ∧ Td n Ls d e hs ∧ Ls 0 = a ∧ Below w.heap.size w w'
/-- no form, and a code -/
def GrN (w : World) (E : Int) (r : Ending) (w' : World) : Prop := r = .returned (.tuple #[tV none 0 0 none 0 0, .slice none 0 0, .int .i64 E]) ∧ Below w.heap.size w w'
set_option maxRecDepth 100000 in
set_option maxHeartbeats 4000000 in
theorem gReduce_no {A : Option Addr} {n c : Nat} {l : List Int} {R C E : Int} {w : World} (h : FL w A n c l) (hE : tdE R C n l = E) (hE0 : E ≠ 0) :
    Calls Try.prog 8 #[mV R C A n c] w (GrN w E) := by
  have bz := ((Below.refl _ w).alloc (Nat.le_refl _) (.cells #[.int .i64 R, .int .i64 C, .slice A n c] 24)).alloc (by simp) (.cells #[.slice none 0 0, .slice none 0 0] 28)
  have pr := trefused_any (R := R) (C := C) (h.on bz)
  rw [hE] at pr
  have DZ := Blk.new (w.alloc (.cells #[.int .i64 R, .int .i64 C, .slice A n c] 24)) [.slice none 0 0, .slice none 0 0] 28
  rw [World.size_alloc] at DZ
  have d : (E != 0) = true := by simpa using hE0
  clear hE h
  go_enter Try.func8, Try.ntmps8
  go_wp2_with fail
  with_reducible refine pr.mono ?_
  rintro e w1 ⟨rfl, hb⟩
  replace bz := bz.trans (hb.mono bz.size)
  replace DZ := DZ.on hb
  obtain ⟨z0, z1, z2, z3⟩ := Tbx.cells DZ
  clear hb pr
  go_wp2_with fail
  have DY := Blk.set_ (Blk.set_ DZ 0 (.slice none 0 0)) 1 (.slice none 0 0)
  have x0 := Blk.cell DY 0 rfl
  have x1 := Blk.cell DY 1 rfl
  refine bodyPost_ret (v := .tuple #[tV none 0 0 none 0 0, .slice none 0 0, .int .i64 E]) (by simp [results, Try.results8, go_sem, x0, x1]) rfl ?_
  exact ⟨rfl, (bz.setCell (p := ⟨w.heap.size + 1, 0, none⟩) (by simp) (.slice none 0 0)).setCell (p := ⟨w.heap.size + 1, 1, none⟩) (by simp) (.slice none 0 0)⟩
set_option maxRecDepth 100000 in
set_option maxHeartbeats 16000000 in
theorem gReduce_yes {A : Option Addr} {n N c : Nat} {l : List Int} {w : World} (h : FL w A N c l) (hN : N = n * n) (hn : n ≤ 512) (hfin : l.all fin = true) :
    Calls Try.prog 8 #[mV n n A N c] w (GrP w n l) := by
  have n4 : N ≤ 262144 := by rw [hN]; exact Nat.le_trans (Nat.mul_le_mul hn hn) (by decide)
  have hmx := h.max
  have hll := Lib.hid h.1
  have HWD := h.2.2
  have bz := ((Below.refl _ w).alloc (Nat.le_refl _) (.cells #[.int .i64 n, .int .i64 n, .slice A N c] 24)).alloc (by simp) (.cells #[.slice none 0 0, .slice none 0 0] 28)
  have DM := (Blk.new w [.int .i64 n, .int .i64 n, .slice A N c] 24).alloc (.cells #[.slice none 0 0, .slice none 0 0] 28)
  have DZ := Blk.new (w.alloc (.cells #[.int .i64 n, .int .i64 n, .slice A N c] 24)) [.slice none 0 0, .slice none 0 0] 28
  rw [World.size_alloc] at DZ
  replace h := h.on bz
  have pr := trefused_any (R := (n : Int)) (C := (n : Int)) h
  have hE : tdE (n : Int) (n : Int) N l = 0 := by
    have e9 : mayB (n : Int) (n : Int) N = true := decide_eq_true ⟨by omega, by omega, by omega, by omega, by rw [hN]; exact_mod_cast rfl⟩
    unfold tdE finC
    rw [e9, hfin]
    simp
  rw [hE] at pr
  have HN := Lib.hid hN
  have wn2 : IntKind.i64.wrap ((n : Int) - 2) = (n : Int) - 2 := IntWalk.i64_in _ (by omega)
  clear hN hE
  go_enter Try.func8, Try.ntmps8
  go_wp2_with fail
  with_reducible refine pr.mono ?_
  rintro e w1 ⟨rfl, hb⟩
  replace h := h.on hb
  replace DM := DM.on hb
  replace DZ := DZ.on hb
  replace bz := bz.trans (hb.mono bz.size)
  obtain ⟨y0, y1, y2, _, _, _⟩ := Mbx.cells DM
  clear hb pr
  go_wp2_with fail
  clear y0 y1 y2
  replace h := h.drew
  replace DM := DM.drew
  replace DZ := DZ.drew
  replace bz := bz.drew
  rename_i K0 hK0
  have key : ∀ (HDN HDR HG : Nat) (W9 : World) (X10 X11 X12 X13 X14 X15 X16 X17 X18 X19 X20 X21 X22 X23 X24 X25 X26 X27 X28 X29 X30 X31 X32 X33 X34 X35 X36 X37 X38 X39 X40 X41 X42 X43 X44 X45 X46 X47 X48 X49 X50 X51 X52 X53 X54 X55 X56 X57 X58 X59 X60 X61 X62 X63 X64 X65 X66 X67 X68 X69 X70 X71 X72 : Value), Tbx W9 (w.heap.size + 1) none 0 0 none 0 0 → Blk W9 HDN [.int .i64 n] → Blk W9 HDR [.slice (some ⟨HG, 0, none⟩) N N] → RowF W9 HG l → Below w.heap.size w W9 → w.heap.size + 1 < HDN → w.heap.size + 1 < HDR → w.heap.size + 1 < HG → HDN ≠ HG → HDR ≠ HG → K0 { tmps := #[mV n n A N c, .pointer (some ⟨w.heap.size, 0, none⟩), .pointer (some ⟨w.heap.size + 1, 0, none⟩), .slice none 0 0, .int .i64 0, .int .i64 0, .slice none 0 0, .slice none 0 0, .pointer (some ⟨HDN, 0, none⟩), .pointer (some ⟨HDR, 0, none⟩), X10, X11, X12, X13, X14, X15, X16, X17, X18, X19, X20, X21, X22, X23, X24, X25, X26, X27, X28, X29, X30, X31, X32, X33, X34, X35, X36, X37, X38, X39, X40, X41, X42, X43, X44, X45, X46, X47, X48, X49, X50, X51, X52, X53, X54, X55, X56, X57, X58, X59, X60, X61, X62, X63, X64, X65, X66, X67, X68, X69, X70, X71, X72], defers := [] } W9 := by
    as_aux_lemma =>
      intro HDN HDR HG W9 X10 X11 X12 X13 X14 X15 X16 X17 X18 X19 X20 X21 X22 X23 X24 X25 X26 X27 X28 X29 X30 X31 X32 X33 X34 X35 X36 X37 X38 X39 X40 X41 X42 X43 X44 X45 X46 X47 X48 X49 X50 X51 X52 X53 X54 X55 X56 X57 X58 X59 X60 X61 X62 X63 X64 X65 X66 X67 X68 X69 X70 X71 X72 DZ DN DR HR bz lN lR lG gN gR
      have cDN := Blk.cell DN 0 rfl
      go_wp2_with fail
      clear cDN
      obtain ⟨B, hB⟩ : ∃ B, W9.heap.size = B := ⟨_, rfl⟩
      have bN := DN.lt
      have bR := DR.lt
      have bG := HR.lt
      have bZ := Blk.lt DZ
      have Q0 := RQ.start B W9
      have K0 := TdK.start (n := n) (by rw [hll.out]; exact HN.out) HWD
      rw [hB] at bN bR bG bZ
      have hBs : B ≤ W9.heap.size := by omega
      clear hB
      go_loopw [27, 6, 7, 10, 11, 12, 13] (fun i v6 v7 i4 i5 i6 i7 wr => ∃ (k : Nat) (Ls : Nat → List Int) (Ae Ah : Option Addr) (ce ch : Nat) (d e : List Int) (hs : List Re), k ≤ n - 2 ∧ i = .int .i64 k ∧ v6 = .slice Ae e.length ce ∧ v7 = .slice Ah hs.length ch ∧ RQ B wr Ae Ah ce ch e hs ∧ RowF wr HG (Ls k) ∧ Blk wr HDN [.int .i64 n] ∧ Blk wr HDR [.slice (some ⟨HG, 0, none⟩) N N] ∧ Tbx wr (w.heap.size + 1) none 0 0 none 0 0 ∧ Below w.heap.size w wr ∧ B ≤ wr.heap.size ∧ TdK n k Ls d e hs ∧ Ls 0 = l) (fun i _ _ _ _ _ _ _ => n - (intOf i).toNat)
      case atStart => exact ⟨0, _, none, none, 0, 0, [], [], [], Nat.zero_le _, rfl, rfl, rfl, Q0, HR, DN, DR, DZ, bz, hBs, K0, rfl⟩
      case round =>
        clear Q0 HR DN DR DZ bz hBs K0
        obtain ⟨k, Ls, Ae, Ah, ce, ch, d, e, hs, hk, rfl, rfl, rfl, Q, HR, DN, DR, DZ, bz, hBs, K, hL0⟩ := hrel
        have k0 : (0 : Int) ≤ k := by omega
        have HL0 := Lib.hid hL0
        clear hL0
        by_cases hlt : k + 2 < n
        · as_aux_lemma =>
            have hlt2 : (k : Int) < (n : Int) - 2 := by omega
            obtain ⟨m, hm⟩ : ∃ m, n - 1 - k = m := ⟨_, rfl⟩
            have pb := below_any HR K.now.2 (by rw [K.now.1]; exact HN.out.symm) HN.out hn (by omega : k < n)
            rw [hm] at pb
            have HM := Lib.hid hm
            have m0 : 0 < m := by omega
            have m5 : m ≤ 512 := by omega
            clear hm
            have cDN := Blk.cell DN 0 rfl
            have cDR := Blk.cell DR 0 rfl
            go_wp2_with fail
            clear cDN cDR
            with_reducible refine pb.mono ?_
            rintro e9 w2 ⟨gx, X, rfl, RX, hgx, IX, hb⟩
            clear pb
            replace Q := Q.on hb
            replace HR := HR.on hb
            replace DN := DN.on hb
            replace DR := DR.on hb
            replace DZ := DZ.on hb
            replace bz := bz.trans (hb.mono bz.size)
            have hs2 := hb.size
            clear hb
            have hQe : ∀ y, Ae = some y → y.block < w2.heap.size := fun y hy => (Q.oe.gt hy).2
            have hQh : ∀ y, Ah = some y → y.block < w2.heap.size := fun y hy => (Q.oh.gt hy).2
            have FX := RX.fl IX.wd (by rw [IX.len]; unfold maxLen; omega)
            rw [IX.len] at FX
            have SX := tdX_is (by rw [HM.out]; exact IX)
            have HSX := Lib.hid SX
            clear SX IX
            go_wp2_with fail
            with_reducible refine (gMake_any FX m0 (by omega)).mono ?_
            rintro e9 w3 ⟨gv, t1, be, v, rfl, RV, hgv, IV, hmt, hmb, bt, bb, hb⟩
            have hIV : Is v m (tdV (Ls k) n k) := IV.congr (fun i _ => mkV_same HSX.out i)
            have HIV := Lib.hid hIV
            have HT : Hid (af t1 = tdT (Ls k) n k) := Lib.hid (hmt.trans (mkT_same HSX.out))
            have HB : Hid (fa (be : Int) = tdB (Ls k) n k) := Lib.hid (by rw [fa_nat]; exact hmb.trans (mkB_same HSX.out))
            have FV := RV.fl hIV.wd (by rw [hIV.len]; unfold maxLen; omega)
            rw [hIV.len] at FV
            have hvl := Lib.hid hIV.len
            have hgvl := RV.lt
            clear hIV IV hmt hmb RX FX RV
            replace Q := Q.on hb
            replace HR := HR.on hb
            replace DN := DN.on hb
            replace DR := DR.on hb
            replace DZ := DZ.on hb
            replace bz := bz.trans (hb.mono bz.size)
            have hs3 := hb.size
            clear hb
            have DH := Blk.new w3 [.slice (some ⟨gv, 0, none⟩) m m, .float .f64 t1] 41
            obtain ⟨HH, eH⟩ : ∃ H, w3.heap.size = H := ⟨_, rfl⟩
            rw [eH] at DH
            have hbA := (Below.refl _ w3).alloc (Nat.le_refl _) (.cells #[.slice (some ⟨gv, 0, none⟩) m m, .float .f64 t1] 41)
            replace Q := Q.on hbA
            replace HR := HR.on hbA
            replace DN := DN.on hbA
            replace DR := DR.on hbA
            replace DZ := DZ.on hbA
            replace FV := FV.on hbA
            replace bz := bz.trans (hbA.mono bz.size)
            have hs4 := World.size_alloc w3 (.cells #[.slice (some ⟨gv, 0, none⟩) m m, .float .f64 t1] 41)
            clear hbA
            have cDN := Blk.cell DN 0 rfl
            have cDR := Blk.cell DR 0 rfl
            obtain ⟨cH0, cH1, _, _⟩ := Rbx.cells DH
            obtain ⟨f, hf⟩ : ∃ f, k + 1 = f := ⟨_, rfl⟩
            have ef : (k : Int) + 1 = (f : Int) := by omega
            have wf : IntKind.i64.wrap (f : Int) = (f : Int) := IntWalk.i64_in _ (by omega)
            have pt := gturn_any HR K.now.2 (by rw [K.now.1]; exact HN.out.symm) HN.out hn FV bt hf HM.out.symm (by omega) HT.out HIV.out (fun a e9 => by injection e9 with e9; subst e9; show gv ≠ HG; omega)
            clear hf
            go_upto_region 13 with fail
            try simp only [eH] at ⊢
            rw [eH] at hs3 hs4 hgvl
            clear eH
            generalize w3.alloc (.cells #[.slice (some ⟨gv, 0, none⟩) m m, .float .f64 t1] 41) = w5 at Q HR DN DR DZ FV DH bz hs4 pt cDN cDR cH0 cH1 ⊢
            go_wp2_with fail
            clear cDN cDR cH0 cH1
            with_reducible refine pt.mono ?_
            rintro e9 w6 ⟨L2, rfl, HR6, I6, hg6⟩
            clear pt
            have Q6 := Q.far hg6 bG
            have DN6 := Blk.grown DN hg6 (by simp; omega)
            have DR6 := Blk.grown DR hg6 (by simp; omega)
            have DZ6 := Blk.grown DZ hg6 (by simp; omega)
            have DH6 := Blk.grown DH hg6 (by simp; omega)
            have FV6 := FV.farB hg6 (fun a e9 => by injection e9 with e9; subst e9; show gv ≠ HG; omega)
            have bz6 := bz.grown hg6 bz.size (fun b e9 => by injection e9 with e9; omega)
            have hs6 := hg6.size
            have HI6 := Lib.hid I6
            clear Q HR DN DR DZ DH FV bz hg6 I6
            have hsrc9 : NumF (w6.alloc (.cells #[.float .f64 be] 39)) (w6.heap.size + 1) (some ⟨w6.heap.size, 0, none⟩) 1 [(be : Int)] := by
              have h9 := (RowF.one w6 (be : Int)).nums (c := 1) (B := w6.heap.size + 1) 0 1 (by simp) (by omega) (by unfold maxLen; omega) (by omega)
              exact h9
            have hbA := (Below.refl _ w6).alloc (Nat.le_refl _) (.cells #[.float .f64 be] 39)
            have Q7 := Q6.on hbA
            have HEE9 := Lib.hid K.el
            have HHL9 := Lib.hid K.hl
            have hs7 := World.size_alloc w6 (.cells #[.float .f64 be] 39)
            go_upto_region 15 with (at_builtin; refine wpList_appF _ rfl _ _ rfl B Ae ce e rfl Q7.oe _ _ _ [(be : Int)] rfl hsrc9 (by have := HEE9.out; simp; omega) (by omega) ?_; intro A10 c10 w10 hO10 hg10 ho10)
            have HR10 := RowF.grown (HR6.on hbA) hg10 (ownF_ne Q7.oe bG)
            have DN10 := Blk.grown (Blk.on DN6 hbA) hg10 (ownF_ne Q7.oe bN)
            have DR10 := Blk.grown (Blk.on DR6 hbA) hg10 (ownF_ne Q7.oe bR)
            have DZ10 := Blk.grown (Blk.on DZ6 hbA) hg10 (ownF_ne Q7.oe bZ)
            have hnaV : NA (some ⟨gv, 0, none⟩) Ae := fun x hx y hy => by injection hx with hx; subst hx; have := (Q6.oe.gt hy).2; have hh := hQe y hy; show gv ≠ _; omega
            have DH10 := Blk.grown (Blk.on DH6 hbA) hg10 (own_nb (fun x hx => by have hh := hQe x hx; omega))
            have FV10 := fl_far9 (FV6.on hbA) hg10 (na_own hnaV)
            have bz10 := (bz6.trans (hbA.mono bz6.size)).grown hg10 (by omega) (fun b e9 => by
              rcases Ae with _ | x
              · cases e9
              · have := (Q7.oe.gt rfl).1
                simp [Value.ownBlock] at e9; omega)
            have hs10 := hg10.size
            have Q10 := Q7.pushE hO10 hg10 ho10
            clear Q6 Q7 HR6 DN6 DR6 DZ6 DH6 FV6 bz6 hsrc9 hbA
            have hbA := (Below.refl _ w10).alloc (Nat.le_refl _) (.cells #[.slice (some ⟨gv, 0, none⟩) m m, .float .f64 t1] 41)
            have Q11 := Q10.on hbA
            have DB := Blk.new w10 [.slice (some ⟨gv, 0, none⟩) m m, .float .f64 t1] 41
            have hs11 := World.size_alloc w10 (.cells #[.slice (some ⟨gv, 0, none⟩) m m, .float .f64 t1] 41)
            have q0 : (w10.alloc (.cells #[.slice (some ⟨gv, 0, none⟩) m m, .float .f64 t1] 41)).cell? ⟨w10.heap.size, 0, none⟩ = some (.slice (some ⟨gv, 0, none⟩) v.length m) := by rw [hvl.out]; exact DB.cell 0 rfl
            have q1 : (w10.alloc (.cells #[.slice (some ⟨gv, 0, none⟩) m m, .float .f64 t1] 41)).cell? ((⟨w10.heap.size, 0, none⟩ : Addr).add 1) = some (.float .f64 t1) := by rw [add_at]; exact DB.cell 1 rfl
            obtain ⟨cH0, cH1, _, _⟩ := Rbx.cells DH10
            have FV11 : FL (w10.alloc (.cells #[.slice (some ⟨gv, 0, none⟩) m m, .float .f64 t1] 41)) (some ⟨gv, 0, none⟩) v.length m v := by rw [hvl.out]; exact FV10.on hbA
            have hna2 : NA (some ⟨gv, 0, none⟩) A10 := na_grow hnaV (fun x hx => by injection hx with hx; subst hx; show gv < _; omega) ho10
            have hna3 : NA (some ⟨gv, 0, none⟩) Ah := fun x hx y hy => by injection hx with hx; subst hx; have hh := hQh y hy; show gv ≠ _; omega
            clear DB
            go_wp2_with (at_builtin; refine wpList_appR _ rfl _ _ rfl B Ah ch hs hs.length rfl rfl Q11.oh _ 1 ⟨some ⟨gv, 0, none⟩, m, v, t1⟩ rfl q0 q1 (by have := HHL9.out; omega) (by omega) ?_; intro A12 c12 w12 hO12 hg12 ho12)
            have HR12 := RowF.grown (HR10.on hbA) hg12 (ownR_ne Q11.oh bG)
            have DN12 := Blk.grown (Blk.on DN10 hbA) hg12 (ownR_ne Q11.oh bN)
            have DR12 := Blk.grown (Blk.on DR10 hbA) hg12 (ownR_ne Q11.oh bR)
            have DZ12 := Blk.grown (Blk.on DZ10 hbA) hg12 (ownR_ne Q11.oh bZ)
            have bz12 := (bz10.trans (hbA.mono bz10.size)).grown hg12 (by omega) (fun b e9 => by
              rcases Ah with _ | x
              · cases e9
              · have := (Q11.oh.gt rfl).1
                simp [Value.ownBlock] at e9; omega)
            have Q12 := Q11.pushH (r := ⟨some ⟨gv, 0, none⟩, m, v, t1⟩) hO12 hg12 ho12 FV11 bt (fun x hx => by injection hx with hx; subst hx; show B ≤ gv ∧ gv < _; omega) hna2 hna3
            have hs12 := hg12.size
            obtain ⟨Y, hY⟩ : ∃ Y, (D (Ls k) (k * n + k)) = Y := ⟨_, rfl⟩
            have hYb := K.now.2.at_ (k * n + k)
            rw [hY] at hYb
            have K2 := K.next HI6.out (x := Y) (y := (be : Int)) (by unfold ma; rw [hY]) HB.out (r := ⟨some ⟨gv, 0, none⟩, m, v, t1⟩) (by rw [HM.out]; exact HIV.out) HT.out hYb (by omega)
            have H2 : Hid (RowF w12 HG ((fun i => if i = k + 1 then L2 else Ls i) (k + 1))) := Lib.hid (by show RowF _ _ (if k + 1 = k + 1 then L2 else Ls (k + 1)); rw [if_pos rfl]; exact HR12)
            have H3 : Hid ((fun i => if i = k + 1 then L2 else Ls i) 0 = l) := Lib.hid (by show (if 0 = k + 1 then L2 else Ls 0) = l; rw [if_neg (by omega)]; exact HL0.out)
            clear hY Q10 Q11 HR10 HR12 DN10 DR10 DZ10 DH10 FV10 FV11 bz10 q0 q1 cH0 cH1 hbA
            go_wp2_with fail
            go_roundw
            case rel => exact ⟨k + 1, _, A10, A12, c10, c12, _, _, _, by omega, by go_num, by simp, by simp, Q12, H2.out, DN12, DR12, DZ12, bz12, by omega, K2, H3.out⟩
            case measure => simp [intOf]; omega
        · as_aux_lemma =>
            have hkn : k = n - 2 := by omega
            have hlt2 : ¬ (k : Int) < (n : Int) - 2 := by omega
            have HK := Lib.hid hkn
            clear hkn
            have HKK := Lib.hid K
            by_cases n1 : 1 < n
            · as_aux_lemma =>
                have n1i : (1 : Int) < n := by omega
                obtain ⟨k2, hk2⟩ : ∃ k2, n - 2 = k2 := ⟨_, rfl⟩
                have ek2 : (n : Int) - 2 = (k2 : Int) := by omega
                have pb := below_any HR K.now.2 (by rw [K.now.1]; exact HN.out.symm) HN.out hn (by omega : k2 < n)
                have e1 : n - 1 - k2 = 1 := by omega
                rw [e1] at pb
                have HK2 := Lib.hid hk2
                rw [ek2] at hlt2 wn2
                clear hk2 e1 K
                have cDN := Blk.cell DN 0 rfl
                have cDR := Blk.cell DR 0 rfl
                go_wp2_with fail
                clear cDN cDR
                with_reducible refine pb.mono ?_
                rintro e9 w2 ⟨gx, X, rfl, RX, hgx, IX, hb⟩
                clear pb
                replace Q := Q.on hb
                replace HR := HR.on hb
                replace DN := DN.on hb
                replace DR := DR.on hb
                replace DZ := DZ.on hb
                replace bz := bz.trans (hb.mono bz.size)
                have hs2 := hb.size
                clear hb
                have hsrc : NumF w2 w2.heap.size (some ⟨gx, 0, none⟩) 1 X := by
                  have h9 := RX.nums (c := 1) (B := w2.heap.size) 0 1 (by rw [IX.len]; omega) (by omega) (by unfold maxLen; omega) RX.lt
                  rw [List.drop_zero, List.take_of_length_le (by rw [IX.len]; omega)] at h9
                  exact h9
                obtain ⟨x, hX⟩ : ∃ x, X = [x] := List.length_eq_one_iff.1 IX.len
                subst hX
                have hxb := IX.wd x (by simp)
                have hx0 : fa x = fa (D (Ls k) ((k2 + 1 + 0) * n + k2)) := IX.at_ 0 (by omega)
                have HX := Lib.hid hx0
                have HEE9 := Lib.hid HKK.out.el
                clear hx0 IX
                go_upto_region 19 with (at_builtin; refine wpList_appF _ rfl _ _ rfl B Ae ce e rfl Q.oe _ _ _ [x] rfl hsrc (by have := HEE9.out; have := HK.out; simp; omega) (by omega) ?_; intro A10 c10 w10 hO10 hg10 ho10)
                have HR10 := RowF.grown HR hg10 (ownF_ne Q.oe bG)
                have DN10 := Blk.grown DN hg10 (ownF_ne Q.oe bN)
                have DR10 := Blk.grown DR hg10 (ownF_ne Q.oe bR)
                have DZ10 := Blk.grown DZ hg10 (ownF_ne Q.oe bZ)
                have bz10 := bz.grown hg10 (by omega) (fun b e9 => by
                  rcases Ae with _ | x
                  · cases e9
                  · have := (Q.oe.gt rfl).1
                    simp [Value.ownBlock] at e9; omega)
                have hs10 := hg10.size
                have Q10 := Q.pushE hO10 hg10 ho10
                have hel := HEE9.out
                have HEW := Lib.hid (wd_snoc HKK.out.ew (x := x) hxb)
                have HLAST : Hid (1 < n → fa (D (e ++ [x]) (n - 2)) = ma (Ls (n - 2)) n (n - 1) (n - 2)) := Lib.hid (fun _ => by
                  have e5 := HK2.out
                  have e6 := HK.out
                  rw [D_append, hel, if_neg (by omega), show n - 2 - k = 0 by omega]
                  show fa x = _
                  have e7 : k2 + 1 + 0 = n - 1 := by omega
                  have e8 : k2 = k := by omega
                  rw [HX.out, ← e6, e7, e8]
                  rfl)
                have HEE : Hid (∀ j, j < k → fa (D (e ++ [x]) j) = fa (D e j)) := Lib.hid (fun j hj => by rw [D_append, hel, if_pos hj])
                have HEL : Hid ((e ++ [x]).length = n - 1) := Lib.hid (by rw [List.length_append, hel]; show k + 1 = _; have := HK.out; omega)
                have hle : (e ++ [x]).length = e.length + 1 := by simp
                clear hel Q HR DN DR DZ bz hsrc RX hO10 hg10 ho10
                have HCd : Hid (∀ W, Below w10.heap.size w10 W → ∀ i, i < n → Calls Try.prog 28 #[.int .i64 i, .pointer (some ⟨HDR, 0, none⟩), .pointer (some ⟨HDN, 0, none⟩)] W (FB ((fun i => fa (D (Ls k) (i * n + i))) i) W)) := Lib.hid (fun W hd i hi => diag1_any (RowF.on HR10 hd) HKK.out.now.2 (by rw [HKK.out.now.1]; exact HN.out.symm) HN.out hn (Blk.on DR10 hd) (Blk.on DN10 hd) hi)
                have pd := list_diag HDR HDN _ n (by omega) HCd
                have cNN := Blk.cell DN10 0 rfl
                go_wp2_with fail
                clear cNN
                with_reducible refine pd.mono ?_
                rintro e9 w13 ⟨gd, d2, rfl, RD, hgd, ID, hb13⟩
                clear pd HCd
                have Q13 := RQ.on Q10 hb13
                have DZ13 := Blk.on DZ10 hb13
                have bz13 := Below.trans bz10 (hb13.mono (Below.size bz10))
                obtain ⟨cZ0, cZ1, cZ2, cZ3⟩ := Tbx.cells DZ13
                have hdd : ∀ j, j < n → fa (D d2 j) = ma (Ls (min j (n - 2))) n j j := fun j hj => by
                  rw [ID.at_ j hj]
                  have e9 := HK.out
                  show ma (Ls k) n j j = _
                  rcases Nat.lt_or_ge j (n - 2) with h9 | h9
                  · rw [Nat.min_eq_left (by omega)]; exact HKK.out.keep hj (Nat.le_refl _) (by omega)
                  · rw [Nat.min_eq_right h9, ← e9]
                have TD := Lib.hid (Td.fin HKK.out HK.out ID.len hdd (e2 := (e ++ [x])) HEL.out HEE.out HLAST.out)
                have hdl := Lib.hid ID.len
                have hdw := Lib.hid ID.wd
                clear hdd ID
                go_wp2_with fail
                clear cZ0 cZ1 cZ2 cZ3
                have DY := Blk.set_ (Blk.set_ DZ13 0 (.slice (some ⟨gd, 0, none⟩) n n)) 1 (.slice A10 (e.length + 1) c10)
                have x0 := Blk.cell DY 0 rfl
                have x1 := Blk.cell DY 1 rfl
                have hgs : w13.grownBy ((w13.setCell ⟨w.heap.size + 1, 0, none⟩ (.slice (some ⟨gd, 0, none⟩) n n)).setCell ⟨w.heap.size + 1, 1, none⟩ (.slice A10 (e.length + 1) c10)) (some (w.heap.size + 1)) := grown_setCell (grown_setCell (World.grownBy.refl w13 _) 0 _) 1 _
                refine bodyPost_ret (v := .tuple #[tV (some ⟨gd, 0, none⟩) n n A10 (e.length + 1) c10, .slice Ah hs.length ch, .int .i64 0]) (by simp [results, Try.results8, go_sem, x0, x1]) rfl ?_
                have Q14 := Q13.far hgs bZ
                have RD14 := RowF.grown RD hgs (by simp; omega)
                exact ⟨Ls, some ⟨gd, 0, none⟩, n, d2, A10, c10, (e ++ [x]), Ah, ch, hs, by rw [hdl.out, hle], by have h9 := RD14.fl hdw.out (by rw [hdl.out]; unfold maxLen; omega); rw [hdl.out] at h9 ⊢; exact h9, Q14.oe.fl HEW.out, Q14.oh.rl Q14.el, TD.out, HL0.out, bz13.grown hgs bz13.size (fun b e9 => by injection e9 with e9; omega)⟩
            · as_aux_lemma =>
                have n1i : ¬ (1 : Int) < n := by omega
                have HEW := Lib.hid K.ew
                have hel := K.el
                have HLAST : Hid (1 < n → fa (D e (n - 2)) = ma (Ls (n - 2)) n (n - 1) (n - 2)) := Lib.hid (fun h9 => absurd h9 n1)
                have HEL : Hid (e.length = n - 1) := Lib.hid (by rw [hel, HK.out]; omega)
                have hs10 := hBs
                clear hel
                have cDN := Blk.cell DN 0 rfl
                go_upto_region 19 with fail
                clear cDN
                have HCd : Hid (∀ W, Below wr.heap.size wr W → ∀ i, i < n → Calls Try.prog 28 #[.int .i64 i, .pointer (some ⟨HDR, 0, none⟩), .pointer (some ⟨HDN, 0, none⟩)] W (FB ((fun i => fa (D (Ls k) (i * n + i))) i) W)) := Lib.hid (fun W hd i hi => diag1_any (RowF.on HR hd) HKK.out.now.2 (by rw [HKK.out.now.1]; exact HN.out.symm) HN.out hn (Blk.on DR hd) (Blk.on DN hd) hi)
                have pd := list_diag HDR HDN _ n (by omega) HCd
                have cNN := Blk.cell DN 0 rfl
                go_wp2_with fail
                clear cNN
                with_reducible refine pd.mono ?_
                rintro e9 w13 ⟨gd, d2, rfl, RD, hgd, ID, hb13⟩
                clear pd HCd
                have Q13 := RQ.on Q hb13
                have DZ13 := Blk.on DZ hb13
                have bz13 := Below.trans bz (hb13.mono (Below.size bz))
                obtain ⟨cZ0, cZ1, cZ2, cZ3⟩ := Tbx.cells DZ13
                have hdd : ∀ j, j < n → fa (D d2 j) = ma (Ls (min j (n - 2))) n j j := fun j hj => by
                  rw [ID.at_ j hj]
                  have e9 := HK.out
                  show ma (Ls k) n j j = _
                  rcases Nat.lt_or_ge j (n - 2) with h9 | h9
                  · rw [Nat.min_eq_left (by omega)]; exact HKK.out.keep hj (Nat.le_refl _) (by omega)
                  · rw [Nat.min_eq_right h9, ← e9]
                have TD := Lib.hid (Td.fin HKK.out HK.out ID.len hdd (e2 := e) HEL.out (fun j hj => rfl) HLAST.out)
                have hdl := Lib.hid ID.len
                have hdw := Lib.hid ID.wd
                clear hdd ID
                go_wp2_with fail
                clear cZ0 cZ1 cZ2 cZ3
                have DY := Blk.set_ (Blk.set_ DZ13 0 (.slice (some ⟨gd, 0, none⟩) n n)) 1 (.slice Ae (e.length) ce)
                have x0 := Blk.cell DY 0 rfl
                have x1 := Blk.cell DY 1 rfl
                have hgs : w13.grownBy ((w13.setCell ⟨w.heap.size + 1, 0, none⟩ (.slice (some ⟨gd, 0, none⟩) n n)).setCell ⟨w.heap.size + 1, 1, none⟩ (.slice Ae (e.length) ce)) (some (w.heap.size + 1)) := grown_setCell (grown_setCell (World.grownBy.refl w13 _) 0 _) 1 _
                refine bodyPost_ret (v := .tuple #[tV (some ⟨gd, 0, none⟩) n n Ae (e.length) ce, .slice Ah hs.length ch, .int .i64 0]) (by simp [results, Try.results8, go_sem, x0, x1]) rfl ?_
                have Q14 := Q13.far hgs bZ
                have RD14 := RowF.grown RD hgs (by simp; omega)
                exact ⟨Ls, some ⟨gd, 0, none⟩, n, d2, Ae, ce, e, Ah, ch, hs, by rw [hdl.out], by have h9 := RD14.fl hdw.out (by rw [hdl.out]; unfold maxLen; omega); rw [hdl.out] at h9 ⊢; exact h9, Q14.oe.fl HEW.out, Q14.oh.rl Q14.el, TD.out, HL0.out, bz13.grown hgs bz13.size (fun b e9 => by injection e9 with e9; omega)⟩
  refine wp_region_held_drew (S := fun w9 : World => Mbx w9 w.heap.size n n A N c) (by kernel_rfl) DM (fun hS => ?_)
  generalize w1.drew = wd at hS h DM DZ  bz ⊢
  refine wpAnyH_take (i := 0) (v := ?v0_10) rfl (by kernel_rfl) (by kernel_rfl) (by kernel_rfl) (fun _ _ _ h => h) (Or.inl ⟨by rfl, ?hy0_10⟩) (by assumption) ?rest0_10
  case hy0_10 => (intro w9 hSw; clear hSw; go_simp; try with_reducible rfl)
  try simp only [Act.put, List.setIfInBounds_toArray, List.set_cons_zero, List.set_cons_succ, List.getElem_toArray, List.getElem_cons_zero, List.getElem_cons_succ]
  refine wpAnyH_take (i := 1) (v := ?v1_11) rfl (by kernel_rfl) (by kernel_rfl) (by kernel_rfl) (fun _ _ _ h => h) (Or.inl ⟨by rfl, ?hy1_11⟩) (by assumption) ?rest1_11
  case hy1_11 => (intro w9 hSw; obtain ⟨y0, y1, y2, _, _, _⟩ := Mbx.cells hSw; go_simp; try with_reducible rfl)
  try simp only [Act.put, List.setIfInBounds_toArray, List.set_cons_zero, List.set_cons_succ, List.getElem_toArray, List.getElem_cons_zero, List.getElem_cons_succ]
  refine wpAnyH_take (i := 2) (v := ?v2_12) rfl (by kernel_rfl) (by kernel_rfl) (by kernel_rfl) (fun _ _ _ h => h) (Or.inl ⟨by rfl, ?hy2_12⟩) (by assumption) ?rest2_12
  case hy2_12 => (intro w9 hSw; clear hSw; go_simp; try with_reducible rfl)
  try simp only [Act.put, List.setIfInBounds_toArray, List.set_cons_zero, List.set_cons_succ, List.getElem_toArray, List.getElem_cons_zero, List.getElem_cons_succ]
  refine wpAnyH_take (i := 3) (v := ?v3_13) rfl (by kernel_rfl) (by kernel_rfl) (by kernel_rfl) (fun _ _ _ h => h) (Or.inl ⟨by rfl, ?hy3_13⟩) (by assumption) ?rest3_13
  case hy3_13 => (intro w9 hSw; obtain ⟨y0, y1, y2, _, _, _⟩ := Mbx.cells hSw; go_simp; try with_reducible rfl)
  try simp only [Act.put, List.setIfInBounds_toArray, List.set_cons_zero, List.set_cons_succ, List.getElem_toArray, List.getElem_cons_zero, List.getElem_cons_succ]
  refine wpAnyH_ready (rs := [4, 5, 6]) (by kernel_rfl) (by simp) ?_
  refine (AllReadyH.cons rfl (fun K hK => ?_) (AllReadyH.cons rfl (fun K hK => ?_) (AllReadyH.cons rfl (fun K hK => ?_) AllReadyH.nil)))
  · go_simp
    have qHR_DM := DM.lt
    have qHR_DZ := DZ.lt
    with_reducible refine (tcopied_any h (by omega)).mono ?_
    rintro e w2 ⟨rfl, rfl⟩
    have HR := RowF.new wd l
    obtain ⟨HG, eG⟩ : ∃ H, wd.heap.size = H := ⟨_, rfl⟩
    rw [eG] at HR
    have hbA := (Below.refl _ wd).alloc (Nat.le_refl _) (.cells (LF l).toArray 39)
    replace h := h.on hbA
    replace DM := DM.on hbA
    replace DZ := DZ.on hbA
    clear hbA
    replace bz := bz.alloc bz.size (.cells (LF l).toArray 39)
    simp only [eG] at qHR_DM qHR_DZ ⊢
    clear eG
    clear h
    generalize wd.alloc (.cells (LF l).toArray 39) = Wc1 at DM DZ HR bz ⊢
    clear hS; refine hK.out _ _ DM (fun hS => ?_); clear hK K
    try simp only [Act.put, List.setIfInBounds_toArray, List.set_cons_zero, List.set_cons_succ, List.getElem_toArray, List.getElem_cons_zero, List.getElem_cons_succ]
    refine wpAnyH_ready (rs := [5, 6]) (by kernel_rfl) (by simp) ?_
    refine (AllReadyH.cons rfl (fun K hK => ?_) (AllReadyH.cons rfl (fun K hK => ?_) AllReadyH.nil))
    · go_simp
      have qDN_DM := DM.lt
      have qDN_DZ := DZ.lt
      have qDN_HR := HR.lt
      have DN := Blk.new Wc1 [.int .i64 0] 3
      obtain ⟨HDN, eDN⟩ : ∃ H, Wc1.heap.size = H := ⟨_, rfl⟩
      rw [eDN] at DN
      have hbA := (Below.refl _ Wc1).alloc (Nat.le_refl _) (.cells #[.int .i64 0] 3)
      replace DM := DM.on hbA
      replace DZ := DZ.on hbA
      replace HR := HR.on hbA
      clear hbA
      replace bz := bz.alloc bz.size (.cells #[.int .i64 0] 3)
      simp only [eDN] at qDN_DM qDN_DZ qDN_HR ⊢
      clear eDN
      generalize Wc1.alloc (.cells #[.int .i64 0] 3) = WaDN2 at DM DZ HR DN bz ⊢
      clear hS; refine hK.out _ _ DM (fun hS => ?_); clear hK K
      try simp only [Act.put, List.setIfInBounds_toArray, List.set_cons_zero, List.set_cons_succ, List.getElem_toArray, List.getElem_cons_zero, List.getElem_cons_succ]
      refine wpAnyH_ready (rs := [6]) (by kernel_rfl) (by simp) ?_
      refine AllReadyH.cons rfl (fun K hK => ?_) AllReadyH.nil
      go_simp
      have qDR_DM := DM.lt
      have qDR_DZ := DZ.lt
      have qDR_HR := HR.lt
      have qDR_DN := DN.lt
      have DR := Blk.new WaDN2 [.slice none 0 0] 22
      obtain ⟨HDR, eDR⟩ : ∃ H, WaDN2.heap.size = H := ⟨_, rfl⟩
      rw [eDR] at DR
      have hbA := (Below.refl _ WaDN2).alloc (Nat.le_refl _) (.cells #[.slice none 0 0] 22)
      replace DM := DM.on hbA
      replace DZ := DZ.on hbA
      replace HR := HR.on hbA
      replace DN := DN.on hbA
      clear hbA
      replace bz := bz.alloc bz.size (.cells #[.slice none 0 0] 22)
      simp only [eDR] at qDR_DM qDR_DZ qDR_HR qDR_DN ⊢
      clear eDR
      generalize WaDN2.alloc (.cells #[.slice none 0 0] 22) = WaDR3 at DM DZ HR DN DR bz ⊢
      clear hS; refine hK.out _ _ DM (fun hS => ?_); clear hK K
      try simp only [Act.put, List.setIfInBounds_toArray, List.set_cons_zero, List.set_cons_succ, List.getElem_toArray, List.getElem_cons_zero, List.getElem_cons_succ]
      have fcDN := Blk.cell DN 0 rfl
      have frDN := Blk.free DN 0
      refine wpAnyH_ready (rs := [7]) (by kernel_rfl) (by simp) ?_
      refine AllReadyH.cons rfl (fun K hK => ?_) AllReadyH.nil
      go_simp
      clear fcDN frDN
      have hgS : WaDR3.grownBy (WaDR3.setCell ⟨HDN, 0, none⟩ (.int .i64 n)) (some HDN) := grown_setCell (World.grownBy.refl WaDR3 _) _ _
      replace DM := Blk.grown DM hgS (by simp <;> omega)
      replace DZ := Blk.grown DZ hgS (by simp <;> omega)
      replace HR := RowF.grown HR hgS (by simp <;> omega)
      replace DN := Blk.set_ DN 0 (.int .i64 n)
      replace DR := Blk.grown DR hgS (by simp <;> omega)
      replace bz := bz.grown hgS bz.size (fun k e => by injection e with e; omega)
      generalize WaDR3.setCell ⟨HDN, 0, none⟩ (.int .i64 n) = WsDN4 at DM DZ HR DN DR bz ⊢
      clear hgS
      clear hS; refine hK.out _ _ DM (fun hS => ?_); clear hK K
      try simp only [Act.put, List.setIfInBounds_toArray, List.set_cons_zero, List.set_cons_succ, List.getElem_toArray, List.getElem_cons_zero, List.getElem_cons_succ]
      have fcDR := Blk.cell DR 0 rfl
      have frDR := Blk.free DR 0
      refine wpAnyH_ready (rs := [8]) (by kernel_rfl) (by simp) ?_
      refine AllReadyH.cons rfl (fun K hK => ?_) AllReadyH.nil
      go_simp
      clear fcDR frDR
      have hgS : WsDN4.grownBy (WsDN4.setCell ⟨HDR, 0, none⟩ (.slice (some ⟨HG, 0, none⟩) N N)) (some HDR) := grown_setCell (World.grownBy.refl WsDN4 _) _ _
      replace DM := Blk.grown DM hgS (by simp <;> omega)
      replace DZ := Blk.grown DZ hgS (by simp <;> omega)
      replace HR := RowF.grown HR hgS (by simp <;> omega)
      replace DN := Blk.grown DN hgS (by simp <;> omega)
      replace DR := Blk.set_ DR 0 (.slice (some ⟨HG, 0, none⟩) N N)
      replace bz := bz.grown hgS bz.size (fun k e => by injection e with e; omega)
      generalize WsDN4.setCell ⟨HDR, 0, none⟩ (.slice (some ⟨HG, 0, none⟩) N N) = WsDR5 at DM DZ HR DN DR bz ⊢
      clear hgS
      clear hS; refine hK.out _ _ DM (fun hS => ?_); clear hK K
      try simp only [Act.put, List.setIfInBounds_toArray, List.set_cons_zero, List.set_cons_succ, List.getElem_toArray, List.getElem_cons_zero, List.getElem_cons_succ]
      refine wpAnyH_done (by kernel_rfl) ?_ _
      exact key _ _ _ _ _ _ _ _ _ _ _ _ _ _ _ _ _ _ _ _ _ _ _ _ _ _ _ _ _ _ _ _ _ _ _ _ _ _ _ _ _ _ _ _ _ _ _ _ _ _ _ _ _ _ _ _ _ _ _ _ _ _ _ _ _ _ _ DZ DN DR HR bz (by omega) (by omega) (by omega) (by omega) (by omega)
    go_simp
    have qDR_DM := DM.lt
    have qDR_DZ := DZ.lt
    have qDR_HR := HR.lt
    have DR := Blk.new Wc1 [.slice none 0 0] 22
    obtain ⟨HDR, eDR⟩ : ∃ H, Wc1.heap.size = H := ⟨_, rfl⟩
    rw [eDR] at DR
    have hbA := (Below.refl _ Wc1).alloc (Nat.le_refl _) (.cells #[.slice none 0 0] 22)
    replace DM := DM.on hbA
    replace DZ := DZ.on hbA
    replace HR := HR.on hbA
    clear hbA
    replace bz := bz.alloc bz.size (.cells #[.slice none 0 0] 22)
    simp only [eDR] at qDR_DM qDR_DZ qDR_HR ⊢
    clear eDR
    generalize Wc1.alloc (.cells #[.slice none 0 0] 22) = WaDR2 at DM DZ HR DR bz ⊢
    clear hS; refine hK.out _ _ DM (fun hS => ?_); clear hK K
    try simp only [Act.put, List.setIfInBounds_toArray, List.set_cons_zero, List.set_cons_succ, List.getElem_toArray, List.getElem_cons_zero, List.getElem_cons_succ]
    refine wpAnyH_ready (rs := [5]) (by kernel_rfl) (by simp) ?_
    refine AllReadyH.cons rfl (fun K hK => ?_) AllReadyH.nil
    go_simp
    have qDN_DM := DM.lt
    have qDN_DZ := DZ.lt
    have qDN_HR := HR.lt
    have qDN_DR := DR.lt
    have DN := Blk.new WaDR2 [.int .i64 0] 3
    obtain ⟨HDN, eDN⟩ : ∃ H, WaDR2.heap.size = H := ⟨_, rfl⟩
    rw [eDN] at DN
    have hbA := (Below.refl _ WaDR2).alloc (Nat.le_refl _) (.cells #[.int .i64 0] 3)
    replace DM := DM.on hbA
    replace DZ := DZ.on hbA
    replace HR := HR.on hbA
    replace DR := DR.on hbA
    clear hbA
    replace bz := bz.alloc bz.size (.cells #[.int .i64 0] 3)
    simp only [eDN] at qDN_DM qDN_DZ qDN_HR qDN_DR ⊢
    clear eDN
    generalize WaDR2.alloc (.cells #[.int .i64 0] 3) = WaDN3 at DM DZ HR DR DN bz ⊢
    clear hS; refine hK.out _ _ DM (fun hS => ?_); clear hK K
    try simp only [Act.put, List.setIfInBounds_toArray, List.set_cons_zero, List.set_cons_succ, List.getElem_toArray, List.getElem_cons_zero, List.getElem_cons_succ]
    have fcDN := Blk.cell DN 0 rfl
    have frDN := Blk.free DN 0
    refine wpAnyH_ready (rs := [7]) (by kernel_rfl) (by simp) ?_
    refine AllReadyH.cons rfl (fun K hK => ?_) AllReadyH.nil
    go_simp
    clear fcDN frDN
    have hgS : WaDN3.grownBy (WaDN3.setCell ⟨HDN, 0, none⟩ (.int .i64 n)) (some HDN) := grown_setCell (World.grownBy.refl WaDN3 _) _ _
    replace DM := Blk.grown DM hgS (by simp <;> omega)
    replace DZ := Blk.grown DZ hgS (by simp <;> omega)
    replace HR := RowF.grown HR hgS (by simp <;> omega)
    replace DR := Blk.grown DR hgS (by simp <;> omega)
    replace DN := Blk.set_ DN 0 (.int .i64 n)
    replace bz := bz.grown hgS bz.size (fun k e => by injection e with e; omega)
    generalize WaDN3.setCell ⟨HDN, 0, none⟩ (.int .i64 n) = WsDN4 at DM DZ HR DR DN bz ⊢
    clear hgS
    clear hS; refine hK.out _ _ DM (fun hS => ?_); clear hK K
    try simp only [Act.put, List.setIfInBounds_toArray, List.set_cons_zero, List.set_cons_succ, List.getElem_toArray, List.getElem_cons_zero, List.getElem_cons_succ]
    have fcDR := Blk.cell DR 0 rfl
    have frDR := Blk.free DR 0
    refine wpAnyH_ready (rs := [8]) (by kernel_rfl) (by simp) ?_
    refine AllReadyH.cons rfl (fun K hK => ?_) AllReadyH.nil
    go_simp
    clear fcDR frDR
    have hgS : WsDN4.grownBy (WsDN4.setCell ⟨HDR, 0, none⟩ (.slice (some ⟨HG, 0, none⟩) N N)) (some HDR) := grown_setCell (World.grownBy.refl WsDN4 _) _ _
    replace DM := Blk.grown DM hgS (by simp <;> omega)
    replace DZ := Blk.grown DZ hgS (by simp <;> omega)
    replace HR := RowF.grown HR hgS (by simp <;> omega)
    replace DR := Blk.set_ DR 0 (.slice (some ⟨HG, 0, none⟩) N N)
    replace DN := Blk.grown DN hgS (by simp <;> omega)
    replace bz := bz.grown hgS bz.size (fun k e => by injection e with e; omega)
    generalize WsDN4.setCell ⟨HDR, 0, none⟩ (.slice (some ⟨HG, 0, none⟩) N N) = WsDR5 at DM DZ HR DR DN bz ⊢
    clear hgS
    clear hS; refine hK.out _ _ DM (fun hS => ?_); clear hK K
    try simp only [Act.put, List.setIfInBounds_toArray, List.set_cons_zero, List.set_cons_succ, List.getElem_toArray, List.getElem_cons_zero, List.getElem_cons_succ]
    refine wpAnyH_done (by kernel_rfl) ?_ _
    exact key _ _ _ _ _ _ _ _ _ _ _ _ _ _ _ _ _ _ _ _ _ _ _ _ _ _ _ _ _ _ _ _ _ _ _ _ _ _ _ _ _ _ _ _ _ _ _ _ _ _ _ _ _ _ _ _ _ _ _ _ _ _ _ _ _ _ _ DZ DN DR HR bz (by omega) (by omega) (by omega) (by omega) (by omega)
  · go_simp
    have qDN_DM := DM.lt
    have qDN_DZ := DZ.lt
    have DN := Blk.new wd [.int .i64 0] 3
    obtain ⟨HDN, eDN⟩ : ∃ H, wd.heap.size = H := ⟨_, rfl⟩
    rw [eDN] at DN
    have hbA := (Below.refl _ wd).alloc (Nat.le_refl _) (.cells #[.int .i64 0] 3)
    replace h := h.on hbA
    replace DM := DM.on hbA
    replace DZ := DZ.on hbA
    clear hbA
    replace bz := bz.alloc bz.size (.cells #[.int .i64 0] 3)
    simp only [eDN] at qDN_DM qDN_DZ ⊢
    clear eDN
    generalize wd.alloc (.cells #[.int .i64 0] 3) = WaDN1 at h DM DZ DN bz ⊢
    clear hS; refine hK.out _ _ DM (fun hS => ?_); clear hK K
    try simp only [Act.put, List.setIfInBounds_toArray, List.set_cons_zero, List.set_cons_succ, List.getElem_toArray, List.getElem_cons_zero, List.getElem_cons_succ]
    refine wpAnyH_ready (rs := [4, 6]) (by kernel_rfl) (by simp) ?_
    refine (AllReadyH.cons rfl (fun K hK => ?_) (AllReadyH.cons rfl (fun K hK => ?_) AllReadyH.nil))
    · go_simp
      have qHR_DM := DM.lt
      have qHR_DZ := DZ.lt
      have qHR_DN := DN.lt
      with_reducible refine (tcopied_any h (by omega)).mono ?_
      rintro e w2 ⟨rfl, rfl⟩
      have HR := RowF.new WaDN1 l
      obtain ⟨HG, eG⟩ : ∃ H, WaDN1.heap.size = H := ⟨_, rfl⟩
      rw [eG] at HR
      have hbA := (Below.refl _ WaDN1).alloc (Nat.le_refl _) (.cells (LF l).toArray 39)
      replace h := h.on hbA
      replace DM := DM.on hbA
      replace DZ := DZ.on hbA
      replace DN := DN.on hbA
      clear hbA
      replace bz := bz.alloc bz.size (.cells (LF l).toArray 39)
      simp only [eG] at qHR_DM qHR_DZ qHR_DN ⊢
      clear eG
      clear h
      generalize WaDN1.alloc (.cells (LF l).toArray 39) = Wc2 at DM DZ DN HR bz ⊢
      clear hS; refine hK.out _ _ DM (fun hS => ?_); clear hK K
      try simp only [Act.put, List.setIfInBounds_toArray, List.set_cons_zero, List.set_cons_succ, List.getElem_toArray, List.getElem_cons_zero, List.getElem_cons_succ]
      refine wpAnyH_ready (rs := [6]) (by kernel_rfl) (by simp) ?_
      refine AllReadyH.cons rfl (fun K hK => ?_) AllReadyH.nil
      go_simp
      have qDR_DM := DM.lt
      have qDR_DZ := DZ.lt
      have qDR_DN := DN.lt
      have qDR_HR := HR.lt
      have DR := Blk.new Wc2 [.slice none 0 0] 22
      obtain ⟨HDR, eDR⟩ : ∃ H, Wc2.heap.size = H := ⟨_, rfl⟩
      rw [eDR] at DR
      have hbA := (Below.refl _ Wc2).alloc (Nat.le_refl _) (.cells #[.slice none 0 0] 22)
      replace DM := DM.on hbA
      replace DZ := DZ.on hbA
      replace DN := DN.on hbA
      replace HR := HR.on hbA
      clear hbA
      replace bz := bz.alloc bz.size (.cells #[.slice none 0 0] 22)
      simp only [eDR] at qDR_DM qDR_DZ qDR_DN qDR_HR ⊢
      clear eDR
      generalize Wc2.alloc (.cells #[.slice none 0 0] 22) = WaDR3 at DM DZ DN HR DR bz ⊢
      clear hS; refine hK.out _ _ DM (fun hS => ?_); clear hK K
      try simp only [Act.put, List.setIfInBounds_toArray, List.set_cons_zero, List.set_cons_succ, List.getElem_toArray, List.getElem_cons_zero, List.getElem_cons_succ]
      have fcDN := Blk.cell DN 0 rfl
      have frDN := Blk.free DN 0
      refine wpAnyH_ready (rs := [7]) (by kernel_rfl) (by simp) ?_
      refine AllReadyH.cons rfl (fun K hK => ?_) AllReadyH.nil
      go_simp
      clear fcDN frDN
      have hgS : WaDR3.grownBy (WaDR3.setCell ⟨HDN, 0, none⟩ (.int .i64 n)) (some HDN) := grown_setCell (World.grownBy.refl WaDR3 _) _ _
      replace DM := Blk.grown DM hgS (by simp <;> omega)
      replace DZ := Blk.grown DZ hgS (by simp <;> omega)
      replace DN := Blk.set_ DN 0 (.int .i64 n)
      replace HR := RowF.grown HR hgS (by simp <;> omega)
      replace DR := Blk.grown DR hgS (by simp <;> omega)
      replace bz := bz.grown hgS bz.size (fun k e => by injection e with e; omega)
      generalize WaDR3.setCell ⟨HDN, 0, none⟩ (.int .i64 n) = WsDN4 at DM DZ DN HR DR bz ⊢
      clear hgS
      clear hS; refine hK.out _ _ DM (fun hS => ?_); clear hK K
      try simp only [Act.put, List.setIfInBounds_toArray, List.set_cons_zero, List.set_cons_succ, List.getElem_toArray, List.getElem_cons_zero, List.getElem_cons_succ]
      have fcDR := Blk.cell DR 0 rfl
      have frDR := Blk.free DR 0
      refine wpAnyH_ready (rs := [8]) (by kernel_rfl) (by simp) ?_
      refine AllReadyH.cons rfl (fun K hK => ?_) AllReadyH.nil
      go_simp
      clear fcDR frDR
      have hgS : WsDN4.grownBy (WsDN4.setCell ⟨HDR, 0, none⟩ (.slice (some ⟨HG, 0, none⟩) N N)) (some HDR) := grown_setCell (World.grownBy.refl WsDN4 _) _ _
      replace DM := Blk.grown DM hgS (by simp <;> omega)
      replace DZ := Blk.grown DZ hgS (by simp <;> omega)
      replace DN := Blk.grown DN hgS (by simp <;> omega)
      replace HR := RowF.grown HR hgS (by simp <;> omega)
      replace DR := Blk.set_ DR 0 (.slice (some ⟨HG, 0, none⟩) N N)
      replace bz := bz.grown hgS bz.size (fun k e => by injection e with e; omega)
      generalize WsDN4.setCell ⟨HDR, 0, none⟩ (.slice (some ⟨HG, 0, none⟩) N N) = WsDR5 at DM DZ DN HR DR bz ⊢
      clear hgS
      clear hS; refine hK.out _ _ DM (fun hS => ?_); clear hK K
      try simp only [Act.put, List.setIfInBounds_toArray, List.set_cons_zero, List.set_cons_succ, List.getElem_toArray, List.getElem_cons_zero, List.getElem_cons_succ]
      refine wpAnyH_done (by kernel_rfl) ?_ _
      exact key _ _ _ _ _ _ _ _ _ _ _ _ _ _ _ _ _ _ _ _ _ _ _ _ _ _ _ _ _ _ _ _ _ _ _ _ _ _ _ _ _ _ _ _ _ _ _ _ _ _ _ _ _ _ _ _ _ _ _ _ _ _ _ _ _ _ _ DZ DN DR HR bz (by omega) (by omega) (by omega) (by omega) (by omega)
    go_simp
    have qDR_DM := DM.lt
    have qDR_DZ := DZ.lt
    have qDR_DN := DN.lt
    have DR := Blk.new WaDN1 [.slice none 0 0] 22
    obtain ⟨HDR, eDR⟩ : ∃ H, WaDN1.heap.size = H := ⟨_, rfl⟩
    rw [eDR] at DR
    have hbA := (Below.refl _ WaDN1).alloc (Nat.le_refl _) (.cells #[.slice none 0 0] 22)
    replace h := h.on hbA
    replace DM := DM.on hbA
    replace DZ := DZ.on hbA
    replace DN := DN.on hbA
    clear hbA
    replace bz := bz.alloc bz.size (.cells #[.slice none 0 0] 22)
    simp only [eDR] at qDR_DM qDR_DZ qDR_DN ⊢
    clear eDR
    generalize WaDN1.alloc (.cells #[.slice none 0 0] 22) = WaDR2 at h DM DZ DN DR bz ⊢
    clear hS; refine hK.out _ _ DM (fun hS => ?_); clear hK K
    try simp only [Act.put, List.setIfInBounds_toArray, List.set_cons_zero, List.set_cons_succ, List.getElem_toArray, List.getElem_cons_zero, List.getElem_cons_succ]
    refine wpAnyH_ready (rs := [4]) (by kernel_rfl) (by simp) ?_
    refine AllReadyH.cons rfl (fun K hK => ?_) AllReadyH.nil
    go_simp
    have qHR_DM := DM.lt
    have qHR_DZ := DZ.lt
    have qHR_DN := DN.lt
    have qHR_DR := DR.lt
    with_reducible refine (tcopied_any h (by omega)).mono ?_
    rintro e w2 ⟨rfl, rfl⟩
    have HR := RowF.new WaDR2 l
    obtain ⟨HG, eG⟩ : ∃ H, WaDR2.heap.size = H := ⟨_, rfl⟩
    rw [eG] at HR
    have hbA := (Below.refl _ WaDR2).alloc (Nat.le_refl _) (.cells (LF l).toArray 39)
    replace h := h.on hbA
    replace DM := DM.on hbA
    replace DZ := DZ.on hbA
    replace DN := DN.on hbA
    replace DR := DR.on hbA
    clear hbA
    replace bz := bz.alloc bz.size (.cells (LF l).toArray 39)
    simp only [eG] at qHR_DM qHR_DZ qHR_DN qHR_DR ⊢
    clear eG
    clear h
    generalize WaDR2.alloc (.cells (LF l).toArray 39) = Wc3 at DM DZ DN DR HR bz ⊢
    clear hS; refine hK.out _ _ DM (fun hS => ?_); clear hK K
    try simp only [Act.put, List.setIfInBounds_toArray, List.set_cons_zero, List.set_cons_succ, List.getElem_toArray, List.getElem_cons_zero, List.getElem_cons_succ]
    have fcDN := Blk.cell DN 0 rfl
    have frDN := Blk.free DN 0
    refine wpAnyH_ready (rs := [7]) (by kernel_rfl) (by simp) ?_
    refine AllReadyH.cons rfl (fun K hK => ?_) AllReadyH.nil
    go_simp
    clear fcDN frDN
    have hgS : Wc3.grownBy (Wc3.setCell ⟨HDN, 0, none⟩ (.int .i64 n)) (some HDN) := grown_setCell (World.grownBy.refl Wc3 _) _ _
    replace DM := Blk.grown DM hgS (by simp <;> omega)
    replace DZ := Blk.grown DZ hgS (by simp <;> omega)
    replace DN := Blk.set_ DN 0 (.int .i64 n)
    replace DR := Blk.grown DR hgS (by simp <;> omega)
    replace HR := RowF.grown HR hgS (by simp <;> omega)
    replace bz := bz.grown hgS bz.size (fun k e => by injection e with e; omega)
    generalize Wc3.setCell ⟨HDN, 0, none⟩ (.int .i64 n) = WsDN4 at DM DZ DN DR HR bz ⊢
    clear hgS
    clear hS; refine hK.out _ _ DM (fun hS => ?_); clear hK K
    try simp only [Act.put, List.setIfInBounds_toArray, List.set_cons_zero, List.set_cons_succ, List.getElem_toArray, List.getElem_cons_zero, List.getElem_cons_succ]
    have fcDR := Blk.cell DR 0 rfl
    have frDR := Blk.free DR 0
    refine wpAnyH_ready (rs := [8]) (by kernel_rfl) (by simp) ?_
    refine AllReadyH.cons rfl (fun K hK => ?_) AllReadyH.nil
    go_simp
    clear fcDR frDR
    have hgS : WsDN4.grownBy (WsDN4.setCell ⟨HDR, 0, none⟩ (.slice (some ⟨HG, 0, none⟩) N N)) (some HDR) := grown_setCell (World.grownBy.refl WsDN4 _) _ _
    replace DM := Blk.grown DM hgS (by simp <;> omega)
    replace DZ := Blk.grown DZ hgS (by simp <;> omega)
    replace DN := Blk.grown DN hgS (by simp <;> omega)
    replace DR := Blk.set_ DR 0 (.slice (some ⟨HG, 0, none⟩) N N)
    replace HR := RowF.grown HR hgS (by simp <;> omega)
    replace bz := bz.grown hgS bz.size (fun k e => by injection e with e; omega)
    generalize WsDN4.setCell ⟨HDR, 0, none⟩ (.slice (some ⟨HG, 0, none⟩) N N) = WsDR5 at DM DZ DN DR HR bz ⊢
    clear hgS
    clear hS; refine hK.out _ _ DM (fun hS => ?_); clear hK K
    try simp only [Act.put, List.setIfInBounds_toArray, List.set_cons_zero, List.set_cons_succ, List.getElem_toArray, List.getElem_cons_zero, List.getElem_cons_succ]
    refine wpAnyH_done (by kernel_rfl) ?_ _
    exact key _ _ _ _ _ _ _ _ _ _ _ _ _ _ _ _ _ _ _ _ _ _ _ _ _ _ _ _ _ _ _ _ _ _ _ _ _ _ _ _ _ _ _ _ _ _ _ _ _ _ _ _ _ _ _ _ _ _ _ _ _ _ _ _ _ _ _ DZ DN DR HR bz (by omega) (by omega) (by omega) (by omega) (by omega)
  go_simp
  have qDR_DM := DM.lt
  have qDR_DZ := DZ.lt
  have DR := Blk.new wd [.slice none 0 0] 22
  obtain ⟨HDR, eDR⟩ : ∃ H, wd.heap.size = H := ⟨_, rfl⟩
  rw [eDR] at DR
  have hbA := (Below.refl _ wd).alloc (Nat.le_refl _) (.cells #[.slice none 0 0] 22)
  replace h := h.on hbA
  replace DM := DM.on hbA
  replace DZ := DZ.on hbA
  clear hbA
  replace bz := bz.alloc bz.size (.cells #[.slice none 0 0] 22)
  simp only [eDR] at qDR_DM qDR_DZ ⊢
  clear eDR
  generalize wd.alloc (.cells #[.slice none 0 0] 22) = WaDR1 at h DM DZ DR bz ⊢
  clear hS; refine hK.out _ _ DM (fun hS => ?_); clear hK K
  try simp only [Act.put, List.setIfInBounds_toArray, List.set_cons_zero, List.set_cons_succ, List.getElem_toArray, List.getElem_cons_zero, List.getElem_cons_succ]
  refine wpAnyH_ready (rs := [4, 5]) (by kernel_rfl) (by simp) ?_
  refine (AllReadyH.cons rfl (fun K hK => ?_) (AllReadyH.cons rfl (fun K hK => ?_) AllReadyH.nil))
  · go_simp
    have qHR_DM := DM.lt
    have qHR_DZ := DZ.lt
    have qHR_DR := DR.lt
    with_reducible refine (tcopied_any h (by omega)).mono ?_
    rintro e w2 ⟨rfl, rfl⟩
    have HR := RowF.new WaDR1 l
    obtain ⟨HG, eG⟩ : ∃ H, WaDR1.heap.size = H := ⟨_, rfl⟩
    rw [eG] at HR
    have hbA := (Below.refl _ WaDR1).alloc (Nat.le_refl _) (.cells (LF l).toArray 39)
    replace h := h.on hbA
    replace DM := DM.on hbA
    replace DZ := DZ.on hbA
    replace DR := DR.on hbA
    clear hbA
    replace bz := bz.alloc bz.size (.cells (LF l).toArray 39)
    simp only [eG] at qHR_DM qHR_DZ qHR_DR ⊢
    clear eG
    clear h
    generalize WaDR1.alloc (.cells (LF l).toArray 39) = Wc2 at DM DZ DR HR bz ⊢
    clear hS; refine hK.out _ _ DM (fun hS => ?_); clear hK K
    try simp only [Act.put, List.setIfInBounds_toArray, List.set_cons_zero, List.set_cons_succ, List.getElem_toArray, List.getElem_cons_zero, List.getElem_cons_succ]
    refine wpAnyH_ready (rs := [5]) (by kernel_rfl) (by simp) ?_
    refine AllReadyH.cons rfl (fun K hK => ?_) AllReadyH.nil
    go_simp
    have qDN_DM := DM.lt
    have qDN_DZ := DZ.lt
    have qDN_DR := DR.lt
    have qDN_HR := HR.lt
    have DN := Blk.new Wc2 [.int .i64 0] 3
    obtain ⟨HDN, eDN⟩ : ∃ H, Wc2.heap.size = H := ⟨_, rfl⟩
    rw [eDN] at DN
    have hbA := (Below.refl _ Wc2).alloc (Nat.le_refl _) (.cells #[.int .i64 0] 3)
    replace DM := DM.on hbA
    replace DZ := DZ.on hbA
    replace DR := DR.on hbA
    replace HR := HR.on hbA
    clear hbA
    replace bz := bz.alloc bz.size (.cells #[.int .i64 0] 3)
    simp only [eDN] at qDN_DM qDN_DZ qDN_DR qDN_HR ⊢
    clear eDN
    generalize Wc2.alloc (.cells #[.int .i64 0] 3) = WaDN3 at DM DZ DR HR DN bz ⊢
    clear hS; refine hK.out _ _ DM (fun hS => ?_); clear hK K
    try simp only [Act.put, List.setIfInBounds_toArray, List.set_cons_zero, List.set_cons_succ, List.getElem_toArray, List.getElem_cons_zero, List.getElem_cons_succ]
    have fcDN := Blk.cell DN 0 rfl
    have frDN := Blk.free DN 0
    refine wpAnyH_ready (rs := [7]) (by kernel_rfl) (by simp) ?_
    refine AllReadyH.cons rfl (fun K hK => ?_) AllReadyH.nil
    go_simp
    clear fcDN frDN
    have hgS : WaDN3.grownBy (WaDN3.setCell ⟨HDN, 0, none⟩ (.int .i64 n)) (some HDN) := grown_setCell (World.grownBy.refl WaDN3 _) _ _
    replace DM := Blk.grown DM hgS (by simp <;> omega)
    replace DZ := Blk.grown DZ hgS (by simp <;> omega)
    replace DR := Blk.grown DR hgS (by simp <;> omega)
    replace HR := RowF.grown HR hgS (by simp <;> omega)
    replace DN := Blk.set_ DN 0 (.int .i64 n)
    replace bz := bz.grown hgS bz.size (fun k e => by injection e with e; omega)
    generalize WaDN3.setCell ⟨HDN, 0, none⟩ (.int .i64 n) = WsDN4 at DM DZ DR HR DN bz ⊢
    clear hgS
    clear hS; refine hK.out _ _ DM (fun hS => ?_); clear hK K
    try simp only [Act.put, List.setIfInBounds_toArray, List.set_cons_zero, List.set_cons_succ, List.getElem_toArray, List.getElem_cons_zero, List.getElem_cons_succ]
    have fcDR := Blk.cell DR 0 rfl
    have frDR := Blk.free DR 0
    refine wpAnyH_ready (rs := [8]) (by kernel_rfl) (by simp) ?_
    refine AllReadyH.cons rfl (fun K hK => ?_) AllReadyH.nil
    go_simp
    clear fcDR frDR
    have hgS : WsDN4.grownBy (WsDN4.setCell ⟨HDR, 0, none⟩ (.slice (some ⟨HG, 0, none⟩) N N)) (some HDR) := grown_setCell (World.grownBy.refl WsDN4 _) _ _
    replace DM := Blk.grown DM hgS (by simp <;> omega)
    replace DZ := Blk.grown DZ hgS (by simp <;> omega)
    replace DR := Blk.set_ DR 0 (.slice (some ⟨HG, 0, none⟩) N N)
    replace HR := RowF.grown HR hgS (by simp <;> omega)
    replace DN := Blk.grown DN hgS (by simp <;> omega)
    replace bz := bz.grown hgS bz.size (fun k e => by injection e with e; omega)
    generalize WsDN4.setCell ⟨HDR, 0, none⟩ (.slice (some ⟨HG, 0, none⟩) N N) = WsDR5 at DM DZ DR HR DN bz ⊢
    clear hgS
    clear hS; refine hK.out _ _ DM (fun hS => ?_); clear hK K
    try simp only [Act.put, List.setIfInBounds_toArray, List.set_cons_zero, List.set_cons_succ, List.getElem_toArray, List.getElem_cons_zero, List.getElem_cons_succ]
    refine wpAnyH_done (by kernel_rfl) ?_ _
    exact key _ _ _ _ _ _ _ _ _ _ _ _ _ _ _ _ _ _ _ _ _ _ _ _ _ _ _ _ _ _ _ _ _ _ _ _ _ _ _ _ _ _ _ _ _ _ _ _ _ _ _ _ _ _ _ _ _ _ _ _ _ _ _ _ _ _ _ DZ DN DR HR bz (by omega) (by omega) (by omega) (by omega) (by omega)
  go_simp
  have qDN_DM := DM.lt
  have qDN_DZ := DZ.lt
  have qDN_DR := DR.lt
  have DN := Blk.new WaDR1 [.int .i64 0] 3
  obtain ⟨HDN, eDN⟩ : ∃ H, WaDR1.heap.size = H := ⟨_, rfl⟩
  rw [eDN] at DN
  have hbA := (Below.refl _ WaDR1).alloc (Nat.le_refl _) (.cells #[.int .i64 0] 3)
  replace h := h.on hbA
  replace DM := DM.on hbA
  replace DZ := DZ.on hbA
  replace DR := DR.on hbA
  clear hbA
  replace bz := bz.alloc bz.size (.cells #[.int .i64 0] 3)
  simp only [eDN] at qDN_DM qDN_DZ qDN_DR ⊢
  clear eDN
  generalize WaDR1.alloc (.cells #[.int .i64 0] 3) = WaDN2 at h DM DZ DR DN bz ⊢
  clear hS; refine hK.out _ _ DM (fun hS => ?_); clear hK K
  try simp only [Act.put, List.setIfInBounds_toArray, List.set_cons_zero, List.set_cons_succ, List.getElem_toArray, List.getElem_cons_zero, List.getElem_cons_succ]
  refine wpAnyH_ready (rs := [4]) (by kernel_rfl) (by simp) ?_
  refine AllReadyH.cons rfl (fun K hK => ?_) AllReadyH.nil
  go_simp
  have qHR_DM := DM.lt
  have qHR_DZ := DZ.lt
  have qHR_DR := DR.lt
  have qHR_DN := DN.lt
  with_reducible refine (tcopied_any h (by omega)).mono ?_
  rintro e w2 ⟨rfl, rfl⟩
  have HR := RowF.new WaDN2 l
  obtain ⟨HG, eG⟩ : ∃ H, WaDN2.heap.size = H := ⟨_, rfl⟩
  rw [eG] at HR
  have hbA := (Below.refl _ WaDN2).alloc (Nat.le_refl _) (.cells (LF l).toArray 39)
  replace h := h.on hbA
  replace DM := DM.on hbA
  replace DZ := DZ.on hbA
  replace DR := DR.on hbA
  replace DN := DN.on hbA
  clear hbA
  replace bz := bz.alloc bz.size (.cells (LF l).toArray 39)
  simp only [eG] at qHR_DM qHR_DZ qHR_DR qHR_DN ⊢
  clear eG
  clear h
  generalize WaDN2.alloc (.cells (LF l).toArray 39) = Wc3 at DM DZ DR DN HR bz ⊢
  clear hS; refine hK.out _ _ DM (fun hS => ?_); clear hK K
  try simp only [Act.put, List.setIfInBounds_toArray, List.set_cons_zero, List.set_cons_succ, List.getElem_toArray, List.getElem_cons_zero, List.getElem_cons_succ]
  have fcDN := Blk.cell DN 0 rfl
  have frDN := Blk.free DN 0
  refine wpAnyH_ready (rs := [7]) (by kernel_rfl) (by simp) ?_
  refine AllReadyH.cons rfl (fun K hK => ?_) AllReadyH.nil
  go_simp
  clear fcDN frDN
  have hgS : Wc3.grownBy (Wc3.setCell ⟨HDN, 0, none⟩ (.int .i64 n)) (some HDN) := grown_setCell (World.grownBy.refl Wc3 _) _ _
  replace DM := Blk.grown DM hgS (by simp <;> omega)
  replace DZ := Blk.grown DZ hgS (by simp <;> omega)
  replace DR := Blk.grown DR hgS (by simp <;> omega)
  replace DN := Blk.set_ DN 0 (.int .i64 n)
  replace HR := RowF.grown HR hgS (by simp <;> omega)
  replace bz := bz.grown hgS bz.size (fun k e => by injection e with e; omega)
  generalize Wc3.setCell ⟨HDN, 0, none⟩ (.int .i64 n) = WsDN4 at DM DZ DR DN HR bz ⊢
  clear hgS
  clear hS; refine hK.out _ _ DM (fun hS => ?_); clear hK K
  try simp only [Act.put, List.setIfInBounds_toArray, List.set_cons_zero, List.set_cons_succ, List.getElem_toArray, List.getElem_cons_zero, List.getElem_cons_succ]
  have fcDR := Blk.cell DR 0 rfl
  have frDR := Blk.free DR 0
  refine wpAnyH_ready (rs := [8]) (by kernel_rfl) (by simp) ?_
  refine AllReadyH.cons rfl (fun K hK => ?_) AllReadyH.nil
  go_simp
  clear fcDR frDR
  have hgS : WsDN4.grownBy (WsDN4.setCell ⟨HDR, 0, none⟩ (.slice (some ⟨HG, 0, none⟩) N N)) (some HDR) := grown_setCell (World.grownBy.refl WsDN4 _) _ _
  replace DM := Blk.grown DM hgS (by simp <;> omega)
  replace DZ := Blk.grown DZ hgS (by simp <;> omega)
  replace DR := Blk.set_ DR 0 (.slice (some ⟨HG, 0, none⟩) N N)
  replace DN := Blk.grown DN hgS (by simp <;> omega)
  replace HR := RowF.grown HR hgS (by simp <;> omega)
  replace bz := bz.grown hgS bz.size (fun k e => by injection e with e; omega)
  generalize WsDN4.setCell ⟨HDR, 0, none⟩ (.slice (some ⟨HG, 0, none⟩) N N) = WsDR5 at DM DZ DR DN HR bz ⊢
  clear hgS
  clear hS; refine hK.out _ _ DM (fun hS => ?_); clear hK K
  try simp only [Act.put, List.setIfInBounds_toArray, List.set_cons_zero, List.set_cons_succ, List.getElem_toArray, List.getElem_cons_zero, List.getElem_cons_succ]
  refine wpAnyH_done (by kernel_rfl) ?_ _
  exact key _ _ _ _ _ _ _ _ _ _ _ _ _ _ _ _ _ _ _ _ _ _ _ _ _ _ _ _ _ _ _ _ _ _ _ _ _ _ _ _ _ _ _ _ _ _ _ _ _ _ _ _ _ _ _ _ _ _ _ _ _ _ _ _ _ _ _ DZ DN DR HR bz (by omega) (by omega) (by omega) (by omega) (by omega)
end Go.Proofs.Ytaemkjcmjgefeaa
