/-
  Layer 8, walks: the program's times, Gemv. (Written by wip/tools/gen_kni.py.)
-/
import Derived.Test.YtfelmkkkaphkpaaKnF
import Derived.Test.YtfelmkkkaphkpaaKnR
namespace Go.Proofs.Ytfelmkkkaphkpaa
open Go.RowKit Go.Bw Go.Sort Go.Shelf
set_option linter.unusedVariables false
set_option linter.unusedSimpArgs false

/-- places that are written by a call that answers nothing -/
def WrT (w : World) (B s g cap c : Nat) (v : Vu) (l : List Int) (P : Nat → Nat → Bool) (f : Nat → Nat → Option Nat) (e : Ending) (w' : World) : Prop := ∃ lx, e = .returned (.tuple #[]) ∧ St w' B s g cap c lx ∧ w.grownBy w' (some g) ∧ Wr v c l lx P f
section
variable {w : World} {x y : Vu} {X Y : List Int} {K : Int} {B s g cap c n a b : Nat} {l : List Int}
set_option maxRecDepth 100000 in
set_option maxHeartbeats 8000000 in
theorem times_is {m q nx cX B2 o cG : Nat} {G A : Option Addr} {L : List Int} {F : Nat → Option Nat} (ba : a ≤ 18446744073709551615) (bb : b ≤ 18446744073709551615) (hR : Rws w B2 o G cG m q L) (hgB : g < B2) (hX : FL w A nx cX X) (hqx : q ≤ nx) (hAX : ∀ a, A = some a → a.block ≠ g)
    (hy : Sv w y Y) (hv : Vk y s c n K) (hs : St w B s g cap c l) (hl : l.length = n) (hj : Inj y c) (hp : y.p ≠ none) (hvc : y.vec = true) (hm : (y.R * y.C).toNat = m) (hm5 : m ≤ 512 * 512) (hF : ∀ k, bothA (af b) (fa (D Y k)) (af a) (dotA ((L.drop (k * q)).take q) X q) = F k) :
    Calls Try.prog 79 #[.float .f64 a, .slice (some ⟨o, 0, none⟩) m m, .slice A nx cX, .float .f64 b, y.V] w (WrT w B s g cap c y l (fun _ _ => true) (fun i j => F (vix y i j))) := by
  have HSy := Lib.hid hy
  have HST := Lib.hid hs
  have HVK := Lib.hid hv
  have HIJ := Lib.hid hj
  have HLL := Lib.hid hl
  have HPN := Lib.hid hp
  have hvec := Lib.hid hvc
  have HRW := Lib.hid hR
  have HXX := Lib.hid hX
  have HYL := Lib.hid (show Y.length = m by rw [← hm]; have := hy.len; omega)
  have HNv := Lib.hid hm
  have HF := Lib.hid (show ∀ k, bothA (af b) (fa (D Y k)) (af a) (dotA ((L.drop (k * q)).take q) X q) = F k from hF)
  clear hy hs hv hj hl hp hvc hR hX hm hF
  have Dy := Blk.new w y.L 30
  have bz := (Below.refl _ w).alloc (Nat.le_refl _) (.cells y.L.toArray 30)
  have hsz0 : (w.alloc (.cells y.L.toArray 30)).heap.size = w.heap.size + 1 := by simp
  go_enter Try.func79, Try.ntmps79
  go_wp2_with fail
  replace Dy := Dy.drew
  replace bz := bz.drew
  have hszp := bz.size
  refine wp_region_held_drew (S := fun w9 : World => Vbx w9 w.heap.size y) (by kernel_rfl) Dy (fun hS => ?_)
  generalize (w.alloc (.cells y.L.toArray 30)).drew = wf at hS Dy hszp bz ⊢
  refine wpAnyH_take (i := 0) (v := ?v0_1) rfl (by kernel_rfl) (by kernel_rfl) (by kernel_rfl) (fun _ _ _ h => h) (Or.inl ⟨by rfl, ?hy0_1⟩) (by assumption) ?rest0_1
  case hy0_1 => (intro w9 hSw; have m0 : Vbx w9 w.heap.size y := hSw; refine (ld_v (by rfl) (by kernel_rfl) m0).trans ?_; with_reducible rfl)
  try simp only [Act.put, List.setIfInBounds_toArray, List.set_cons_zero, List.set_cons_succ, List.getElem_toArray, List.getElem_cons_zero, List.getElem_cons_succ]
  refine wpAnyH_take (i := 1) (v := ?v1_2) rfl (by kernel_rfl) (by kernel_rfl) (by kernel_rfl) (fun _ _ _ h => h) (Or.inl ⟨by rfl, ?hy1_2⟩) (by assumption) ?rest1_2
  case hy1_2 => (intro w9 hSw; clear hSw; go_simp; try with_reducible rfl)
  try simp only [Act.put, List.setIfInBounds_toArray, List.set_cons_zero, List.set_cons_succ, List.getElem_toArray, List.getElem_cons_zero, List.getElem_cons_succ]
  refine wpAnyH_take (i := 2) (v := ?v2_3) rfl (by kernel_rfl) (by kernel_rfl) (by kernel_rfl) (fun _ _ _ h => h) (Or.inl ⟨by rfl, ?hy2_3⟩) (by assumption) ?rest2_3
  case hy2_3 => (intro w9 hSw; have m0 : Vbx w9 w.heap.size y := hSw; refine (ld_v (by rfl) (by kernel_rfl) m0).trans ?_; with_reducible rfl)
  try simp only [Act.put, List.setIfInBounds_toArray, List.set_cons_zero, List.set_cons_succ, List.getElem_toArray, List.getElem_cons_zero, List.getElem_cons_succ]
  refine wpAnyH_ready (rs := [3]) (by kernel_rfl) (by simp) ?_
  refine AllReadyH.cons rfl (fun K hK => ?_) AllReadyH.nil
  go_simp
  with_reducible refine (floats_is (HSy.out.on bz)).mono ?_
  rintro e w1 ⟨Ay, cy, rfl, hoy, hb⟩
  replace Dy := Dy.on hb
  replace bz := bz.trans (hb.mono bz.size)
  clear hb
  have hAy : ∀ a, Ay = some a → a.block ≠ g := fun a e => by have := (hoy.gt e).1; have := HST.out.gt.2; omega
  have hFy := hoy.fl HSy.out.wd
  rw [HYL.out] at hFy ⊢
  clear hoy
  refine hK.out _ _ Dy (fun hH => ?_)
  clear hK K hS
  have hS := hH
  clear hH
  try simp only [Act.put, List.setIfInBounds_toArray, List.set_cons_zero, List.set_cons_succ, List.getElem_toArray, List.getElem_cons_zero, List.getElem_cons_succ]
  refine wpAnyH_take (i := 4) (v := ?v4_4) rfl (by kernel_rfl) (by kernel_rfl) (by kernel_rfl) (fun _ _ _ h => h) (Or.inl ⟨by rfl, ?hy4_4⟩) (by assumption) ?rest4_4
  case hy4_4 => (intro w9 hSw; clear hSw; go_simp; try with_reducible rfl)
  try simp only [Act.put, List.setIfInBounds_toArray, List.set_cons_zero, List.set_cons_succ, List.getElem_toArray, List.getElem_cons_zero, List.getElem_cons_succ]
  refine wpAnyH_take (i := 5) (v := ?v5_5) rfl (by kernel_rfl) (by kernel_rfl) (by kernel_rfl) (fun _ _ _ h => h) (Or.inl ⟨by rfl, ?hy5_5⟩) (by assumption) ?rest5_5
  case hy5_5 => (intro w9 hSw; clear hSw; go_simp; try with_reducible rfl)
  try simp only [Act.put, List.setIfInBounds_toArray, List.set_cons_zero, List.set_cons_succ, List.getElem_toArray, List.getElem_cons_zero, List.getElem_cons_succ]
  refine wpAnyH_done (by kernel_rfl) ?_ _
  have hs1 := HST.out.on bz
  have hgr := grown_below bz (some g)
  have hR1 := HRW.out.on bz
  have hX1 := HXX.out.on bz
  have hW0 : Wv y c l l 0 F := Wv.start y c l _
  go_wp2_with fail
  go_loopw [20] (fun i wr => ∃ (k : Nat) (lx : List Int), k ≤ m ∧ i = .int .i64 k ∧ Wv y c l lx k F ∧ St wr B s g cap c lx ∧ w.grownBy wr (some g) ∧ Rws wr B2 o G cG m q L ∧ FL wr A nx cX X ∧ FL wr Ay m cy Y) (fun i _ => m - (intOf i).toNat)
  case atStart => exact ⟨0, l, Nat.zero_le _, rfl, hW0, hs1, hgr, hR1, hX1, hFy⟩
  case round =>
    clear hW0 hs1 hgr hR1 hX1 hFy Dy bz
    obtain ⟨k, lx, hk, rfl, hW, hs1, hgr, hR, hX, hFy⟩ := hrel
    by_cases hlt : k < m
    · obtain ⟨A5, c5, hc5, hR5⟩ := hR.row hlt
      obtain ⟨y0, y1⟩ := hFy.2.2.at_ k
      have bY : (D Y k).toNat ≤ 18446744073709551615 := by omega
      obtain ⟨ad, hA, _, _⟩ := hFy.at_ hlt
      subst hA
      have HX : Hid (af (D Y k).toNat = fa (D Y k)) := Lib.hid rfl
      have HFk := Lib.hid (HF.out k)
      have HCY := Lib.hid (show ∀ W, FL W (some ad) m cy Y → W.cell? (ad.add k) = some (.float .f64 (D Y k).toNat) from fun W h => h.2.1.at_some (by rw [h.1]; exact hlt))
      generalize (D Y k).toNat = Yk at *
      have hcy := HCY.out _ hFy
      have k0 : (0 : Int) ≤ k := by omega
      have k1 : (k : Int) < m := by omega
      clear y0 y1
      go_wp2_with fail
      clear hcy hc5
      have bz := (Below.refl wr.heap.size wr).drew
      replace hR := hR.on (Below.refl _ wr).drew
      replace hX := hX.on (Below.refl _ wr).drew
      replace hR5 := hR5.on (Below.refl _ wr).drew
      replace hFy := hFy.on (Below.refl _ wr).drew
      replace hs1 := hs1.on (Below.refl _ wr).drew
      refine wp_region_held_drew (S := fun w9 : World => w9.cell? (ad.add k) = some (.float .f64 Yk)) (by kernel_rfl) (HCY.out _ hFy) (fun hS => ?_)
      refine wpAnyH_take (i := 0) (v := ?v0_6) rfl (by kernel_rfl) (by kernel_rfl) (by kernel_rfl) (fun _ _ _ h => h) (Or.inl ⟨by rfl, ?hy0_6⟩) (by assumption) ?rest0_6
      case hy0_6 => (intro w9 hSw; clear hSw; go_simp; try with_reducible rfl)
      try simp only [Act.put, List.setIfInBounds_toArray, List.set_cons_zero, List.set_cons_succ, List.getElem_toArray, List.getElem_cons_zero, List.getElem_cons_succ]
      refine wpAnyH_take (i := 1) (v := ?v1_7) rfl (by kernel_rfl) (by kernel_rfl) (by kernel_rfl) (fun _ _ _ h => h) (Or.inl ⟨by rfl, ?hy1_7⟩) (by assumption) ?rest1_7
      case hy1_7 => (intro w9 hSw; clear hSw; go_simp; try with_reducible rfl)
      try simp only [Act.put, List.setIfInBounds_toArray, List.set_cons_zero, List.set_cons_succ, List.getElem_toArray, List.getElem_cons_zero, List.getElem_cons_succ]
      refine wpAnyH_take (i := 2) (v := ?v2_8) rfl (by kernel_rfl) (by kernel_rfl) (by kernel_rfl) (fun _ _ _ h => h) (Or.inl ⟨by rfl, ?hy2_8⟩) (by assumption) ?rest2_8
      case hy2_8 => (intro w9 hSw; clear hSw; go_simp; try with_reducible rfl)
      try simp only [Act.put, List.setIfInBounds_toArray, List.set_cons_zero, List.set_cons_succ, List.getElem_toArray, List.getElem_cons_zero, List.getElem_cons_succ]
      refine wpAnyH_take (i := 3) (v := ?v3_9) rfl (by kernel_rfl) (by kernel_rfl) (by kernel_rfl) (fun _ _ _ h => h) (Or.inl ⟨by rfl, ?hy3_9⟩) (by assumption) ?rest3_9
      case hy3_9 => (intro w9 hSw; clear hSw; go_simp; try with_reducible rfl)
      try simp only [Act.put, List.setIfInBounds_toArray, List.set_cons_zero, List.set_cons_succ, List.getElem_toArray, List.getElem_cons_zero, List.getElem_cons_succ]
      refine wpAnyH_take (i := 4) (v := ?v4_10) rfl (by kernel_rfl) (by kernel_rfl) (by kernel_rfl) (fun _ _ _ h => h) (Or.inl ⟨by rfl, ?hy4_10⟩) (by assumption) ?rest4_10
      case hy4_10 => (intro w9 hSw; clear hSw; go_simp; try with_reducible rfl)
      try simp only [Act.put, List.setIfInBounds_toArray, List.set_cons_zero, List.set_cons_succ, List.getElem_toArray, List.getElem_cons_zero, List.getElem_cons_succ]
      refine wpAnyH_take (i := 5) (v := ?v5_11) rfl (by kernel_rfl) (by kernel_rfl) (by kernel_rfl) (fun _ _ _ h => h) (Or.inl ⟨by rfl, ?hy5_11⟩) (by assumption) ?rest5_11
      case hy5_11 => (intro w9 hSw; clear hSw; go_simp; try with_reducible rfl)
      try simp only [Act.put, List.setIfInBounds_toArray, List.set_cons_zero, List.set_cons_succ, List.getElem_toArray, List.getElem_cons_zero, List.getElem_cons_succ]
      refine wpAnyH_take (i := 6) (v := ?v6_12) rfl (by kernel_rfl) (by kernel_rfl) (by kernel_rfl) (fun _ _ _ h => h) (Or.inl ⟨by rfl, ?hy6_12⟩) (by assumption) ?rest6_12
      case hy6_12 => (intro w9 hSw; go_simp; try with_reducible rfl)
      try simp only [Act.put, List.setIfInBounds_toArray, List.set_cons_zero, List.set_cons_succ, List.getElem_toArray, List.getElem_cons_zero, List.getElem_cons_succ]
      refine wpAnyH_take (i := 8) (v := ?v8_13) rfl (by kernel_rfl) (by kernel_rfl) (by kernel_rfl) (fun _ _ _ h => h) (Or.inl ⟨by rfl, ?hy8_13⟩) (by assumption) ?rest8_13
      case hy8_13 => (intro w9 hSw; clear hSw; go_simp; try with_reducible rfl)
      try simp only [Act.put, List.setIfInBounds_toArray, List.set_cons_zero, List.set_cons_succ, List.getElem_toArray, List.getElem_cons_zero, List.getElem_cons_succ]
      refine wpAnyH_take (i := 9) (v := ?v9_14) rfl (by kernel_rfl) (by kernel_rfl) (by kernel_rfl) (fun _ _ _ h => h) (Or.inl ⟨by rfl, ?hy9_14⟩) (by assumption) ?rest9_14
      case hy9_14 => (intro w9 hSw; clear hSw; go_simp; try with_reducible rfl)
      try simp only [Act.put, List.setIfInBounds_toArray, List.set_cons_zero, List.set_cons_succ, List.getElem_toArray, List.getElem_cons_zero, List.getElem_cons_succ]
      refine wpAnyH_take (i := 10) (v := ?v10_15) rfl (by kernel_rfl) (by kernel_rfl) (by kernel_rfl) (fun _ _ _ h => h) (Or.inl ⟨by rfl, ?hy10_15⟩) (by assumption) ?rest10_15
      case hy10_15 => (intro w9 hSw; clear hSw; go_simp; try with_reducible rfl)
      try simp only [Act.put, List.setIfInBounds_toArray, List.set_cons_zero, List.set_cons_succ, List.getElem_toArray, List.getElem_cons_zero, List.getElem_cons_succ]
      refine wpAnyH_ready (rs := [7, 11]) (by kernel_rfl) (by simp) ?_
      refine (AllReadyH.cons rfl (fun K hK => ?_) (AllReadyH.cons rfl (fun K hK => ?_) AllReadyH.nil))
      · refine step_arith .mul (.inr (.inr (.inl rfl))) rfl _ _ _ _ b Yk rfl rfl rfl bb bY ?_
        intro r7 w2 hb h7 b7 hdr
        have H7 := Lib.hid h7
        clear h7 hdr
        replace hR := hR.on hb
        replace hX := hX.on hb
        replace hR5 := hR5.on hb
        replace hFy := hFy.on hb
        replace hs1 := hs1.on hb
        replace bz := bz.trans (hb.mono bz.size)
        clear hb
        refine hK.out _ _ (HCY.out _ hFy) (fun hH => ?_)
        clear hK K hS
        have hS := hH
        clear hH
        try simp only [Act.put, List.setIfInBounds_toArray, List.set_cons_zero, List.set_cons_succ, List.getElem_toArray, List.getElem_cons_zero, List.getElem_cons_succ]
        refine wpAnyH_ready (rs := [11]) (by kernel_rfl) (by simp) ?_
        refine AllReadyH.cons rfl (fun K hK => ?_) AllReadyH.nil
        go_simp
        with_reducible refine (dot_any hR5 hX hqx).mono ?_
        rintro e w3 ⟨rD, rfl, hD, bD, hb⟩
        replace hR := hR.on hb
        replace hX := hX.on hb
        replace hR5 := hR5.on hb
        replace hFy := hFy.on hb
        replace hs1 := hs1.on hb
        replace bz := bz.trans (hb.mono bz.size)
        clear hb
        have HD := Lib.hid hD
        clear hD
        refine hK.out _ _ (HCY.out _ hFy) (fun hH => ?_)
        clear hK K hS
        have hS := hH
        clear hH
        try simp only [Act.put, List.setIfInBounds_toArray, List.set_cons_zero, List.set_cons_succ, List.getElem_toArray, List.getElem_cons_zero, List.getElem_cons_succ]
        refine wpAnyH_ready (rs := [12]) (by kernel_rfl) (by simp) ?_
        refine AllReadyH.cons rfl (fun K hK => ?_) AllReadyH.nil
        refine step_arith .mul (.inr (.inr (.inl rfl))) rfl _ _ _ _ a rD rfl rfl rfl ba bD ?_
        intro r12 w4 hb h12 b12 hdr
        have H12 := Lib.hid h12
        clear h12 hdr
        replace hR := hR.on hb
        replace hX := hX.on hb
        replace hR5 := hR5.on hb
        replace hFy := hFy.on hb
        replace hs1 := hs1.on hb
        replace bz := bz.trans (hb.mono bz.size)
        clear hb
        refine hK.out _ _ (HCY.out _ hFy) (fun hH => ?_)
        clear hK K hS
        have hS := hH
        clear hH
        try simp only [Act.put, List.setIfInBounds_toArray, List.set_cons_zero, List.set_cons_succ, List.getElem_toArray, List.getElem_cons_zero, List.getElem_cons_succ]
        refine wpAnyH_ready (rs := [13]) (by kernel_rfl) (by simp) ?_
        refine AllReadyH.cons rfl (fun K hK => ?_) AllReadyH.nil
        refine step_arith .add (.inl rfl) rfl _ _ _ _ r7 r12 rfl rfl rfl b7 b12 ?_
        intro r13 w5 hb h13 b13 hdr
        have H13 := Lib.hid h13
        clear h13 hdr
        replace hR := hR.on hb
        replace hX := hX.on hb
        replace hR5 := hR5.on hb
        replace hFy := hFy.on hb
        replace hs1 := hs1.on hb
        replace bz := bz.trans (hb.mono bz.size)
        clear hb
        refine hK.out _ _ (HCY.out _ hFy) (fun hH => ?_)
        clear hK K hS
        have hS := hH
        clear hH
        try simp only [Act.put, List.setIfInBounds_toArray, List.set_cons_zero, List.set_cons_succ, List.getElem_toArray, List.getElem_cons_zero, List.getElem_cons_succ]
        refine wpAnyH_ready (rs := [14]) (by kernel_rfl) (by simp) ?_
        refine AllReadyH.cons rfl (fun K hK => ?_) AllReadyH.nil
        go_simp
        have HR : Hid (af r13 = F k) := Lib.hid (by rw [H13.out, H7.out, H12.out, HD.out, HX.out]; exact HFk.out)
        with_reducible refine (put_wr hW HVK.out HIJ.out HLL.out HPN.out hvec.out hs1 (by rw [HNv.out]; exact hlt) (r := r13) HR.out b13).mono ?_
        rintro e w9 ⟨u, lx2, rfl, hs2, hg2, hW2⟩
        replace hR := hR.grown hg2 (fun k e => by injection e with e; omega)
        replace hX := hX.farB hg2 hAX
        replace hFy := hFy.farB hg2 hAy
        have hgr2 := grown_trans (grown_on hgr bz) hg2
        clear hs1 hW hR5
        refine hK.out _ _ (HCY.out _ hFy) (fun hH => ?_)
        clear hK K hS
        have hS := hH
        clear hH
        try simp only [Act.put, List.setIfInBounds_toArray, List.set_cons_zero, List.set_cons_succ, List.getElem_toArray, List.getElem_cons_zero, List.getElem_cons_succ]
        refine wpAnyH_done (by kernel_rfl) ?_ _
        go_wp2_with fail
        go_roundw
        case rel => exact ⟨k + 1, lx2, by omega, by go_num, hW2, hs2, hgr2, hR, hX, hFy⟩
        case measure => simp [intOf]; omega
      · go_simp
        with_reducible refine (dot_any hR5 hX hqx).mono ?_
        rintro e w2 ⟨rD, rfl, hD, bD, hb⟩
        replace hR := hR.on hb
        replace hX := hX.on hb
        replace hR5 := hR5.on hb
        replace hFy := hFy.on hb
        replace hs1 := hs1.on hb
        replace bz := bz.trans (hb.mono bz.size)
        clear hb
        have HD := Lib.hid hD
        clear hD
        refine hK.out _ _ (HCY.out _ hFy) (fun hH => ?_)
        clear hK K hS
        have hS := hH
        clear hH
        try simp only [Act.put, List.setIfInBounds_toArray, List.set_cons_zero, List.set_cons_succ, List.getElem_toArray, List.getElem_cons_zero, List.getElem_cons_succ]
        refine wpAnyH_ready (rs := [7, 12]) (by kernel_rfl) (by simp) ?_
        refine (AllReadyH.cons rfl (fun K hK => ?_) (AllReadyH.cons rfl (fun K hK => ?_) AllReadyH.nil))
        · refine step_arith .mul (.inr (.inr (.inl rfl))) rfl _ _ _ _ b Yk rfl rfl rfl bb bY ?_
          intro r7 w3 hb h7 b7 hdr
          have H7 := Lib.hid h7
          clear h7 hdr
          replace hR := hR.on hb
          replace hX := hX.on hb
          replace hR5 := hR5.on hb
          replace hFy := hFy.on hb
          replace hs1 := hs1.on hb
          replace bz := bz.trans (hb.mono bz.size)
          clear hb
          refine hK.out _ _ (HCY.out _ hFy) (fun hH => ?_)
          clear hK K hS
          have hS := hH
          clear hH
          try simp only [Act.put, List.setIfInBounds_toArray, List.set_cons_zero, List.set_cons_succ, List.getElem_toArray, List.getElem_cons_zero, List.getElem_cons_succ]
          refine wpAnyH_ready (rs := [12]) (by kernel_rfl) (by simp) ?_
          refine AllReadyH.cons rfl (fun K hK => ?_) AllReadyH.nil
          refine step_arith .mul (.inr (.inr (.inl rfl))) rfl _ _ _ _ a rD rfl rfl rfl ba bD ?_
          intro r12 w4 hb h12 b12 hdr
          have H12 := Lib.hid h12
          clear h12 hdr
          replace hR := hR.on hb
          replace hX := hX.on hb
          replace hR5 := hR5.on hb
          replace hFy := hFy.on hb
          replace hs1 := hs1.on hb
          replace bz := bz.trans (hb.mono bz.size)
          clear hb
          refine hK.out _ _ (HCY.out _ hFy) (fun hH => ?_)
          clear hK K hS
          have hS := hH
          clear hH
          try simp only [Act.put, List.setIfInBounds_toArray, List.set_cons_zero, List.set_cons_succ, List.getElem_toArray, List.getElem_cons_zero, List.getElem_cons_succ]
          refine wpAnyH_ready (rs := [13]) (by kernel_rfl) (by simp) ?_
          refine AllReadyH.cons rfl (fun K hK => ?_) AllReadyH.nil
          refine step_arith .add (.inl rfl) rfl _ _ _ _ r7 r12 rfl rfl rfl b7 b12 ?_
          intro r13 w5 hb h13 b13 hdr
          have H13 := Lib.hid h13
          clear h13 hdr
          replace hR := hR.on hb
          replace hX := hX.on hb
          replace hR5 := hR5.on hb
          replace hFy := hFy.on hb
          replace hs1 := hs1.on hb
          replace bz := bz.trans (hb.mono bz.size)
          clear hb
          refine hK.out _ _ (HCY.out _ hFy) (fun hH => ?_)
          clear hK K hS
          have hS := hH
          clear hH
          try simp only [Act.put, List.setIfInBounds_toArray, List.set_cons_zero, List.set_cons_succ, List.getElem_toArray, List.getElem_cons_zero, List.getElem_cons_succ]
          refine wpAnyH_ready (rs := [14]) (by kernel_rfl) (by simp) ?_
          refine AllReadyH.cons rfl (fun K hK => ?_) AllReadyH.nil
          go_simp
          have HR : Hid (af r13 = F k) := Lib.hid (by rw [H13.out, H7.out, H12.out, HD.out, HX.out]; exact HFk.out)
          with_reducible refine (put_wr hW HVK.out HIJ.out HLL.out HPN.out hvec.out hs1 (by rw [HNv.out]; exact hlt) (r := r13) HR.out b13).mono ?_
          rintro e w9 ⟨u, lx2, rfl, hs2, hg2, hW2⟩
          replace hR := hR.grown hg2 (fun k e => by injection e with e; omega)
          replace hX := hX.farB hg2 hAX
          replace hFy := hFy.farB hg2 hAy
          have hgr2 := grown_trans (grown_on hgr bz) hg2
          clear hs1 hW hR5
          refine hK.out _ _ (HCY.out _ hFy) (fun hH => ?_)
          clear hK K hS
          have hS := hH
          clear hH
          try simp only [Act.put, List.setIfInBounds_toArray, List.set_cons_zero, List.set_cons_succ, List.getElem_toArray, List.getElem_cons_zero, List.getElem_cons_succ]
          refine wpAnyH_done (by kernel_rfl) ?_ _
          go_wp2_with fail
          go_roundw
          case rel => exact ⟨k + 1, lx2, by omega, by go_num, hW2, hs2, hgr2, hR, hX, hFy⟩
          case measure => simp [intOf]; omega
        · refine step_arith .mul (.inr (.inr (.inl rfl))) rfl _ _ _ _ a rD rfl rfl rfl ba bD ?_
          intro r12 w3 hb h12 b12 hdr
          have H12 := Lib.hid h12
          clear h12 hdr
          replace hR := hR.on hb
          replace hX := hX.on hb
          replace hR5 := hR5.on hb
          replace hFy := hFy.on hb
          replace hs1 := hs1.on hb
          replace bz := bz.trans (hb.mono bz.size)
          clear hb
          refine hK.out _ _ (HCY.out _ hFy) (fun hH => ?_)
          clear hK K hS
          have hS := hH
          clear hH
          try simp only [Act.put, List.setIfInBounds_toArray, List.set_cons_zero, List.set_cons_succ, List.getElem_toArray, List.getElem_cons_zero, List.getElem_cons_succ]
          refine wpAnyH_ready (rs := [7]) (by kernel_rfl) (by simp) ?_
          refine AllReadyH.cons rfl (fun K hK => ?_) AllReadyH.nil
          refine step_arith .mul (.inr (.inr (.inl rfl))) rfl _ _ _ _ b Yk rfl rfl rfl bb bY ?_
          intro r7 w4 hb h7 b7 hdr
          have H7 := Lib.hid h7
          clear h7 hdr
          replace hR := hR.on hb
          replace hX := hX.on hb
          replace hR5 := hR5.on hb
          replace hFy := hFy.on hb
          replace hs1 := hs1.on hb
          replace bz := bz.trans (hb.mono bz.size)
          clear hb
          refine hK.out _ _ (HCY.out _ hFy) (fun hH => ?_)
          clear hK K hS
          have hS := hH
          clear hH
          try simp only [Act.put, List.setIfInBounds_toArray, List.set_cons_zero, List.set_cons_succ, List.getElem_toArray, List.getElem_cons_zero, List.getElem_cons_succ]
          refine wpAnyH_ready (rs := [13]) (by kernel_rfl) (by simp) ?_
          refine AllReadyH.cons rfl (fun K hK => ?_) AllReadyH.nil
          refine step_arith .add (.inl rfl) rfl _ _ _ _ r7 r12 rfl rfl rfl b7 b12 ?_
          intro r13 w5 hb h13 b13 hdr
          have H13 := Lib.hid h13
          clear h13 hdr
          replace hR := hR.on hb
          replace hX := hX.on hb
          replace hR5 := hR5.on hb
          replace hFy := hFy.on hb
          replace hs1 := hs1.on hb
          replace bz := bz.trans (hb.mono bz.size)
          clear hb
          refine hK.out _ _ (HCY.out _ hFy) (fun hH => ?_)
          clear hK K hS
          have hS := hH
          clear hH
          try simp only [Act.put, List.setIfInBounds_toArray, List.set_cons_zero, List.set_cons_succ, List.getElem_toArray, List.getElem_cons_zero, List.getElem_cons_succ]
          refine wpAnyH_ready (rs := [14]) (by kernel_rfl) (by simp) ?_
          refine AllReadyH.cons rfl (fun K hK => ?_) AllReadyH.nil
          go_simp
          have HR : Hid (af r13 = F k) := Lib.hid (by rw [H13.out, H7.out, H12.out, HD.out, HX.out]; exact HFk.out)
          with_reducible refine (put_wr hW HVK.out HIJ.out HLL.out HPN.out hvec.out hs1 (by rw [HNv.out]; exact hlt) (r := r13) HR.out b13).mono ?_
          rintro e w9 ⟨u, lx2, rfl, hs2, hg2, hW2⟩
          replace hR := hR.grown hg2 (fun k e => by injection e with e; omega)
          replace hX := hX.farB hg2 hAX
          replace hFy := hFy.farB hg2 hAy
          have hgr2 := grown_trans (grown_on hgr bz) hg2
          clear hs1 hW hR5
          refine hK.out _ _ (HCY.out _ hFy) (fun hH => ?_)
          clear hK K hS
          have hS := hH
          clear hH
          try simp only [Act.put, List.setIfInBounds_toArray, List.set_cons_zero, List.set_cons_succ, List.getElem_toArray, List.getElem_cons_zero, List.getElem_cons_succ]
          refine wpAnyH_done (by kernel_rfl) ?_ _
          go_wp2_with fail
          go_roundw
          case rel => exact ⟨k + 1, lx2, by omega, by go_num, hW2, hs2, hgr2, hR, hX, hFy⟩
          case measure => simp [intOf]; omega
    · obtain rfl : k = m := by omega
      go_wp2_with fail
      refine bodyPost_ret (v := .tuple #[]) (by simp [results, Try.results79, go_sem]) rfl ?_
      exact ⟨lx, rfl, hs1, hgr, hW.done HVK.out.bd hvec.out (Nat.le_of_eq HNv.out)⟩
end
end Go.Proofs.Ytfelmkkkaphkpaa
