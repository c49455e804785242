/-
  Layer 8: Steps: Scal, Axpy, Swap, the law's words.
-/
import Derived.Test.YtfelmkkkaphkpaaKlA
import Derived.Test.YtfelmkkkaphkpaaKnF
namespace Go.Proofs.Ytfelmkkkaphkpaa
open Go.RowKit Go.Bw Go.Sort Go.Shelf
set_option linter.unusedVariables false
set_option linter.unusedSimpArgs false

section
variable {w : World} {x y : Vu} {X : List Int} {K : Int} {B s g cap c n a : Nat} {l : List Int}
set_option maxRecDepth 100000 in
set_option maxHeartbeats 8000000 in
theorem Scal_no (hx : Sv w x X) {E : Int} (he : refE x.vec [x] = E) (hn : E ≠ 0) : Calls Try.prog 31 #[.float .f64 a, x.V] w (Ans w (.int .i64 E)) := by
  have HSx := Lib.hid hx
  have hne : (E != 0) = true := by simpa using hn
  have HE := Lib.hid he
  clear he hn hx
  have Dx := Blk.new w x.L 30
  have bz := (Below.refl _ w).alloc (Nat.le_refl _) (.cells x.L.toArray 30)
  have hsz0 : (w.alloc (.cells x.L.toArray 30)).heap.size = w.heap.size + 1 := by simp
  go_enter Try.func31, Try.ntmps31
  go_wp2_with fail
  replace Dx := Dx.drew
  replace bz := bz.drew
  refine wp_region_held_drew (S := fun w9 : World => Vbx w9 w.heap.size x) (by kernel_rfl) Dx (fun hS => ?_)
  generalize (w.alloc (.cells x.L.toArray 30)).drew = wd at hS Dx  bz ⊢
  refine wpAnyH_take (i := 0) (v := ?v0_1) rfl (by kernel_rfl) (by kernel_rfl) (by kernel_rfl) (fun _ _ _ h => h) (Or.inl ⟨by rfl, ?hy0_1⟩) (by assumption) ?rest0_1
  case hy0_1 => (intro w9 hSw; have m0 : Vbx w9 w.heap.size x := hSw; refine (ld_v (by rfl) (by kernel_rfl) m0).trans ?_; with_reducible rfl)
  try simp only [Act.put, List.setIfInBounds_toArray, List.set_cons_zero, List.set_cons_succ, List.getElem_toArray, List.getElem_cons_zero, List.getElem_cons_succ]
  refine wpAnyH_take (i := 2) (v := ?v2_2) rfl (by kernel_rfl) (by kernel_rfl) (by kernel_rfl) (fun _ _ _ h => h) (Or.inl ⟨by rfl, ?hy2_2⟩) (by assumption) ?rest2_2
  case hy2_2 => (intro w9 hSw; have m0 : Vbx w9 w.heap.size x := hSw; refine (ld_v (by rfl) (by kernel_rfl) m0).trans ?_; with_reducible rfl)
  try simp only [Act.put, List.setIfInBounds_toArray, List.set_cons_zero, List.set_cons_succ, List.getElem_toArray, List.getElem_cons_zero, List.getElem_cons_succ]
  refine wpAnyH_ready (rs := [1, 3]) (by kernel_rfl) (by simp) ?_
  refine (AllReadyH.cons rfl (fun K hK => ?_) (AllReadyH.cons rfl (fun K hK => ?_) AllReadyH.nil))
  · go_simp
    with_reducible refine (Vector_any x _).mono ?_
    rintro e w1 ⟨rfl, hb⟩
    replace Dx := Dx.on hb
    replace bz := bz.trans (hb.mono bz.size)
    clear hb
    refine hK.out _ _ Dx (fun hH => ?_)
    clear hK K hS
    have hS := hH
    clear hH
    try simp only [Act.put, List.setIfInBounds_toArray, List.set_cons_zero, List.set_cons_succ, List.getElem_toArray, List.getElem_cons_zero, List.getElem_cons_succ]
    refine wpAnyH_ready (rs := [3]) (by kernel_rfl) (by simp) ?_
    refine AllReadyH.cons rfl (fun K hK => ?_) AllReadyH.nil
    go_simp
    have hL : VLs (w1.alloc (.cells #[.pointer x.p, .int .i64 x.f0, .int .i64 x.f1, .int .i64 x.d0, .int .i64 x.d1, .int .i64 x.r0, .int .i64 x.r1, .int .i64 x.R, .int .i64 x.C] 30)) ⟨w1.heap.size, 0, none⟩ [x] := VLs.of (Blk.new w1 ([x].flatMap Vu.L) 30)
    replace Dx := Dx.on ((Below.refl _ _).alloc (Nat.le_refl _) ((.cells #[.pointer x.p, .int .i64 x.f0, .int .i64 x.f1, .int .i64 x.d0, .int .i64 x.d1, .int .i64 x.r0, .int .i64 x.r1, .int .i64 x.R, .int .i64 x.C] 30)))
    replace bz := bz.alloc bz.size ((.cells #[.pointer x.p, .int .i64 x.f0, .int .i64 x.f1, .int .i64 x.d0, .int .i64 x.d1, .int .i64 x.r0, .int .i64 x.r1, .int .i64 x.R, .int .i64 x.C] 30))
    refine hK.out _ _ Dx (fun hH => ?_)
    clear hK K hS
    have hS := hH
    clear hH
    try simp only [Act.put, List.setIfInBounds_toArray, List.set_cons_zero, List.set_cons_succ, List.getElem_toArray, List.getElem_cons_zero, List.getElem_cons_succ]
    refine wpAnyH_ready (rs := [4]) (by kernel_rfl) (by simp) ?_
    refine AllReadyH.cons rfl (fun K hK => ?_) AllReadyH.nil
    go_simp
    with_reducible refine (refused_is x.vec (vs := [x]) (n := 1) rfl (by omega) hL (by intro z hz; simp only [List.mem_cons, List.mem_nil_iff, or_false] at hz; subst hz; exact ⟨_, HSx.out.on bz⟩)).mono ?_
    rintro e w2 ⟨rfl, hb⟩
    replace Dx := Dx.on hb
    replace hL := hL.on hb
    replace bz := bz.trans (hb.mono bz.size)
    clear hb hL
    rw [HE.out]
    refine hK.out _ _ Dx (fun hH => ?_)
    clear hK K hS
    have hS := hH
    clear hH
    try simp only [Act.put, List.setIfInBounds_toArray, List.set_cons_zero, List.set_cons_succ, List.getElem_toArray, List.getElem_cons_zero, List.getElem_cons_succ]
    refine wpAnyH_take (i := 5) (v := ?v5_3) rfl (by kernel_rfl) (by kernel_rfl) (by kernel_rfl) (fun _ _ _ h => h) (Or.inl ⟨by rfl, ?hy5_3⟩) (by assumption) ?rest5_3
    case hy5_3 => (intro w9 hSw; clear hSw; go_simp; try with_reducible rfl)
    try simp only [Act.put, List.setIfInBounds_toArray, List.set_cons_zero, List.set_cons_succ, List.getElem_toArray, List.getElem_cons_zero, List.getElem_cons_succ]
    refine wpAnyH_done (by kernel_rfl) ?_ _
    go_wp2_with fail
    go_ret
    exact ⟨rfl, bz⟩
  · go_simp
    have hL : VLs (wd.alloc (.cells #[.pointer x.p, .int .i64 x.f0, .int .i64 x.f1, .int .i64 x.d0, .int .i64 x.d1, .int .i64 x.r0, .int .i64 x.r1, .int .i64 x.R, .int .i64 x.C] 30)) ⟨wd.heap.size, 0, none⟩ [x] := VLs.of (Blk.new wd ([x].flatMap Vu.L) 30)
    replace Dx := Dx.on ((Below.refl _ _).alloc (Nat.le_refl _) ((.cells #[.pointer x.p, .int .i64 x.f0, .int .i64 x.f1, .int .i64 x.d0, .int .i64 x.d1, .int .i64 x.r0, .int .i64 x.r1, .int .i64 x.R, .int .i64 x.C] 30)))
    replace bz := bz.alloc bz.size ((.cells #[.pointer x.p, .int .i64 x.f0, .int .i64 x.f1, .int .i64 x.d0, .int .i64 x.d1, .int .i64 x.r0, .int .i64 x.r1, .int .i64 x.R, .int .i64 x.C] 30))
    refine hK.out _ _ Dx (fun hH => ?_)
    clear hK K hS
    have hS := hH
    clear hH
    try simp only [Act.put, List.setIfInBounds_toArray, List.set_cons_zero, List.set_cons_succ, List.getElem_toArray, List.getElem_cons_zero, List.getElem_cons_succ]
    refine wpAnyH_ready (rs := [1]) (by kernel_rfl) (by simp) ?_
    refine AllReadyH.cons rfl (fun K hK => ?_) AllReadyH.nil
    go_simp
    with_reducible refine (Vector_any x _).mono ?_
    rintro e w1 ⟨rfl, hb⟩
    replace Dx := Dx.on hb
    replace hL := hL.on hb
    replace bz := bz.trans (hb.mono bz.size)
    clear hb
    refine hK.out _ _ Dx (fun hH => ?_)
    clear hK K hS
    have hS := hH
    clear hH
    try simp only [Act.put, List.setIfInBounds_toArray, List.set_cons_zero, List.set_cons_succ, List.getElem_toArray, List.getElem_cons_zero, List.getElem_cons_succ]
    refine wpAnyH_ready (rs := [4]) (by kernel_rfl) (by simp) ?_
    refine AllReadyH.cons rfl (fun K hK => ?_) AllReadyH.nil
    go_simp
    with_reducible refine (refused_is x.vec (vs := [x]) (n := 1) rfl (by omega) hL (by intro z hz; simp only [List.mem_cons, List.mem_nil_iff, or_false] at hz; subst hz; exact ⟨_, HSx.out.on bz⟩)).mono ?_
    rintro e w2 ⟨rfl, hb⟩
    replace Dx := Dx.on hb
    replace hL := hL.on hb
    replace bz := bz.trans (hb.mono bz.size)
    clear hb hL
    rw [HE.out]
    refine hK.out _ _ Dx (fun hH => ?_)
    clear hK K hS
    have hS := hH
    clear hH
    try simp only [Act.put, List.setIfInBounds_toArray, List.set_cons_zero, List.set_cons_succ, List.getElem_toArray, List.getElem_cons_zero, List.getElem_cons_succ]
    refine wpAnyH_take (i := 5) (v := ?v5_4) rfl (by kernel_rfl) (by kernel_rfl) (by kernel_rfl) (fun _ _ _ h => h) (Or.inl ⟨by rfl, ?hy5_4⟩) (by assumption) ?rest5_4
    case hy5_4 => (intro w9 hSw; clear hSw; go_simp; try with_reducible rfl)
    try simp only [Act.put, List.setIfInBounds_toArray, List.set_cons_zero, List.set_cons_succ, List.getElem_toArray, List.getElem_cons_zero, List.getElem_cons_succ]
    refine wpAnyH_done (by kernel_rfl) ?_ _
    go_wp2_with fail
    go_ret
    exact ⟨rfl, bz⟩
set_option maxRecDepth 100000 in
set_option maxHeartbeats 8000000 in
theorem Scal_yes (ba : a ≤ 18446744073709551615) (hx : Sv w x X) (he : refE x.vec [x] = 0) (hv : Vk x s c n K) (hs : St w B s g cap c l) (hl : l.length = n) (hj : Inj x c) (hvc : x.vec = true) : Calls Try.prog 31 #[.float .f64 a, x.V] w (WrA w B s g cap c x l (fun _ _ => true) (fun i j => aop .mul (af a) (fa (D X (vix x i j))))) := by
  have hl4 : X.length ≤ 512 * 512 := by have h1 := hx.len; have h2 := prod_bd hx.R.1 hx.R.2 hx.C.1 hx.C.2; omega
  have hmx : X.length ≤ 9223372036854775807 := by omega
  have HST := Lib.hid hs
  have HVK := Lib.hid hv
  have HIJ := Lib.hid hj
  have HLL := Lib.hid hl
  have HPN : Hid (x.p ≠ none) := Lib.hid ((refE_some he).2 x (by simp))
  have hvec : Hid (x.vec = true) := Lib.hid hvc
  clear hs hv hj hl hvc
  have hszw : w.heap.size ≤ w.heap.size := Nat.le_refl _
  have HSx := Lib.hid hx
  have HE := Lib.hid he
  clear he hx
  have Dx := Blk.new w x.L 30
  have bz := (Below.refl _ w).alloc (Nat.le_refl _) (.cells x.L.toArray 30)
  have hsz0 : (w.alloc (.cells x.L.toArray 30)).heap.size = w.heap.size + 1 := by simp
  go_enter Try.func31, Try.ntmps31
  go_wp2_with fail
  replace Dx := Dx.drew
  replace bz := bz.drew
  refine wp_region_held_drew (S := fun w9 : World => Vbx w9 w.heap.size x) (by kernel_rfl) Dx (fun hS => ?_)
  generalize (w.alloc (.cells x.L.toArray 30)).drew = wd at hS Dx  bz ⊢
  refine wpAnyH_take (i := 0) (v := ?v0_5) rfl (by kernel_rfl) (by kernel_rfl) (by kernel_rfl) (fun _ _ _ h => h) (Or.inl ⟨by rfl, ?hy0_5⟩) (by assumption) ?rest0_5
  case hy0_5 => (intro w9 hSw; have m0 : Vbx w9 w.heap.size x := hSw; refine (ld_v (by rfl) (by kernel_rfl) m0).trans ?_; with_reducible rfl)
  try simp only [Act.put, List.setIfInBounds_toArray, List.set_cons_zero, List.set_cons_succ, List.getElem_toArray, List.getElem_cons_zero, List.getElem_cons_succ]
  refine wpAnyH_take (i := 2) (v := ?v2_6) rfl (by kernel_rfl) (by kernel_rfl) (by kernel_rfl) (fun _ _ _ h => h) (Or.inl ⟨by rfl, ?hy2_6⟩) (by assumption) ?rest2_6
  case hy2_6 => (intro w9 hSw; have m0 : Vbx w9 w.heap.size x := hSw; refine (ld_v (by rfl) (by kernel_rfl) m0).trans ?_; with_reducible rfl)
  try simp only [Act.put, List.setIfInBounds_toArray, List.set_cons_zero, List.set_cons_succ, List.getElem_toArray, List.getElem_cons_zero, List.getElem_cons_succ]
  refine wpAnyH_ready (rs := [1, 3]) (by kernel_rfl) (by simp) ?_
  refine (AllReadyH.cons rfl (fun K hK => ?_) (AllReadyH.cons rfl (fun K hK => ?_) AllReadyH.nil))
  · go_simp
    with_reducible refine (Vector_any x _).mono ?_
    rintro e w1 ⟨rfl, hb⟩
    replace Dx := Dx.on hb
    replace bz := bz.trans (hb.mono bz.size)
    clear hb
    refine hK.out _ _ Dx (fun hH => ?_)
    clear hK K hS
    have hS := hH
    clear hH
    try simp only [Act.put, List.setIfInBounds_toArray, List.set_cons_zero, List.set_cons_succ, List.getElem_toArray, List.getElem_cons_zero, List.getElem_cons_succ]
    refine wpAnyH_ready (rs := [3]) (by kernel_rfl) (by simp) ?_
    refine AllReadyH.cons rfl (fun K hK => ?_) AllReadyH.nil
    go_simp
    have hL : VLs (w1.alloc (.cells #[.pointer x.p, .int .i64 x.f0, .int .i64 x.f1, .int .i64 x.d0, .int .i64 x.d1, .int .i64 x.r0, .int .i64 x.r1, .int .i64 x.R, .int .i64 x.C] 30)) ⟨w1.heap.size, 0, none⟩ [x] := VLs.of (Blk.new w1 ([x].flatMap Vu.L) 30)
    replace Dx := Dx.on ((Below.refl _ _).alloc (Nat.le_refl _) ((.cells #[.pointer x.p, .int .i64 x.f0, .int .i64 x.f1, .int .i64 x.d0, .int .i64 x.d1, .int .i64 x.r0, .int .i64 x.r1, .int .i64 x.R, .int .i64 x.C] 30)))
    replace bz := bz.alloc bz.size ((.cells #[.pointer x.p, .int .i64 x.f0, .int .i64 x.f1, .int .i64 x.d0, .int .i64 x.d1, .int .i64 x.r0, .int .i64 x.r1, .int .i64 x.R, .int .i64 x.C] 30))
    refine hK.out _ _ Dx (fun hH => ?_)
    clear hK K hS
    have hS := hH
    clear hH
    try simp only [Act.put, List.setIfInBounds_toArray, List.set_cons_zero, List.set_cons_succ, List.getElem_toArray, List.getElem_cons_zero, List.getElem_cons_succ]
    refine wpAnyH_ready (rs := [4]) (by kernel_rfl) (by simp) ?_
    refine AllReadyH.cons rfl (fun K hK => ?_) AllReadyH.nil
    go_simp
    with_reducible refine (refused_is x.vec (vs := [x]) (n := 1) rfl (by omega) hL (by intro z hz; simp only [List.mem_cons, List.mem_nil_iff, or_false] at hz; subst hz; exact ⟨_, HSx.out.on bz⟩)).mono ?_
    rintro e w2 ⟨rfl, hb⟩
    replace Dx := Dx.on hb
    replace hL := hL.on hb
    replace bz := bz.trans (hb.mono bz.size)
    clear hb hL
    rw [HE.out]
    refine hK.out _ _ Dx (fun hH => ?_)
    clear hK K hS
    have hS := hH
    clear hH
    try simp only [Act.put, List.setIfInBounds_toArray, List.set_cons_zero, List.set_cons_succ, List.getElem_toArray, List.getElem_cons_zero, List.getElem_cons_succ]
    refine wpAnyH_take (i := 5) (v := ?v5_7) rfl (by kernel_rfl) (by kernel_rfl) (by kernel_rfl) (fun _ _ _ h => h) (Or.inl ⟨by rfl, ?hy5_7⟩) (by assumption) ?rest5_7
    case hy5_7 => (intro w9 hSw; clear hSw; go_simp; try with_reducible rfl)
    try simp only [Act.put, List.setIfInBounds_toArray, List.set_cons_zero, List.set_cons_succ, List.getElem_toArray, List.getElem_cons_zero, List.getElem_cons_succ]
    refine wpAnyH_done (by kernel_rfl) ?_ _
    have hszp := bz.size
    obtain ⟨c0, c1, c2, c3, c4, c5, c6, c7, c8⟩ := Vbx.cells Dx
    go_wp2_with fail
    with_reducible refine (floats_is (HSx.out.on bz)).mono ?_
    rintro e w3 ⟨A, cA, rfl, ho, hb⟩
    clear c0 c1 c2 c3 c4 c5 c6 c7 c8
    replace Dx := Dx.on hb
    replace bz := bz.trans (hb.mono bz.size)
    clear hb
    have hs1 := HST.out.on bz
    have hgr := grown_below bz (some g)
    have hAg : ∀ a, A = some a → a.block ≠ g := fun a e => by have := (ho.gt e).1; have := HST.out.gt.2; omega
    have hF := ho.fl HSx.out.wd
    obtain ⟨N, hN⟩ : ∃ N, X.length = N := ⟨_, rfl⟩
    have HLn := Lib.hid hN
    simp only [hN] at hF hmx hl4 ⊢
    clear hN ho
    have hW0 : Wv x c l l 0 (fun k => aop .mul (af a) (fa (D X k))) := Wv.start x c l _
    have hNv : (x.R * x.C).toNat = N := by have := HSx.out.len; have := HLn.out; omega
    have HNv := Lib.hid hNv
    have HNv := Lib.hid hNv
    go_wp2_with fail
    go_loopw [22] (fun i wr => ∃ (k : Nat) (lx : List Int), k ≤ N ∧ i = .int .i64 k ∧ Wv x c l lx k (fun k => aop .mul (af a) (fa (D X k))) ∧ St wr B s g cap c lx ∧ w.grownBy wr (some g) ∧ FL wr A N cA X) (fun i _ => N - (intOf i).toNat)
    case atStart => exact ⟨0, l, Nat.zero_le _, rfl, hW0, hs1, hgr, hF⟩
    case round =>
      clear hW0 hs1 hgr hF
      obtain ⟨k, lx, hk, rfl, hW, hs1, hgr, hF⟩ := hrel
      by_cases hlt : k < N
      · obtain ⟨ad, hA, hb1, hc1⟩ := hF.at_ hlt
        obtain ⟨x0, x1⟩ := hF.2.2.at_ k
        have bX : (D X k).toNat ≤ 18446744073709551615 := by omega
        have HX : Hid (af (D X k).toNat = fa (D X k)) := Lib.hid rfl
        generalize (D X k).toNat = Xk at *
        subst hA
        have k0 : (0 : Int) ≤ k := by omega
        have k1 : (k : Int) < N := by omega
        clear x0 x1 hb1
        obtain ⟨r1, w1, e1, d1, h1, b1⟩ := run_mul (P := Try.prog) 32 (x := a) (y := Xk) ba bX wr
        have HR : Hid (af r1 = aop .mul (af a) (fa (D X k))) := Lib.hid (by rw [h1, HX.out])
        have pp := put_wr (w := w1) hW HVK.out HIJ.out HLL.out HPN.out hvec.out (hs1.on d1.below) (by rw [HNv.out]; exact hlt) (r := r1) HR.out b1
        replace hgr := grown_on hgr d1.below
        replace hF := hF.on d1.below
        clear h1 HX d1 hs1 hW
        go_wp2_with fail
        with_reducible refine pp.mono ?_
        rintro e w2 ⟨u, lx2, rfl, hs2, hg2, hW2⟩
        have hF2 := hF.farB hg2 hAg
        have hgr2 := grown_trans hgr hg2
        clear pp
        go_wp2_with fail
        go_roundw
        case rel => exact ⟨k + 1, lx2, by omega, by go_num, hW2, hs2, hgr2, hF2⟩
        case measure => simp [intOf]; omega
      · obtain rfl : k = N := by omega
        go_wp2_with fail
        go_ret
        exact ⟨lx, rfl, hs1, hgr, hW.done HVK.out.bd hvec.out (Nat.le_of_eq HNv.out)⟩
  · go_simp
    have hL : VLs (wd.alloc (.cells #[.pointer x.p, .int .i64 x.f0, .int .i64 x.f1, .int .i64 x.d0, .int .i64 x.d1, .int .i64 x.r0, .int .i64 x.r1, .int .i64 x.R, .int .i64 x.C] 30)) ⟨wd.heap.size, 0, none⟩ [x] := VLs.of (Blk.new wd ([x].flatMap Vu.L) 30)
    replace Dx := Dx.on ((Below.refl _ _).alloc (Nat.le_refl _) ((.cells #[.pointer x.p, .int .i64 x.f0, .int .i64 x.f1, .int .i64 x.d0, .int .i64 x.d1, .int .i64 x.r0, .int .i64 x.r1, .int .i64 x.R, .int .i64 x.C] 30)))
    replace bz := bz.alloc bz.size ((.cells #[.pointer x.p, .int .i64 x.f0, .int .i64 x.f1, .int .i64 x.d0, .int .i64 x.d1, .int .i64 x.r0, .int .i64 x.r1, .int .i64 x.R, .int .i64 x.C] 30))
    refine hK.out _ _ Dx (fun hH => ?_)
    clear hK K hS
    have hS := hH
    clear hH
    try simp only [Act.put, List.setIfInBounds_toArray, List.set_cons_zero, List.set_cons_succ, List.getElem_toArray, List.getElem_cons_zero, List.getElem_cons_succ]
    refine wpAnyH_ready (rs := [1]) (by kernel_rfl) (by simp) ?_
    refine AllReadyH.cons rfl (fun K hK => ?_) AllReadyH.nil
    go_simp
    with_reducible refine (Vector_any x _).mono ?_
    rintro e w1 ⟨rfl, hb⟩
    replace Dx := Dx.on hb
    replace hL := hL.on hb
    replace bz := bz.trans (hb.mono bz.size)
    clear hb
    refine hK.out _ _ Dx (fun hH => ?_)
    clear hK K hS
    have hS := hH
    clear hH
    try simp only [Act.put, List.setIfInBounds_toArray, List.set_cons_zero, List.set_cons_succ, List.getElem_toArray, List.getElem_cons_zero, List.getElem_cons_succ]
    refine wpAnyH_ready (rs := [4]) (by kernel_rfl) (by simp) ?_
    refine AllReadyH.cons rfl (fun K hK => ?_) AllReadyH.nil
    go_simp
    with_reducible refine (refused_is x.vec (vs := [x]) (n := 1) rfl (by omega) hL (by intro z hz; simp only [List.mem_cons, List.mem_nil_iff, or_false] at hz; subst hz; exact ⟨_, HSx.out.on bz⟩)).mono ?_
    rintro e w2 ⟨rfl, hb⟩
    replace Dx := Dx.on hb
    replace hL := hL.on hb
    replace bz := bz.trans (hb.mono bz.size)
    clear hb hL
    rw [HE.out]
    refine hK.out _ _ Dx (fun hH => ?_)
    clear hK K hS
    have hS := hH
    clear hH
    try simp only [Act.put, List.setIfInBounds_toArray, List.set_cons_zero, List.set_cons_succ, List.getElem_toArray, List.getElem_cons_zero, List.getElem_cons_succ]
    refine wpAnyH_take (i := 5) (v := ?v5_8) rfl (by kernel_rfl) (by kernel_rfl) (by kernel_rfl) (fun _ _ _ h => h) (Or.inl ⟨by rfl, ?hy5_8⟩) (by assumption) ?rest5_8
    case hy5_8 => (intro w9 hSw; clear hSw; go_simp; try with_reducible rfl)
    try simp only [Act.put, List.setIfInBounds_toArray, List.set_cons_zero, List.set_cons_succ, List.getElem_toArray, List.getElem_cons_zero, List.getElem_cons_succ]
    refine wpAnyH_done (by kernel_rfl) ?_ _
    have hszp := bz.size
    obtain ⟨c0, c1, c2, c3, c4, c5, c6, c7, c8⟩ := Vbx.cells Dx
    go_wp2_with fail
    with_reducible refine (floats_is (HSx.out.on bz)).mono ?_
    rintro e w3 ⟨A, cA, rfl, ho, hb⟩
    clear c0 c1 c2 c3 c4 c5 c6 c7 c8
    replace Dx := Dx.on hb
    replace bz := bz.trans (hb.mono bz.size)
    clear hb
    have hs1 := HST.out.on bz
    have hgr := grown_below bz (some g)
    have hAg : ∀ a, A = some a → a.block ≠ g := fun a e => by have := (ho.gt e).1; have := HST.out.gt.2; omega
    have hF := ho.fl HSx.out.wd
    obtain ⟨N, hN⟩ : ∃ N, X.length = N := ⟨_, rfl⟩
    have HLn := Lib.hid hN
    simp only [hN] at hF hmx hl4 ⊢
    clear hN ho
    have hW0 : Wv x c l l 0 (fun k => aop .mul (af a) (fa (D X k))) := Wv.start x c l _
    have hNv : (x.R * x.C).toNat = N := by have := HSx.out.len; have := HLn.out; omega
    have HNv := Lib.hid hNv
    have HNv := Lib.hid hNv
    go_wp2_with fail
    go_loopw [22] (fun i wr => ∃ (k : Nat) (lx : List Int), k ≤ N ∧ i = .int .i64 k ∧ Wv x c l lx k (fun k => aop .mul (af a) (fa (D X k))) ∧ St wr B s g cap c lx ∧ w.grownBy wr (some g) ∧ FL wr A N cA X) (fun i _ => N - (intOf i).toNat)
    case atStart => exact ⟨0, l, Nat.zero_le _, rfl, hW0, hs1, hgr, hF⟩
    case round =>
      clear hW0 hs1 hgr hF
      obtain ⟨k, lx, hk, rfl, hW, hs1, hgr, hF⟩ := hrel
      by_cases hlt : k < N
      · obtain ⟨ad, hA, hb1, hc1⟩ := hF.at_ hlt
        obtain ⟨x0, x1⟩ := hF.2.2.at_ k
        have bX : (D X k).toNat ≤ 18446744073709551615 := by omega
        have HX : Hid (af (D X k).toNat = fa (D X k)) := Lib.hid rfl
        generalize (D X k).toNat = Xk at *
        subst hA
        have k0 : (0 : Int) ≤ k := by omega
        have k1 : (k : Int) < N := by omega
        clear x0 x1 hb1
        obtain ⟨r1, w1, e1, d1, h1, b1⟩ := run_mul (P := Try.prog) 32 (x := a) (y := Xk) ba bX wr
        have HR : Hid (af r1 = aop .mul (af a) (fa (D X k))) := Lib.hid (by rw [h1, HX.out])
        have pp := put_wr (w := w1) hW HVK.out HIJ.out HLL.out HPN.out hvec.out (hs1.on d1.below) (by rw [HNv.out]; exact hlt) (r := r1) HR.out b1
        replace hgr := grown_on hgr d1.below
        replace hF := hF.on d1.below
        clear h1 HX d1 hs1 hW
        go_wp2_with fail
        with_reducible refine pp.mono ?_
        rintro e w2 ⟨u, lx2, rfl, hs2, hg2, hW2⟩
        have hF2 := hF.farB hg2 hAg
        have hgr2 := grown_trans hgr hg2
        clear pp
        go_wp2_with fail
        go_roundw
        case rel => exact ⟨k + 1, lx2, by omega, by go_num, hW2, hs2, hgr2, hF2⟩
        case measure => simp [intOf]; omega
      · obtain rfl : k = N := by omega
        go_wp2_with fail
        go_ret
        exact ⟨lx, rfl, hs1, hgr, hW.done HVK.out.bd hvec.out (Nat.le_of_eq HNv.out)⟩
set_option maxRecDepth 100000 in
set_option maxHeartbeats 8000000 in
theorem Axpy_no {Y : List Int} (hx : Sv w x X) (hy : Sv w y Y) {E : Int} (he : refE (alk x y) [x, y] = E) (hn : E ≠ 0) : Calls Try.prog 27 #[.float .f64 a, x.V, y.V] w (Ans w (.int .i64 E)) := by
  have HSx := Lib.hid hx
  have HSy := Lib.hid hy
  have hne : (E != 0) = true := by simpa using hn
  have HE := Lib.hid he
  clear he hn hx hy
  have Dx := Blk.new w x.L 30
  have Dy := Blk.new (w.alloc (.cells x.L.toArray 30)) y.L 30
  replace Dx := Dx.alloc (.cells y.L.toArray 30)
  simp only [World.size_alloc] at Dy
  have bz := ((Below.refl _ w).alloc (Nat.le_refl _) (.cells x.L.toArray 30)).alloc (by simp <;> omega) (.cells y.L.toArray 30)
  have hsz0 : ((w.alloc (.cells x.L.toArray 30)).alloc (.cells y.L.toArray 30)).heap.size = w.heap.size + 2 := by simp
  go_enter Try.func27, Try.ntmps27
  go_wp2_with fail
  replace Dx := Dx.drew
  replace Dy := Dy.drew
  replace bz := bz.drew
  refine wp_region_held_drew (S := fun w9 : World => Vbx w9 w.heap.size x ∧ Vbx w9 (w.heap.size + 1) y) (by kernel_rfl) ⟨Dx, Dy⟩ (fun hS => ?_)
  generalize ((w.alloc (.cells x.L.toArray 30)).alloc (.cells y.L.toArray 30)).drew = wd at hS Dx Dy  bz ⊢
  refine wpAnyH_take (i := 0) (v := ?v0_9) rfl (by kernel_rfl) (by kernel_rfl) (by kernel_rfl) (fun _ _ _ h => h) (Or.inl ⟨by rfl, ?hy0_9⟩) (by assumption) ?rest0_9
  case hy0_9 => (intro w9 hSw; obtain ⟨m0, m1⟩ := hSw; refine (ld_v (by rfl) (by kernel_rfl) m0).trans ?_; with_reducible rfl)
  try simp only [Act.put, List.setIfInBounds_toArray, List.set_cons_zero, List.set_cons_succ, List.getElem_toArray, List.getElem_cons_zero, List.getElem_cons_succ]
  refine wpAnyH_take (i := 1) (v := ?v1_10) rfl (by kernel_rfl) (by kernel_rfl) (by kernel_rfl) (fun _ _ _ h => h) (Or.inl ⟨by rfl, ?hy1_10⟩) (by assumption) ?rest1_10
  case hy1_10 => (intro w9 hSw; obtain ⟨m0, m1⟩ := hSw; refine (ld_v (by rfl) (by kernel_rfl) m1).trans ?_; with_reducible rfl)
  try simp only [Act.put, List.setIfInBounds_toArray, List.set_cons_zero, List.set_cons_succ, List.getElem_toArray, List.getElem_cons_zero, List.getElem_cons_succ]
  refine wpAnyH_take (i := 3) (v := ?v3_11) rfl (by kernel_rfl) (by kernel_rfl) (by kernel_rfl) (fun _ _ _ h => h) (Or.inl ⟨by rfl, ?hy3_11⟩) (by assumption) ?rest3_11
  case hy3_11 => (intro w9 hSw; obtain ⟨m0, m1⟩ := hSw; refine (ld_v (by rfl) (by kernel_rfl) m0).trans ?_; with_reducible rfl)
  try simp only [Act.put, List.setIfInBounds_toArray, List.set_cons_zero, List.set_cons_succ, List.getElem_toArray, List.getElem_cons_zero, List.getElem_cons_succ]
  refine wpAnyH_take (i := 4) (v := ?v4_12) rfl (by kernel_rfl) (by kernel_rfl) (by kernel_rfl) (fun _ _ _ h => h) (Or.inl ⟨by rfl, ?hy4_12⟩) (by assumption) ?rest4_12
  case hy4_12 => (intro w9 hSw; obtain ⟨m0, m1⟩ := hSw; refine (ld_v (by rfl) (by kernel_rfl) m1).trans ?_; with_reducible rfl)
  try simp only [Act.put, List.setIfInBounds_toArray, List.set_cons_zero, List.set_cons_succ, List.getElem_toArray, List.getElem_cons_zero, List.getElem_cons_succ]
  refine wpAnyH_ready (rs := [2, 5]) (by kernel_rfl) (by simp) ?_
  refine (AllReadyH.cons rfl (fun K hK => ?_) (AllReadyH.cons rfl (fun K hK => ?_) AllReadyH.nil))
  · go_simp
    with_reducible refine (alike_is (HSx.out.on bz) (HSy.out.on bz)).mono ?_
    rintro e w1 ⟨rfl, hb⟩
    replace Dx := Dx.on hb
    replace Dy := Dy.on hb
    replace bz := bz.trans (hb.mono bz.size)
    clear hb
    refine hK.out _ _ ⟨Dx, Dy⟩ (fun hH => ?_)
    clear hK K hS
    have hS := hH
    clear hH
    try simp only [Act.put, List.setIfInBounds_toArray, List.set_cons_zero, List.set_cons_succ, List.getElem_toArray, List.getElem_cons_zero, List.getElem_cons_succ]
    refine wpAnyH_ready (rs := [5]) (by kernel_rfl) (by simp) ?_
    refine AllReadyH.cons rfl (fun K hK => ?_) AllReadyH.nil
    go_simp
    have hL : VLs (w1.alloc (.cells #[.pointer x.p, .int .i64 x.f0, .int .i64 x.f1, .int .i64 x.d0, .int .i64 x.d1, .int .i64 x.r0, .int .i64 x.r1, .int .i64 x.R, .int .i64 x.C, .pointer y.p, .int .i64 y.f0, .int .i64 y.f1, .int .i64 y.d0, .int .i64 y.d1, .int .i64 y.r0, .int .i64 y.r1, .int .i64 y.R, .int .i64 y.C] 30)) ⟨w1.heap.size, 0, none⟩ [x, y] := VLs.of (Blk.new w1 ([x, y].flatMap Vu.L) 30)
    replace Dx := Dx.on ((Below.refl _ _).alloc (Nat.le_refl _) ((.cells #[.pointer x.p, .int .i64 x.f0, .int .i64 x.f1, .int .i64 x.d0, .int .i64 x.d1, .int .i64 x.r0, .int .i64 x.r1, .int .i64 x.R, .int .i64 x.C, .pointer y.p, .int .i64 y.f0, .int .i64 y.f1, .int .i64 y.d0, .int .i64 y.d1, .int .i64 y.r0, .int .i64 y.r1, .int .i64 y.R, .int .i64 y.C] 30)))
    replace Dy := Dy.on ((Below.refl _ _).alloc (Nat.le_refl _) ((.cells #[.pointer x.p, .int .i64 x.f0, .int .i64 x.f1, .int .i64 x.d0, .int .i64 x.d1, .int .i64 x.r0, .int .i64 x.r1, .int .i64 x.R, .int .i64 x.C, .pointer y.p, .int .i64 y.f0, .int .i64 y.f1, .int .i64 y.d0, .int .i64 y.d1, .int .i64 y.r0, .int .i64 y.r1, .int .i64 y.R, .int .i64 y.C] 30)))
    replace bz := bz.alloc bz.size ((.cells #[.pointer x.p, .int .i64 x.f0, .int .i64 x.f1, .int .i64 x.d0, .int .i64 x.d1, .int .i64 x.r0, .int .i64 x.r1, .int .i64 x.R, .int .i64 x.C, .pointer y.p, .int .i64 y.f0, .int .i64 y.f1, .int .i64 y.d0, .int .i64 y.d1, .int .i64 y.r0, .int .i64 y.r1, .int .i64 y.R, .int .i64 y.C] 30))
    refine hK.out _ _ ⟨Dx, Dy⟩ (fun hH => ?_)
    clear hK K hS
    have hS := hH
    clear hH
    try simp only [Act.put, List.setIfInBounds_toArray, List.set_cons_zero, List.set_cons_succ, List.getElem_toArray, List.getElem_cons_zero, List.getElem_cons_succ]
    refine wpAnyH_ready (rs := [6]) (by kernel_rfl) (by simp) ?_
    refine AllReadyH.cons rfl (fun K hK => ?_) AllReadyH.nil
    go_simp
    with_reducible refine (refused_is (alk x y) (vs := [x, y]) (n := 2) rfl (by omega) hL (by intro z hz; simp only [List.mem_cons, List.mem_nil_iff, or_false] at hz; rcases hz with rfl | rfl; exact ⟨_, HSx.out.on bz⟩; exact ⟨_, HSy.out.on bz⟩)).mono ?_
    rintro e w2 ⟨rfl, hb⟩
    replace Dx := Dx.on hb
    replace Dy := Dy.on hb
    replace hL := hL.on hb
    replace bz := bz.trans (hb.mono bz.size)
    clear hb hL
    rw [HE.out]
    refine hK.out _ _ ⟨Dx, Dy⟩ (fun hH => ?_)
    clear hK K hS
    have hS := hH
    clear hH
    try simp only [Act.put, List.setIfInBounds_toArray, List.set_cons_zero, List.set_cons_succ, List.getElem_toArray, List.getElem_cons_zero, List.getElem_cons_succ]
    refine wpAnyH_take (i := 7) (v := ?v7_13) rfl (by kernel_rfl) (by kernel_rfl) (by kernel_rfl) (fun _ _ _ h => h) (Or.inl ⟨by rfl, ?hy7_13⟩) (by assumption) ?rest7_13
    case hy7_13 => (intro w9 hSw; clear hSw; go_simp; try with_reducible rfl)
    try simp only [Act.put, List.setIfInBounds_toArray, List.set_cons_zero, List.set_cons_succ, List.getElem_toArray, List.getElem_cons_zero, List.getElem_cons_succ]
    refine wpAnyH_done (by kernel_rfl) ?_ _
    go_wp2_with fail
    go_ret
    exact ⟨rfl, bz⟩
  · go_simp
    have hL : VLs (wd.alloc (.cells #[.pointer x.p, .int .i64 x.f0, .int .i64 x.f1, .int .i64 x.d0, .int .i64 x.d1, .int .i64 x.r0, .int .i64 x.r1, .int .i64 x.R, .int .i64 x.C, .pointer y.p, .int .i64 y.f0, .int .i64 y.f1, .int .i64 y.d0, .int .i64 y.d1, .int .i64 y.r0, .int .i64 y.r1, .int .i64 y.R, .int .i64 y.C] 30)) ⟨wd.heap.size, 0, none⟩ [x, y] := VLs.of (Blk.new wd ([x, y].flatMap Vu.L) 30)
    replace Dx := Dx.on ((Below.refl _ _).alloc (Nat.le_refl _) ((.cells #[.pointer x.p, .int .i64 x.f0, .int .i64 x.f1, .int .i64 x.d0, .int .i64 x.d1, .int .i64 x.r0, .int .i64 x.r1, .int .i64 x.R, .int .i64 x.C, .pointer y.p, .int .i64 y.f0, .int .i64 y.f1, .int .i64 y.d0, .int .i64 y.d1, .int .i64 y.r0, .int .i64 y.r1, .int .i64 y.R, .int .i64 y.C] 30)))
    replace Dy := Dy.on ((Below.refl _ _).alloc (Nat.le_refl _) ((.cells #[.pointer x.p, .int .i64 x.f0, .int .i64 x.f1, .int .i64 x.d0, .int .i64 x.d1, .int .i64 x.r0, .int .i64 x.r1, .int .i64 x.R, .int .i64 x.C, .pointer y.p, .int .i64 y.f0, .int .i64 y.f1, .int .i64 y.d0, .int .i64 y.d1, .int .i64 y.r0, .int .i64 y.r1, .int .i64 y.R, .int .i64 y.C] 30)))
    replace bz := bz.alloc bz.size ((.cells #[.pointer x.p, .int .i64 x.f0, .int .i64 x.f1, .int .i64 x.d0, .int .i64 x.d1, .int .i64 x.r0, .int .i64 x.r1, .int .i64 x.R, .int .i64 x.C, .pointer y.p, .int .i64 y.f0, .int .i64 y.f1, .int .i64 y.d0, .int .i64 y.d1, .int .i64 y.r0, .int .i64 y.r1, .int .i64 y.R, .int .i64 y.C] 30))
    refine hK.out _ _ ⟨Dx, Dy⟩ (fun hH => ?_)
    clear hK K hS
    have hS := hH
    clear hH
    try simp only [Act.put, List.setIfInBounds_toArray, List.set_cons_zero, List.set_cons_succ, List.getElem_toArray, List.getElem_cons_zero, List.getElem_cons_succ]
    refine wpAnyH_ready (rs := [2]) (by kernel_rfl) (by simp) ?_
    refine AllReadyH.cons rfl (fun K hK => ?_) AllReadyH.nil
    go_simp
    with_reducible refine (alike_is (HSx.out.on bz) (HSy.out.on bz)).mono ?_
    rintro e w1 ⟨rfl, hb⟩
    replace Dx := Dx.on hb
    replace Dy := Dy.on hb
    replace hL := hL.on hb
    replace bz := bz.trans (hb.mono bz.size)
    clear hb
    refine hK.out _ _ ⟨Dx, Dy⟩ (fun hH => ?_)
    clear hK K hS
    have hS := hH
    clear hH
    try simp only [Act.put, List.setIfInBounds_toArray, List.set_cons_zero, List.set_cons_succ, List.getElem_toArray, List.getElem_cons_zero, List.getElem_cons_succ]
    refine wpAnyH_ready (rs := [6]) (by kernel_rfl) (by simp) ?_
    refine AllReadyH.cons rfl (fun K hK => ?_) AllReadyH.nil
    go_simp
    with_reducible refine (refused_is (alk x y) (vs := [x, y]) (n := 2) rfl (by omega) hL (by intro z hz; simp only [List.mem_cons, List.mem_nil_iff, or_false] at hz; rcases hz with rfl | rfl; exact ⟨_, HSx.out.on bz⟩; exact ⟨_, HSy.out.on bz⟩)).mono ?_
    rintro e w2 ⟨rfl, hb⟩
    replace Dx := Dx.on hb
    replace Dy := Dy.on hb
    replace hL := hL.on hb
    replace bz := bz.trans (hb.mono bz.size)
    clear hb hL
    rw [HE.out]
    refine hK.out _ _ ⟨Dx, Dy⟩ (fun hH => ?_)
    clear hK K hS
    have hS := hH
    clear hH
    try simp only [Act.put, List.setIfInBounds_toArray, List.set_cons_zero, List.set_cons_succ, List.getElem_toArray, List.getElem_cons_zero, List.getElem_cons_succ]
    refine wpAnyH_take (i := 7) (v := ?v7_14) rfl (by kernel_rfl) (by kernel_rfl) (by kernel_rfl) (fun _ _ _ h => h) (Or.inl ⟨by rfl, ?hy7_14⟩) (by assumption) ?rest7_14
    case hy7_14 => (intro w9 hSw; clear hSw; go_simp; try with_reducible rfl)
    try simp only [Act.put, List.setIfInBounds_toArray, List.set_cons_zero, List.set_cons_succ, List.getElem_toArray, List.getElem_cons_zero, List.getElem_cons_succ]
    refine wpAnyH_done (by kernel_rfl) ?_ _
    go_wp2_with fail
    go_ret
    exact ⟨rfl, bz⟩
set_option maxRecDepth 100000 in
set_option maxHeartbeats 8000000 in
theorem Axpy_yes {Y : List Int} (ba : a ≤ 18446744073709551615) (hx : Sv w x X) (hy : Sv w y Y) (he : refE (alk x y) [x, y] = 0) (hXY : X.length = Y.length) (hv : Vk y s c n K) (hs : St w B s g cap c l) (hl : l.length = n) (hj : Inj y c) (hvc : y.vec = true) : Calls Try.prog 27 #[.float .f64 a, x.V, y.V] w (WrA w B s g cap c y l (fun _ _ => true) (fun i j => aop .add (fa (D Y (vix y i j))) (aop .mul (af a) (fa (D X (vix y i j)))))) := by
  have hl4 : X.length ≤ 512 * 512 := by have h1 := hx.len; have h2 := prod_bd hx.R.1 hx.R.2 hx.C.1 hx.C.2; omega
  have hmx : X.length ≤ 9223372036854775807 := by omega
  have HST := Lib.hid hs
  have HVK := Lib.hid hv
  have HIJ := Lib.hid hj
  have HLL := Lib.hid hl
  have HPN : Hid (y.p ≠ none) := Lib.hid ((refE_some he).2 y (by simp))
  have hvec : Hid (y.vec = true) := Lib.hid hvc
  clear hs hv hj hl hvc
  have hszw : w.heap.size ≤ w.heap.size := Nat.le_refl _
  have HSx := Lib.hid hx
  have HSy := Lib.hid hy
  have HE := Lib.hid he
  clear he hx hy
  have Dx := Blk.new w x.L 30
  have Dy := Blk.new (w.alloc (.cells x.L.toArray 30)) y.L 30
  replace Dx := Dx.alloc (.cells y.L.toArray 30)
  simp only [World.size_alloc] at Dy
  have bz := ((Below.refl _ w).alloc (Nat.le_refl _) (.cells x.L.toArray 30)).alloc (by simp <;> omega) (.cells y.L.toArray 30)
  have hsz0 : ((w.alloc (.cells x.L.toArray 30)).alloc (.cells y.L.toArray 30)).heap.size = w.heap.size + 2 := by simp
  go_enter Try.func27, Try.ntmps27
  go_wp2_with fail
  replace Dx := Dx.drew
  replace Dy := Dy.drew
  replace bz := bz.drew
  refine wp_region_held_drew (S := fun w9 : World => Vbx w9 w.heap.size x ∧ Vbx w9 (w.heap.size + 1) y) (by kernel_rfl) ⟨Dx, Dy⟩ (fun hS => ?_)
  generalize ((w.alloc (.cells x.L.toArray 30)).alloc (.cells y.L.toArray 30)).drew = wd at hS Dx Dy  bz ⊢
  refine wpAnyH_take (i := 0) (v := ?v0_15) rfl (by kernel_rfl) (by kernel_rfl) (by kernel_rfl) (fun _ _ _ h => h) (Or.inl ⟨by rfl, ?hy0_15⟩) (by assumption) ?rest0_15
  case hy0_15 => (intro w9 hSw; obtain ⟨m0, m1⟩ := hSw; refine (ld_v (by rfl) (by kernel_rfl) m0).trans ?_; with_reducible rfl)
  try simp only [Act.put, List.setIfInBounds_toArray, List.set_cons_zero, List.set_cons_succ, List.getElem_toArray, List.getElem_cons_zero, List.getElem_cons_succ]
  refine wpAnyH_take (i := 1) (v := ?v1_16) rfl (by kernel_rfl) (by kernel_rfl) (by kernel_rfl) (fun _ _ _ h => h) (Or.inl ⟨by rfl, ?hy1_16⟩) (by assumption) ?rest1_16
  case hy1_16 => (intro w9 hSw; obtain ⟨m0, m1⟩ := hSw; refine (ld_v (by rfl) (by kernel_rfl) m1).trans ?_; with_reducible rfl)
  try simp only [Act.put, List.setIfInBounds_toArray, List.set_cons_zero, List.set_cons_succ, List.getElem_toArray, List.getElem_cons_zero, List.getElem_cons_succ]
  refine wpAnyH_take (i := 3) (v := ?v3_17) rfl (by kernel_rfl) (by kernel_rfl) (by kernel_rfl) (fun _ _ _ h => h) (Or.inl ⟨by rfl, ?hy3_17⟩) (by assumption) ?rest3_17
  case hy3_17 => (intro w9 hSw; obtain ⟨m0, m1⟩ := hSw; refine (ld_v (by rfl) (by kernel_rfl) m0).trans ?_; with_reducible rfl)
  try simp only [Act.put, List.setIfInBounds_toArray, List.set_cons_zero, List.set_cons_succ, List.getElem_toArray, List.getElem_cons_zero, List.getElem_cons_succ]
  refine wpAnyH_take (i := 4) (v := ?v4_18) rfl (by kernel_rfl) (by kernel_rfl) (by kernel_rfl) (fun _ _ _ h => h) (Or.inl ⟨by rfl, ?hy4_18⟩) (by assumption) ?rest4_18
  case hy4_18 => (intro w9 hSw; obtain ⟨m0, m1⟩ := hSw; refine (ld_v (by rfl) (by kernel_rfl) m1).trans ?_; with_reducible rfl)
  try simp only [Act.put, List.setIfInBounds_toArray, List.set_cons_zero, List.set_cons_succ, List.getElem_toArray, List.getElem_cons_zero, List.getElem_cons_succ]
  refine wpAnyH_ready (rs := [2, 5]) (by kernel_rfl) (by simp) ?_
  refine (AllReadyH.cons rfl (fun K hK => ?_) (AllReadyH.cons rfl (fun K hK => ?_) AllReadyH.nil))
  · go_simp
    with_reducible refine (alike_is (HSx.out.on bz) (HSy.out.on bz)).mono ?_
    rintro e w1 ⟨rfl, hb⟩
    replace Dx := Dx.on hb
    replace Dy := Dy.on hb
    replace bz := bz.trans (hb.mono bz.size)
    clear hb
    refine hK.out _ _ ⟨Dx, Dy⟩ (fun hH => ?_)
    clear hK K hS
    have hS := hH
    clear hH
    try simp only [Act.put, List.setIfInBounds_toArray, List.set_cons_zero, List.set_cons_succ, List.getElem_toArray, List.getElem_cons_zero, List.getElem_cons_succ]
    refine wpAnyH_ready (rs := [5]) (by kernel_rfl) (by simp) ?_
    refine AllReadyH.cons rfl (fun K hK => ?_) AllReadyH.nil
    go_simp
    have hL : VLs (w1.alloc (.cells #[.pointer x.p, .int .i64 x.f0, .int .i64 x.f1, .int .i64 x.d0, .int .i64 x.d1, .int .i64 x.r0, .int .i64 x.r1, .int .i64 x.R, .int .i64 x.C, .pointer y.p, .int .i64 y.f0, .int .i64 y.f1, .int .i64 y.d0, .int .i64 y.d1, .int .i64 y.r0, .int .i64 y.r1, .int .i64 y.R, .int .i64 y.C] 30)) ⟨w1.heap.size, 0, none⟩ [x, y] := VLs.of (Blk.new w1 ([x, y].flatMap Vu.L) 30)
    replace Dx := Dx.on ((Below.refl _ _).alloc (Nat.le_refl _) ((.cells #[.pointer x.p, .int .i64 x.f0, .int .i64 x.f1, .int .i64 x.d0, .int .i64 x.d1, .int .i64 x.r0, .int .i64 x.r1, .int .i64 x.R, .int .i64 x.C, .pointer y.p, .int .i64 y.f0, .int .i64 y.f1, .int .i64 y.d0, .int .i64 y.d1, .int .i64 y.r0, .int .i64 y.r1, .int .i64 y.R, .int .i64 y.C] 30)))
    replace Dy := Dy.on ((Below.refl _ _).alloc (Nat.le_refl _) ((.cells #[.pointer x.p, .int .i64 x.f0, .int .i64 x.f1, .int .i64 x.d0, .int .i64 x.d1, .int .i64 x.r0, .int .i64 x.r1, .int .i64 x.R, .int .i64 x.C, .pointer y.p, .int .i64 y.f0, .int .i64 y.f1, .int .i64 y.d0, .int .i64 y.d1, .int .i64 y.r0, .int .i64 y.r1, .int .i64 y.R, .int .i64 y.C] 30)))
    replace bz := bz.alloc bz.size ((.cells #[.pointer x.p, .int .i64 x.f0, .int .i64 x.f1, .int .i64 x.d0, .int .i64 x.d1, .int .i64 x.r0, .int .i64 x.r1, .int .i64 x.R, .int .i64 x.C, .pointer y.p, .int .i64 y.f0, .int .i64 y.f1, .int .i64 y.d0, .int .i64 y.d1, .int .i64 y.r0, .int .i64 y.r1, .int .i64 y.R, .int .i64 y.C] 30))
    refine hK.out _ _ ⟨Dx, Dy⟩ (fun hH => ?_)
    clear hK K hS
    have hS := hH
    clear hH
    try simp only [Act.put, List.setIfInBounds_toArray, List.set_cons_zero, List.set_cons_succ, List.getElem_toArray, List.getElem_cons_zero, List.getElem_cons_succ]
    refine wpAnyH_ready (rs := [6]) (by kernel_rfl) (by simp) ?_
    refine AllReadyH.cons rfl (fun K hK => ?_) AllReadyH.nil
    go_simp
    with_reducible refine (refused_is (alk x y) (vs := [x, y]) (n := 2) rfl (by omega) hL (by intro z hz; simp only [List.mem_cons, List.mem_nil_iff, or_false] at hz; rcases hz with rfl | rfl; exact ⟨_, HSx.out.on bz⟩; exact ⟨_, HSy.out.on bz⟩)).mono ?_
    rintro e w2 ⟨rfl, hb⟩
    replace Dx := Dx.on hb
    replace Dy := Dy.on hb
    replace hL := hL.on hb
    replace bz := bz.trans (hb.mono bz.size)
    clear hb hL
    rw [HE.out]
    refine hK.out _ _ ⟨Dx, Dy⟩ (fun hH => ?_)
    clear hK K hS
    have hS := hH
    clear hH
    try simp only [Act.put, List.setIfInBounds_toArray, List.set_cons_zero, List.set_cons_succ, List.getElem_toArray, List.getElem_cons_zero, List.getElem_cons_succ]
    refine wpAnyH_take (i := 7) (v := ?v7_19) rfl (by kernel_rfl) (by kernel_rfl) (by kernel_rfl) (fun _ _ _ h => h) (Or.inl ⟨by rfl, ?hy7_19⟩) (by assumption) ?rest7_19
    case hy7_19 => (intro w9 hSw; clear hSw; go_simp; try with_reducible rfl)
    try simp only [Act.put, List.setIfInBounds_toArray, List.set_cons_zero, List.set_cons_succ, List.getElem_toArray, List.getElem_cons_zero, List.getElem_cons_succ]
    refine wpAnyH_done (by kernel_rfl) ?_ _
    go_wp2_with fail
    replace Dx := Dx.drew
    replace Dy := Dy.drew
    replace bz := bz.drew
    have hszp := bz.size
    refine wp_region_held_drew (S := fun w9 : World => Vbx w9 w.heap.size x ∧ Vbx w9 (w.heap.size + 1) y) (by kernel_rfl) ⟨Dx, Dy⟩ (fun hS => ?_)
    generalize w2.drew = wf at hS Dx Dy hszp bz ⊢
    refine wpAnyH_take (i := 0) (v := ?v0_20) rfl (by kernel_rfl) (by kernel_rfl) (by kernel_rfl) (fun _ _ _ h => h) (Or.inl ⟨by rfl, ?hy0_20⟩) (by assumption) ?rest0_20
    case hy0_20 => (intro w9 hSw; obtain ⟨m0, m1⟩ := hSw; refine (ld_v (by rfl) (by kernel_rfl) m1).trans ?_; with_reducible rfl)
    try simp only [Act.put, List.setIfInBounds_toArray, List.set_cons_zero, List.set_cons_succ, List.getElem_toArray, List.getElem_cons_zero, List.getElem_cons_succ]
    refine wpAnyH_take (i := 1) (v := ?v1_21) rfl (by kernel_rfl) (by kernel_rfl) (by kernel_rfl) (fun _ _ _ h => h) (Or.inl ⟨by rfl, ?hy1_21⟩) (by assumption) ?rest1_21
    case hy1_21 => (intro w9 hSw; clear hSw; go_simp; try with_reducible rfl)
    try simp only [Act.put, List.setIfInBounds_toArray, List.set_cons_zero, List.set_cons_succ, List.getElem_toArray, List.getElem_cons_zero, List.getElem_cons_succ]
    refine wpAnyH_take (i := 2) (v := ?v2_22) rfl (by kernel_rfl) (by kernel_rfl) (by kernel_rfl) (fun _ _ _ h => h) (Or.inl ⟨by rfl, ?hy2_22⟩) (by assumption) ?rest2_22
    case hy2_22 => (intro w9 hSw; obtain ⟨m0, m1⟩ := hSw; refine (ld_v (by rfl) (by kernel_rfl) m1).trans ?_; with_reducible rfl)
    try simp only [Act.put, List.setIfInBounds_toArray, List.set_cons_zero, List.set_cons_succ, List.getElem_toArray, List.getElem_cons_zero, List.getElem_cons_succ]
    refine wpAnyH_ready (rs := [3]) (by kernel_rfl) (by simp) ?_
    refine AllReadyH.cons rfl (fun K hK => ?_) AllReadyH.nil
    go_simp
    with_reducible refine (floats_is (HSy.out.on bz)).mono ?_
    rintro e w3 ⟨Ay, cy, rfl, hoy, hb⟩
    replace Dx := Dx.on hb
    replace Dy := Dy.on hb
    replace bz := bz.trans (hb.mono bz.size)
    clear hb
    have hFy := hoy.fl HSy.out.wd
    have hAy : ∀ a, Ay = some a → a.block ≠ g := fun a e => by have := (hoy.gt e).1; have := HST.out.gt.2; omega
    clear hoy
    refine hK.out _ _ ⟨Dx, Dy⟩ (fun hH => ?_)
    clear hK K hS
    have hS := hH
    clear hH
    try simp only [Act.put, List.setIfInBounds_toArray, List.set_cons_zero, List.set_cons_succ, List.getElem_toArray, List.getElem_cons_zero, List.getElem_cons_succ]
    refine wpAnyH_take (i := 4) (v := ?v4_23) rfl (by kernel_rfl) (by kernel_rfl) (by kernel_rfl) (fun _ _ _ h => h) (Or.inl ⟨by rfl, ?hy4_23⟩) (by assumption) ?rest4_23
    case hy4_23 => (intro w9 hSw; clear hSw; go_simp; try with_reducible rfl)
    try simp only [Act.put, List.setIfInBounds_toArray, List.set_cons_zero, List.set_cons_succ, List.getElem_toArray, List.getElem_cons_zero, List.getElem_cons_succ]
    refine wpAnyH_take (i := 5) (v := ?v5_24) rfl (by kernel_rfl) (by kernel_rfl) (by kernel_rfl) (fun _ _ _ h => h) (Or.inl ⟨by rfl, ?hy5_24⟩) (by assumption) ?rest5_24
    case hy5_24 => (intro w9 hSw; clear hSw; go_simp; try with_reducible rfl)
    try simp only [Act.put, List.setIfInBounds_toArray, List.set_cons_zero, List.set_cons_succ, List.getElem_toArray, List.getElem_cons_zero, List.getElem_cons_succ]
    refine wpAnyH_done (by kernel_rfl) ?_ _
    obtain ⟨c0, c1, c2, c3, c4, c5, c6, c7, c8⟩ := Vbx.cells Dx
    have hszq := bz.size
    go_wp2_with fail
    with_reducible refine (floats_is (HSx.out.on bz)).mono ?_
    rintro e w4 ⟨A, cA, rfl, ho, hb⟩
    clear c0 c1 c2 c3 c4 c5 c6 c7 c8
    replace Dx := Dx.on hb
    replace Dy := Dy.on hb
    replace hFy := hFy.on hb
    replace bz := bz.trans (hb.mono bz.size)
    clear hb
    have hs1 := HST.out.on bz
    have hgr := grown_below bz (some g)
    have hAg : ∀ a, A = some a → a.block ≠ g := fun a e => by have := (ho.gt e).1; have := HST.out.gt.2; omega
    have hF := ho.fl HSx.out.wd
    obtain ⟨N, hN⟩ : ∃ N, X.length = N := ⟨_, rfl⟩
    have HLn := Lib.hid hN
    obtain ⟨M, hM⟩ : ∃ M, Y.length = M := ⟨_, rfl⟩
    have HLm := Lib.hid hM
    simp only [hN] at hF hmx hl4 hXY
    simp only [hM] at hFy hXY
    have hNM : N ≤ M ∧ M ≤ N := by omega
    clear hN ho hM hXY
    have hW0 : Wv y c l l 0 (fun k => aop .add (fa (D Y k)) (aop .mul (af a) (fa (D X k)))) := Wv.start y c l _
    have hNv : (y.R * y.C).toNat = M := by have := HSy.out.len; have := HLm.out; omega
    have HNv := Lib.hid hNv
    simp only [HLn.out, HLm.out]
    go_wp2_with fail
    go_loopw [29] (fun i wr => ∃ (k : Nat) (lx : List Int), k ≤ N ∧ i = .int .i64 k ∧ Wv y c l lx k (fun k => aop .add (fa (D Y k)) (aop .mul (af a) (fa (D X k)))) ∧ St wr B s g cap c lx ∧ w.grownBy wr (some g) ∧ FL wr A N cA X ∧ FL wr Ay M cy Y) (fun i _ => N - (intOf i).toNat)
    case atStart => exact ⟨0, l, Nat.zero_le _, rfl, hW0, hs1, hgr, hF, hFy⟩
    case round =>
      clear hW0 hs1 hgr hF hFy
      obtain ⟨k, lx, hk, rfl, hW, hs1, hgr, hF, hFy⟩ := hrel
      by_cases hlt : k < N
      · obtain ⟨ad, hA, hb1, hc1⟩ := hF.at_ hlt
        obtain ⟨x0, x1⟩ := hF.2.2.at_ k
        obtain ⟨y0, y1⟩ := hFy.2.2.at_ k
        have bX : (D X k).toNat ≤ 18446744073709551615 := by omega
        have bY : (D Y k).toNat ≤ 18446744073709551615 := by omega
        obtain ⟨ad2, hA2, hb2, hc2⟩ := hFy.at_ (k := k) (by omega)
        have HX : Hid (af (D X k).toNat = fa (D X k) ∧ af (D Y k).toNat = fa (D Y k)) := Lib.hid ⟨rfl, rfl⟩
        generalize (D X k).toNat = Xk at *
        generalize (D Y k).toNat = Yk at *
        subst hA hA2
        have k0 : (0 : Int) ≤ k := by omega
        have k1 : (k : Int) < N := by omega
        have k2 : (k : Int) < M := by omega
        clear x0 x1 y0 y1 hb1 hb2
        obtain ⟨r1, w1, e1, d1, h1, b1⟩ := run_mul (P := Try.prog) 32 (x := a) (y := Xk) ba bX wr
        obtain ⟨r2, w2, e2, d2, h2, b2⟩ := run_add (P := Try.prog) 32 (x := Yk) (y := r1) bY b1 w1
        have HR : Hid (af r2 = aop .add (fa (D Y k)) (aop .mul (af a) (fa (D X k)))) := Lib.hid (by rw [h2, h1, HX.out.1, HX.out.2])
        have dd := (d1.trans d2).below
        have pp := put_wr (w := w2) hW HVK.out HIJ.out HLL.out HPN.out hvec.out (hs1.on dd) (by rw [HNv.out]; omega) (r := r2) HR.out b2
        replace hgr := grown_on hgr dd
        replace hF := hF.on dd
        replace hFy := hFy.on dd
        clear h1 h2 HX d1 d2 dd hs1 hW
        go_wp2_with fail
        with_reducible refine pp.mono ?_
        rintro e w3 ⟨u, lx2, rfl, hs2, hg2, hW2⟩
        have hF2 := hF.farB hg2 hAg
        have hFy2 := hFy.farB hg2 hAy
        have hgr2 := grown_trans hgr hg2
        clear pp
        go_wp2_with fail
        go_roundw
        case rel => exact ⟨k + 1, lx2, by omega, by go_num, hW2, hs2, hgr2, hF2, hFy2⟩
        case measure => simp [intOf]; omega
      · obtain rfl : k = N := by omega
        go_wp2_with fail
        go_ret
        exact ⟨lx, rfl, hs1, hgr, hW.done HVK.out.bd hvec.out (by rw [HNv.out]; omega)⟩
  · go_simp
    have hL : VLs (wd.alloc (.cells #[.pointer x.p, .int .i64 x.f0, .int .i64 x.f1, .int .i64 x.d0, .int .i64 x.d1, .int .i64 x.r0, .int .i64 x.r1, .int .i64 x.R, .int .i64 x.C, .pointer y.p, .int .i64 y.f0, .int .i64 y.f1, .int .i64 y.d0, .int .i64 y.d1, .int .i64 y.r0, .int .i64 y.r1, .int .i64 y.R, .int .i64 y.C] 30)) ⟨wd.heap.size, 0, none⟩ [x, y] := VLs.of (Blk.new wd ([x, y].flatMap Vu.L) 30)
    replace Dx := Dx.on ((Below.refl _ _).alloc (Nat.le_refl _) ((.cells #[.pointer x.p, .int .i64 x.f0, .int .i64 x.f1, .int .i64 x.d0, .int .i64 x.d1, .int .i64 x.r0, .int .i64 x.r1, .int .i64 x.R, .int .i64 x.C, .pointer y.p, .int .i64 y.f0, .int .i64 y.f1, .int .i64 y.d0, .int .i64 y.d1, .int .i64 y.r0, .int .i64 y.r1, .int .i64 y.R, .int .i64 y.C] 30)))
    replace Dy := Dy.on ((Below.refl _ _).alloc (Nat.le_refl _) ((.cells #[.pointer x.p, .int .i64 x.f0, .int .i64 x.f1, .int .i64 x.d0, .int .i64 x.d1, .int .i64 x.r0, .int .i64 x.r1, .int .i64 x.R, .int .i64 x.C, .pointer y.p, .int .i64 y.f0, .int .i64 y.f1, .int .i64 y.d0, .int .i64 y.d1, .int .i64 y.r0, .int .i64 y.r1, .int .i64 y.R, .int .i64 y.C] 30)))
    replace bz := bz.alloc bz.size ((.cells #[.pointer x.p, .int .i64 x.f0, .int .i64 x.f1, .int .i64 x.d0, .int .i64 x.d1, .int .i64 x.r0, .int .i64 x.r1, .int .i64 x.R, .int .i64 x.C, .pointer y.p, .int .i64 y.f0, .int .i64 y.f1, .int .i64 y.d0, .int .i64 y.d1, .int .i64 y.r0, .int .i64 y.r1, .int .i64 y.R, .int .i64 y.C] 30))
    refine hK.out _ _ ⟨Dx, Dy⟩ (fun hH => ?_)
    clear hK K hS
    have hS := hH
    clear hH
    try simp only [Act.put, List.setIfInBounds_toArray, List.set_cons_zero, List.set_cons_succ, List.getElem_toArray, List.getElem_cons_zero, List.getElem_cons_succ]
    refine wpAnyH_ready (rs := [2]) (by kernel_rfl) (by simp) ?_
    refine AllReadyH.cons rfl (fun K hK => ?_) AllReadyH.nil
    go_simp
    with_reducible refine (alike_is (HSx.out.on bz) (HSy.out.on bz)).mono ?_
    rintro e w1 ⟨rfl, hb⟩
    replace Dx := Dx.on hb
    replace Dy := Dy.on hb
    replace hL := hL.on hb
    replace bz := bz.trans (hb.mono bz.size)
    clear hb
    refine hK.out _ _ ⟨Dx, Dy⟩ (fun hH => ?_)
    clear hK K hS
    have hS := hH
    clear hH
    try simp only [Act.put, List.setIfInBounds_toArray, List.set_cons_zero, List.set_cons_succ, List.getElem_toArray, List.getElem_cons_zero, List.getElem_cons_succ]
    refine wpAnyH_ready (rs := [6]) (by kernel_rfl) (by simp) ?_
    refine AllReadyH.cons rfl (fun K hK => ?_) AllReadyH.nil
    go_simp
    with_reducible refine (refused_is (alk x y) (vs := [x, y]) (n := 2) rfl (by omega) hL (by intro z hz; simp only [List.mem_cons, List.mem_nil_iff, or_false] at hz; rcases hz with rfl | rfl; exact ⟨_, HSx.out.on bz⟩; exact ⟨_, HSy.out.on bz⟩)).mono ?_
    rintro e w2 ⟨rfl, hb⟩
    replace Dx := Dx.on hb
    replace Dy := Dy.on hb
    replace hL := hL.on hb
    replace bz := bz.trans (hb.mono bz.size)
    clear hb hL
    rw [HE.out]
    refine hK.out _ _ ⟨Dx, Dy⟩ (fun hH => ?_)
    clear hK K hS
    have hS := hH
    clear hH
    try simp only [Act.put, List.setIfInBounds_toArray, List.set_cons_zero, List.set_cons_succ, List.getElem_toArray, List.getElem_cons_zero, List.getElem_cons_succ]
    refine wpAnyH_take (i := 7) (v := ?v7_25) rfl (by kernel_rfl) (by kernel_rfl) (by kernel_rfl) (fun _ _ _ h => h) (Or.inl ⟨by rfl, ?hy7_25⟩) (by assumption) ?rest7_25
    case hy7_25 => (intro w9 hSw; clear hSw; go_simp; try with_reducible rfl)
    try simp only [Act.put, List.setIfInBounds_toArray, List.set_cons_zero, List.set_cons_succ, List.getElem_toArray, List.getElem_cons_zero, List.getElem_cons_succ]
    refine wpAnyH_done (by kernel_rfl) ?_ _
    go_wp2_with fail
    replace Dx := Dx.drew
    replace Dy := Dy.drew
    replace bz := bz.drew
    have hszp := bz.size
    refine wp_region_held_drew (S := fun w9 : World => Vbx w9 w.heap.size x ∧ Vbx w9 (w.heap.size + 1) y) (by kernel_rfl) ⟨Dx, Dy⟩ (fun hS => ?_)
    generalize w2.drew = wf at hS Dx Dy hszp bz ⊢
    refine wpAnyH_take (i := 0) (v := ?v0_26) rfl (by kernel_rfl) (by kernel_rfl) (by kernel_rfl) (fun _ _ _ h => h) (Or.inl ⟨by rfl, ?hy0_26⟩) (by assumption) ?rest0_26
    case hy0_26 => (intro w9 hSw; obtain ⟨m0, m1⟩ := hSw; refine (ld_v (by rfl) (by kernel_rfl) m1).trans ?_; with_reducible rfl)
    try simp only [Act.put, List.setIfInBounds_toArray, List.set_cons_zero, List.set_cons_succ, List.getElem_toArray, List.getElem_cons_zero, List.getElem_cons_succ]
    refine wpAnyH_take (i := 1) (v := ?v1_27) rfl (by kernel_rfl) (by kernel_rfl) (by kernel_rfl) (fun _ _ _ h => h) (Or.inl ⟨by rfl, ?hy1_27⟩) (by assumption) ?rest1_27
    case hy1_27 => (intro w9 hSw; clear hSw; go_simp; try with_reducible rfl)
    try simp only [Act.put, List.setIfInBounds_toArray, List.set_cons_zero, List.set_cons_succ, List.getElem_toArray, List.getElem_cons_zero, List.getElem_cons_succ]
    refine wpAnyH_take (i := 2) (v := ?v2_28) rfl (by kernel_rfl) (by kernel_rfl) (by kernel_rfl) (fun _ _ _ h => h) (Or.inl ⟨by rfl, ?hy2_28⟩) (by assumption) ?rest2_28
    case hy2_28 => (intro w9 hSw; obtain ⟨m0, m1⟩ := hSw; refine (ld_v (by rfl) (by kernel_rfl) m1).trans ?_; with_reducible rfl)
    try simp only [Act.put, List.setIfInBounds_toArray, List.set_cons_zero, List.set_cons_succ, List.getElem_toArray, List.getElem_cons_zero, List.getElem_cons_succ]
    refine wpAnyH_ready (rs := [3]) (by kernel_rfl) (by simp) ?_
    refine AllReadyH.cons rfl (fun K hK => ?_) AllReadyH.nil
    go_simp
    with_reducible refine (floats_is (HSy.out.on bz)).mono ?_
    rintro e w3 ⟨Ay, cy, rfl, hoy, hb⟩
    replace Dx := Dx.on hb
    replace Dy := Dy.on hb
    replace bz := bz.trans (hb.mono bz.size)
    clear hb
    have hFy := hoy.fl HSy.out.wd
    have hAy : ∀ a, Ay = some a → a.block ≠ g := fun a e => by have := (hoy.gt e).1; have := HST.out.gt.2; omega
    clear hoy
    refine hK.out _ _ ⟨Dx, Dy⟩ (fun hH => ?_)
    clear hK K hS
    have hS := hH
    clear hH
    try simp only [Act.put, List.setIfInBounds_toArray, List.set_cons_zero, List.set_cons_succ, List.getElem_toArray, List.getElem_cons_zero, List.getElem_cons_succ]
    refine wpAnyH_take (i := 4) (v := ?v4_29) rfl (by kernel_rfl) (by kernel_rfl) (by kernel_rfl) (fun _ _ _ h => h) (Or.inl ⟨by rfl, ?hy4_29⟩) (by assumption) ?rest4_29
    case hy4_29 => (intro w9 hSw; clear hSw; go_simp; try with_reducible rfl)
    try simp only [Act.put, List.setIfInBounds_toArray, List.set_cons_zero, List.set_cons_succ, List.getElem_toArray, List.getElem_cons_zero, List.getElem_cons_succ]
    refine wpAnyH_take (i := 5) (v := ?v5_30) rfl (by kernel_rfl) (by kernel_rfl) (by kernel_rfl) (fun _ _ _ h => h) (Or.inl ⟨by rfl, ?hy5_30⟩) (by assumption) ?rest5_30
    case hy5_30 => (intro w9 hSw; clear hSw; go_simp; try with_reducible rfl)
    try simp only [Act.put, List.setIfInBounds_toArray, List.set_cons_zero, List.set_cons_succ, List.getElem_toArray, List.getElem_cons_zero, List.getElem_cons_succ]
    refine wpAnyH_done (by kernel_rfl) ?_ _
    obtain ⟨c0, c1, c2, c3, c4, c5, c6, c7, c8⟩ := Vbx.cells Dx
    have hszq := bz.size
    go_wp2_with fail
    with_reducible refine (floats_is (HSx.out.on bz)).mono ?_
    rintro e w4 ⟨A, cA, rfl, ho, hb⟩
    clear c0 c1 c2 c3 c4 c5 c6 c7 c8
    replace Dx := Dx.on hb
    replace Dy := Dy.on hb
    replace hFy := hFy.on hb
    replace bz := bz.trans (hb.mono bz.size)
    clear hb
    have hs1 := HST.out.on bz
    have hgr := grown_below bz (some g)
    have hAg : ∀ a, A = some a → a.block ≠ g := fun a e => by have := (ho.gt e).1; have := HST.out.gt.2; omega
    have hF := ho.fl HSx.out.wd
    obtain ⟨N, hN⟩ : ∃ N, X.length = N := ⟨_, rfl⟩
    have HLn := Lib.hid hN
    obtain ⟨M, hM⟩ : ∃ M, Y.length = M := ⟨_, rfl⟩
    have HLm := Lib.hid hM
    simp only [hN] at hF hmx hl4 hXY
    simp only [hM] at hFy hXY
    have hNM : N ≤ M ∧ M ≤ N := by omega
    clear hN ho hM hXY
    have hW0 : Wv y c l l 0 (fun k => aop .add (fa (D Y k)) (aop .mul (af a) (fa (D X k)))) := Wv.start y c l _
    have hNv : (y.R * y.C).toNat = M := by have := HSy.out.len; have := HLm.out; omega
    have HNv := Lib.hid hNv
    simp only [HLn.out, HLm.out]
    go_wp2_with fail
    go_loopw [29] (fun i wr => ∃ (k : Nat) (lx : List Int), k ≤ N ∧ i = .int .i64 k ∧ Wv y c l lx k (fun k => aop .add (fa (D Y k)) (aop .mul (af a) (fa (D X k)))) ∧ St wr B s g cap c lx ∧ w.grownBy wr (some g) ∧ FL wr A N cA X ∧ FL wr Ay M cy Y) (fun i _ => N - (intOf i).toNat)
    case atStart => exact ⟨0, l, Nat.zero_le _, rfl, hW0, hs1, hgr, hF, hFy⟩
    case round =>
      clear hW0 hs1 hgr hF hFy
      obtain ⟨k, lx, hk, rfl, hW, hs1, hgr, hF, hFy⟩ := hrel
      by_cases hlt : k < N
      · obtain ⟨ad, hA, hb1, hc1⟩ := hF.at_ hlt
        obtain ⟨x0, x1⟩ := hF.2.2.at_ k
        obtain ⟨y0, y1⟩ := hFy.2.2.at_ k
        have bX : (D X k).toNat ≤ 18446744073709551615 := by omega
        have bY : (D Y k).toNat ≤ 18446744073709551615 := by omega
        obtain ⟨ad2, hA2, hb2, hc2⟩ := hFy.at_ (k := k) (by omega)
        have HX : Hid (af (D X k).toNat = fa (D X k) ∧ af (D Y k).toNat = fa (D Y k)) := Lib.hid ⟨rfl, rfl⟩
        generalize (D X k).toNat = Xk at *
        generalize (D Y k).toNat = Yk at *
        subst hA hA2
        have k0 : (0 : Int) ≤ k := by omega
        have k1 : (k : Int) < N := by omega
        have k2 : (k : Int) < M := by omega
        clear x0 x1 y0 y1 hb1 hb2
        obtain ⟨r1, w1, e1, d1, h1, b1⟩ := run_mul (P := Try.prog) 32 (x := a) (y := Xk) ba bX wr
        obtain ⟨r2, w2, e2, d2, h2, b2⟩ := run_add (P := Try.prog) 32 (x := Yk) (y := r1) bY b1 w1
        have HR : Hid (af r2 = aop .add (fa (D Y k)) (aop .mul (af a) (fa (D X k)))) := Lib.hid (by rw [h2, h1, HX.out.1, HX.out.2])
        have dd := (d1.trans d2).below
        have pp := put_wr (w := w2) hW HVK.out HIJ.out HLL.out HPN.out hvec.out (hs1.on dd) (by rw [HNv.out]; omega) (r := r2) HR.out b2
        replace hgr := grown_on hgr dd
        replace hF := hF.on dd
        replace hFy := hFy.on dd
        clear h1 h2 HX d1 d2 dd hs1 hW
        go_wp2_with fail
        with_reducible refine pp.mono ?_
        rintro e w3 ⟨u, lx2, rfl, hs2, hg2, hW2⟩
        have hF2 := hF.farB hg2 hAg
        have hFy2 := hFy.farB hg2 hAy
        have hgr2 := grown_trans hgr hg2
        clear pp
        go_wp2_with fail
        go_roundw
        case rel => exact ⟨k + 1, lx2, by omega, by go_num, hW2, hs2, hgr2, hF2, hFy2⟩
        case measure => simp [intOf]; omega
      · obtain rfl : k = N := by omega
        go_wp2_with fail
        go_ret
        exact ⟨lx, rfl, hs1, hgr, hW.done HVK.out.bd hvec.out (by rw [HNv.out]; omega)⟩
end
end Go.Proofs.Ytfelmkkkaphkpaa
namespace Go.Proofs.Ytfelmkkkaphkpaa
open Go.RowKit Go.Bw Go.Sort Go.Shelf
set_option linter.unusedVariables false
set_option linter.unusedSimpArgs false

/-- two views share a place -/
theorem svShares {w : World} {x y : Vu} {X Y : List Int} (hx : Sv w x X) (hy : Sv w y Y) : Calls Try.prog 75 #[x.V, y.V] w (Ans w (.bool (shB x y))) := by
  have ps : ∀ {z : Vu} {Z : List Int}, Sv w z Z → PS w z.p := fun {z Z} h a e => by
    obtain ⟨s, c, n, B, g, cap, K, l, h1, h2, h3⟩ := h
    rcases h1.p with h4 | h4
    · rw [h4] at e; cases e
    · rw [h4] at e
      cases e
      exact ⟨s, _, rfl, (h2 (by rw [h4]; simp)).1.box⟩
  have p1 := ps hx
  have p2 := ps hy
  obtain ⟨K2, hb⟩ := hy.bd
  obtain ⟨s, c, n, B, g, cap, K, l, h1, h2, h3⟩ := hx
  exact Shares_any h1 h2 hb p1 p2
section
variable {w : World} {u x y : Vu} {U X Y : List Int} {a b : Nat} {up unit : Bool}
set_option maxRecDepth 100000 in
set_option maxHeartbeats 8000000 in
theorem Swap_no0 (hx : Sv w x X) (hy : Sv w y Y) {E : Int} (h0 : (szd x y.R y.C) = false) (he : refE ((szd x y.R y.C) && (!(shB x y))) [x, y] = E) (hn : E ≠ 0) : Calls Try.prog 33 #[x.V, y.V] w (Ans w (.int .i64 E)) := by
  have hft : ((szd x y.R y.C) && (!(shB x y))) = false := by simp [h0]
  rw [hft] at he
  clear hft
  have HSx := Lib.hid hx
  have HSy := Lib.hid hy
  have hne : (E != 0) = true := by simpa using hn
  have HE := Lib.hid he
  have p2 := fun (W : World) (bz : Below w.heap.size w W) => sized_is x y.R y.C W
  simp only [h0] at p2
  clear he hn hx hy h0
  have Dx := Blk.new w x.L 30
  have Dy := Blk.new (w.alloc (.cells x.L.toArray 30)) y.L 30
  replace Dx := Dx.alloc (.cells y.L.toArray 30)
  simp only [World.size_alloc] at Dy
  have bz := ((Below.refl _ w).alloc (Nat.le_refl _) (.cells x.L.toArray 30)).alloc (by simp <;> omega) (.cells y.L.toArray 30)
  have hsz0 : ((w.alloc (.cells x.L.toArray 30)).alloc (.cells y.L.toArray 30)).heap.size = w.heap.size + 2 := by simp
  go_enter Try.func33, Try.ntmps33
  go_wp2_with fail
  replace Dx := Dx.drew
  replace Dy := Dy.drew
  replace bz := bz.drew
  refine wp_region_held_drew (S := fun w9 : World => Vbx w9 w.heap.size x ∧ Vbx w9 (w.heap.size + 1) y) (by kernel_rfl) ⟨Dx, Dy⟩ (fun hS => ?_)
  generalize ((w.alloc (.cells x.L.toArray 30)).alloc (.cells y.L.toArray 30)).drew = wd at hS Dx Dy  bz ⊢
  refine wpAnyH_take (i := 0) (v := ?v0_107) rfl (by kernel_rfl) (by kernel_rfl) (by kernel_rfl) (fun _ _ _ h => h) (Or.inl ⟨by rfl, ?hy0_107⟩) (by assumption) ?rest0_107
  case hy0_107 => (intro w9 hSw; obtain ⟨m0, m1⟩ := hSw; refine (ld_v (by rfl) (by kernel_rfl) m0).trans ?_; with_reducible rfl)
  try simp only [Act.put, List.setIfInBounds_toArray, List.set_cons_zero, List.set_cons_succ, List.getElem_toArray, List.getElem_cons_zero, List.getElem_cons_succ]
  refine wpAnyH_take (i := 1) (v := ?v1_108) rfl (by kernel_rfl) (by kernel_rfl) (by kernel_rfl) (fun _ _ _ h => h) (Or.inl ⟨by rfl, ?hy1_108⟩) (by assumption) ?rest1_108
  case hy1_108 => (intro w9 hSw; obtain ⟨m0, m1⟩ := hSw; refine (ld_v (by rfl) (by kernel_rfl) m1).trans ?_; with_reducible rfl)
  try simp only [Act.put, List.setIfInBounds_toArray, List.set_cons_zero, List.set_cons_succ, List.getElem_toArray, List.getElem_cons_zero, List.getElem_cons_succ]
  refine wpAnyH_take (i := 3) (v := ?v3_109) rfl (by kernel_rfl) (by kernel_rfl) (by kernel_rfl) (fun _ _ _ h => h) (Or.inl ⟨by rfl, ?hy3_109⟩) (by assumption) ?rest3_109
  case hy3_109 => (intro w9 hSw; obtain ⟨m0, m1⟩ := hSw; refine (ld_v (by rfl) (by kernel_rfl) m1).trans ?_; with_reducible rfl)
  try simp only [Act.put, List.setIfInBounds_toArray, List.set_cons_zero, List.set_cons_succ, List.getElem_toArray, List.getElem_cons_zero, List.getElem_cons_succ]
  refine wpAnyH_ready (rs := [2]) (by kernel_rfl) (by simp) ?_
  refine AllReadyH.cons rfl (fun K hK => ?_) AllReadyH.nil
  go_simp
  with_reducible refine (Rows_any y _).mono ?_
  rintro e w1 ⟨rfl, hb⟩
  replace Dx := Dx.on hb
  replace Dy := Dy.on hb
  replace bz := bz.trans (hb.mono bz.size)
  clear hb
  refine hK.out _ _ ⟨Dx, Dy⟩ (fun hH => ?_)
  clear hK K hS
  have hS := hH
  clear hH
  try simp only [Act.put, List.setIfInBounds_toArray, List.set_cons_zero, List.set_cons_succ, List.getElem_toArray, List.getElem_cons_zero, List.getElem_cons_succ]
  refine wpAnyH_ready (rs := [4]) (by kernel_rfl) (by simp) ?_
  refine AllReadyH.cons rfl (fun K hK => ?_) AllReadyH.nil
  go_simp
  with_reducible refine (Cols_any y _).mono ?_
  rintro e w2 ⟨rfl, hb⟩
  replace Dx := Dx.on hb
  replace Dy := Dy.on hb
  replace bz := bz.trans (hb.mono bz.size)
  clear hb
  refine hK.out _ _ ⟨Dx, Dy⟩ (fun hH => ?_)
  clear hK K hS
  have hS := hH
  clear hH
  try simp only [Act.put, List.setIfInBounds_toArray, List.set_cons_zero, List.set_cons_succ, List.getElem_toArray, List.getElem_cons_zero, List.getElem_cons_succ]
  refine wpAnyH_ready (rs := [5]) (by kernel_rfl) (by simp) ?_
  refine AllReadyH.cons rfl (fun K hK => ?_) AllReadyH.nil
  go_simp
  with_reducible refine (p2 _ bz).mono ?_
  rintro e w3 ⟨rfl, hb⟩
  replace Dx := Dx.on hb
  replace Dy := Dy.on hb
  replace bz := bz.trans (hb.mono bz.size)
  clear hb
  refine hK.out _ _ ⟨Dx, Dy⟩ (fun hH => ?_)
  clear hK K hS
  have hS := hH
  clear hH
  try simp only [Act.put, List.setIfInBounds_toArray, List.set_cons_zero, List.set_cons_succ, List.getElem_toArray, List.getElem_cons_zero, List.getElem_cons_succ]
  refine wpAnyH_take (i := 6) (v := ?v6_110) rfl (by kernel_rfl) (by kernel_rfl) (by kernel_rfl) (fun _ _ _ h => h) (Or.inl ⟨by rfl, ?hy6_110⟩) (by assumption) ?rest6_110
  case hy6_110 => (intro w9 hSw; clear hSw; go_simp; try with_reducible rfl)
  try simp only [Act.put, List.setIfInBounds_toArray, List.set_cons_zero, List.set_cons_succ, List.getElem_toArray, List.getElem_cons_zero, List.getElem_cons_succ]
  refine wpAnyH_take (i := 7) (v := undef) rfl (by kernel_rfl) (by kernel_rfl) (by kernel_rfl) (fun _ _ _ h => h) (Or.inr ⟨by rfl, rfl⟩) (by assumption) ?_
  try simp only [Act.put, List.setIfInBounds_toArray, List.set_cons_zero, List.set_cons_succ, List.getElem_toArray, List.getElem_cons_zero, List.getElem_cons_succ]
  refine wpAnyH_take (i := 8) (v := undef) rfl (by kernel_rfl) (by kernel_rfl) (by kernel_rfl) (fun _ _ _ h => h) (Or.inr ⟨by rfl, rfl⟩) (by assumption) ?_
  try simp only [Act.put, List.setIfInBounds_toArray, List.set_cons_zero, List.set_cons_succ, List.getElem_toArray, List.getElem_cons_zero, List.getElem_cons_succ]
  refine wpAnyH_take (i := 9) (v := undef) rfl (by kernel_rfl) (by kernel_rfl) (by kernel_rfl) (fun _ _ _ h => h) (Or.inr ⟨by rfl, rfl⟩) (by assumption) ?_
  try simp only [Act.put, List.setIfInBounds_toArray, List.set_cons_zero, List.set_cons_succ, List.getElem_toArray, List.getElem_cons_zero, List.getElem_cons_succ]
  refine wpAnyH_take (i := 10) (v := undef) rfl (by kernel_rfl) (by kernel_rfl) (by kernel_rfl) (fun _ _ _ h => h) (Or.inr ⟨by rfl, rfl⟩) (by assumption) ?_
  try simp only [Act.put, List.setIfInBounds_toArray, List.set_cons_zero, List.set_cons_succ, List.getElem_toArray, List.getElem_cons_zero, List.getElem_cons_succ]
  refine wpAnyH_take (i := 11) (v := ?v11_111) rfl (by kernel_rfl) (by kernel_rfl) (by kernel_rfl) (fun _ _ _ h => h) (Or.inl ⟨by rfl, ?hy11_111⟩) (by assumption) ?rest11_111
  case hy11_111 => (intro w9 hSw; clear hSw; go_simp; try with_reducible rfl)
  try simp only [Act.put, List.setIfInBounds_toArray, List.set_cons_zero, List.set_cons_succ, List.getElem_toArray, List.getElem_cons_zero, List.getElem_cons_succ]
  refine wpAnyH_take (i := 12) (v := ?v12_112) rfl (by kernel_rfl) (by kernel_rfl) (by kernel_rfl) (fun _ _ _ h => h) (Or.inl ⟨by rfl, ?hy12_112⟩) (by assumption) ?rest12_112
  case hy12_112 => (intro w9 hSw; clear hSw; go_simp; try with_reducible rfl)
  try simp only [Act.put, List.setIfInBounds_toArray, List.set_cons_zero, List.set_cons_succ, List.getElem_toArray, List.getElem_cons_zero, List.getElem_cons_succ]
  refine wpAnyH_done (by kernel_rfl) ?_ _
  obtain ⟨v0_0, v0_1, v0_2, v0_3, v0_4, v0_5, v0_6, v0_7, v0_8⟩ := Vbx.cells Dx
  obtain ⟨v1_0, v1_1, v1_2, v1_3, v1_4, v1_5, v1_6, v1_7, v1_8⟩ := Vbx.cells Dy
  have hL : VLs (w3.alloc (.cells #[.pointer x.p, .int .i64 x.f0, .int .i64 x.f1, .int .i64 x.d0, .int .i64 x.d1, .int .i64 x.r0, .int .i64 x.r1, .int .i64 x.R, .int .i64 x.C, .pointer y.p, .int .i64 y.f0, .int .i64 y.f1, .int .i64 y.d0, .int .i64 y.d1, .int .i64 y.r0, .int .i64 y.r1, .int .i64 y.R, .int .i64 y.C] 30)) ⟨w3.heap.size, 0, none⟩ [x, y] := VLs.of (Blk.new w3 ([x, y].flatMap Vu.L) 30)
  replace Dx := Dx.on ((Below.refl _ _).alloc (Nat.le_refl _) ((.cells #[.pointer x.p, .int .i64 x.f0, .int .i64 x.f1, .int .i64 x.d0, .int .i64 x.d1, .int .i64 x.r0, .int .i64 x.r1, .int .i64 x.R, .int .i64 x.C, .pointer y.p, .int .i64 y.f0, .int .i64 y.f1, .int .i64 y.d0, .int .i64 y.d1, .int .i64 y.r0, .int .i64 y.r1, .int .i64 y.R, .int .i64 y.C] 30)))
  replace Dy := Dy.on ((Below.refl _ _).alloc (Nat.le_refl _) ((.cells #[.pointer x.p, .int .i64 x.f0, .int .i64 x.f1, .int .i64 x.d0, .int .i64 x.d1, .int .i64 x.r0, .int .i64 x.r1, .int .i64 x.R, .int .i64 x.C, .pointer y.p, .int .i64 y.f0, .int .i64 y.f1, .int .i64 y.d0, .int .i64 y.d1, .int .i64 y.r0, .int .i64 y.r1, .int .i64 y.R, .int .i64 y.C] 30)))
  replace bz := bz.alloc bz.size ((.cells #[.pointer x.p, .int .i64 x.f0, .int .i64 x.f1, .int .i64 x.d0, .int .i64 x.d1, .int .i64 x.r0, .int .i64 x.r1, .int .i64 x.R, .int .i64 x.C, .pointer y.p, .int .i64 y.f0, .int .i64 y.f1, .int .i64 y.d0, .int .i64 y.d1, .int .i64 y.r0, .int .i64 y.r1, .int .i64 y.R, .int .i64 y.C] 30))
  go_wp2_with fail
  with_reducible refine (refused_is false (vs := [x, y]) (n := 2) rfl (by omega) hL (by intro z hz; simp only [List.mem_cons, List.mem_nil_iff, or_false] at hz; rcases hz with rfl | rfl; exact ⟨_, HSx.out.on bz⟩; exact ⟨_, HSy.out.on bz⟩)).mono ?_
  rintro e w4 ⟨rfl, hb⟩
  clear v0_0 v0_1 v0_2 v0_3 v0_4 v0_5 v0_6 v0_7 v0_8 v1_0 v1_1 v1_2 v1_3 v1_4 v1_5 v1_6 v1_7 v1_8
  replace Dx := Dx.on hb
  replace Dy := Dy.on hb
  replace hL := hL.on hb
  replace bz := bz.trans (hb.mono bz.size)
  clear hb hL
  rw [HE.out]
  go_wp2_with fail
  go_ret
  exact ⟨rfl, bz⟩
set_option maxRecDepth 100000 in
set_option maxHeartbeats 8000000 in
theorem Swap_no1 (hx : Sv w x X) (hy : Sv w y Y) {E : Int} (h0 : (szd x y.R y.C) = true) (he : refE ((szd x y.R y.C) && (!(shB x y))) [x, y] = E) (hn : E ≠ 0) : Calls Try.prog 33 #[x.V, y.V] w (Ans w (.int .i64 E)) := by
  have hft : ((szd x y.R y.C) && (!(shB x y))) = (!(shB x y)) := by simp [h0]
  rw [hft] at he
  clear hft
  obtain ⟨FV, hFV⟩ : ∃ z, (!(shB x y)) = z := ⟨_, rfl⟩
  rw [hFV] at he
  have HSx := Lib.hid hx
  have HSy := Lib.hid hy
  have hne : (E != 0) = true := by simpa using hn
  have HE := Lib.hid he
  have p2 := fun (W : World) (bz : Below w.heap.size w W) => sized_is x y.R y.C W
  simp only [h0] at p2
  have p3 := fun (W : World) (bz : Below w.heap.size w W) => svShares (HSx.out.on bz) (HSy.out.on bz)
  simp only [show shB x y = !FV by rw [← hFV]; simp] at p3
  clear he hn hx hy h0 hFV
  have Dx := Blk.new w x.L 30
  have Dy := Blk.new (w.alloc (.cells x.L.toArray 30)) y.L 30
  replace Dx := Dx.alloc (.cells y.L.toArray 30)
  simp only [World.size_alloc] at Dy
  have bz := ((Below.refl _ w).alloc (Nat.le_refl _) (.cells x.L.toArray 30)).alloc (by simp <;> omega) (.cells y.L.toArray 30)
  have hsz0 : ((w.alloc (.cells x.L.toArray 30)).alloc (.cells y.L.toArray 30)).heap.size = w.heap.size + 2 := by simp
  go_enter Try.func33, Try.ntmps33
  go_wp2_with fail
  replace Dx := Dx.drew
  replace Dy := Dy.drew
  replace bz := bz.drew
  refine wp_region_held_drew (S := fun w9 : World => Vbx w9 w.heap.size x ∧ Vbx w9 (w.heap.size + 1) y) (by kernel_rfl) ⟨Dx, Dy⟩ (fun hS => ?_)
  generalize ((w.alloc (.cells x.L.toArray 30)).alloc (.cells y.L.toArray 30)).drew = wd at hS Dx Dy  bz ⊢
  refine wpAnyH_take (i := 0) (v := ?v0_113) rfl (by kernel_rfl) (by kernel_rfl) (by kernel_rfl) (fun _ _ _ h => h) (Or.inl ⟨by rfl, ?hy0_113⟩) (by assumption) ?rest0_113
  case hy0_113 => (intro w9 hSw; obtain ⟨m0, m1⟩ := hSw; refine (ld_v (by rfl) (by kernel_rfl) m0).trans ?_; with_reducible rfl)
  try simp only [Act.put, List.setIfInBounds_toArray, List.set_cons_zero, List.set_cons_succ, List.getElem_toArray, List.getElem_cons_zero, List.getElem_cons_succ]
  refine wpAnyH_take (i := 1) (v := ?v1_114) rfl (by kernel_rfl) (by kernel_rfl) (by kernel_rfl) (fun _ _ _ h => h) (Or.inl ⟨by rfl, ?hy1_114⟩) (by assumption) ?rest1_114
  case hy1_114 => (intro w9 hSw; obtain ⟨m0, m1⟩ := hSw; refine (ld_v (by rfl) (by kernel_rfl) m1).trans ?_; with_reducible rfl)
  try simp only [Act.put, List.setIfInBounds_toArray, List.set_cons_zero, List.set_cons_succ, List.getElem_toArray, List.getElem_cons_zero, List.getElem_cons_succ]
  refine wpAnyH_take (i := 3) (v := ?v3_115) rfl (by kernel_rfl) (by kernel_rfl) (by kernel_rfl) (fun _ _ _ h => h) (Or.inl ⟨by rfl, ?hy3_115⟩) (by assumption) ?rest3_115
  case hy3_115 => (intro w9 hSw; obtain ⟨m0, m1⟩ := hSw; refine (ld_v (by rfl) (by kernel_rfl) m1).trans ?_; with_reducible rfl)
  try simp only [Act.put, List.setIfInBounds_toArray, List.set_cons_zero, List.set_cons_succ, List.getElem_toArray, List.getElem_cons_zero, List.getElem_cons_succ]
  refine wpAnyH_ready (rs := [2]) (by kernel_rfl) (by simp) ?_
  refine AllReadyH.cons rfl (fun K hK => ?_) AllReadyH.nil
  go_simp
  with_reducible refine (Rows_any y _).mono ?_
  rintro e w1 ⟨rfl, hb⟩
  replace Dx := Dx.on hb
  replace Dy := Dy.on hb
  replace bz := bz.trans (hb.mono bz.size)
  clear hb
  refine hK.out _ _ ⟨Dx, Dy⟩ (fun hH => ?_)
  clear hK K hS
  have hS := hH
  clear hH
  try simp only [Act.put, List.setIfInBounds_toArray, List.set_cons_zero, List.set_cons_succ, List.getElem_toArray, List.getElem_cons_zero, List.getElem_cons_succ]
  refine wpAnyH_ready (rs := [4]) (by kernel_rfl) (by simp) ?_
  refine AllReadyH.cons rfl (fun K hK => ?_) AllReadyH.nil
  go_simp
  with_reducible refine (Cols_any y _).mono ?_
  rintro e w2 ⟨rfl, hb⟩
  replace Dx := Dx.on hb
  replace Dy := Dy.on hb
  replace bz := bz.trans (hb.mono bz.size)
  clear hb
  refine hK.out _ _ ⟨Dx, Dy⟩ (fun hH => ?_)
  clear hK K hS
  have hS := hH
  clear hH
  try simp only [Act.put, List.setIfInBounds_toArray, List.set_cons_zero, List.set_cons_succ, List.getElem_toArray, List.getElem_cons_zero, List.getElem_cons_succ]
  refine wpAnyH_ready (rs := [5]) (by kernel_rfl) (by simp) ?_
  refine AllReadyH.cons rfl (fun K hK => ?_) AllReadyH.nil
  go_simp
  with_reducible refine (p2 _ bz).mono ?_
  rintro e w3 ⟨rfl, hb⟩
  replace Dx := Dx.on hb
  replace Dy := Dy.on hb
  replace bz := bz.trans (hb.mono bz.size)
  clear hb
  refine hK.out _ _ ⟨Dx, Dy⟩ (fun hH => ?_)
  clear hK K hS
  have hS := hH
  clear hH
  try simp only [Act.put, List.setIfInBounds_toArray, List.set_cons_zero, List.set_cons_succ, List.getElem_toArray, List.getElem_cons_zero, List.getElem_cons_succ]
  refine wpAnyH_take (i := 6) (v := ?v6_116) rfl (by kernel_rfl) (by kernel_rfl) (by kernel_rfl) (fun _ _ _ h => h) (Or.inl ⟨by rfl, ?hy6_116⟩) (by assumption) ?rest6_116
  case hy6_116 => (intro w9 hSw; clear hSw; go_simp; try with_reducible rfl)
  try simp only [Act.put, List.setIfInBounds_toArray, List.set_cons_zero, List.set_cons_succ, List.getElem_toArray, List.getElem_cons_zero, List.getElem_cons_succ]
  refine wpAnyH_take (i := 7) (v := ?v7_117) rfl (by kernel_rfl) (by kernel_rfl) (by kernel_rfl) (fun _ _ _ h => h) (Or.inl ⟨by rfl, ?hy7_117⟩) (by assumption) ?rest7_117
  case hy7_117 => (intro w9 hSw; obtain ⟨m0, m1⟩ := hSw; refine (ld_v (by rfl) (by kernel_rfl) m0).trans ?_; with_reducible rfl)
  try simp only [Act.put, List.setIfInBounds_toArray, List.set_cons_zero, List.set_cons_succ, List.getElem_toArray, List.getElem_cons_zero, List.getElem_cons_succ]
  refine wpAnyH_take (i := 8) (v := ?v8_118) rfl (by kernel_rfl) (by kernel_rfl) (by kernel_rfl) (fun _ _ _ h => h) (Or.inl ⟨by rfl, ?hy8_118⟩) (by assumption) ?rest8_118
  case hy8_118 => (intro w9 hSw; obtain ⟨m0, m1⟩ := hSw; refine (ld_v (by rfl) (by kernel_rfl) m1).trans ?_; with_reducible rfl)
  try simp only [Act.put, List.setIfInBounds_toArray, List.set_cons_zero, List.set_cons_succ, List.getElem_toArray, List.getElem_cons_zero, List.getElem_cons_succ]
  refine wpAnyH_ready (rs := [9]) (by kernel_rfl) (by simp) ?_
  refine AllReadyH.cons rfl (fun K hK => ?_) AllReadyH.nil
  go_simp
  with_reducible refine (p3 _ bz).mono ?_
  rintro e w4 ⟨rfl, hb⟩
  replace Dx := Dx.on hb
  replace Dy := Dy.on hb
  replace bz := bz.trans (hb.mono bz.size)
  clear hb
  refine hK.out _ _ ⟨Dx, Dy⟩ (fun hH => ?_)
  clear hK K hS
  have hS := hH
  clear hH
  try simp only [Act.put, List.setIfInBounds_toArray, List.set_cons_zero, List.set_cons_succ, List.getElem_toArray, List.getElem_cons_zero, List.getElem_cons_succ]
  refine wpAnyH_take (i := 10) (v := ?v10_119) rfl (by kernel_rfl) (by kernel_rfl) (by kernel_rfl) (fun _ _ _ h => h) (Or.inl ⟨by rfl, ?hy10_119⟩) (by assumption) ?rest10_119
  case hy10_119 => (intro w9 hSw; clear hSw; go_simp; try with_reducible rfl)
  try simp only [Act.put, List.setIfInBounds_toArray, List.set_cons_zero, List.set_cons_succ, List.getElem_toArray, List.getElem_cons_zero, List.getElem_cons_succ]
  refine wpAnyH_take (i := 11) (v := ?v11_120) rfl (by kernel_rfl) (by kernel_rfl) (by kernel_rfl) (fun _ _ _ h => h) (Or.inl ⟨by rfl, ?hy11_120⟩) (by assumption) ?rest11_120
  case hy11_120 => (intro w9 hSw; clear hSw; go_simp; try with_reducible rfl)
  try simp only [Act.put, List.setIfInBounds_toArray, List.set_cons_zero, List.set_cons_succ, List.getElem_toArray, List.getElem_cons_zero, List.getElem_cons_succ]
  refine wpAnyH_take (i := 12) (v := ?v12_121) rfl (by kernel_rfl) (by kernel_rfl) (by kernel_rfl) (fun _ _ _ h => h) (Or.inl ⟨by rfl, ?hy12_121⟩) (by assumption) ?rest12_121
  case hy12_121 => (intro w9 hSw; clear hSw; go_simp; try with_reducible rfl)
  try simp only [Act.put, List.setIfInBounds_toArray, List.set_cons_zero, List.set_cons_succ, List.getElem_toArray, List.getElem_cons_zero, List.getElem_cons_succ]
  refine wpAnyH_done (by kernel_rfl) ?_ _
  obtain ⟨v0_0, v0_1, v0_2, v0_3, v0_4, v0_5, v0_6, v0_7, v0_8⟩ := Vbx.cells Dx
  obtain ⟨v1_0, v1_1, v1_2, v1_3, v1_4, v1_5, v1_6, v1_7, v1_8⟩ := Vbx.cells Dy
  have hL : VLs (w4.alloc (.cells #[.pointer x.p, .int .i64 x.f0, .int .i64 x.f1, .int .i64 x.d0, .int .i64 x.d1, .int .i64 x.r0, .int .i64 x.r1, .int .i64 x.R, .int .i64 x.C, .pointer y.p, .int .i64 y.f0, .int .i64 y.f1, .int .i64 y.d0, .int .i64 y.d1, .int .i64 y.r0, .int .i64 y.r1, .int .i64 y.R, .int .i64 y.C] 30)) ⟨w4.heap.size, 0, none⟩ [x, y] := VLs.of (Blk.new w4 ([x, y].flatMap Vu.L) 30)
  replace Dx := Dx.on ((Below.refl _ _).alloc (Nat.le_refl _) ((.cells #[.pointer x.p, .int .i64 x.f0, .int .i64 x.f1, .int .i64 x.d0, .int .i64 x.d1, .int .i64 x.r0, .int .i64 x.r1, .int .i64 x.R, .int .i64 x.C, .pointer y.p, .int .i64 y.f0, .int .i64 y.f1, .int .i64 y.d0, .int .i64 y.d1, .int .i64 y.r0, .int .i64 y.r1, .int .i64 y.R, .int .i64 y.C] 30)))
  replace Dy := Dy.on ((Below.refl _ _).alloc (Nat.le_refl _) ((.cells #[.pointer x.p, .int .i64 x.f0, .int .i64 x.f1, .int .i64 x.d0, .int .i64 x.d1, .int .i64 x.r0, .int .i64 x.r1, .int .i64 x.R, .int .i64 x.C, .pointer y.p, .int .i64 y.f0, .int .i64 y.f1, .int .i64 y.d0, .int .i64 y.d1, .int .i64 y.r0, .int .i64 y.r1, .int .i64 y.R, .int .i64 y.C] 30)))
  replace bz := bz.alloc bz.size ((.cells #[.pointer x.p, .int .i64 x.f0, .int .i64 x.f1, .int .i64 x.d0, .int .i64 x.d1, .int .i64 x.r0, .int .i64 x.r1, .int .i64 x.R, .int .i64 x.C, .pointer y.p, .int .i64 y.f0, .int .i64 y.f1, .int .i64 y.d0, .int .i64 y.d1, .int .i64 y.r0, .int .i64 y.r1, .int .i64 y.R, .int .i64 y.C] 30))
  go_wp2_with fail
  with_reducible refine (refused_is FV (vs := [x, y]) (n := 2) rfl (by omega) hL (by intro z hz; simp only [List.mem_cons, List.mem_nil_iff, or_false] at hz; rcases hz with rfl | rfl; exact ⟨_, HSx.out.on bz⟩; exact ⟨_, HSy.out.on bz⟩)).mono ?_
  rintro e w5 ⟨rfl, hb⟩
  clear v0_0 v0_1 v0_2 v0_3 v0_4 v0_5 v0_6 v0_7 v0_8 v1_0 v1_1 v1_2 v1_3 v1_4 v1_5 v1_6 v1_7 v1_8
  replace Dx := Dx.on hb
  replace Dy := Dy.on hb
  replace hL := hL.on hb
  replace bz := bz.trans (hb.mono bz.size)
  clear hb hL
  rw [HE.out]
  go_wp2_with fail
  go_ret
  exact ⟨rfl, bz⟩
theorem Swap_no (hx : Sv w x X) (hy : Sv w y Y) {E : Int} (he : refE ((szd x y.R y.C) && (!(shB x y))) [x, y] = E) (hn : E ≠ 0) : Calls Try.prog 33 #[x.V, y.V] w (Ans w (.int .i64 E)) := by
  cases h0 : (szd x y.R y.C)
  · exact Swap_no0 hx hy h0 he hn
  · exact Swap_no1 hx hy h0 he hn
end
end Go.Proofs.Ytfelmkkkaphkpaa
namespace Go.Proofs.Ytfelmkkkaphkpaa
open Go.RowKit Go.Bw Go.Sort Go.Shelf
set_option linter.unusedVariables false
set_option linter.unusedSimpArgs false

/-- floats set row by row, as places of a view -/
theorem setTo_wr {v : Vu} {s c n : Nat} {K : Int} {l : List Int} {m q : Nat} (hv : Vk v s c n K) (hj : Inj v c) (hl : l.length = n) (hR : v.R = m) (hC : v.C = q) (xs : Nat → Int) : ∀ k, k ≤ m * q → Wr v c l (setTo v c xs l k) (fun i j => decide (i * q + j < k)) (fun i j => fa (xs (i * q + j)))
  | 0, _ => by rw [setTo_zero]; exact Wr.start v c l _ (fun i j _ => by simp)
  | k + 1, h => by
    have ih := setTo_wr hv hj hl hR hC xs k (by omega)
    have q0 : 0 < q := by rcases Nat.eq_zero_or_pos q with e | e; rw [e, Nat.mul_zero] at h; omega; exact e
    have e : k / q * q + k % q = k := by have := Nat.div_add_mod k q; rw [Nat.mul_comm] at this; exact this
    have h1 : k / q < m := Nat.div_lt_of_lt_mul (by rw [Nat.mul_comm]; omega)
    have h2 := Nat.mod_lt k q0
    have hh : v.has ((k / q : Nat) : Int) ((k % q : Nat) : Int) = true := (has_iff _ _ _).2 (by rw [hR, hC]; exact ⟨Int.natCast_nonneg _, Int.ofNat_lt.2 h1, Int.natCast_nonneg _, Int.ofNat_lt.2 h2⟩)
    have := ih.set hv hj hl hh (x := xs k) (by rw [e]) (Q := fun i j => decide (i * q + j < k + 1)) (fun a b hab => by
      have hb := (has_iff _ _ _).1 hab
      rw [hR, hC] at hb
      rw [← Bool.decide_or, decide_eq_decide]
      constructor
      · intro h3
        rcases Nat.lt_or_ge (a * q + b) k with h4 | h4
        · exact .inl h4
        · have h5 : a * q + b = k / q * q + k % q := by omega
          exact .inr (ix_eq (by omega) h2 h5)
      · rintro (h3 | ⟨rfl, rfl⟩)
        · omega
        · omega)
    rw [setTo_succ]
    have es : v.setL c (setTo v c xs l k) ((k / q : Nat) : Int) ((k % q : Nat) : Int) (xs k) = (setTo v c xs l k).set (v.ix c (v.ei k) (v.ej k)).toNat (xs k) := by
      unfold Vu.setL Vu.ei Vu.ej
      rw [if_pos hh, hC, Int.toNat_natCast]
    rw [← es]
    exact this
section
variable {w : World} {B B2 : Nat} {X Y : Vu} {s g cap c s2 g2 cap2 c2 : Nat} {l l2 : List Int} {R C : Int} {FX FY : List Int}
/-- a view takes another one's floats: of another store -/
theorem take_ov {w : World} {X Y : Vu} {s g cap c B s2 g2 cap2 c2 B2 : Nat} {l l2 : List Int} {R C : Int} {FX FY : List Int} (hX : Ov w B X s g cap c l R C FX) (hY : Ov w B2 Y s2 g2 cap2 c2 l2 R C FY) :
    Calls Try.prog 77 #[X.V, Y.V] w (fun e w' => ∃ lx G, e = .returned (.int .i64 0) ∧ Ov w' B X s g cap c lx R C G ∧ Is G FY.length (fun k => fa (D FY k)) ∧ w.grownBy w' (some g)) := by
  have hRC := hX.sv.R
  have hCC := hX.sv.C
  rw [hX.R] at hRC
  rw [hX.C] at hCC
  obtain ⟨m, hm⟩ := Int.eq_ofNat_of_zero_le hRC.1
  obtain ⟨q, hq⟩ := Int.eq_ofNat_of_zero_le hCC.1
  have hFY := hY.FR
  have hFX := hX.FR
  have hmq : FX.length = m * q := by rw [hm, hq] at hFX; exact_mod_cast hFX
  have hmq2 : FY.length = m * q := by rw [hm, hq] at hFY; exact_mod_cast hFY
  refine (Take_yes hX.vk hX.st rfl hX.ne hY.vk hY.st rfl hY.ne (by rw [hX.R, hY.R]) (by rw [hX.C, hY.C])).mono ?_
  rintro e w1 ⟨rfl, hs, hg⟩
  have eN : (X.R * X.C).toNat = m * q := by rw [hX.R, hX.C, hm, hq]; exact_mod_cast Int.toNat_natCast (m * q)
  rw [eN] at hs
  have hW := setTo_wr hX.vk hX.inj rfl (hX.R.trans hm) (hX.C.trans hq) (D (Y.fl c2 l2)) (m * q) (Nat.le_refl _)
  rw [hY.fl] at hs hW
  have hI := hX.is hs hW hq (n := FY.length) (by rw [hmq2, hm, hq]; exact_mod_cast Int.toNat_natCast (m * q))
  refine ⟨_, _, rfl, hX.wrote hs hW, hI.congr (fun k hk => ?_), hg⟩
  rw [hmq2] at hk
  have q0 : 0 < q := by rcases Nat.eq_zero_or_pos q with e | e; rw [e, Nat.mul_zero] at hk; omega; exact e
  have e : k / q * q + k % q = k := by have := Nat.div_add_mod k q; rw [Nat.mul_comm] at this; exact this
  unfold tg
  rw [if_pos (by dsimp only; rw [e]; exact decide_eq_true hk)]
  dsimp only
  rw [e]
end
section
variable {w : World} {B B2 : Nat} {x y : Vu} {s g cap c s2 g2 cap2 c2 : Nat} {l l2 : List Int} {R C : Int} {FX FY : List Int}
set_option maxRecDepth 100000 in
set_option maxHeartbeats 8000000 in
theorem swap_ov (hX : Ov w B x s g cap c l R C FX) (hY : Ov w B2 y s2 g2 cap2 c2 l2 R C FY) (ap : s ≠ g2 ∧ g ≠ g2 ∧ s2 ≠ g) (h0 : szd x y.R y.C = true) (h1 : shB x y = false) :
    Calls Try.prog 33 #[x.V, y.V] w (fun e w' => ∃ lx ly GX GY w1, e = .returned (.int .i64 0) ∧ Ov w' B x s g cap c lx R C GX ∧ Ov w' B2 y s2 g2 cap2 c2 ly R C GY ∧ Is GX FY.length (fun k => fa (D FY k)) ∧ Is GY FX.length (fun k => fa (D FX k)) ∧ w.grownBy w1 (some g) ∧ w1.grownBy w' (some g2)) := by
  have e1 := szd_is h0
  have HSx := Lib.hid hX.sv
  have HSy := Lib.hid hY.sv
  have he := refE_ok (fit := true) (vs := [x, y]) rfl (mem2 hX.ne hY.ne)
  have HE := Lib.hid he
  have HX := Lib.hid hX
  have HY := Lib.hid hY
  have p0 := fun (W : World) (bz : Below w.heap.size w W) => sized_is x y.R y.C W
  simp only [h0] at p0
  have p1 := fun (W : World) (bz : Below w.heap.size w W) => svShares (HSx.out.on bz) (HSy.out.on bz)
  simp only [h1] at p1
  have hlt := And.intro hX.st.lt (And.intro hX.st.gt.2 (And.intro hY.st.lt hY.st.gt.2))
  clear he hX hY h0 h1 e1
  have Dx := Blk.new w x.L 30
  have Dy := Blk.new (w.alloc (.cells x.L.toArray 30)) y.L 30
  replace Dx := Dx.alloc (.cells y.L.toArray 30)
  simp only [World.size_alloc] at Dy
  have bz := ((Below.refl _ w).alloc (Nat.le_refl _) (.cells x.L.toArray 30)).alloc (by simp <;> omega) (.cells y.L.toArray 30)
  have hsz0 : ((w.alloc (.cells x.L.toArray 30)).alloc (.cells y.L.toArray 30)).heap.size = w.heap.size + 2 := by simp
  go_enter Try.func33, Try.ntmps33
  go_wp2_with fail
  replace Dx := Dx.drew
  replace Dy := Dy.drew
  replace bz := bz.drew
  refine wp_region_held_drew (S := fun w9 : World => Vbx w9 w.heap.size x ∧ Vbx w9 (w.heap.size + 1) y) (by kernel_rfl) ⟨Dx, Dy⟩ (fun hS => ?_)
  generalize ((w.alloc (.cells x.L.toArray 30)).alloc (.cells y.L.toArray 30)).drew = wd at hS Dx Dy  bz ⊢
  refine wpAnyH_take (i := 0) (v := ?v0_1) rfl (by kernel_rfl) (by kernel_rfl) (by kernel_rfl) (fun _ _ _ h => h) (Or.inl ⟨by rfl, ?hy0_1⟩) (by assumption) ?rest0_1
  case hy0_1 => (intro w9 hSw; obtain ⟨m0, m1⟩ := hSw; refine (ld_v (by rfl) (by kernel_rfl) m0).trans ?_; with_reducible rfl)
  try simp only [Act.put, List.setIfInBounds_toArray, List.set_cons_zero, List.set_cons_succ, List.getElem_toArray, List.getElem_cons_zero, List.getElem_cons_succ]
  refine wpAnyH_take (i := 1) (v := ?v1_2) rfl (by kernel_rfl) (by kernel_rfl) (by kernel_rfl) (fun _ _ _ h => h) (Or.inl ⟨by rfl, ?hy1_2⟩) (by assumption) ?rest1_2
  case hy1_2 => (intro w9 hSw; obtain ⟨m0, m1⟩ := hSw; refine (ld_v (by rfl) (by kernel_rfl) m1).trans ?_; with_reducible rfl)
  try simp only [Act.put, List.setIfInBounds_toArray, List.set_cons_zero, List.set_cons_succ, List.getElem_toArray, List.getElem_cons_zero, List.getElem_cons_succ]
  refine wpAnyH_take (i := 3) (v := ?v3_3) rfl (by kernel_rfl) (by kernel_rfl) (by kernel_rfl) (fun _ _ _ h => h) (Or.inl ⟨by rfl, ?hy3_3⟩) (by assumption) ?rest3_3
  case hy3_3 => (intro w9 hSw; obtain ⟨m0, m1⟩ := hSw; refine (ld_v (by rfl) (by kernel_rfl) m1).trans ?_; with_reducible rfl)
  try simp only [Act.put, List.setIfInBounds_toArray, List.set_cons_zero, List.set_cons_succ, List.getElem_toArray, List.getElem_cons_zero, List.getElem_cons_succ]
  refine wpAnyH_ready (rs := [2]) (by kernel_rfl) (by simp) ?_
  refine AllReadyH.cons rfl (fun K hK => ?_) AllReadyH.nil
  go_simp
  with_reducible refine (Rows_any y _).mono ?_
  rintro e w1 ⟨rfl, hb⟩
  replace Dx := Dx.on hb
  replace Dy := Dy.on hb
  replace bz := bz.trans (hb.mono bz.size)
  clear hb
  refine hK.out _ _ ⟨Dx, Dy⟩ (fun hH => ?_)
  clear hK K hS
  have hS := hH
  clear hH
  try simp only [Act.put, List.setIfInBounds_toArray, List.set_cons_zero, List.set_cons_succ, List.getElem_toArray, List.getElem_cons_zero, List.getElem_cons_succ]
  refine wpAnyH_ready (rs := [4]) (by kernel_rfl) (by simp) ?_
  refine AllReadyH.cons rfl (fun K hK => ?_) AllReadyH.nil
  go_simp
  with_reducible refine (Cols_any y _).mono ?_
  rintro e w2 ⟨rfl, hb⟩
  replace Dx := Dx.on hb
  replace Dy := Dy.on hb
  replace bz := bz.trans (hb.mono bz.size)
  clear hb
  refine hK.out _ _ ⟨Dx, Dy⟩ (fun hH => ?_)
  clear hK K hS
  have hS := hH
  clear hH
  try simp only [Act.put, List.setIfInBounds_toArray, List.set_cons_zero, List.set_cons_succ, List.getElem_toArray, List.getElem_cons_zero, List.getElem_cons_succ]
  refine wpAnyH_ready (rs := [5]) (by kernel_rfl) (by simp) ?_
  refine AllReadyH.cons rfl (fun K hK => ?_) AllReadyH.nil
  go_simp
  with_reducible refine (p0 _ bz).mono ?_
  rintro e w3 ⟨rfl, hb⟩
  replace Dx := Dx.on hb
  replace Dy := Dy.on hb
  replace bz := bz.trans (hb.mono bz.size)
  clear hb
  refine hK.out _ _ ⟨Dx, Dy⟩ (fun hH => ?_)
  clear hK K hS
  have hS := hH
  clear hH
  try simp only [Act.put, List.setIfInBounds_toArray, List.set_cons_zero, List.set_cons_succ, List.getElem_toArray, List.getElem_cons_zero, List.getElem_cons_succ]
  refine wpAnyH_take (i := 6) (v := ?v6_4) rfl (by kernel_rfl) (by kernel_rfl) (by kernel_rfl) (fun _ _ _ h => h) (Or.inl ⟨by rfl, ?hy6_4⟩) (by assumption) ?rest6_4
  case hy6_4 => (intro w9 hSw; clear hSw; go_simp; try with_reducible rfl)
  try simp only [Act.put, List.setIfInBounds_toArray, List.set_cons_zero, List.set_cons_succ, List.getElem_toArray, List.getElem_cons_zero, List.getElem_cons_succ]
  refine wpAnyH_take (i := 7) (v := ?v7_5) rfl (by kernel_rfl) (by kernel_rfl) (by kernel_rfl) (fun _ _ _ h => h) (Or.inl ⟨by rfl, ?hy7_5⟩) (by assumption) ?rest7_5
  case hy7_5 => (intro w9 hSw; obtain ⟨m0, m1⟩ := hSw; refine (ld_v (by rfl) (by kernel_rfl) m0).trans ?_; with_reducible rfl)
  try simp only [Act.put, List.setIfInBounds_toArray, List.set_cons_zero, List.set_cons_succ, List.getElem_toArray, List.getElem_cons_zero, List.getElem_cons_succ]
  refine wpAnyH_take (i := 8) (v := ?v8_6) rfl (by kernel_rfl) (by kernel_rfl) (by kernel_rfl) (fun _ _ _ h => h) (Or.inl ⟨by rfl, ?hy8_6⟩) (by assumption) ?rest8_6
  case hy8_6 => (intro w9 hSw; obtain ⟨m0, m1⟩ := hSw; refine (ld_v (by rfl) (by kernel_rfl) m1).trans ?_; with_reducible rfl)
  try simp only [Act.put, List.setIfInBounds_toArray, List.set_cons_zero, List.set_cons_succ, List.getElem_toArray, List.getElem_cons_zero, List.getElem_cons_succ]
  refine wpAnyH_ready (rs := [9]) (by kernel_rfl) (by simp) ?_
  refine AllReadyH.cons rfl (fun K hK => ?_) AllReadyH.nil
  go_simp
  with_reducible refine (p1 _ bz).mono ?_
  rintro e w4 ⟨rfl, hb⟩
  replace Dx := Dx.on hb
  replace Dy := Dy.on hb
  replace bz := bz.trans (hb.mono bz.size)
  clear hb
  refine hK.out _ _ ⟨Dx, Dy⟩ (fun hH => ?_)
  clear hK K hS
  have hS := hH
  clear hH
  try simp only [Act.put, List.setIfInBounds_toArray, List.set_cons_zero, List.set_cons_succ, List.getElem_toArray, List.getElem_cons_zero, List.getElem_cons_succ]
  refine wpAnyH_take (i := 10) (v := ?v10_7) rfl (by kernel_rfl) (by kernel_rfl) (by kernel_rfl) (fun _ _ _ h => h) (Or.inl ⟨by rfl, ?hy10_7⟩) (by assumption) ?rest10_7
  case hy10_7 => (intro w9 hSw; clear hSw; go_simp; try with_reducible rfl)
  try simp only [Act.put, List.setIfInBounds_toArray, List.set_cons_zero, List.set_cons_succ, List.getElem_toArray, List.getElem_cons_zero, List.getElem_cons_succ]
  refine wpAnyH_take (i := 11) (v := ?v11_8) rfl (by kernel_rfl) (by kernel_rfl) (by kernel_rfl) (fun _ _ _ h => h) (Or.inl ⟨by rfl, ?hy11_8⟩) (by assumption) ?rest11_8
  case hy11_8 => (intro w9 hSw; clear hSw; go_simp; try with_reducible rfl)
  try simp only [Act.put, List.setIfInBounds_toArray, List.set_cons_zero, List.set_cons_succ, List.getElem_toArray, List.getElem_cons_zero, List.getElem_cons_succ]
  refine wpAnyH_take (i := 12) (v := ?v12_9) rfl (by kernel_rfl) (by kernel_rfl) (by kernel_rfl) (fun _ _ _ h => h) (Or.inl ⟨by rfl, ?hy12_9⟩) (by assumption) ?rest12_9
  case hy12_9 => (intro w9 hSw; clear hSw; go_simp; try with_reducible rfl)
  try simp only [Act.put, List.setIfInBounds_toArray, List.set_cons_zero, List.set_cons_succ, List.getElem_toArray, List.getElem_cons_zero, List.getElem_cons_succ]
  refine wpAnyH_done (by kernel_rfl) ?_ _
  obtain ⟨v0_0, v0_1, v0_2, v0_3, v0_4, v0_5, v0_6, v0_7, v0_8⟩ := Vbx.cells Dx
  obtain ⟨v1_0, v1_1, v1_2, v1_3, v1_4, v1_5, v1_6, v1_7, v1_8⟩ := Vbx.cells Dy
  have hL : VLs (w4.alloc (.cells #[.pointer x.p, .int .i64 x.f0, .int .i64 x.f1, .int .i64 x.d0, .int .i64 x.d1, .int .i64 x.r0, .int .i64 x.r1, .int .i64 x.R, .int .i64 x.C, .pointer y.p, .int .i64 y.f0, .int .i64 y.f1, .int .i64 y.d0, .int .i64 y.d1, .int .i64 y.r0, .int .i64 y.r1, .int .i64 y.R, .int .i64 y.C] 30)) ⟨w4.heap.size, 0, none⟩ [x, y] := VLs.of (Blk.new w4 ([x, y].flatMap Vu.L) 30)
  replace Dx := Dx.on ((Below.refl _ _).alloc (Nat.le_refl _) ((.cells #[.pointer x.p, .int .i64 x.f0, .int .i64 x.f1, .int .i64 x.d0, .int .i64 x.d1, .int .i64 x.r0, .int .i64 x.r1, .int .i64 x.R, .int .i64 x.C, .pointer y.p, .int .i64 y.f0, .int .i64 y.f1, .int .i64 y.d0, .int .i64 y.d1, .int .i64 y.r0, .int .i64 y.r1, .int .i64 y.R, .int .i64 y.C] 30)))
  replace Dy := Dy.on ((Below.refl _ _).alloc (Nat.le_refl _) ((.cells #[.pointer x.p, .int .i64 x.f0, .int .i64 x.f1, .int .i64 x.d0, .int .i64 x.d1, .int .i64 x.r0, .int .i64 x.r1, .int .i64 x.R, .int .i64 x.C, .pointer y.p, .int .i64 y.f0, .int .i64 y.f1, .int .i64 y.d0, .int .i64 y.d1, .int .i64 y.r0, .int .i64 y.r1, .int .i64 y.R, .int .i64 y.C] 30)))
  replace bz := bz.alloc bz.size ((.cells #[.pointer x.p, .int .i64 x.f0, .int .i64 x.f1, .int .i64 x.d0, .int .i64 x.d1, .int .i64 x.r0, .int .i64 x.r1, .int .i64 x.R, .int .i64 x.C, .pointer y.p, .int .i64 y.f0, .int .i64 y.f1, .int .i64 y.d0, .int .i64 y.d1, .int .i64 y.r0, .int .i64 y.r1, .int .i64 y.R, .int .i64 y.C] 30))
  go_wp2_with fail
  with_reducible refine (refused_is true (vs := [x, y]) (n := 2) rfl (by omega) hL (by intro z hz; simp only [List.mem_cons, List.mem_nil_iff, or_false] at hz; rcases hz with rfl | rfl; exact ⟨_, HSx.out.on bz⟩; exact ⟨_, HSy.out.on bz⟩)).mono ?_
  rintro e w5 ⟨rfl, hb⟩
  clear v0_0 v0_1 v0_2 v0_3 v0_4 v0_5 v0_6 v0_7 v0_8 v1_0 v1_1 v1_2 v1_3 v1_4 v1_5 v1_6 v1_7 v1_8
  replace Dx := Dx.on hb
  replace Dy := Dy.on hb
  replace hL := hL.on hb
  replace bz := bz.trans (hb.mono bz.size)
  clear hb hL
  rw [HE.out]
  have hX := HX.out.on bz
  have hY := HY.out.on bz
  obtain ⟨v0_0, v0_1, v0_2, v0_3, v0_4, v0_5, v0_6, v0_7, v0_8⟩ := Vbx.cells Dx
  obtain ⟨v1_0, v1_1, v1_2, v1_3, v1_4, v1_5, v1_6, v1_7, v1_8⟩ := Vbx.cells Dy
  have hszG := bz.size
  go_wp2_with fail
  with_reducible refine (Copy_yes hX.vk hX.st rfl hX.ne).mono ?_
  rintro e w6 ⟨s5, g5, cap5, rfl, hs5, hb⟩
  clear v0_0 v0_1 v0_2 v0_3 v0_4 v0_5 v0_6 v0_7 v0_8 v1_0 v1_1 v1_2 v1_3 v1_4 v1_5 v1_6 v1_7 v1_8
  replace Dx := Dx.on hb
  replace Dy := Dy.on hb
  replace hX := hX.on hb
  replace hY := hY.on hb
  replace bz := bz.trans (hb.mono bz.size)
  clear hb
  have hszH := bz.size
  rw [hX.fl] at hs5
  have h5 := And.intro hs5.lo hs5.gt.1
  rw [hX.C] at hs5
  rw [hX.R, hX.C]
  have hRb := hX.sv.R
  have hCb := hX.sv.C
  rw [hX.R] at hRb
  rw [hX.C] at hCb
  have hU := ov_all hs5 hRb.1 hRb.2 hCb.1 hCb.2 hX.FR
  clear hs5
  have DU := Blk.new w6 ((Vu.all s5 R C)).L 30
  obtain ⟨HDU, eHDU⟩ : ∃ H, w6.heap.size = H := ⟨_, rfl⟩
  rw [eHDU] at DU
  replace Dx := Dx.on ((Below.refl _ _).alloc (Nat.le_refl _) (.cells ((Vu.all s5 R C)).L.toArray 30))
  replace Dy := Dy.on ((Below.refl _ _).alloc (Nat.le_refl _) (.cells ((Vu.all s5 R C)).L.toArray 30))
  replace hX := hX.on ((Below.refl _ _).alloc (Nat.le_refl _) (.cells ((Vu.all s5 R C)).L.toArray 30))
  replace hY := hY.on ((Below.refl _ _).alloc (Nat.le_refl _) (.cells ((Vu.all s5 R C)).L.toArray 30))
  replace hU := hU.on ((Below.refl _ _).alloc (Nat.le_refl _) (.cells ((Vu.all s5 R C)).L.toArray 30))
  replace bz := bz.alloc bz.size (.cells ((Vu.all s5 R C)).L.toArray 30)
  have HHDU := Lib.hid eHDU
  obtain ⟨v0_0, v0_1, v0_2, v0_3, v0_4, v0_5, v0_6, v0_7, v0_8⟩ := Vbx.cells Dx
  obtain ⟨v1_0, v1_1, v1_2, v1_3, v1_4, v1_5, v1_6, v1_7, v1_8⟩ := Vbx.cells Dy
  go_wp2_with fail
  with_reducible refine (take_ov hX hY).mono ?_
  rintro e w61 ⟨lx, GX, rfl, hX2, hIX, hg⟩
  clear v0_0 v0_1 v0_2 v0_3 v0_4 v0_5 v0_6 v0_7 v0_8 v1_0 v1_1 v1_2 v1_3 v1_4 v1_5 v1_6 v1_7 v1_8
  replace Dx := Dx.grown hg (by have h9 := HHDU.out; simp; omega)
  replace Dy := Dy.grown hg (by have h9 := HHDU.out; simp; omega)
  replace DU := DU.grown hg (by have h9 := HHDU.out; simp; omega)
  replace hU := hU.grown hg (by omega) (by omega)
  replace hY := hY.grown hg (by omega) (by omega)
  replace hX := hX2
  have HIX := Lib.hid hIX
  have hgA := grown_trans (grown_below bz (some g)) hg
  clear hX2 hIX hg bz
  obtain ⟨v0_0, v0_1, v0_2, v0_3, v0_4, v0_5, v0_6, v0_7, v0_8⟩ := Vbx.cells Dx
  obtain ⟨v1_0, v1_1, v1_2, v1_3, v1_4, v1_5, v1_6, v1_7, v1_8⟩ := Vbx.cells Dy
  obtain ⟨cDU_0, cDU_1, cDU_2, cDU_3, cDU_4, cDU_5, cDU_6, cDU_7, cDU_8⟩ := Vbx.cells DU
  go_wp2_with fail
  with_reducible refine (take_ov hY hU).mono ?_
  rintro e w62 ⟨ly, GY, rfl, hY2, hIY, hg⟩
  clear v0_0 v0_1 v0_2 v0_3 v0_4 v0_5 v0_6 v0_7 v0_8 v1_0 v1_1 v1_2 v1_3 v1_4 v1_5 v1_6 v1_7 v1_8 cDU_0 cDU_1 cDU_2 cDU_3 cDU_4 cDU_5 cDU_6 cDU_7 cDU_8
  replace hX := hX.grown hg (by omega) (by omega)
  go_wp2_with fail
  go_ret
  exact ⟨lx, ly, GX, GY, w61, rfl, hX, hY2, HIX.out, hIY, hgA, hg⟩
theorem swap_yes (hX : Ov w B x s g cap c l R C FX) (hY : Ov w B2 y s2 g2 cap2 c2 l2 R C FY) (ap : s ≠ g2 ∧ g ≠ g2 ∧ s2 ≠ g) (hss : s ≠ s2) :
    Calls Try.prog 33 #[x.V, y.V] w (fun e w' => ∃ lx ly GX GY w1, e = .returned (.int .i64 0) ∧ Ov w' B x s g cap c lx R C GX ∧ Ov w' B2 y s2 g2 cap2 c2 ly R C GY ∧ Is GX FY.length (fun k => fa (D FY k)) ∧ Is GY FX.length (fun k => fa (D FX k)) ∧ w.grownBy w1 (some g) ∧ w1.grownBy w' (some g2)) := by
  refine swap_ov hX hY ap (by unfold szd; rw [hX.R, hX.C, hY.R, hY.C]; simp) ?_
  unfold shB
  rw [hX.p, hY.p]
  have : (some (⟨s, 0, none⟩ : Addr) == some ⟨s2, 0, none⟩) = false := by simp <;> omega
  rw [this]; rfl
theorem swap_no {RY CY : Int} (hX : Ov w B x s g cap c l R C FX) (hY : Ov w B2 y s2 g2 cap2 c2 l2 RY CY FY) (hf : (R == RY && C == CY) = false) : Calls Try.prog 33 #[x.V, y.V] w (Ans w (.int .i64 8)) :=
  Swap_no hX.sv hY.sv (refE_8 (by rw [show szd x y.R y.C = false by unfold szd; rw [hX.R, hX.C, hY.R, hY.C]; exact hf]; rfl) (mem2 hX.ne hY.ne)) (by omega)
end
end Go.Proofs.Ytfelmkkkaphkpaa
namespace Go.Proofs.Ytfelmkkkaphkpaa
open Go.RowKit Go.Bw Go.Sort Go.Shelf
set_option linter.unusedVariables false
set_option linter.unusedSimpArgs false

section
variable {w w' : World} {B n c b : Nat} {A : Option Addr} {l : List Int}
/-- a list of floats of new memory -/
def FO (w : World) (B H : Nat) (A : Option Addr) (n c : Nat) (l : List Int) : Prop := l.length = n ∧ Wd l ∧ OwnF w B A c l ∧ ∀ a, A = some a → a.block < H
theorem FO.on {H : Nat} (h : FO w B H A n c l) (hb : Below w.heap.size w w') : FO w' B H A n c l := ⟨h.1, h.2.1, h.2.2.1.on_ hb, h.2.2.2⟩
theorem FO.grown {H : Nat} (h : FO w B H A n c l) (hg : w.grownBy w' (some b)) (hb : b < B ∨ H ≤ b) : FO w' B H A n c l := ⟨h.1, h.2.1, h.2.2.1.grown_ hg (fun a e => by have h1 := h.2.2.1.gt e; have h2 := h.2.2.2 a e; intro h3; injection h3; omega), h.2.2.2⟩
theorem FO.drew {H : Nat} (h : FO w B H A n c l) : FO w.drew B H A n c l := h
theorem FO.fl {H : Nat} (h : FO w B H A n c l) : FL w A n c l := ⟨h.1, h.2.2.1.nums, h.2.1⟩
theorem FO.top {H : Nat} (h : FO w B H A n c l) : FO w B w.heap.size A n c l := ⟨h.1, h.2.1, h.2.2.1, fun a e => (h.2.2.1.gt e).2⟩
theorem Is.fo {f : Nat → Option Nat} (h : Is l n f) (ho : OwnF w B A c l) : FO w B w.heap.size A n c l := ⟨h.len, h.wd, ho, fun a e => (ho.gt e).2⟩
theorem Is.to {G H : List Int} {f : Nat → Option Nat} (h : Is G n f) (h2 : Is H G.length (fun k => fa (D G k))) : Is H n f := ⟨h2.len.trans h.len, h2.wd, fun k hk => (h2.at_ k (by rw [h.len]; exact hk)).trans (h.at_ k hk)⟩
theorem Is.as {m : Nat} {f : Nat → Option Nat} (h : Is l n f) (e : n = m) : Is l m f := e ▸ h
theorem FLo.self (h : FLo w B A n c l) : Is l n (fun k => fa (D l k)) := ⟨h.1, h.2.2.1, fun _ _ => rfl⟩
end
/-- the two matrices: in their boxes, their floats -/
structure M4 (w : World) (z : Nat) (RX CX : Int) (AX : Option Addr) (nX cX : Nat) (LX : List Int) (RY CY : Int) (AY : Option Addr) (nY cY : Nat) (LY : List Int) : Prop where
  dx : Mbx w z RX CX AX nX cX
  dy : Mbx w (z + 1) RY CY AY nY cY
  fx : FLo w z AX nX cX LX
  fy : FLo w z AY nY cY LY
section
variable {w w' : World} {z b nX cX nY cY : Nat} {RX CX RY CY : Int} {AX AY : Option Addr} {LX LY : List Int}
theorem M4.on (h : M4 w z RX CX AX nX cX LX RY CY AY nY cY LY) (hb : Below w.heap.size w w') : M4 w' z RX CX AX nX cX LX RY CY AY nY cY LY := ⟨h.dx.on hb, h.dy.on hb, h.fx.on hb, h.fy.on hb⟩
theorem M4.grown (h : M4 w z RX CX AX nX cX LX RY CY AY nY cY LY) (hg : w.grownBy w' (some b)) (hb : z + 1 < b) : M4 w' z RX CX AX nX cX LX RY CY AY nY cY LY := ⟨h.dx.grown hg (by simp <;> omega), h.dy.grown hg (by simp <;> omega), h.fx.grown hg (by omega), h.fy.grown hg (by omega)⟩
theorem M4.drew (h : M4 w z RX CX AX nX cX LX RY CY AY nY cY LY) : M4 w.drew z RX CX AX nX cX LX RY CY AY nY cY LY := ⟨h.dx.drew, h.dy.drew, h.fx.drew, h.fy.drew⟩
end
section
variable {w : World} {B B2 : Nat} {X Y : Vu} {s2 g2 cap2 c2 s3 g3 cap3 c3 a : Nat} {l2 l3 : List Int} {RX CX RY CY : Int} {LX LY : List Int} {nx ny : Nat}
theorem alk_is3 (hX : Ov w B X s2 g2 cap2 c2 l2 RX CX LX) (hY : Ov w B2 Y s3 g3 cap3 c3 l3 RY CY LY) (ex : LX.length = nx) (ey : LY.length = ny) : alk X Y = (vecM RX CX && vecM RY CY && ((nx : Int) == (ny : Int))) := by
  unfold alk
  rw [hX.isvec, hY.isvec]
  cases h1 : vecM RX CX
  · rfl
  · cases h2 : vecM RY CY
    · rfl
    · rw [hX.lenv h1, hY.lenv h2, ex, ey]
theorem axpy_no8 (hX : Ov w B X s2 g2 cap2 c2 l2 RX CX LX) (hY : Ov w B2 Y s3 g3 cap3 c3 l3 RY CY LY) (ex : LX.length = nx) (ey : LY.length = ny) (hf : (vecM RX CX && vecM RY CY && ((nx : Int) == (ny : Int))) = false) : Calls Try.prog 27 #[.float .f64 a, X.V, Y.V] w (Ans w (.int .i64 8)) :=
  Axpy_no hX.sv hY.sv (refE_8 (by rw [alk_is3 hX hY ex ey]; exact hf) (mem2 hX.ne hY.ne)) (by omega)
theorem axpy_yes0 (ba : a ≤ 18446744073709551615) (hX : Ov w B X s2 g2 cap2 c2 l2 RX CX LX) (hY : Ov w B2 Y s3 g3 cap3 c3 l3 RY CY LY) (ex : LX.length = nx) (ey : LY.length = ny) (hf : (vecM RX CX && vecM RY CY && ((nx : Int) == (ny : Int))) = true) {q : Nat} (hq : CY = q) : Calls Try.prog 27 #[.float .f64 a, X.V, Y.V] w (OvK w B2 Y s3 g3 cap3 c3 RY CY ny (fun k => aop .add (fa (D LY k)) (aop .mul (af a) (fa (D LX k))))) := by
  have h9 := (Bool.and_eq_true_iff.1 hf).2
  have hvy := (Bool.and_eq_true_iff.1 (Bool.and_eq_true_iff.1 hf).1).2
  refine (Axpy_yes ba hX.sv hY.sv (refE_ok (by rw [alk_is3 hX hY ex ey]; exact hf) (mem2 hX.ne hY.ne)) (by have := eq_of_beq h9; omega) hY.vk hY.st rfl hY.inj (by rw [hY.isvec]; exact hvy)).mono ?_
  intro e w1 h
  refine ovk hY h hq ey (fun k hk => ?_)
  unfold tg
  rw [if_pos rfl]
  dsimp only
  rw [vix_dm hY hvy hq (by rw [ey]; exact hk)]
theorem scal_no8 (hX : Ov w B X s2 g2 cap2 c2 l2 RX CX LX) (hv : vecM RX CX = false) : Calls Try.prog 31 #[.float .f64 a, X.V] w (Ans w (.int .i64 8)) :=
  Scal_no hX.sv (refE_8 (by rw [hX.isvec]; exact hv) (mem1 hX.ne)) (by omega)
theorem scal_yes0 (ba : a ≤ 18446744073709551615) (hX : Ov w B X s2 g2 cap2 c2 l2 RX CX LX) (ex : LX.length = nx) (hv : vecM RX CX = true) {q : Nat} (hq : CX = q) : Calls Try.prog 31 #[.float .f64 a, X.V] w (OvK w B X s2 g2 cap2 c2 RX CX nx (fun k => aop .mul (af a) (fa (D LX k)))) := by
  refine (Scal_yes ba hX.sv (refE_ok (by rw [hX.isvec]; exact hv) (mem1 hX.ne)) hX.vk hX.st rfl hX.inj (by rw [hX.isvec]; exact hv)).mono ?_
  intro e w1 h
  refine ovk hX h hq ex (fun k hk => ?_)
  unfold tg
  rw [if_pos rfl]
  dsimp only
  rw [vix_dm hX hv hq (by rw [ex]; exact hk)]
end
set_option maxRecDepth 100000 in
set_option maxHeartbeats 8000000 in
theorem KernelsSteps_big1 {w : World} {RX CX : Int} {AX : Option Addr} {nX cX : Nat} {LX : List Int} {RY CY : Int} {AY : Option Addr} {nY cY : Nat} {LY : List Int} {a : Nat} {turned : Bool} (ba : a ≤ 18446744073709551615) (hX : FL w AX nX cX LX) (hY : FL w AY nY cY LY) (b0 : bigM RX CX nX = true) : Calls Try.prog 4 #[.float .f64 a, mV RX CX AX nX cX, mV RY CY AY nY cY, .bool turned] w (Ans w (.bool true)) := by
  have pbX := fun W => big_any RX CX AX nX cX hX.max W
  rw [b0] at pbX
  clear b0
  have DX := Blk.new w [.int .i64 RX, .int .i64 CX, .slice AX nX cX] 24
  have DY := Blk.new (w.alloc (.cells #[.int .i64 RX, .int .i64 CX, .slice AX nX cX] 24)) [.int .i64 RY, .int .i64 CY, .slice AY nY cY] 24
  replace DX := DX.alloc (.cells #[.int .i64 RY, .int .i64 CY, .slice AY nY cY] 24)
  simp only [World.size_alloc] at DY
  have bz := ((Below.refl _ w).alloc (Nat.le_refl _) (.cells #[.int .i64 RX, .int .i64 CX, .slice AX nX cX] 24)).alloc (by simp <;> omega) (.cells #[.int .i64 RY, .int .i64 CY, .slice AY nY cY] 24)
  have hsz0 : ((w.alloc (.cells #[.int .i64 RX, .int .i64 CX, .slice AX nX cX] 24)).alloc (.cells #[.int .i64 RY, .int .i64 CY, .slice AY nY cY] 24)).heap.size = w.heap.size + 2 := by simp
  have hFX := hX.lo.on bz
  clear hX
  have hFY := hY.lo.on bz
  clear hY
  go_enter Try.func4, Try.ntmps4
  obtain ⟨kX_0, kX_1, kX_2, kX_3, kX_4, kX_5⟩ := Mbx.cells DX
  obtain ⟨kY_0, kY_1, kY_2, kY_3, kY_4, kY_5⟩ := Mbx.cells DY
  go_wp2_with fail
  with_reducible refine (pbX _).mono ?_
  rintro e w1 ⟨rfl, hb⟩
  clear kX_0 kX_1 kX_2 kX_3 kX_4 kX_5 kY_0 kY_1 kY_2 kY_3 kY_4 kY_5
  replace DX := DX.on hb
  replace DY := DY.on hb
  replace hFX := hFX.on hb
  replace hFY := hFY.on hb
  replace bz := bz.trans (hb.mono bz.size)
  clear hb
  go_wp2_with fail
  with_reducible refine (known_any _).mono ?_
  rintro e w2 ⟨rfl, hb⟩
  replace DX := DX.on hb
  replace DY := DY.on hb
  replace hFX := hFX.on hb
  replace hFY := hFY.on hb
  replace bz := bz.trans (hb.mono bz.size)
  clear hb
  go_wp2_with fail
  go_ret
  exact ⟨rfl, bz⟩
set_option maxRecDepth 100000 in
set_option maxHeartbeats 8000000 in
theorem KernelsSteps_big2 {w : World} {RX CX : Int} {AX : Option Addr} {nX cX : Nat} {LX : List Int} {RY CY : Int} {AY : Option Addr} {nY cY : Nat} {LY : List Int} {a : Nat} {turned : Bool} (ba : a ≤ 18446744073709551615) (hX : FL w AX nX cX LX) (hY : FL w AY nY cY LY) (b0 : bigM RX CX nX = false) (b1 : bigM RY CY nY = true) : Calls Try.prog 4 #[.float .f64 a, mV RX CX AX nX cX, mV RY CY AY nY cY, .bool turned] w (Ans w (.bool true)) := by
  have pbX := fun W => big_any RX CX AX nX cX hX.max W
  rw [b0] at pbX
  clear b0
  have pbY := fun W => big_any RY CY AY nY cY hY.max W
  rw [b1] at pbY
  clear b1
  have DX := Blk.new w [.int .i64 RX, .int .i64 CX, .slice AX nX cX] 24
  have DY := Blk.new (w.alloc (.cells #[.int .i64 RX, .int .i64 CX, .slice AX nX cX] 24)) [.int .i64 RY, .int .i64 CY, .slice AY nY cY] 24
  replace DX := DX.alloc (.cells #[.int .i64 RY, .int .i64 CY, .slice AY nY cY] 24)
  simp only [World.size_alloc] at DY
  have bz := ((Below.refl _ w).alloc (Nat.le_refl _) (.cells #[.int .i64 RX, .int .i64 CX, .slice AX nX cX] 24)).alloc (by simp <;> omega) (.cells #[.int .i64 RY, .int .i64 CY, .slice AY nY cY] 24)
  have hsz0 : ((w.alloc (.cells #[.int .i64 RX, .int .i64 CX, .slice AX nX cX] 24)).alloc (.cells #[.int .i64 RY, .int .i64 CY, .slice AY nY cY] 24)).heap.size = w.heap.size + 2 := by simp
  have hFX := hX.lo.on bz
  clear hX
  have hFY := hY.lo.on bz
  clear hY
  go_enter Try.func4, Try.ntmps4
  obtain ⟨kX_0, kX_1, kX_2, kX_3, kX_4, kX_5⟩ := Mbx.cells DX
  obtain ⟨kY_0, kY_1, kY_2, kY_3, kY_4, kY_5⟩ := Mbx.cells DY
  go_wp2_with fail
  with_reducible refine (pbX _).mono ?_
  rintro e w1 ⟨rfl, hb⟩
  clear kX_0 kX_1 kX_2 kX_3 kX_4 kX_5 kY_0 kY_1 kY_2 kY_3 kY_4 kY_5
  replace DX := DX.on hb
  replace DY := DY.on hb
  replace hFX := hFX.on hb
  replace hFY := hFY.on hb
  replace bz := bz.trans (hb.mono bz.size)
  clear hb
  obtain ⟨kX_0, kX_1, kX_2, kX_3, kX_4, kX_5⟩ := Mbx.cells DX
  obtain ⟨kY_0, kY_1, kY_2, kY_3, kY_4, kY_5⟩ := Mbx.cells DY
  go_wp2_with fail
  with_reducible refine (pbY _).mono ?_
  rintro e w2 ⟨rfl, hb⟩
  clear kX_0 kX_1 kX_2 kX_3 kX_4 kX_5 kY_0 kY_1 kY_2 kY_3 kY_4 kY_5
  replace DX := DX.on hb
  replace DY := DY.on hb
  replace hFX := hFX.on hb
  replace hFY := hFY.on hb
  replace bz := bz.trans (hb.mono bz.size)
  clear hb
  go_wp2_with fail
  with_reducible refine (known_any _).mono ?_
  rintro e w3 ⟨rfl, hb⟩
  replace DX := DX.on hb
  replace DY := DY.on hb
  replace hFX := hFX.on hb
  replace hFY := hFY.on hb
  replace bz := bz.trans (hb.mono bz.size)
  clear hb
  go_wp2_with fail
  go_ret
  exact ⟨rfl, bz⟩
end Go.Proofs.Ytfelmkkkaphkpaa
