/-
  Layer 7, walks: a view takes what another one shows. (Written by wip/tools/gen_vws.py.)
-/
import Derived.Test.YtfelmkkkaphkpaaKVwR
namespace Go.Proofs.Ytfelmkkkaphkpaa
open Go.RowKit Go.Bw Go.Sort Go.Shelf
set_option linter.unusedVariables false
set_option linter.unusedSimpArgs false
attribute [local go_sem] Oper.semAt_some run_store_float

/-! ### the view of all of a store -/
theorem all_ix (s : Nat) (R C i j : Int) (c : Nat) : (Vu.all s R C).ix c i j = i * c + j := by
  unfold Vu.ix Vu.p0 Vu.p1
  simp
theorem all_vk (s : Nat) {R C : Int} (R0 : 0 ≤ R) (R1 : R ≤ 512) (C0 : 0 ≤ C) (C1 : C ≤ 512) {n : Nat} (hn : (n : Int) = R * C) : Vk (Vu.all s R C) s C.toNat n 1 where
  bd := ⟨⟨by simp, by simp⟩, ⟨by simp, by simp⟩, ⟨by simp, by simp⟩, ⟨by simp, by simp⟩, ⟨by simp, by simp⟩, ⟨by simp, by simp⟩, ⟨R0, R1⟩, ⟨C0, C1⟩, ⟨by simp, by simp⟩⟩
  p := .inr rfl
  ins := by
    intro i j hh
    unfold Vu.has at hh
    obtain ⟨i0, i1, j0, j1⟩ := of_decide_eq_true hh
    simp only at i1 j1
    obtain ⟨I, rfl⟩ := Int.eq_ofNat_of_zero_le i0
    obtain ⟨J, rfl⟩ := Int.eq_ofNat_of_zero_le j0
    obtain ⟨m, rfl⟩ := Int.eq_ofNat_of_zero_le R0
    obtain ⟨q, rfl⟩ := Int.eq_ofNat_of_zero_le C0
    refine ⟨I * q + J, ?_, ?_, ?_⟩
    · rw [all_ix]; simp
    · have h1 : (I + 1) * q ≤ m * q := Nat.mul_le_mul_right q (by omega)
      rw [Nat.succ_mul] at h1
      have h2 : n = m * q := by exact_mod_cast hn
      omega
    · show (Vu.all s _ _).p1 _ _ < _
      unfold Vu.p1
      simp
      omega
theorem all_at (s : Nat) {R C : Int} (R0 : 0 ≤ R) (R1 : R ≤ 512) (C0 : 0 ≤ C) (C1 : C ≤ 512) (l : List Int) {k : Nat} (hk : k < (R * C).toNat) : (Vu.all s R C).at_ C.toNat l ((Vu.all s R C).ei k) ((Vu.all s R C).ej k) = D l k := by
  have hv := all_vk s R0 R1 C0 C1 (n := (R * C).toNat) (by rw [Int.toNat_of_nonneg (Int.mul_nonneg R0 C0)])
  have hh := ei_bd hv.bd (k := k) hk
  unfold Vu.at_
  rw [hh, if_pos rfl, all_ix]
  unfold Vu.ei Vu.ej
  obtain ⟨q, rfl⟩ := Int.eq_ofNat_of_zero_le C0
  congr 1
  simp only [Int.toNat_natCast]
  have := Nat.div_add_mod k q
  have e : ((k / q : Nat) : Int) * (q : Int) + ((k % q : Nat) : Int) = ((k : Nat) : Int) := by
    rw [Nat.mul_comm] at this
    exact_mod_cast this
  rw [e]
  rfl
theorem all_fl (s : Nat) {R C : Int} (R0 : 0 ≤ R) (R1 : R ≤ 512) (C0 : 0 ≤ C) (C1 : C ≤ 512) {l : List Int} (hl : (l.length : Int) = R * C) : (Vu.all s R C).fl C.toNat l = l := by
  apply List.ext_getElem
  · rw [fl_length]; show (R * C).toNat = _; omega
  · intro i h1 h2
    have h3 : i < (R * C).toNat := by omega
    have := fl_D (Vu.all s R C) C.toNat l (k := i) h3
    rw [D_in h1, all_at s R0 R1 C0 C1 l h3, D_in h2] at this
    exact this

section
variable {w : World} {v u : Vu} {K K2 : Int} {B s g cap c n B2 s2 g2 cap2 c2 n2 : Nat} {l l2 : List Int}
set_option maxHeartbeats 2000000 in
theorem Take_none (hp : v.p = none ∨ u.p = none) (w : World) : Calls Try.prog 77 #[v.V, u.V] w (Ans w (.int .i64 1)) := by
  have pv := none_any v
  have pu := none_any u
  have DU := Blk.new (w.alloc (.cells v.L.toArray 30)) u.L 30
  rw [World.size_alloc] at DU
  have bz := ((Below.refl _ w).alloc (Nat.le_refl _) (.cells v.L.toArray 30)).alloc (by simp) (.cells u.L.toArray 30)
  by_cases h : v.p = none
  · rw [show (v.p == none) = true by rw [h]; rfl] at pv
    clear hp h pu
    obtain ⟨p, f0, f1, d0, d1, r0, r1, R, C⟩ := v
    obtain ⟨p', f0', f1', d0', d1', r0', r1', R', C'⟩ := u
    go_enter Try.func77, Try.ntmps77
    go_wp2_with fail
    with_reducible refine (pv _).mono ?_
    rintro e w1 ⟨rfl, hb⟩
    go_wp2_with fail
    go_ret
    exact ⟨rfl, bz.trans (hb.mono (by simp; omega))⟩
  · have hu : u.p = none := by rcases hp with h1 | h1; exact absurd h1 h; exact h1
    rw [show (v.p == none) = false by cases h9 : v.p; exact absurd h9 h; rfl] at pv
    rw [show (u.p == none) = true by rw [hu]; rfl] at pu
    clear hp h hu
    obtain ⟨p, f0, f1, d0, d1, r0, r1, R, C⟩ := v
    obtain ⟨p', f0', f1', d0', d1', r0', r1', R', C'⟩ := u
    go_enter Try.func77, Try.ntmps77
    go_wp2_with fail
    with_reducible refine (pv _).mono ?_
    rintro e w1 ⟨rfl, hb⟩
    replace DU := DU.on hb
    obtain ⟨c0, c1, c2, c3, c4, c5, c6, c7, c8⟩ := Vbx.cells DU
    go_wp2_with fail
    with_reducible refine (pu _).mono ?_
    rintro e w2 ⟨rfl, hb2⟩
    go_wp2_with fail
    go_ret
    exact ⟨rfl, (bz.trans (hb.mono (by simp; omega))).trans (hb2.mono (by have := hb.size; simp at this; omega))⟩

set_option maxHeartbeats 2000000 in
theorem Take_shape (hv : v.p ≠ none) (hu : u.p ≠ none) (hs : v.R ≠ u.R ∨ v.C ≠ u.C) (w : World) : Calls Try.prog 77 #[v.V, u.V] w (Ans w (.int .i64 8)) := by
  have pv := none_any v
  have pu := none_any u
  have DU := Blk.new (w.alloc (.cells v.L.toArray 30)) u.L 30
  rw [World.size_alloc] at DU
  have DV := (Blk.new w v.L 30).alloc (.cells u.L.toArray 30)
  have bz := ((Below.refl _ w).alloc (Nat.le_refl _) (.cells v.L.toArray 30)).alloc (by simp) (.cells u.L.toArray 30)
  rw [show (v.p == none) = false by cases h9 : v.p; exact absurd h9 hv; rfl] at pv
  rw [show (u.p == none) = false by cases h9 : u.p; exact absurd h9 hu; rfl] at pu
  clear hv hu
  obtain ⟨p, f0, f1, d0, d1, r0, r1, R, C⟩ := v
  obtain ⟨p', f0', f1', d0', d1', r0', r1', R', C'⟩ := u
  have hs2 : (R != R') = true ∨ ((R != R') = false ∧ (C != C') = true) := by
    simp only at hs
    by_cases h : R = R'
    · refine .inr ⟨by simp [h], ?_⟩
      rcases hs with h1 | h1
      · exact absurd h h1
      · simp [h1]
    · exact .inl (by simp [h])
  clear hs
  rcases hs2 with h1 | ⟨h1, h2⟩
  all_goals
    go_enter Try.func77, Try.ntmps77
    go_wp2_with fail
    with_reducible refine (pv _).mono ?_
    rintro e w1 ⟨rfl, hb⟩
    replace DU := DU.on hb
    replace DV := DV.on hb
    obtain ⟨c0, c1, c2, c3, c4, c5, c6, c7, c8⟩ := Vbx.cells DU
    go_wp2_with fail
    with_reducible refine (pu _).mono ?_
    rintro e w2 ⟨rfl, hb2⟩
    clear c0 c1 c2 c3 c4 c5 c6 c7 c8
    replace DU := DU.on hb2
    replace DV := DV.on hb2
    obtain ⟨c0, c1, c2, c3, c4, c5, c6, c7, c8⟩ := Vbx.cells DU
    obtain ⟨k0, k1, k2, k3, k4, k5, k6, k7, k8⟩ := Vbx.cells DV
    go_wp2_with fail
    go_ret
    exact ⟨rfl, (bz.trans (hb.mono (by simp; omega))).trans (hb2.mono (by have := hb.size; simp at this; omega))⟩

/-- between two rounds -/
def TakeI (w : World) (v U : Vu) (B s g cap c n s2 g2 cap2 c2 : Nat) (l F : List Int) (Bn : Nat) (k : Nat) (lx : List Int) (W : World) : Prop :=
  lx = F ∧ Vbx W Bn U ∧ (St W w.heap.size s2 g2 cap2 c2 F) ∧ Vbx W w.heap.size v ∧ St W B s g cap c (setTo v c (D F) l k) ∧ w.grownBy W (some g)
theorem TakeI.ownV {U : Vu} {F : List Int} {BB Bn k : Nat} {lx : List Int} (hB : w.heap.size ≤ BB) : OwnV BB (TakeI w v U B s g cap c n s2 g2 cap2 c2 l F Bn k lx) := by
  rintro W W' row ⟨e, h1, h2, h3, h4, h5⟩ hg hr
  exact ⟨e, h1.ownV hg hr, h2.ownV hg hr, h3.ownV hg hr, h4.ownV hg hr, grown_ownV h5 hg hr hB⟩
theorem TakeI.on {U : Vu} {F : List Int} {Bn k : Nat} {lx : List Int} {W W' : World} (h : TakeI w v U B s g cap c n s2 g2 cap2 c2 l F Bn k lx W) (hb : Below W.heap.size W W') : TakeI w v U B s g cap c n s2 g2 cap2 c2 l F Bn k lx W' := by
  obtain ⟨e, h1, h2, h3, h4, h5⟩ := h
  exact ⟨e, h1.on hb, h2.on hb, h3.on hb, h4.on hb, grown_on h5 hb⟩
/-- within one -/
def TakeX (w : World) (v U : Vu) (B s g cap c n s2 g2 cap2 c2 : Nat) (l F : List Int) (Bn : Nat) (k : Nat) (lx : List Int) (a' : Act) (W : World) : Prop :=
  TakeI w v U B s g cap c n s2 g2 cap2 c2 l F Bn k lx W ∧ ∃ (bx : Nat) (X0 X1 X3 X4 X7 X8 X9 X10 X11 X12 X13 X14 X15 X16 X17 X18 X19 X20 X21 X22 X23 X24 X25 X26 X27 X28 X29 X30 X31 X32 X33 X34 X35 X36 X37 X38 X39 : Value), Blk W bx [.int .i64 (U.ei k), .int .i64 (U.ej k)] ∧ w.heap.size < bx ∧ a' = { tmps := #[X0, X1, .pointer (some ⟨w.heap.size, 0, none⟩), X3, X4, .pointer (some ⟨bx, 0, none⟩), .float .f64 (D F k).toNat, X7, X8, X9, X10, X11, X12, X13, X14, X15, X16, X17, X18, X19, X20, X21, X22, X23, X24, X25, X26, X27, X28, X29, X30, X31, X32, X33, X34, X35, X36, X37, X38, X39], defers := [] }
theorem TakeX.ownV {U : Vu} {F : List Int} {BB Bn k : Nat} {lx : List Int} {a' : Act} (hB : w.heap.size ≤ BB) : OwnV BB (TakeX w v U B s g cap c n s2 g2 cap2 c2 l F Bn k lx a') := by
  rintro W W' row ⟨hI, bx, X0, X1, X3, X4, X7, X8, X9, X10, X11, X12, X13, X14, X15, X16, X17, X18, X19, X20, X21, X22, X23, X24, X25, X26, X27, X28, X29, X30, X31, X32, X33, X34, X35, X36, X37, X38, X39, hb, hn, e⟩ hg hr
  exact ⟨TakeI.ownV hB W W' row hI hg hr, bx, X0, X1, X3, X4, X7, X8, X9, X10, X11, X12, X13, X14, X15, X16, X17, X18, X19, X20, X21, X22, X23, X24, X25, X26, X27, X28, X29, X30, X31, X32, X33, X34, X35, X36, X37, X38, X39, hb.ownV hg hr, hn, e⟩

set_option maxRecDepth 100000 in
set_option maxHeartbeats 4000000 in
theorem Take_yes (hv : Vk v s c n K) (hs : St w B s g cap c l) (hl : l.length = n) (hp : v.p ≠ none) (hu : Vk u s2 c2 n2 K2) (hs2 : St w B2 s2 g2 cap2 c2 l2) (hl2 : l2.length = n2) (hup : u.p ≠ none) (hR : v.R = u.R) (hC : v.C = u.C) :
    Calls Try.prog 77 #[v.V, u.V] w (Wrote w B s g cap c 0 (setTo v c (D (u.fl c2 l2)) l (v.R * v.C).toNat)) := by
  have pv := none_any v
  have pu := none_any u
  rw [show (v.p == none) = false by cases h9 : v.p; exact absurd h9 hp; rfl] at pv
  rw [show (u.p == none) = false by cases h9 : u.p; exact absurd h9 hup; rfl] at pu
  have pcp := fun W (h : Below w.heap.size w W) => Copy_yes (w := W) hu (hs2.on h) hl2 hup
  have hps : v.p = some ⟨s, 0, none⟩ := by
    rcases hv.p with e | e
    · exact absurd (by rw [e]) hp
    · exact e
  have HV := Lib.hid hv
  have HS := Lib.hid hps
  obtain ⟨⟨R0, R1⟩, C0, C1⟩ : (0 ≤ u.R ∧ u.R ≤ 512) ∧ 0 ≤ u.C ∧ u.C ≤ 512 := ⟨hu.bd.R, hu.bd.C⟩
  have hFl : ((u.fl c2 l2).length : Int) = u.R * u.C := by rw [fl_length, Int.toNat_of_nonneg (Int.mul_nonneg R0 C0)]
  have hgw := hs.gt.2
  have hsw := hs.lt
  have DV := (Blk.new w v.L 30).alloc (.cells u.L.toArray 30)
  have DU := Blk.new (w.alloc (.cells v.L.toArray 30)) u.L 30
  rw [World.size_alloc] at DU
  have bw := ((Below.refl _ w).alloc (Nat.le_refl _) (.cells v.L.toArray 30)).alloc (by simp) (.cells u.L.toArray 30)
  replace hs := hs.on bw
  obtain ⟨F, hF⟩ : ∃ F, u.fl c2 l2 = F := ⟨_, rfl⟩
  rw [hF] at hFl ⊢
  simp only [hF] at pcp
  clear hp hv hps hu hs2 hup hF
  obtain ⟨V, hV⟩ : ∃ V, v = V := ⟨_, rfl⟩
  have HhV := Lib.hid hV
  have HRC : Hid (V.R = u.R ∧ V.C = u.C) := Lib.hid (by rw [← hV]; exact ⟨hR, hC⟩)
  rw [hV] at HV HS
  clear hV
  have hR2 : (v.R != u.R) = false := by simp [hR]
  have hC2 : (v.C != u.C) = false := by simp [hC]
  clear hR hC
  refine (callsIn_wide (n := 5)).1 ?_
  refine callsIn_of_wp_marks Try.func77 rfl trivial ?_ rfl
  simp only [Try.ntmps77, List.size_toArray, List.length_cons, List.length_nil, Nat.reduceAdd, Nat.reduceSub, Array.replicate_succ, Array.replicate_zero, List.push_toArray, List.append_toArray, List.nil_append, List.cons_append]
  obtain ⟨p, f0, f1, d0, d1, r0, r1, R, C⟩ := v
  obtain ⟨p', f0', f1', d0', d1', r0', r1', R', C'⟩ := u
  simp only at R0 R1 C0 C1 hFl hR2 hC2
  simp only at HRC
  have sz1 : w.heap.size + 2 ≤ ((w.alloc (.cells (Vu.L ⟨p, f0, f1, d0, d1, r0, r1, R, C⟩).toArray 30)).alloc (.cells (Vu.L ⟨p', f0', f1', d0', d1', r0', r1', R', C'⟩).toArray 30)).heap.size := by simp
  gi_wp2_with (refine ⟨trivial, ?_⟩; gi_at_call 92; refine (callsIn_wide.2 (pv _)).mono ?_; rintro e w1 ⟨rfl, hb⟩; replace DV := DV.on hb; replace DU := DU.on hb; replace hs := hs.on hb; replace bw := bw.trans (hb.mono (by simp; omega)); obtain ⟨u0, u1, u2, u3, u4, u5, u6, u7, u8⟩ := Vbx.cells DU)
  refine ⟨trivial, (callsIn_wide.2 (pu _)).mono ?_⟩
  rintro e w2 ⟨rfl, hb2⟩
  have sz2 := hb.size
  simp only [World.size_alloc] at sz2
  have sz3 := hb2.size
  replace DV := DV.on hb2
  replace DU := DU.on hb2
  replace hs := hs.on hb2
  replace bw := bw.trans (hb2.mono bw.size)
  clear u0 u1 u2 u3 u4 u5 u6 u7 u8
  obtain ⟨u0, u1, u2, u3, u4, u5, u6, u7, u8⟩ := Vbx.cells DU
  obtain ⟨v0, v1, v2, v3, v4, v5, v6, v7, v8⟩ := Vbx.cells DV
  gi_wp2
  refine ⟨trivial, (callsIn_wide.2 (pcp _ bw)).mono ?_⟩
  rintro e w3 ⟨s3, g3, cap3, rfl, hst3, hb3⟩
  have sz4 := hb3.size
  replace DV := DV.on hb3
  replace hs := hs.on hb3
  replace bw := bw.trans (hb3.mono bw.size)
  have hlo3 := hst3.lo
  have hgo3 := hst3.gt
  clear u0 u1 u2 u3 u4 u5 u6 u7 u8 v0 v1 v2 v3 v4 v5 v6 v7 v8 DU pcp pv pu
  have sz9 : w.heap.size + 2 ≤ w2.heap.size := by omega
  obtain ⟨U, hU⟩ : ∃ U, Vu.all s3 R' C' = U := ⟨_, rfl⟩
  have pall := All_any U
  have HU := Lib.hid hU
  have hn3 : ((F.length : Nat) : Int) = R' * C' := hFl
  have HVU : Hid (Vk U s3 C'.toNat F.length 1) := Lib.hid (by rw [← hU]; exact all_vk s3 R0 R1 C0 C1 hn3)
  have HRC2 : Hid ((U.R * U.C).toNat = (V.R * V.C).toNat) := Lib.hid (by rw [← hU, HRC.out.1, HRC.out.2])
  have HF : Hid (∀ k, k < (U.R * U.C).toNat → U.at_ C'.toNat F (U.ei k) (U.ej k) = D F k) := Lib.hid (fun k hk => by rw [← hU] at hk ⊢; exact all_at s3 R0 R1 C0 C1 F hk)
  have HEI : Hid (∀ k, U.ei k = V.ei k ∧ U.ej k = V.ej k) := Lib.hid (fun k => by unfold Vu.ei Vu.ej; rw [← hU, HRC.out.2]; exact ⟨rfl, rfl⟩)
  have hUV : (Vu.all s3 R' C').V = U.V := by rw [hU]
  simp only [hUV]
  clear hUV hU
  gi_wp2_with (refine ⟨trivial, ?_⟩; gi_at_call 93; refine (callsIn_wide.2 (pall _)).mono ?_; rintro e w4 ⟨rfl, rfl⟩)
  rw [HhV.out]
  rw [HhV.out] at DV
  have DB := Blk.new w3 U.L 30
  have bl := (Below.refl _ w3).alloc (Nat.le_refl _) (.cells U.L.toArray 30)
  replace hs := hs.on bl
  replace hst3 := hst3.on bl
  replace DV := DV.on bl
  replace bw := bw.trans (bl.mono (by omega))
  have hsz2 : (w3.alloc (.cells U.L.toArray 30)).heap.size = w3.heap.size + 1 := World.size_alloc _ _
  have hBB : w.heap.size ≤ (w3.alloc (.cells U.L.toArray 30)).heap.size := by omega
  clear bl pall hb hb2 hb3
  generalize w3.alloc (.cells U.L.toArray 30) = W0 at DB DV hs hst3 bw hsz2 hBB ⊢
  obtain ⟨Bn, hBn⟩ : ∃ Bn, w3.heap.size = Bn := ⟨_, rfl⟩
  rw [hBn] at DB hsz2 sz4 ⊢
  have hst3' : St W0 w.heap.size s3 g3 cap3 C'.toNat F := ⟨hst3.box, hst3.own.less (by omega), hst3.ne, hst3.wd, by omega, hst3.len, hst3.col⟩
  have h0 : TakeI w V U B s g cap c n s3 g3 cap3 C'.toNat l F Bn 0 F W0 := ⟨rfl, DB, hst3', DV, hs, grown_below bw _⟩
  clear DB DV hs hst3' bw
  refine rangeFunc_V (by omega) (gf := 109) (lb := #[.pointer (some ⟨Bn, 0, none⟩)]) rfl (enters_of Try.func109 (by kernel_rfl) rfl)
    (all_seq (v := U) (B := w.heap.size) (s := s3) (g := g3) (cap := cap3) (c := C'.toNat) (N0 := F.length) (Bn := Bn) (by omega) HVU.out) (fun _ _ => rfl)
    (TakeI w V U B s g cap c n s3 g3 cap3 C'.toNat l F Bn) (fun _ => False) (fun k lx W h => by obtain ⟨rfl, h1, h2, _⟩ := h; exact ⟨h1, fun _ => ⟨h2, rfl⟩⟩) (fun _ _ => TakeI.ownV hBB) (fun _ _ _ h _ _ => h) h0
    (fun k lx a' W => k < (U.R * U.C).toNat → TakeX w V U B s g cap c n s3 g3 cap3 C'.toNat l F Bn k lx a' W) (fun k lx a' W W' row h hg hr hk => TakeX.ownV hBB W W' row (h hk) hg hr) ?assign ?body ?done ?stop
  case assign =>
    intro lp k lx W K hI hK
    unfold enc
    gi_wp2
    have hI2 := hI.on ((Below.refl _ W).alloc (Nat.le_refl _) (.cells #[.int .i64 (U.ei k), .int .i64 (U.ej k)] 28))
    refine hK _ _ (keepsFrom_below ((Below.refl _ W).alloc (Nat.le_refl _) _)) (fun hk => ?_)
    have hF9 := HF.out k hk
    obtain rfl := hI.1
    exact ⟨hI2, W.heap.size, _, _, _, _, _, _, _, _, _, _, _, _, _, _, _, _, _, _, _, _, _, _, _, _, _, _, _, _, _, _, _, _, _, _, _, _, _, Blk.new W [.int .i64 _, .int .i64 _] _, hI.2.2.2.1.lt, by rw [hF9]⟩
  case body =>
    rintro lp k lx a' W hlp hX hk
    obtain ⟨⟨rfl, h1, h2, h3, h4, h5⟩, bx, X0, X1, X3, X4, X7, X8, X9, X10, X11, X12, X13, X14, X15, X16, X17, X18, X19, X20, X21, X22, X23, X24, X25, X26, X27, X28, X29, X30, X31, X32, X33, X34, X35, X36, X37, X38, X39, hbx, hbn, rfl⟩ := hX hk
    have hkV : k < (V.R * V.C).toNat := by rw [← HRC2.out]; exact hk
    have hhas := ei_bd HV.out.bd hkV
    obtain ⟨kk, hkk, hkl, _⟩ := HV.out.ins _ _ hhas
    obtain ⟨⟨i0, i1⟩, j0, j1⟩ := has_bd HV.out.bd hhas
    obtain ⟨LC, hLC⟩ : ∃ LC, setTo V c (D lx) l k = LC := ⟨_, rfl⟩
    have hLl : LC.length = n := by rw [← hLC, setTo_len]; exact hl
    have pc := fun W' (h : St W' B s g cap c LC) => cell_any (w := W') HV.out.bd h HS.out i0 i1 j0 j1 hkk (by rw [hLl]; exact hkl)
    have HE : Hid (setTo V c (D lx) l (k + 1) = LC.set kk (D lx k)) := Lib.hid (by rw [setTo_succ, hLC, hkk]; rfl)
    rw [hLC] at h4
    rw [(HEI.out k).1, (HEI.out k).2] at hbx
    obtain ⟨I, hI⟩ : ∃ I, V.ei k = I := ⟨_, rfl⟩
    obtain ⟨J, hJ⟩ : ∃ J, V.ej k = J := ⟨_, rfl⟩
    rw [hI, hJ] at pc hbx
    have hxw := h2.wd.at_ k
    obtain ⟨X, hX9⟩ : ∃ X, D lx k = X := ⟨_, rfl⟩
    rw [hX9] at HE hxw ⊢
    clear hI hJ i0 i1 j0 j1 hkk hhas hX hX9 hLC
    have hkx : kk < LC.length := by rw [hLl]; exact hkl
    have hgW := h4.gt.2
    have hbl := hbx.lt
    have h3l := h3.lt
    have h2g := h2.gt
    have q0 := Blk.cell hbx 0 rfl
    have q1 := Blk.cell hbx 1 rfl
    obtain ⟨v0, v1, v2, v3, v4, v5, v6, v7, v8⟩ := Vbx.cells h3
    gi_wp2_with (refine ⟨trivial, ?_⟩; gi_at_call 104; refine (CallsIn.inRound lp (callsIn_wide.2 (pc _ h4))).mono ?_; rintro e w9 ⟨rfl, hb⟩; have hst9 := h4.on hb; obtain ⟨hc9, hf9⟩ := hst9.at_ hkx)
    exact ⟨(keepsFrom_below hb).trans ((KeepsOthers.setCell _ _ _).from _), lx, rfl, Blk.far (h1.on hb) (p := ⟨g, kk, none⟩) (by simp; omega) _, (h2.on hb).farG (p := ⟨g, kk, none⟩) (by have := h2.lo; simp; omega) (by simp; omega) _, Blk.far (h3.on hb) (p := ⟨g, kk, none⟩) (by simp; omega) _, by rw [HE.out]; exact hst9.set_ hxw.1 hxw.2 kk, setb_grown (grown_on h5 hb) kk _⟩
  case done =>
    rintro D9 lx W hD ⟨rfl, h1, h2, h3, h4, h5⟩ hK
    gi_wp2
    refine ⟨by simp, .inl ⟨_, _, rfl, run_takeDeferred hK, ?_⟩⟩
    refine ⟨_, results_tmp rfl _ _ _, rfl, ?_, grown_ownV h5 (grownBy_putObj' _ D9 (.deferred none)) (noCells_put hK rfl) (by omega)⟩
    rw [HRC2.out] at h4
    have hRV : R = V.R ∧ C = V.C := by rw [← HhV.out]; exact ⟨rfl, rfl⟩
    rw [HhV.out, hRV.1, hRV.2]
    exact h4.ownV (grownBy_putObj' _ D9 (.deferred none)) (noCells_put hK rfl)
  case stop => exact fun D W _ h _ => h.elim
end
end Go.Proofs.Ytfelmkkkaphkpaa
