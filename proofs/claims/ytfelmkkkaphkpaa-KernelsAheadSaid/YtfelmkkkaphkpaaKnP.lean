/-
  Layer 8: the laws' own words: views made of lists and matrices, what is held against the reference. (Written by wip/tools/gen_knp.py.)
-/
import Derived.Test.YtfelmkkkaphkpaaKnM
import Derived.Test.YtfelmkkkaphkpaaKnS
import Derived.Test.YtfelmkkkaphkpaaKRgV
namespace Go.Proofs.Ytfelmkkkaphkpaa
open Go.RowKit Go.Bw Go.Sort Go.Shelf
set_option linter.unusedVariables false
set_option linter.unusedSimpArgs false

/-- a view of a store of its own, all of it -/
structure Ov (w : World) (B : Nat) (V : Vu) (s g cap c : Nat) (l : List Int) (R C : Int) (F : List Int) : Prop where
  st : St w B s g cap c l
  vk : Vk V s c l.length 1
  p : V.p = some ⟨s, 0, none⟩
  inj : Inj V c
  fl : V.fl c l = F
  R : V.R = R
  C : V.C = C
section
variable {w w' : World} {B b : Nat} {V : Vu} {s g cap c : Nat} {l : List Int} {R C : Int} {F : List Int}
theorem Ov.on (h : Ov w B V s g cap c l R C F) (hb : Below w.heap.size w w') : Ov w' B V s g cap c l R C F := ⟨h.st.on hb, h.vk, h.p, h.inj, h.fl, h.R, h.C⟩
theorem Ov.drew (h : Ov w B V s g cap c l R C F) : Ov w.drew B V s g cap c l R C F := ⟨h.st.drew, h.vk, h.p, h.inj, h.fl, h.R, h.C⟩
theorem Ov.grown (h : Ov w B V s g cap c l R C F) (hg : w.grownBy w' (some b)) (h1 : s ≠ b) (h2 : g ≠ b) : Ov w' B V s g cap c l R C F := ⟨h.st.grown hg h1 h2, h.vk, h.p, h.inj, h.fl, h.R, h.C⟩
theorem Ov.sv (h : Ov w B V s g cap c l R C F) : Sv w V F := by
  have := Sv.of (w := w) h.vk (fun _ => ⟨h.st, rfl⟩)
  rwa [h.fl] at this
theorem Ov.ne (h : Ov w B V s g cap c l R C F) : V.p ≠ none := by rw [h.p]; simp
/-- it has been written -/
theorem Ov.wrote {P : Nat → Nat → Bool} {f : Nat → Nat → Option Nat} {lx : List Int} (h : Ov w B V s g cap c l R C F) (hs : St w' B s g cap c lx) (hW : Wr V c l lx P f) : Ov w' B V s g cap c lx R C (V.fl c lx) :=
  ⟨hs, by rw [hW.len]; exact h.vk, h.p, h.inj, rfl, h.R, h.C⟩
theorem Ov.is {P : Nat → Nat → Bool} {f : Nat → Nat → Option Nat} {lx : List Int} (h : Ov w B V s g cap c l R C F) (hs : St w' B s g cap c lx) (hW : Wr V c l lx P f) {q n : Nat} (hq : C = q) (hn : (R * C).toNat = n) : Is (V.fl c lx) n (tg P f F q) := by
  have hw := wd_fl (v := V) (c := c) (l := lx) (fun _ => hs.wd) (fun hp => absurd hp h.ne)
  have := hW.fl h.vk.bd hw
  rw [h.fl, h.R, h.C, hn, hq, Int.toNat_natCast] at this
  exact this
end
theorem set3_grown' (W : World) (b : Nat) (x0 x1 x2 : Value) : W.grownBy (((W.setCell ⟨b, 0, none⟩ x0).setCell ⟨b, 1, none⟩ x1).setCell ⟨b, 2, none⟩ x2) (some b) :=
  setb_grown (setb_grown (setb_grown (World.grownBy.refl W _) 0 x0) 1 x1) 2 x2
/-- a new view, of a store of its own -/
def OfA (w : World) (R C : Int) (F : List Int) (e : Ending) (w' : World) : Prop := ∃ V s g cap c l, e = .returned (Vu.V V) ∧ Ov w' w.heap.size V s g cap c l R C F ∧ Below w.heap.size w w'
theorem D_ext {a b : List Int} (hl : a.length = b.length) (h : ∀ k, k < a.length → D a k = D b k) : a = b := by
  apply List.ext_getElem hl
  intro k h1 h2
  have := h k h1
  rwa [D_in h1, D_in h2] at this
theorem ov_all {w : World} {B s g cap : Nat} {R C : Int} {F : List Int} (hs : St w B s g cap C.toNat F) (R0 : 0 ≤ R) (R1 : R ≤ 512) (C0 : 0 ≤ C) (C1 : C ≤ 512) (hl : (F.length : Int) = R * C) : Ov w B (Vu.all s R C) s g cap C.toNat F R C F :=
  ⟨hs, all_vk s R0 R1 C0 C1 hl, rfl, inj_all s C0, all_fl s R0 R1 C0 C1 hl, rfl, rfl⟩
/-- turned, laid in a store of its own, and turned again: the same floats -/
theorem turn_fl {v : Vu} {s2 c : Nat} {l : List Int} {m q : Nat} (hR : v.R = m) (hC : v.C = q) (hm : m ≤ 512) (hq : q ≤ 512) : (Vu.all s2 q m).T.fl m (v.T.fl c l) = v.fl c l := by
  have eN : ∀ a b : Nat, ((a : Int) * (b : Int)).toNat = a * b := fun a b => by exact_mod_cast Int.toNat_natCast (a * b)
  have e1 : ((Vu.all s2 q m).T.fl m (v.T.fl c l)).length = m * q := by rw [fl_length]; show ((m : Int) * (q : Int)).toNat = _; rw [eN]
  have e2 : (v.fl c l).length = m * q := by rw [fl_length, hR, hC, eN]
  have e3 : ((v.T.fl c l).length : Int) = (q : Int) * (m : Int) := by
    rw [fl_length]
    show (((v.C * v.R).toNat : Nat) : Int) = _
    rw [hR, hC, eN]
    exact Int.natCast_mul q m
  have e4 := all_fl s2 (R := (q : Int)) (C := (m : Int)) (by omega) (by omega) (by omega) (by omega) e3
  rw [Int.toNat_natCast] at e4
  refine D_ext (e1.trans e2.symm) fun k hk => ?_
  rw [e1] at hk
  have q0 : 0 < q := by rcases Nat.eq_zero_or_pos q with e | e; rw [e, Nat.mul_zero] at hk; omega; exact e
  have h1 : k / q < m := Nat.div_lt_of_lt_mul (by rw [Nat.mul_comm]; exact hk)
  have h2 := Nat.mod_lt k q0
  have e : k / q * q + k % q = k := by have := Nat.div_add_mod k q; rw [Nat.mul_comm] at this; exact this
  have g1 := fl_at (v := (Vu.all s2 q m).T) (c := m) (l := v.T.fl c l) (m := m) (q := q) rfl rfl h1 h2
  have g2 := fl_at (v := Vu.all s2 q m) (c := m) (l := v.T.fl c l) (m := q) (q := m) rfl rfl h2 h1
  have g3 := fl_at (v := v.T) (c := c) (l := l) (m := q) (q := m) hC hR h2 h1
  have g4 := fl_at (v := v) (c := c) (l := l) (m := m) (q := q) hR hC h1 h2
  rw [e] at g1 g4
  rw [g1, g4, T_at (v := Vu.all s2 q m), ← g2, e4, g3, T_at]
section
variable {w : World} {A : Option Addr} {n c : Nat} {l : List Int} {R C : Int}
theorem num_any (k : Int) (w : World) : Calls Try.prog 22 #[.int .i64 k] w fun e w' => e = .returned (.int .i64 k) ∧ w = w' := by
  go_enter Try.func22, Try.ntmps22
  go_wp2_with fail
  go_ret
  exact ⟨rfl, by first | rfl | trivial⟩
theorem float_true {a b : Nat} (ba : a ≤ 18446744073709551615) (bb : b ≤ 18446744073709551615) (h : af a = af b) (w : World) : Calls Try.prog 23 #[.float .f64 a, .float .f64 b] w fun e w' => e = .returned (.bool true) ∧ w = w' := by
  have e : one (a : Int) = one (b : Int) := one_fa (by omega) (by omega) (by omega) (by omega) (by rw [fa_nat, fa_nat]; exact h)
  have pa := fun W => rbits_any (x := (a : Int)) (by omega) (by omega) W
  have pb := fun W => rbits_any (x := (b : Int)) (by omega) (by omega) W
  rw [← e] at pb
  simp only [Int.toNat_natCast] at pa pb
  obtain ⟨X, hX⟩ : ∃ X, one (a : Int) = X := ⟨_, rfl⟩
  simp only [hX] at pa pb
  clear hX e
  go_enter Try.func23, Try.ntmps23
  go_wp2_with fail
  with_reducible refine (pa _).mono ?_
  rintro e w1 ⟨rfl, rfl⟩
  go_wp2_with fail
  with_reducible refine (pb _).mono ?_
  rintro e w1 ⟨rfl, rfl⟩
  go_wp2_with fail
  go_ret
  exact ⟨by first | rfl | simp, by first | rfl | trivial⟩
/-- more than is gone through, or none -/
def bigM (R C : Int) (n : Nat) : Bool := !(mayB R C n) || decide ((150 : Int) < n)
theorem big_any (R C : Int) (A : Option Addr) (n c : Nat) (hn : n ≤ 9223372036854775807) (w : World) : Calls Try.prog 15 #[mV R C A n c] w (Ans w (.bool (bigM R C n))) := by
  have pM := fun W => May_any R C A n c W hn
  have DB := Blk.new w [.int .i64 R, .int .i64 C, .slice A n c] 24
  obtain ⟨c0, c1, c2, f0, f1, f2⟩ := Mbx.cells DB
  unfold bigM
  cases hm : mayB R C n
  · simp only [hm] at pM
    clear hm
    go_enter Try.func15, Try.ntmps15
    go_wp2_with fail
    with_reducible refine (pM _).mono ?_
    rintro e w1 ⟨rfl, hb⟩
    go_wp2_with fail
    go_ret
    exact ⟨rfl, below_step hb⟩
  · simp only [hm] at pM
    clear hm
    go_enter Try.func15, Try.ntmps15
    go_wp2_with fail
    with_reducible refine (pM _).mono ?_
    rintro e w1 ⟨rfl, hb⟩
    clear c0 c1 c2 f0 f1 f2
    replace DB := DB.on hb
    obtain ⟨c0, c1, c2, f0, f1, f2⟩ := Mbx.cells DB
    go_wp2_with fail
    go_ret
    exact ⟨by simp, below_step hb⟩
theorem big_is {R C : Int} {n : Nat} (h : bigM R C n = false) : szB R C = true ∧ (n : Int) = R * C ∧ n ≤ 150 := by
  unfold bigM mayB at h
  obtain ⟨h1, h2⟩ := Bool.or_eq_false_iff.1 h
  have h3 : (szB R C && decide ((n : Int) = R * C)) = true := by simpa using h1
  obtain ⟨h4, h5⟩ := Bool.and_eq_true_iff.1 h3
  have := of_decide_eq_false h2
  exact ⟨h4, of_decide_eq_true h5, by omega⟩
theorem like_any {A2 : Option Addr} {n2 c2 : Nat} (R C : Int) (A : Option Addr) (n c : Nat) (w : World) : Calls Try.prog 28 #[mV R C A n c, .slice A2 n2 c2] w (Ans w (mV R C A2 n2 c2)) := by
  have DB := (Blk.new w [.int .i64 R, .int .i64 C, .slice A n c] 24).alloc (.cells #[.int .i64 0, .int .i64 0, .slice none 0 0] 24)
  have DZ := Blk.new (w.alloc (.cells #[.int .i64 R, .int .i64 C, .slice A n c] 24)) [.int .i64 0, .int .i64 0, .slice none 0 0] 24
  rw [World.size_alloc] at DZ
  have bz := ((Below.refl _ w).alloc (Nat.le_refl _) (.cells #[.int .i64 R, .int .i64 C, .slice A n c] 24)).alloc (by simp) (.cells #[.int .i64 0, .int .i64 0, .slice none 0 0] 24)
  obtain ⟨c0, c1, c2x, f0, f1, f2⟩ := Mbx.cells DB
  obtain ⟨z0, z1, z2, y0, y1, y2⟩ := Mbx.cells DZ
  go_enter Try.func28, Try.ntmps28
  go_wp2_with fail
  refine bodyPost_ret (v := mV R C A2 n2 c2) (by simp [results, Try.results28, go_sem, *]) rfl ?_
  exact ⟨rfl, by go_grown⟩
set_option maxRecDepth 100000 in
set_option maxHeartbeats 8000000 in
theorem shows_true {V : Vu} {G : List Int} (hv : Sv w V G) (h : FL w A n c l) (hR : V.R = R) (hC : V.C = C) (hs : sameL G l = true) : Calls Try.prog 30 #[V.V, mV R C A n c] w (Ans w (.bool true)) := by
  have HV := Lib.hid hv
  have DV := (Blk.new w V.L 30).alloc (.cells #[.int .i64 R, .int .i64 C, .slice A n c] 24)
  have DM := Blk.new (w.alloc (.cells V.L.toArray 30)) [.int .i64 R, .int .i64 C, .slice A n c] 24
  rw [World.size_alloc] at DM
  have bz := ((Below.refl _ w).alloc (Nat.le_refl _) (.cells V.L.toArray 30)).alloc (by simp) (.cells #[.int .i64 R, .int .i64 C, .slice A n c] 24)
  have hF := h.lo.on bz
  have HS := Lib.hid hs
  have HR := Lib.hid hR
  have HC := Lib.hid hC
  clear hv h hs hR hC
  go_enter Try.func30, Try.ntmps30
  go_wp2_with fail
  replace DV := DV.drew
  replace DM := DM.drew
  replace hF := hF.drew
  replace bz := bz.drew
  refine wp_region_held_drew (S := fun w9 : World => Vbx w9 w.heap.size V ∧ Mbx w9 (w.heap.size + 1) R C A n c) (by kernel_rfl) ⟨DV, DM⟩ (fun hS => ?_)
  refine wpAnyH_take (i := 0) (v := ?v0_1) rfl (by kernel_rfl) (by kernel_rfl) (by kernel_rfl) (fun _ _ _ h => h) (Or.inl ⟨by rfl, ?hy0_1⟩) (by assumption) ?rest0_1
  case hy0_1 => (intro w9 hSw; obtain ⟨m0, m1⟩ := hSw; refine (ld_v (by rfl) (by kernel_rfl) m0).trans ?_; with_reducible rfl)
  try simp only [Act.put, List.setIfInBounds_toArray, List.set_cons_zero, List.set_cons_succ, List.getElem_toArray, List.getElem_cons_zero, List.getElem_cons_succ]
  refine wpAnyH_take (i := 2) (v := ?v2_2) rfl (by kernel_rfl) (by kernel_rfl) (by kernel_rfl) (fun _ _ _ h => h) (Or.inl ⟨by rfl, ?hy2_2⟩) (by assumption) ?rest2_2
  case hy2_2 => (intro w9 hSw; obtain ⟨m0, m1⟩ := hSw; obtain ⟨c0, c1, c2, f0, f1, f2⟩ := Mbx.cells m1; go_simp; try with_reducible rfl)
  try simp only [Act.put, List.setIfInBounds_toArray, List.set_cons_zero, List.set_cons_succ, List.getElem_toArray, List.getElem_cons_zero, List.getElem_cons_succ]
  refine wpAnyH_ready (rs := [1]) (by kernel_rfl) (by simp) ?_
  refine AllReadyH.cons rfl (fun K hK => ?_) AllReadyH.nil
  go_simp
  with_reducible refine (svMat (HV.out.on bz)).mono ?_
  rintro e w1 ⟨A3, c3, rfl, ho, _, hb⟩
  replace DV := DV.on hb
  replace DM := DM.on hb
  replace hF := hF.on hb
  replace bz := bz.trans (hb.mono bz.size)
  clear hb
  rw [HR.out, HC.out]
  have hG : FL w1 A3 G.length c3 G := ho.fl HV.out.wd
  clear ho
  refine hK.out _ _ ⟨DV, DM⟩ (fun hH => ?_)
  clear hK K hS
  have hS := hH
  clear hH
  try simp only [Act.put, List.setIfInBounds_toArray, List.set_cons_zero, List.set_cons_succ, List.getElem_toArray, List.getElem_cons_zero, List.getElem_cons_succ]
  refine wpAnyH_ready (rs := [3]) (by kernel_rfl) (by simp) ?_
  refine AllReadyH.cons rfl (fun K hK => ?_) AllReadyH.nil
  go_simp
  have ps := SameMatrix_any R C R C hG hF.fl
  rw [show sameM R C G R C l = true by unfold sameM; rw [HS.out]; simp] at ps
  with_reducible refine (ps).mono ?_
  rintro e w2 ⟨rfl, hb⟩
  replace DV := DV.on hb
  replace DM := DM.on hb
  replace hF := hF.on hb
  replace hG := hG.on hb
  replace bz := bz.trans (hb.mono bz.size)
  clear hb ps
  refine hK.out _ _ ⟨DV, DM⟩ (fun hH => ?_)
  clear hK K hS
  have hS := hH
  clear hH
  try simp only [Act.put, List.setIfInBounds_toArray, List.set_cons_zero, List.set_cons_succ, List.getElem_toArray, List.getElem_cons_zero, List.getElem_cons_succ]
  refine wpAnyH_take (i := 4) (v := ?v4_3) rfl (by kernel_rfl) (by kernel_rfl) (by kernel_rfl) (fun _ _ _ h => h) (Or.inl ⟨by rfl, ?hy4_3⟩) (by assumption) ?rest4_3
  case hy4_3 => (intro w9 hSw; clear hSw; go_simp; try with_reducible rfl)
  try simp only [Act.put, List.setIfInBounds_toArray, List.set_cons_zero, List.set_cons_succ, List.getElem_toArray, List.getElem_cons_zero, List.getElem_cons_succ]
  refine wpAnyH_done (by kernel_rfl) ?_ _
  go_wp2_with fail
  go_ret
  exact ⟨rfl, bz⟩
theorem OwnF.lessB {w : World} {B B2 c : Nat} {A : Option Addr} {l : List Int} (h : OwnF w B A c l) (hb : B2 ≤ B) : OwnF w B2 A c l := h.less hb
theorem St.less {w : World} {B B2 s g cap c : Nat} {l : List Int} (h : St w B s g cap c l) (hb : B2 ≤ B) : St w B2 s g cap c l := ⟨h.box, h.own.less hb, h.ne, h.wd, Nat.le_trans hb h.lo, h.len, h.col⟩
set_option maxRecDepth 100000 in
set_option maxHeartbeats 8000000 in
theorem vec_any (h : FL w A n c l) (hn : n ≤ 512) : Calls Try.prog 54 #[.slice A n c] w (OfA w n 1 l) := by
  have hsz : szB n 1 = true := decide_eq_true (by omega)
  have hl : (n : Int) = n * 1 := by omega
  have DZ := Blk.new w Vu.zero.L 30
  have bz := (Below.refl _ w).alloc (Nat.le_refl _) (.cells Vu.zero.L.toArray 30)
  obtain ⟨⟨R0, R1, C0, C1⟩, p0, p1⟩ := szB_bd hsz
  have pO := Of_yes (w := (w.alloc (.cells Vu.zero.L.toArray 30))) (h.on bz) hsz hl
  have HL := Lib.hid (show (l.length : Int) = n * 1 by rw [h.1]; exact hl)
  have hz0 := DZ.lt
  clear h hl hsz
  go_enter Try.func54, Try.ntmps54
  go_wp2_with fail
  with_reducible refine (pO).mono ?_
  rintro e w1 ⟨s, g, cap, rfl, hs, hb⟩
  replace DZ := DZ.on hb
  replace bz := bz.trans (hb.mono bz.size)
  clear hb pO
  have hlo := hs.lo
  have hgt := hs.gt.1
  have hz1 : w.heap.size + 1 ≤ s ∧ w.heap.size + 1 ≤ g := by simp at hlo hgt; omega
  have D5 := Blk.new w1 ((Vu.all s n 1)).L 30
  obtain ⟨HD5, eHD5⟩ : ∃ H, w1.heap.size = H := ⟨_, rfl⟩
  rw [eHD5] at D5
  replace DZ := DZ.on ((Below.refl _ _).alloc (Nat.le_refl _) (.cells ((Vu.all s n 1)).L.toArray 30))
  replace hs := hs.on ((Below.refl _ _).alloc (Nat.le_refl _) (.cells ((Vu.all s n 1)).L.toArray 30))
  replace bz := bz.alloc bz.size (.cells ((Vu.all s n 1)).L.toArray 30)
  have HHD5 := Lib.hid eHD5
  obtain ⟨cD5_0, cD5_1, cD5_2, cD5_3, cD5_4, cD5_5, cD5_6, cD5_7, cD5_8⟩ := Vbx.cells D5
  obtain ⟨fc0, fc1, fc2, fc3, fc4, fc5, fc6, fc7, fc8⟩ := Vbx.cells DZ
  obtain ⟨fr0, fr1, fr2, fr3, fr4, fr5, fr6, fr7, fr8⟩ := Vbx.free DZ
  go_wp2_with fail
  refine bodyPost_ret (v := (Vu.all s n 1).V) (by simp [results, Try.results54, go_sem, *]) rfl ?_
  exact ⟨Vu.all s n 1, s, g, cap, _, l, rfl, ov_all ((hs.grown (set9_grown _ _ _ _ _ _ _ _ _ _ _) (by omega) (by omega)).less (by omega)) R0 R1 C0 C1 HL.out, bz.grown (set9_grown _ _ _ _ _ _ _ _ _ _ _) bz.size (fun k e => by cases e; omega)⟩
set_option maxRecDepth 100000 in
set_option maxHeartbeats 8000000 in
theorem two_any (h : FL w A 4 c l) : Calls Try.prog 58 #[.slice A 4 c] w (OfA w 2 2 l) := by
  have hsz : szB 2 2 = true := by decide
  have hl : ((4 : Nat) : Int) = 2 * 2 := by omega
  have DZ := Blk.new w Vu.zero.L 30
  have bz := (Below.refl _ w).alloc (Nat.le_refl _) (.cells Vu.zero.L.toArray 30)
  obtain ⟨⟨R0, R1, C0, C1⟩, p0, p1⟩ := szB_bd hsz
  have pO := Of_yes (w := (w.alloc (.cells Vu.zero.L.toArray 30))) (h.on bz) hsz hl
  have HL := Lib.hid (show (l.length : Int) = 2 * 2 by rw [h.1]; exact hl)
  have hz0 := DZ.lt
  clear h hl hsz
  go_enter Try.func58, Try.ntmps58
  go_wp2_with fail
  with_reducible refine (pO).mono ?_
  rintro e w1 ⟨s, g, cap, rfl, hs, hb⟩
  replace DZ := DZ.on hb
  replace bz := bz.trans (hb.mono bz.size)
  clear hb pO
  have hlo := hs.lo
  have hgt := hs.gt.1
  have hz1 : w.heap.size + 1 ≤ s ∧ w.heap.size + 1 ≤ g := by simp at hlo hgt; omega
  have D5 := Blk.new w1 ((Vu.all s 2 2)).L 30
  obtain ⟨HD5, eHD5⟩ : ∃ H, w1.heap.size = H := ⟨_, rfl⟩
  rw [eHD5] at D5
  replace DZ := DZ.on ((Below.refl _ _).alloc (Nat.le_refl _) (.cells ((Vu.all s 2 2)).L.toArray 30))
  replace hs := hs.on ((Below.refl _ _).alloc (Nat.le_refl _) (.cells ((Vu.all s 2 2)).L.toArray 30))
  replace bz := bz.alloc bz.size (.cells ((Vu.all s 2 2)).L.toArray 30)
  have HHD5 := Lib.hid eHD5
  obtain ⟨cD5_0, cD5_1, cD5_2, cD5_3, cD5_4, cD5_5, cD5_6, cD5_7, cD5_8⟩ := Vbx.cells D5
  obtain ⟨fc0, fc1, fc2, fc3, fc4, fc5, fc6, fc7, fc8⟩ := Vbx.cells DZ
  obtain ⟨fr0, fr1, fr2, fr3, fr4, fr5, fr6, fr7, fr8⟩ := Vbx.free DZ
  go_wp2_with fail
  refine bodyPost_ret (v := (Vu.all s 2 2).V) (by simp [results, Try.results58, go_sem, *]) rfl ?_
  exact ⟨Vu.all s 2 2, s, g, cap, _, l, rfl, ov_all ((hs.grown (set9_grown _ _ _ _ _ _ _ _ _ _ _) (by omega) (by omega)).less (by omega)) R0 R1 C0 C1 HL.out, bz.grown (set9_grown _ _ _ _ _ _ _ _ _ _ _) bz.size (fun k e => by cases e; omega)⟩
set_option maxRecDepth 100000 in
set_option maxHeartbeats 8000000 in
theorem of_false (h : FL w A n c l) (hsz : szB R C = true) (hl : (n : Int) = R * C) : Calls Try.prog 17 #[mV R C A n c, .bool false] w (OfA w R C l) := by
  have DM := (Blk.new w [.int .i64 R, .int .i64 C, .slice A n c] 24).alloc (.cells Vu.zero.L.toArray 30)
  have DZ := Blk.new (w.alloc (.cells #[.int .i64 R, .int .i64 C, .slice A n c] 24)) Vu.zero.L 30
  rw [World.size_alloc] at DZ
  have bz := ((Below.refl _ w).alloc (Nat.le_refl _) (.cells #[.int .i64 R, .int .i64 C, .slice A n c] 24)).alloc (by simp) (.cells Vu.zero.L.toArray 30)
  obtain ⟨⟨R0, R1, C0, C1⟩, p0, p1⟩ := szB_bd hsz
  have pO := Of_yes (w := ((w.alloc (.cells #[.int .i64 R, .int .i64 C, .slice A n c] 24)).alloc (.cells Vu.zero.L.toArray 30))) (h.on bz) hsz hl
  have HL := Lib.hid (show (l.length : Int) = R * C by rw [h.1]; exact hl)
  have hz0 := DZ.lt
  clear h hl hsz
  obtain ⟨c0, c1, c2, f0, f1, f2⟩ := Mbx.cells DM
  go_enter Try.func17, Try.ntmps17
  go_wp2_with fail
  with_reducible refine (pO).mono ?_
  rintro e w1 ⟨s, g, cap, rfl, hs, hb⟩
  replace DZ := DZ.on hb
  replace bz := bz.trans (hb.mono bz.size)
  clear hb pO c0 c1 c2 f0 f1 f2 DM
  have hlo := hs.lo
  have hgt := hs.gt.1
  have hz1 : w.heap.size + 2 ≤ s ∧ w.heap.size + 2 ≤ g := by simp at hlo hgt; omega
  have D5 := Blk.new w1 ((Vu.all s R C)).L 30
  obtain ⟨HD5, eHD5⟩ : ∃ H, w1.heap.size = H := ⟨_, rfl⟩
  rw [eHD5] at D5
  replace DZ := DZ.on ((Below.refl _ _).alloc (Nat.le_refl _) (.cells ((Vu.all s R C)).L.toArray 30))
  replace hs := hs.on ((Below.refl _ _).alloc (Nat.le_refl _) (.cells ((Vu.all s R C)).L.toArray 30))
  replace bz := bz.alloc bz.size (.cells ((Vu.all s R C)).L.toArray 30)
  have HHD5 := Lib.hid eHD5
  obtain ⟨cD5_0, cD5_1, cD5_2, cD5_3, cD5_4, cD5_5, cD5_6, cD5_7, cD5_8⟩ := Vbx.cells D5
  obtain ⟨fc0, fc1, fc2, fc3, fc4, fc5, fc6, fc7, fc8⟩ := Vbx.cells DZ
  obtain ⟨fr0, fr1, fr2, fr3, fr4, fr5, fr6, fr7, fr8⟩ := Vbx.free DZ
  go_wp2_with fail
  refine bodyPost_ret (v := (Vu.all s R C).V) (by simp [results, Try.results17, go_sem, *]) rfl ?_
  exact ⟨Vu.all s R C, s, g, cap, _, l, rfl, ov_all ((hs.grown (set9_grown _ _ _ _ _ _ _ _ _ _ _) (by omega) (by omega)).less (by omega)) R0 R1 C0 C1 HL.out, bz.grown (set9_grown _ _ _ _ _ _ _ _ _ _ _) bz.size (fun k e => by cases e; omega)⟩
set_option maxRecDepth 100000 in
set_option maxHeartbeats 8000000 in
theorem of_true (h : FL w A n c l) (hsz : szB R C = true) (hl : (n : Int) = R * C) : Calls Try.prog 17 #[mV R C A n c, .bool true] w (OfA w R C l) := by
  have DM := (Blk.new w [.int .i64 R, .int .i64 C, .slice A n c] 24).alloc (.cells Vu.zero.L.toArray 30)
  have DZ := Blk.new (w.alloc (.cells #[.int .i64 R, .int .i64 C, .slice A n c] 24)) Vu.zero.L 30
  rw [World.size_alloc] at DZ
  have bz := ((Below.refl _ w).alloc (Nat.le_refl _) (.cells #[.int .i64 R, .int .i64 C, .slice A n c] 24)).alloc (by simp) (.cells Vu.zero.L.toArray 30)
  obtain ⟨⟨R0, R1, C0, C1⟩, p0, p1⟩ := szB_bd hsz
  have pO := Of_yes (w := ((w.alloc (.cells #[.int .i64 R, .int .i64 C, .slice A n c] 24)).alloc (.cells Vu.zero.L.toArray 30))) (h.on bz) hsz hl
  have HL := Lib.hid (show (l.length : Int) = R * C by rw [h.1]; exact hl)
  have hz0 := DZ.lt
  clear h hl hsz
  obtain ⟨c0, c1, c2, f0, f1, f2⟩ := Mbx.cells DM
  go_enter Try.func17, Try.ntmps17
  go_wp2_with fail
  with_reducible refine (pO).mono ?_
  rintro e w1 ⟨s, g, cap, rfl, hs, hb⟩
  replace DZ := DZ.on hb
  replace bz := bz.trans (hb.mono bz.size)
  clear hb pO c0 c1 c2 f0 f1 f2 DM
  have hlo := hs.lo
  have hgt := hs.gt.1
  have hz1 : w.heap.size + 2 ≤ s ∧ w.heap.size + 2 ≤ g := by simp at hlo hgt; omega
  have D5 := Blk.new w1 ((Vu.all s R C)).L 30
  obtain ⟨HD5, eHD5⟩ : ∃ H, w1.heap.size = H := ⟨_, rfl⟩
  rw [eHD5] at D5
  replace DZ := DZ.on ((Below.refl _ _).alloc (Nat.le_refl _) (.cells ((Vu.all s R C)).L.toArray 30))
  replace hs := hs.on ((Below.refl _ _).alloc (Nat.le_refl _) (.cells ((Vu.all s R C)).L.toArray 30))
  replace bz := bz.alloc bz.size (.cells ((Vu.all s R C)).L.toArray 30)
  have HHD5 := Lib.hid eHD5
  obtain ⟨cD5_0, cD5_1, cD5_2, cD5_3, cD5_4, cD5_5, cD5_6, cD5_7, cD5_8⟩ := Vbx.cells D5
  obtain ⟨m, hm⟩ := Int.eq_ofNat_of_zero_le R0
  obtain ⟨q, hq⟩ := Int.eq_ofNat_of_zero_le C0
  subst hm hq
  go_wp2_with fail
  with_reducible refine (T_any (Vu.all s m q) _).mono ?_
  rintro e w2 ⟨rfl, hb⟩
  clear cD5_0 cD5_1 cD5_2 cD5_3 cD5_4 cD5_5 cD5_6 cD5_7 cD5_8
  replace DZ := DZ.on hb
  replace hs := hs.on hb
  replace D5 := D5.on hb
  replace bz := bz.trans (hb.mono bz.size)
  clear hb
  rw [show (Vu.all s (m : Int) (q : Int)).turnO = (Vu.all s m q).T from rfl]
  have hov := ov_all hs R0 R1 C0 C1 HL.out
  have hvk := turn_vk hov.vk
  rw [show (Vu.all s (m : Int) (q : Int)).turnO = (Vu.all s m q).T from rfl] at hvk
  go_wp2_with fail
  with_reducible refine (Matrix_fl hvk (fun _ => ⟨hs, rfl⟩)).mono ?_
  rintro e w3 ⟨A6, c6, rfl, hF, hb⟩
  replace DZ := DZ.on hb
  replace hs := hs.on hb
  replace D5 := D5.on hb
  replace bz := bz.trans (hb.mono bz.size)
  clear hb
  rw [show (Vu.all s (m : Int) (q : Int)).T.R = (q : Int) from rfl, show (Vu.all s (m : Int) (q : Int)).T.C = (m : Int) from rfl]
  have hTl : ((((Vu.all s (m : Int) (q : Int)).T).fl (q : Int).toNat l).length : Int) = (q : Int) * (m : Int) := by rw [fl_length]; show (((q : Int) * (m : Int)).toNat : Int) = _; have := Int.mul_nonneg C0 R0; omega
  have htf := fun s2 : Nat => turn_fl (s2 := s2) (v := Vu.all s (m : Int) (q : Int)) (c := (q : Int).toNat) (l := l) (m := m) (q := q) rfl rfl (by omega) (by omega)
  simp only [hov.fl] at htf
  obtain ⟨FT, hFT⟩ : ∃ z, ((Vu.all s (m : Int) (q : Int)).T).fl (q : Int).toNat l = z := ⟨_, rfl⟩
  rw [hFT] at hF hTl
  simp only [hFT] at htf ⊢
  have HTF := Lib.hid htf
  have HTL := Lib.hid hTl
  clear hFT htf hov hvk
  have hsz2 : szB (q : Int) (m : Int) = true := decide_eq_true (by omega)
  have hz3 := DZ.lt
  go_wp2_with fail
  with_reducible refine (Of_yes hF hsz2 hTl).mono ?_
  rintro e w4 ⟨s2, g2, cap2, rfl, hs2, hb⟩
  replace DZ := DZ.on hb
  replace hs := hs.on hb
  replace D5 := D5.on hb
  replace bz := bz.trans (hb.mono bz.size)
  clear hb hF hTl
  have hlo2 := hs2.lo
  have hgt2 := hs2.gt.1
  have hz5 : w.heap.size + 2 ≤ s2 ∧ w.heap.size + 2 ≤ g2 := by omega
  have D6 := Blk.new w4 ((Vu.all s2 q m)).L 30
  obtain ⟨HD6, eHD6⟩ : ∃ H, w4.heap.size = H := ⟨_, rfl⟩
  rw [eHD6] at D6
  replace DZ := DZ.on ((Below.refl _ _).alloc (Nat.le_refl _) (.cells ((Vu.all s2 q m)).L.toArray 30))
  replace hs := hs.on ((Below.refl _ _).alloc (Nat.le_refl _) (.cells ((Vu.all s2 q m)).L.toArray 30))
  replace D5 := D5.on ((Below.refl _ _).alloc (Nat.le_refl _) (.cells ((Vu.all s2 q m)).L.toArray 30))
  replace hs2 := hs2.on ((Below.refl _ _).alloc (Nat.le_refl _) (.cells ((Vu.all s2 q m)).L.toArray 30))
  replace bz := bz.alloc bz.size (.cells ((Vu.all s2 q m)).L.toArray 30)
  have HHD6 := Lib.hid eHD6
  obtain ⟨cD6_0, cD6_1, cD6_2, cD6_3, cD6_4, cD6_5, cD6_6, cD6_7, cD6_8⟩ := Vbx.cells D6
  go_wp2_with fail
  with_reducible refine (T_any (Vu.all s2 q m) _).mono ?_
  rintro e w5 ⟨rfl, hb⟩
  clear cD6_0 cD6_1 cD6_2 cD6_3 cD6_4 cD6_5 cD6_6 cD6_7 cD6_8
  replace DZ := DZ.on hb
  replace hs := hs.on hb
  replace D5 := D5.on hb
  replace hs2 := hs2.on hb
  replace D6 := D6.on hb
  replace bz := bz.trans (hb.mono bz.size)
  clear hb
  rw [show (Vu.all s2 (q : Int) (m : Int)).turnO = (Vu.all s2 q m).T from rfl]
  obtain ⟨fc0, fc1, fc2, fc3, fc4, fc5, fc6, fc7, fc8⟩ := Vbx.cells DZ
  obtain ⟨fr0, fr1, fr2, fr3, fr4, fr5, fr6, fr7, fr8⟩ := Vbx.free DZ
  go_wp2_with fail
  refine bodyPost_ret (v := ((Vu.all s2 q m).T).V) (by simp [results, Try.results17, go_sem, *]) rfl ?_
  refine ⟨(Vu.all s2 q m).T, s2, g2, cap2, _, FT, rfl, ⟨(hs2.grown (set9_grown _ _ _ _ _ _ _ _ _ _ _) (by omega) (by omega)).less (by omega), ?_, rfl, (inj_all s2 R0).T, ?_, rfl, rfl⟩, bz.grown (set9_grown _ _ _ _ _ _ _ _ _ _ _) bz.size (fun k e => by cases e; omega)⟩
  · exact turn_vk (all_vk s2 C0 C1 R0 R1 HTL.out)
  · rw [Int.toNat_natCast]; exact HTF.out s2
theorem of_any (turned : Bool) (h : FL w A n c l) (hsz : szB R C = true) (hl : (n : Int) = R * C) : Calls Try.prog 17 #[mV R C A n c, .bool turned] w (OfA w R C l) := by
  cases turned
  · exact of_false h hsz hl
  · exact of_true h hsz hl
end
end Go.Proofs.Ytfelmkkkaphkpaa
