/-
  Layer 8, walks: the program's Asum, Amax. (Written by wip/tools/gen_kng.py.)
-/
import Derived.Test.YtfelmkkkaphkpaaKnF
import Derived.Test.YtfelmkkkaphkpaaKnR
import Derived.Test.YtfelmkkkaphkpaaGuF
namespace Go.Proofs.Ytfelmkkkaphkpaa
open Go.RowKit Go.Bw Go.Sort Go.Shelf
set_option linter.unusedVariables false
set_option linter.unusedSimpArgs false

theorem ord_mag {a b : Nat} (ha : a ≤ 9218868437227405312) (hb : b ≤ 9218868437227405312) : gtA (some a) (some b) = decide (b < a) ∧ ltA (some a) (some b) = decide (a < b) ∧ eqA (some a) (some b) = decide (a = b) := by
  unfold gtA ltA eqA
  by_cases h1 : a = 9218868437227405312
  · have r1 : Ieee.double.read 9218868437227405312 = .infinity false := by decide
    subst h1
    by_cases h2 : b = 9218868437227405312
    · subst h2; decide
    · have hm : b % 9223372036854775808 = b := Nat.mod_eq_of_lt (by omega)
      have r2 := read_word b (by omega)
      have o : aord (some 9218868437227405312) (some b) = some .gt := by
        show (Ieee.double.read 9218868437227405312).order (Ieee.double.read b) = _
        rw [r1, r2]; rfl
      rw [o]
      refine ⟨by rw [decide_eq_true (by omega)]; rfl, by rw [decide_eq_false (by omega)]; rfl, by rw [decide_eq_false (by omega)]; rfl⟩
  · by_cases h2 : b = 9218868437227405312
    · have r1 : Ieee.double.read 9218868437227405312 = .infinity false := by decide
      subst h2
      have r2 := read_word a (by omega)
      have o : aord (some a) (some 9218868437227405312) = some .lt := by
        show (Ieee.double.read a).order (Ieee.double.read 9218868437227405312) = _
        rw [r1, r2]; rfl
      rw [o]
      refine ⟨by rw [decide_eq_false (by omega)]; rfl, by rw [decide_eq_true (by omega)]; rfl, by rw [decide_eq_false (by omega)]; rfl⟩
    · have f1 : fin (a : Int) = true := by unfold fin mag; simp; omega
      have f2 : fin (b : Int) = true := by unfold fin mag; simp; omega
      have h := order_lt a b (by omega) (by omega) f1 f2
      have s1 : sm (a : Int) = a := by unfold sm mag; rw [if_neg (by omega)]; omega
      have s2 : sm (b : Int) = b := by unfold sm mag; rw [if_neg (by omega)]; omega
      rw [s1, s2] at h
      have e : aord (some a) (some b) = FloatKind.f64.format.order a b := rfl
      rw [e, h.1, h.2.1, h.2.2]
      exact ⟨decide_eq_decide.2 (by constructor <;> intro h <;> omega), decide_eq_decide.2 (by constructor <;> intro h <;> omega), decide_eq_decide.2 (by constructor <;> intro h <;> omega)⟩
theorem mag_le {X r : Nat} (h : af r = absA (af X)) (bX : X ≤ 18446744073709551615) (br : r ≤ 18446744073709551615) (P : Nat) (hP : af P = some 0) (bP : P ≤ 18446744073709551615) :
    (FloatKind.f64.format.order r P == some .gt || FloatKind.f64.format.order r P == some .eq) = (FloatKind.f64.format.order r r == some .eq) := by
  rw [← gt_is br bP, ← eq_is br bP, ← eq_is br br, hP, h]
  cases hX : isN X
  · rw [af_some hX]
    have hx : X % 9223372036854775808 ≤ 9218868437227405312 := by
      unfold isN at hX
      have := of_decide_eq_false hX
      omega
    show (gtA (some (X % 9223372036854775808)) (some 0) || eqA (some (X % 9223372036854775808)) (some 0)) = eqA (some (X % 9223372036854775808)) (some (X % 9223372036854775808))
    rw [(ord_mag hx (by omega)).1, (ord_mag hx (by omega)).2.2, (ord_mag hx hx).2.2]
    by_cases h0 : X % 9223372036854775808 = 0
    · simp [h0]
    · have : 0 < X % 9223372036854775808 := by omega
      simp [this]
  · rw [af_none hX]; rfl
theorem gt_self {r P : Nat} (br : r ≤ 18446744073709551615) (bP : P ≤ 18446744073709551615) (h : (FloatKind.f64.format.order r P == some .gt) = true) : (FloatKind.f64.format.order r r == some .eq) = true := by
  rw [← gt_is br bP] at h
  rw [← eq_is br br]
  unfold gtA at h
  cases hr : isN r
  · rw [af_some hr]
    have hx := order_self_not br hr
    have e : FloatKind.f64.format.order r r = some .eq := by
      cases he : FloatKind.f64.format.order r r == some .eq
      · rw [bne, he] at hx; cases hx
      · exact eq_of_beq he
    have : eqA (af r) (af r) = true := by rw [eq_is br br, e]; rfl
    rwa [af_some hr] at this
  · rw [af_none hr] at h
    cases h
/-- the program's question is the reference's -/
theorem amx_ask {X r P : Nat} {p : Int} (h : af r = absA (af X)) (bX : X ≤ 18446744073709551615) (br : r ≤ 18446744073709551615) (bP : P ≤ 18446744073709551615) (hp : p < 0 → af P = some 0) {t1 t2 t3 : Bool}
    (e1 : (FloatKind.f64.format.order r P == some .gt) = t1) (e2 : decide (p < 0) = t2) (e3 : (FloatKind.f64.format.order r P == some .eq) = t3) :
    ((FloatKind.f64.format.order r r == some .eq) && (decide (p < 0) || (FloatKind.f64.format.order r P == some .gt))) = (t1 || (t2 && t3)) := by
  rw [e1, e2]
  cases h1 : t1
  · cases h2 : t2
    · simp
    · rw [h2] at e2
      have := mag_le h bX br P (hp (of_decide_eq_true e2)) bP
      rw [e1, e3, h1, Bool.false_or] at this
      rw [← this]
      simp
  · rw [h1] at e1
    rw [gt_self br bP e1]
    simp
section
variable {w : World} {x : Vu} {X : List Int}
set_option maxRecDepth 100000 in
set_option maxHeartbeats 8000000 in
theorem Asum_no (hx : Sv w x X) {E : Int} (he : refE x.vec [x] = E) (hn : E ≠ 0) : Calls Try.prog 19 #[x.V] w (Ans w (.tuple #[.float .f64 0, .int .i64 E])) := by
  have HSx := Lib.hid hx
  have hne : (E != 0) = true := by simpa using hn
  have HE := Lib.hid he
  clear hx he hn
  have Dx := Blk.new w x.L 30
  have bz := (Below.refl _ w).alloc (Nat.le_refl _) (.cells x.L.toArray 30)
  have hsz0 : (w.alloc (.cells x.L.toArray 30)).heap.size = w.heap.size + 1 := by simp
  go_enter Try.func19, Try.ntmps19
  go_wp2_with fail
  replace Dx := Dx.drew
  replace bz := bz.drew
  refine wp_region_held_drew (S := fun w9 : World => Vbx w9 w.heap.size x) (by kernel_rfl) Dx (fun hS => ?_)
  generalize (w.alloc (.cells x.L.toArray 30)).drew = wd at hS Dx  bz ⊢
  refine wpAnyH_take (i := 0) (v := ?v0_1) rfl (by kernel_rfl) (by kernel_rfl) (by kernel_rfl) (fun _ _ _ h => h) (Or.inl ⟨by rfl, ?hy0_1⟩) (by assumption) ?rest0_1
  case hy0_1 => (intro w9 hSw; have m0 : Vbx w9 w.heap.size x := hSw; refine (ld_v (by rfl) (by kernel_rfl) m0).trans ?_; with_reducible rfl)
  try simp only [Act.put, List.setIfInBounds_toArray, List.set_cons_zero, List.set_cons_succ, List.getElem_toArray, List.getElem_cons_zero, List.getElem_cons_succ]
  refine wpAnyH_take (i := 2) (v := ?v2_2) rfl (by kernel_rfl) (by kernel_rfl) (by kernel_rfl) (fun _ _ _ h => h) (Or.inl ⟨by rfl, ?hy2_2⟩) (by assumption) ?rest2_2
  case hy2_2 => (intro w9 hSw; have m0 : Vbx w9 w.heap.size x := hSw; refine (ld_v (by rfl) (by kernel_rfl) m0).trans ?_; with_reducible rfl)
  try simp only [Act.put, List.setIfInBounds_toArray, List.set_cons_zero, List.set_cons_succ, List.getElem_toArray, List.getElem_cons_zero, List.getElem_cons_succ]
  refine wpAnyH_ready (rs := [1, 3]) (by kernel_rfl) (by simp) ?_
  refine (AllReadyH.cons rfl (fun K hK => ?_) (AllReadyH.cons rfl (fun K hK => ?_) AllReadyH.nil))
  · go_simp
    with_reducible refine (Vector_any x _).mono ?_
    rintro e w1 ⟨rfl, hb⟩
    replace Dx := Dx.on hb
    replace bz := bz.trans (hb.mono bz.size)
    clear hb
    refine hK.out _ _ Dx (fun hH => ?_)
    clear hK K hS
    have hS := hH
    clear hH
    try simp only [Act.put, List.setIfInBounds_toArray, List.set_cons_zero, List.set_cons_succ, List.getElem_toArray, List.getElem_cons_zero, List.getElem_cons_succ]
    refine wpAnyH_ready (rs := [3]) (by kernel_rfl) (by simp) ?_
    refine AllReadyH.cons rfl (fun K hK => ?_) AllReadyH.nil
    go_simp
    have hL : VLs (w1.alloc (.cells #[.pointer x.p, .int .i64 x.f0, .int .i64 x.f1, .int .i64 x.d0, .int .i64 x.d1, .int .i64 x.r0, .int .i64 x.r1, .int .i64 x.R, .int .i64 x.C] 30)) ⟨w1.heap.size, 0, none⟩ [x] := VLs.of (Blk.new w1 ([x].flatMap Vu.L) 30)
    replace Dx := Dx.on ((Below.refl _ _).alloc (Nat.le_refl _) ((.cells #[.pointer x.p, .int .i64 x.f0, .int .i64 x.f1, .int .i64 x.d0, .int .i64 x.d1, .int .i64 x.r0, .int .i64 x.r1, .int .i64 x.R, .int .i64 x.C] 30)))
    replace bz := bz.alloc bz.size ((.cells #[.pointer x.p, .int .i64 x.f0, .int .i64 x.f1, .int .i64 x.d0, .int .i64 x.d1, .int .i64 x.r0, .int .i64 x.r1, .int .i64 x.R, .int .i64 x.C] 30))
    refine hK.out _ _ Dx (fun hH => ?_)
    clear hK K hS
    have hS := hH
    clear hH
    try simp only [Act.put, List.setIfInBounds_toArray, List.set_cons_zero, List.set_cons_succ, List.getElem_toArray, List.getElem_cons_zero, List.getElem_cons_succ]
    refine wpAnyH_ready (rs := [4]) (by kernel_rfl) (by simp) ?_
    refine AllReadyH.cons rfl (fun K hK => ?_) AllReadyH.nil
    go_simp
    with_reducible refine (refused_is x.vec (vs := [x]) (n := 1) rfl (by omega) hL (by intro z hz; simp only [List.mem_cons, List.mem_nil_iff, or_false] at hz; subst hz; exact ⟨_, HSx.out.on bz⟩)).mono ?_
    rintro e w2 ⟨rfl, hb⟩
    replace Dx := Dx.on hb
    replace hL := hL.on hb
    replace bz := bz.trans (hb.mono bz.size)
    clear hb hL
    rw [HE.out]
    refine hK.out _ _ Dx (fun hH => ?_)
    clear hK K hS
    have hS := hH
    clear hH
    try simp only [Act.put, List.setIfInBounds_toArray, List.set_cons_zero, List.set_cons_succ, List.getElem_toArray, List.getElem_cons_zero, List.getElem_cons_succ]
    refine wpAnyH_take (i := 5) (v := ?v5_3) rfl (by kernel_rfl) (by kernel_rfl) (by kernel_rfl) (fun _ _ _ h => h) (Or.inl ⟨by rfl, ?hy5_3⟩) (by assumption) ?rest5_3
    case hy5_3 => (intro w9 hSw; clear hSw; go_simp; try with_reducible rfl)
    try simp only [Act.put, List.setIfInBounds_toArray, List.set_cons_zero, List.set_cons_succ, List.getElem_toArray, List.getElem_cons_zero, List.getElem_cons_succ]
    refine wpAnyH_done (by kernel_rfl) ?_ _
    go_wp2_with fail
    go_ret2
    exact ⟨rfl, bz⟩
  · go_simp
    have hL : VLs (wd.alloc (.cells #[.pointer x.p, .int .i64 x.f0, .int .i64 x.f1, .int .i64 x.d0, .int .i64 x.d1, .int .i64 x.r0, .int .i64 x.r1, .int .i64 x.R, .int .i64 x.C] 30)) ⟨wd.heap.size, 0, none⟩ [x] := VLs.of (Blk.new wd ([x].flatMap Vu.L) 30)
    replace Dx := Dx.on ((Below.refl _ _).alloc (Nat.le_refl _) ((.cells #[.pointer x.p, .int .i64 x.f0, .int .i64 x.f1, .int .i64 x.d0, .int .i64 x.d1, .int .i64 x.r0, .int .i64 x.r1, .int .i64 x.R, .int .i64 x.C] 30)))
    replace bz := bz.alloc bz.size ((.cells #[.pointer x.p, .int .i64 x.f0, .int .i64 x.f1, .int .i64 x.d0, .int .i64 x.d1, .int .i64 x.r0, .int .i64 x.r1, .int .i64 x.R, .int .i64 x.C] 30))
    refine hK.out _ _ Dx (fun hH => ?_)
    clear hK K hS
    have hS := hH
    clear hH
    try simp only [Act.put, List.setIfInBounds_toArray, List.set_cons_zero, List.set_cons_succ, List.getElem_toArray, List.getElem_cons_zero, List.getElem_cons_succ]
    refine wpAnyH_ready (rs := [1]) (by kernel_rfl) (by simp) ?_
    refine AllReadyH.cons rfl (fun K hK => ?_) AllReadyH.nil
    go_simp
    with_reducible refine (Vector_any x _).mono ?_
    rintro e w1 ⟨rfl, hb⟩
    replace Dx := Dx.on hb
    replace hL := hL.on hb
    replace bz := bz.trans (hb.mono bz.size)
    clear hb
    refine hK.out _ _ Dx (fun hH => ?_)
    clear hK K hS
    have hS := hH
    clear hH
    try simp only [Act.put, List.setIfInBounds_toArray, List.set_cons_zero, List.set_cons_succ, List.getElem_toArray, List.getElem_cons_zero, List.getElem_cons_succ]
    refine wpAnyH_ready (rs := [4]) (by kernel_rfl) (by simp) ?_
    refine AllReadyH.cons rfl (fun K hK => ?_) AllReadyH.nil
    go_simp
    with_reducible refine (refused_is x.vec (vs := [x]) (n := 1) rfl (by omega) hL (by intro z hz; simp only [List.mem_cons, List.mem_nil_iff, or_false] at hz; subst hz; exact ⟨_, HSx.out.on bz⟩)).mono ?_
    rintro e w2 ⟨rfl, hb⟩
    replace Dx := Dx.on hb
    replace hL := hL.on hb
    replace bz := bz.trans (hb.mono bz.size)
    clear hb hL
    rw [HE.out]
    refine hK.out _ _ Dx (fun hH => ?_)
    clear hK K hS
    have hS := hH
    clear hH
    try simp only [Act.put, List.setIfInBounds_toArray, List.set_cons_zero, List.set_cons_succ, List.getElem_toArray, List.getElem_cons_zero, List.getElem_cons_succ]
    refine wpAnyH_take (i := 5) (v := ?v5_4) rfl (by kernel_rfl) (by kernel_rfl) (by kernel_rfl) (fun _ _ _ h => h) (Or.inl ⟨by rfl, ?hy5_4⟩) (by assumption) ?rest5_4
    case hy5_4 => (intro w9 hSw; clear hSw; go_simp; try with_reducible rfl)
    try simp only [Act.put, List.setIfInBounds_toArray, List.set_cons_zero, List.set_cons_succ, List.getElem_toArray, List.getElem_cons_zero, List.getElem_cons_succ]
    refine wpAnyH_done (by kernel_rfl) ?_ _
    go_wp2_with fail
    go_ret2
    exact ⟨rfl, bz⟩
set_option maxRecDepth 100000 in
set_option maxHeartbeats 8000000 in
theorem Asum_yes (hx : Sv w x X) (he : refE x.vec [x] = 0) : Calls Try.prog 19 #[x.V] w (fun e w' => ∃ r, e = .returned (.tuple #[.float .f64 r, .int .i64 0]) ∧ af r = asumA X X.length ∧ r ≤ 18446744073709551615 ∧ Below w.heap.size w w') := by
  have HSx := Lib.hid hx
  have hl4 : X.length ≤ 512 * 512 := by have h1 := hx.len; have h2 := prod_bd hx.R.1 hx.R.2 hx.C.1 hx.C.2; omega
  have hmx : X.length ≤ 9223372036854775807 := by omega
  have HE := Lib.hid he
  clear hx he
  have Dx := Blk.new w x.L 30
  have bz := (Below.refl _ w).alloc (Nat.le_refl _) (.cells x.L.toArray 30)
  have hsz0 : (w.alloc (.cells x.L.toArray 30)).heap.size = w.heap.size + 1 := by simp
  go_enter Try.func19, Try.ntmps19
  go_wp2_with fail
  replace Dx := Dx.drew
  replace bz := bz.drew
  refine wp_region_held_drew (S := fun w9 : World => Vbx w9 w.heap.size x) (by kernel_rfl) Dx (fun hS => ?_)
  generalize (w.alloc (.cells x.L.toArray 30)).drew = wd at hS Dx  bz ⊢
  refine wpAnyH_take (i := 0) (v := ?v0_5) rfl (by kernel_rfl) (by kernel_rfl) (by kernel_rfl) (fun _ _ _ h => h) (Or.inl ⟨by rfl, ?hy0_5⟩) (by assumption) ?rest0_5
  case hy0_5 => (intro w9 hSw; have m0 : Vbx w9 w.heap.size x := hSw; refine (ld_v (by rfl) (by kernel_rfl) m0).trans ?_; with_reducible rfl)
  try simp only [Act.put, List.setIfInBounds_toArray, List.set_cons_zero, List.set_cons_succ, List.getElem_toArray, List.getElem_cons_zero, List.getElem_cons_succ]
  refine wpAnyH_take (i := 2) (v := ?v2_6) rfl (by kernel_rfl) (by kernel_rfl) (by kernel_rfl) (fun _ _ _ h => h) (Or.inl ⟨by rfl, ?hy2_6⟩) (by assumption) ?rest2_6
  case hy2_6 => (intro w9 hSw; have m0 : Vbx w9 w.heap.size x := hSw; refine (ld_v (by rfl) (by kernel_rfl) m0).trans ?_; with_reducible rfl)
  try simp only [Act.put, List.setIfInBounds_toArray, List.set_cons_zero, List.set_cons_succ, List.getElem_toArray, List.getElem_cons_zero, List.getElem_cons_succ]
  refine wpAnyH_ready (rs := [1, 3]) (by kernel_rfl) (by simp) ?_
  refine (AllReadyH.cons rfl (fun K hK => ?_) (AllReadyH.cons rfl (fun K hK => ?_) AllReadyH.nil))
  · go_simp
    with_reducible refine (Vector_any x _).mono ?_
    rintro e w1 ⟨rfl, hb⟩
    replace Dx := Dx.on hb
    replace bz := bz.trans (hb.mono bz.size)
    clear hb
    refine hK.out _ _ Dx (fun hH => ?_)
    clear hK K hS
    have hS := hH
    clear hH
    try simp only [Act.put, List.setIfInBounds_toArray, List.set_cons_zero, List.set_cons_succ, List.getElem_toArray, List.getElem_cons_zero, List.getElem_cons_succ]
    refine wpAnyH_ready (rs := [3]) (by kernel_rfl) (by simp) ?_
    refine AllReadyH.cons rfl (fun K hK => ?_) AllReadyH.nil
    go_simp
    have hL : VLs (w1.alloc (.cells #[.pointer x.p, .int .i64 x.f0, .int .i64 x.f1, .int .i64 x.d0, .int .i64 x.d1, .int .i64 x.r0, .int .i64 x.r1, .int .i64 x.R, .int .i64 x.C] 30)) ⟨w1.heap.size, 0, none⟩ [x] := VLs.of (Blk.new w1 ([x].flatMap Vu.L) 30)
    replace Dx := Dx.on ((Below.refl _ _).alloc (Nat.le_refl _) ((.cells #[.pointer x.p, .int .i64 x.f0, .int .i64 x.f1, .int .i64 x.d0, .int .i64 x.d1, .int .i64 x.r0, .int .i64 x.r1, .int .i64 x.R, .int .i64 x.C] 30)))
    replace bz := bz.alloc bz.size ((.cells #[.pointer x.p, .int .i64 x.f0, .int .i64 x.f1, .int .i64 x.d0, .int .i64 x.d1, .int .i64 x.r0, .int .i64 x.r1, .int .i64 x.R, .int .i64 x.C] 30))
    refine hK.out _ _ Dx (fun hH => ?_)
    clear hK K hS
    have hS := hH
    clear hH
    try simp only [Act.put, List.setIfInBounds_toArray, List.set_cons_zero, List.set_cons_succ, List.getElem_toArray, List.getElem_cons_zero, List.getElem_cons_succ]
    refine wpAnyH_ready (rs := [4]) (by kernel_rfl) (by simp) ?_
    refine AllReadyH.cons rfl (fun K hK => ?_) AllReadyH.nil
    go_simp
    with_reducible refine (refused_is x.vec (vs := [x]) (n := 1) rfl (by omega) hL (by intro z hz; simp only [List.mem_cons, List.mem_nil_iff, or_false] at hz; subst hz; exact ⟨_, HSx.out.on bz⟩)).mono ?_
    rintro e w2 ⟨rfl, hb⟩
    replace Dx := Dx.on hb
    replace hL := hL.on hb
    replace bz := bz.trans (hb.mono bz.size)
    clear hb hL
    rw [HE.out]
    refine hK.out _ _ Dx (fun hH => ?_)
    clear hK K hS
    have hS := hH
    clear hH
    try simp only [Act.put, List.setIfInBounds_toArray, List.set_cons_zero, List.set_cons_succ, List.getElem_toArray, List.getElem_cons_zero, List.getElem_cons_succ]
    refine wpAnyH_take (i := 5) (v := ?v5_7) rfl (by kernel_rfl) (by kernel_rfl) (by kernel_rfl) (fun _ _ _ h => h) (Or.inl ⟨by rfl, ?hy5_7⟩) (by assumption) ?rest5_7
    case hy5_7 => (intro w9 hSw; clear hSw; go_simp; try with_reducible rfl)
    try simp only [Act.put, List.setIfInBounds_toArray, List.set_cons_zero, List.set_cons_succ, List.getElem_toArray, List.getElem_cons_zero, List.getElem_cons_succ]
    refine wpAnyH_done (by kernel_rfl) ?_ _
    obtain ⟨c0, c1, c2, c3, c4, c5, c6, c7, c8⟩ := Vbx.cells Dx
    go_wp2_with fail
    with_reducible refine (floats_is (HSx.out.on bz)).mono ?_
    rintro e w3 ⟨A, c, rfl, ho, hb⟩
    clear c0 c1 c2 c3 c4 c5 c6 c7 c8
    replace Dx := Dx.on hb
    replace bz := bz.trans (hb.mono bz.size)
    clear hb
    have hF := (ho.fl HSx.out.wd).on ((Below.refl _ w3).alloc (Nat.le_refl _) (.cells #[.slice A X.length c] 22))
    have DP := Blk.new w3 [.slice A X.length c] 22
    replace bz := bz.alloc bz.size (.cells #[.slice A X.length c] 22)
    have HC : Hid (∀ W, Dr (w3.alloc (.cells #[.slice A X.length c] 22)) W → ∀ k, k < X.length → Calls Try.prog 67 #[.int .i64 k, .pointer (some ⟨w3.heap.size, 0, none⟩)] W (FA (absA (fa (D X k))) W)) := Lib.hid (fun W hd k hk => asum1_any (hF.on hd.below) (DP.on hd.below) hk)
    have ps := sum_asum w3.heap.size _ X.length hmx HC
    have p0 := Blk.cell DP 0 rfl
    clear HC hF ho DP
    go_wp2_with fail
    with_reducible refine ps.mono ?_
    rintro e v1 ⟨r, rfl, hr, br, dr⟩
    have HR := Lib.hid hr
    clear hr ps
    go_wp2_with fail
    go_ret2
    exact ⟨r, rfl, HR.out, br, bz.trans (dr.below.mono bz.size)⟩
  · go_simp
    have hL : VLs (wd.alloc (.cells #[.pointer x.p, .int .i64 x.f0, .int .i64 x.f1, .int .i64 x.d0, .int .i64 x.d1, .int .i64 x.r0, .int .i64 x.r1, .int .i64 x.R, .int .i64 x.C] 30)) ⟨wd.heap.size, 0, none⟩ [x] := VLs.of (Blk.new wd ([x].flatMap Vu.L) 30)
    replace Dx := Dx.on ((Below.refl _ _).alloc (Nat.le_refl _) ((.cells #[.pointer x.p, .int .i64 x.f0, .int .i64 x.f1, .int .i64 x.d0, .int .i64 x.d1, .int .i64 x.r0, .int .i64 x.r1, .int .i64 x.R, .int .i64 x.C] 30)))
    replace bz := bz.alloc bz.size ((.cells #[.pointer x.p, .int .i64 x.f0, .int .i64 x.f1, .int .i64 x.d0, .int .i64 x.d1, .int .i64 x.r0, .int .i64 x.r1, .int .i64 x.R, .int .i64 x.C] 30))
    refine hK.out _ _ Dx (fun hH => ?_)
    clear hK K hS
    have hS := hH
    clear hH
    try simp only [Act.put, List.setIfInBounds_toArray, List.set_cons_zero, List.set_cons_succ, List.getElem_toArray, List.getElem_cons_zero, List.getElem_cons_succ]
    refine wpAnyH_ready (rs := [1]) (by kernel_rfl) (by simp) ?_
    refine AllReadyH.cons rfl (fun K hK => ?_) AllReadyH.nil
    go_simp
    with_reducible refine (Vector_any x _).mono ?_
    rintro e w1 ⟨rfl, hb⟩
    replace Dx := Dx.on hb
    replace hL := hL.on hb
    replace bz := bz.trans (hb.mono bz.size)
    clear hb
    refine hK.out _ _ Dx (fun hH => ?_)
    clear hK K hS
    have hS := hH
    clear hH
    try simp only [Act.put, List.setIfInBounds_toArray, List.set_cons_zero, List.set_cons_succ, List.getElem_toArray, List.getElem_cons_zero, List.getElem_cons_succ]
    refine wpAnyH_ready (rs := [4]) (by kernel_rfl) (by simp) ?_
    refine AllReadyH.cons rfl (fun K hK => ?_) AllReadyH.nil
    go_simp
    with_reducible refine (refused_is x.vec (vs := [x]) (n := 1) rfl (by omega) hL (by intro z hz; simp only [List.mem_cons, List.mem_nil_iff, or_false] at hz; subst hz; exact ⟨_, HSx.out.on bz⟩)).mono ?_
    rintro e w2 ⟨rfl, hb⟩
    replace Dx := Dx.on hb
    replace hL := hL.on hb
    replace bz := bz.trans (hb.mono bz.size)
    clear hb hL
    rw [HE.out]
    refine hK.out _ _ Dx (fun hH => ?_)
    clear hK K hS
    have hS := hH
    clear hH
    try simp only [Act.put, List.setIfInBounds_toArray, List.set_cons_zero, List.set_cons_succ, List.getElem_toArray, List.getElem_cons_zero, List.getElem_cons_succ]
    refine wpAnyH_take (i := 5) (v := ?v5_8) rfl (by kernel_rfl) (by kernel_rfl) (by kernel_rfl) (fun _ _ _ h => h) (Or.inl ⟨by rfl, ?hy5_8⟩) (by assumption) ?rest5_8
    case hy5_8 => (intro w9 hSw; clear hSw; go_simp; try with_reducible rfl)
    try simp only [Act.put, List.setIfInBounds_toArray, List.set_cons_zero, List.set_cons_succ, List.getElem_toArray, List.getElem_cons_zero, List.getElem_cons_succ]
    refine wpAnyH_done (by kernel_rfl) ?_ _
    obtain ⟨c0, c1, c2, c3, c4, c5, c6, c7, c8⟩ := Vbx.cells Dx
    go_wp2_with fail
    with_reducible refine (floats_is (HSx.out.on bz)).mono ?_
    rintro e w3 ⟨A, c, rfl, ho, hb⟩
    clear c0 c1 c2 c3 c4 c5 c6 c7 c8
    replace Dx := Dx.on hb
    replace bz := bz.trans (hb.mono bz.size)
    clear hb
    have hF := (ho.fl HSx.out.wd).on ((Below.refl _ w3).alloc (Nat.le_refl _) (.cells #[.slice A X.length c] 22))
    have DP := Blk.new w3 [.slice A X.length c] 22
    replace bz := bz.alloc bz.size (.cells #[.slice A X.length c] 22)
    have HC : Hid (∀ W, Dr (w3.alloc (.cells #[.slice A X.length c] 22)) W → ∀ k, k < X.length → Calls Try.prog 67 #[.int .i64 k, .pointer (some ⟨w3.heap.size, 0, none⟩)] W (FA (absA (fa (D X k))) W)) := Lib.hid (fun W hd k hk => asum1_any (hF.on hd.below) (DP.on hd.below) hk)
    have ps := sum_asum w3.heap.size _ X.length hmx HC
    have p0 := Blk.cell DP 0 rfl
    clear HC hF ho DP
    go_wp2_with fail
    with_reducible refine ps.mono ?_
    rintro e v1 ⟨r, rfl, hr, br, dr⟩
    have HR := Lib.hid hr
    clear hr ps
    go_wp2_with fail
    go_ret2
    exact ⟨r, rfl, HR.out, br, bz.trans (dr.below.mono bz.size)⟩
set_option maxRecDepth 100000 in
set_option maxHeartbeats 8000000 in
theorem Amax_no (hx : Sv w x X) {E : Int} (he : refE x.vec [x] = E) (hn : E ≠ 0) : Calls Try.prog 20 #[x.V] w (Ans w (.tuple #[.int .i64 0, .float .f64 0, .int .i64 E])) := by
  have HSx := Lib.hid hx
  have hne : (E != 0) = true := by simpa using hn
  have HE := Lib.hid he
  clear hx he hn
  have Dx := Blk.new w x.L 30
  have bz := (Below.refl _ w).alloc (Nat.le_refl _) (.cells x.L.toArray 30)
  have hsz0 : (w.alloc (.cells x.L.toArray 30)).heap.size = w.heap.size + 1 := by simp
  go_enter Try.func20, Try.ntmps20
  go_wp2_with fail
  replace Dx := Dx.drew
  replace bz := bz.drew
  refine wp_region_held_drew (S := fun w9 : World => Vbx w9 w.heap.size x) (by kernel_rfl) Dx (fun hS => ?_)
  generalize (w.alloc (.cells x.L.toArray 30)).drew = wd at hS Dx  bz ⊢
  refine wpAnyH_take (i := 0) (v := ?v0_9) rfl (by kernel_rfl) (by kernel_rfl) (by kernel_rfl) (fun _ _ _ h => h) (Or.inl ⟨by rfl, ?hy0_9⟩) (by assumption) ?rest0_9
  case hy0_9 => (intro w9 hSw; have m0 : Vbx w9 w.heap.size x := hSw; refine (ld_v (by rfl) (by kernel_rfl) m0).trans ?_; with_reducible rfl)
  try simp only [Act.put, List.setIfInBounds_toArray, List.set_cons_zero, List.set_cons_succ, List.getElem_toArray, List.getElem_cons_zero, List.getElem_cons_succ]
  refine wpAnyH_take (i := 2) (v := ?v2_10) rfl (by kernel_rfl) (by kernel_rfl) (by kernel_rfl) (fun _ _ _ h => h) (Or.inl ⟨by rfl, ?hy2_10⟩) (by assumption) ?rest2_10
  case hy2_10 => (intro w9 hSw; have m0 : Vbx w9 w.heap.size x := hSw; refine (ld_v (by rfl) (by kernel_rfl) m0).trans ?_; with_reducible rfl)
  try simp only [Act.put, List.setIfInBounds_toArray, List.set_cons_zero, List.set_cons_succ, List.getElem_toArray, List.getElem_cons_zero, List.getElem_cons_succ]
  refine wpAnyH_ready (rs := [1, 3]) (by kernel_rfl) (by simp) ?_
  refine (AllReadyH.cons rfl (fun K hK => ?_) (AllReadyH.cons rfl (fun K hK => ?_) AllReadyH.nil))
  · go_simp
    with_reducible refine (Vector_any x _).mono ?_
    rintro e w1 ⟨rfl, hb⟩
    replace Dx := Dx.on hb
    replace bz := bz.trans (hb.mono bz.size)
    clear hb
    refine hK.out _ _ Dx (fun hH => ?_)
    clear hK K hS
    have hS := hH
    clear hH
    try simp only [Act.put, List.setIfInBounds_toArray, List.set_cons_zero, List.set_cons_succ, List.getElem_toArray, List.getElem_cons_zero, List.getElem_cons_succ]
    refine wpAnyH_ready (rs := [3]) (by kernel_rfl) (by simp) ?_
    refine AllReadyH.cons rfl (fun K hK => ?_) AllReadyH.nil
    go_simp
    have hL : VLs (w1.alloc (.cells #[.pointer x.p, .int .i64 x.f0, .int .i64 x.f1, .int .i64 x.d0, .int .i64 x.d1, .int .i64 x.r0, .int .i64 x.r1, .int .i64 x.R, .int .i64 x.C] 30)) ⟨w1.heap.size, 0, none⟩ [x] := VLs.of (Blk.new w1 ([x].flatMap Vu.L) 30)
    replace Dx := Dx.on ((Below.refl _ _).alloc (Nat.le_refl _) ((.cells #[.pointer x.p, .int .i64 x.f0, .int .i64 x.f1, .int .i64 x.d0, .int .i64 x.d1, .int .i64 x.r0, .int .i64 x.r1, .int .i64 x.R, .int .i64 x.C] 30)))
    replace bz := bz.alloc bz.size ((.cells #[.pointer x.p, .int .i64 x.f0, .int .i64 x.f1, .int .i64 x.d0, .int .i64 x.d1, .int .i64 x.r0, .int .i64 x.r1, .int .i64 x.R, .int .i64 x.C] 30))
    refine hK.out _ _ Dx (fun hH => ?_)
    clear hK K hS
    have hS := hH
    clear hH
    try simp only [Act.put, List.setIfInBounds_toArray, List.set_cons_zero, List.set_cons_succ, List.getElem_toArray, List.getElem_cons_zero, List.getElem_cons_succ]
    refine wpAnyH_ready (rs := [4]) (by kernel_rfl) (by simp) ?_
    refine AllReadyH.cons rfl (fun K hK => ?_) AllReadyH.nil
    go_simp
    with_reducible refine (refused_is x.vec (vs := [x]) (n := 1) rfl (by omega) hL (by intro z hz; simp only [List.mem_cons, List.mem_nil_iff, or_false] at hz; subst hz; exact ⟨_, HSx.out.on bz⟩)).mono ?_
    rintro e w2 ⟨rfl, hb⟩
    replace Dx := Dx.on hb
    replace hL := hL.on hb
    replace bz := bz.trans (hb.mono bz.size)
    clear hb hL
    rw [HE.out]
    refine hK.out _ _ Dx (fun hH => ?_)
    clear hK K hS
    have hS := hH
    clear hH
    try simp only [Act.put, List.setIfInBounds_toArray, List.set_cons_zero, List.set_cons_succ, List.getElem_toArray, List.getElem_cons_zero, List.getElem_cons_succ]
    refine wpAnyH_take (i := 5) (v := ?v5_11) rfl (by kernel_rfl) (by kernel_rfl) (by kernel_rfl) (fun _ _ _ h => h) (Or.inl ⟨by rfl, ?hy5_11⟩) (by assumption) ?rest5_11
    case hy5_11 => (intro w9 hSw; clear hSw; go_simp; try with_reducible rfl)
    try simp only [Act.put, List.setIfInBounds_toArray, List.set_cons_zero, List.set_cons_succ, List.getElem_toArray, List.getElem_cons_zero, List.getElem_cons_succ]
    refine wpAnyH_done (by kernel_rfl) ?_ _
    go_wp2_with fail
    refine bodyPost_ret (v := .tuple #[.int .i64 0, .float .f64 0, .int .i64 E]) (by simp [results, Try.results20, go_sem]) rfl ?_
    exact ⟨rfl, bz⟩
  · go_simp
    have hL : VLs (wd.alloc (.cells #[.pointer x.p, .int .i64 x.f0, .int .i64 x.f1, .int .i64 x.d0, .int .i64 x.d1, .int .i64 x.r0, .int .i64 x.r1, .int .i64 x.R, .int .i64 x.C] 30)) ⟨wd.heap.size, 0, none⟩ [x] := VLs.of (Blk.new wd ([x].flatMap Vu.L) 30)
    replace Dx := Dx.on ((Below.refl _ _).alloc (Nat.le_refl _) ((.cells #[.pointer x.p, .int .i64 x.f0, .int .i64 x.f1, .int .i64 x.d0, .int .i64 x.d1, .int .i64 x.r0, .int .i64 x.r1, .int .i64 x.R, .int .i64 x.C] 30)))
    replace bz := bz.alloc bz.size ((.cells #[.pointer x.p, .int .i64 x.f0, .int .i64 x.f1, .int .i64 x.d0, .int .i64 x.d1, .int .i64 x.r0, .int .i64 x.r1, .int .i64 x.R, .int .i64 x.C] 30))
    refine hK.out _ _ Dx (fun hH => ?_)
    clear hK K hS
    have hS := hH
    clear hH
    try simp only [Act.put, List.setIfInBounds_toArray, List.set_cons_zero, List.set_cons_succ, List.getElem_toArray, List.getElem_cons_zero, List.getElem_cons_succ]
    refine wpAnyH_ready (rs := [1]) (by kernel_rfl) (by simp) ?_
    refine AllReadyH.cons rfl (fun K hK => ?_) AllReadyH.nil
    go_simp
    with_reducible refine (Vector_any x _).mono ?_
    rintro e w1 ⟨rfl, hb⟩
    replace Dx := Dx.on hb
    replace hL := hL.on hb
    replace bz := bz.trans (hb.mono bz.size)
    clear hb
    refine hK.out _ _ Dx (fun hH => ?_)
    clear hK K hS
    have hS := hH
    clear hH
    try simp only [Act.put, List.setIfInBounds_toArray, List.set_cons_zero, List.set_cons_succ, List.getElem_toArray, List.getElem_cons_zero, List.getElem_cons_succ]
    refine wpAnyH_ready (rs := [4]) (by kernel_rfl) (by simp) ?_
    refine AllReadyH.cons rfl (fun K hK => ?_) AllReadyH.nil
    go_simp
    with_reducible refine (refused_is x.vec (vs := [x]) (n := 1) rfl (by omega) hL (by intro z hz; simp only [List.mem_cons, List.mem_nil_iff, or_false] at hz; subst hz; exact ⟨_, HSx.out.on bz⟩)).mono ?_
    rintro e w2 ⟨rfl, hb⟩
    replace Dx := Dx.on hb
    replace hL := hL.on hb
    replace bz := bz.trans (hb.mono bz.size)
    clear hb hL
    rw [HE.out]
    refine hK.out _ _ Dx (fun hH => ?_)
    clear hK K hS
    have hS := hH
    clear hH
    try simp only [Act.put, List.setIfInBounds_toArray, List.set_cons_zero, List.set_cons_succ, List.getElem_toArray, List.getElem_cons_zero, List.getElem_cons_succ]
    refine wpAnyH_take (i := 5) (v := ?v5_12) rfl (by kernel_rfl) (by kernel_rfl) (by kernel_rfl) (fun _ _ _ h => h) (Or.inl ⟨by rfl, ?hy5_12⟩) (by assumption) ?rest5_12
    case hy5_12 => (intro w9 hSw; clear hSw; go_simp; try with_reducible rfl)
    try simp only [Act.put, List.setIfInBounds_toArray, List.set_cons_zero, List.set_cons_succ, List.getElem_toArray, List.getElem_cons_zero, List.getElem_cons_succ]
    refine wpAnyH_done (by kernel_rfl) ?_ _
    go_wp2_with fail
    refine bodyPost_ret (v := .tuple #[.int .i64 0, .float .f64 0, .int .i64 E]) (by simp [results, Try.results20, go_sem]) rfl ?_
    exact ⟨rfl, bz⟩
set_option maxRecDepth 100000 in
set_option maxHeartbeats 8000000 in
theorem Amax_yes (hx : Sv w x X) (he : refE x.vec [x] = 0) : Calls Try.prog 20 #[x.V] w (fun e w' => ∃ (p : Int) (P : Nat), e = .returned (.tuple #[.int .i64 p, .float .f64 P, .int .i64 0]) ∧ (p, af P) = amxA X X.length ∧ P ≤ 18446744073709551615 ∧ Below w.heap.size w w') := by
  have HSx := Lib.hid hx
  have hl4 : X.length ≤ 512 * 512 := by have h1 := hx.len; have h2 := prod_bd hx.R.1 hx.R.2 hx.C.1 hx.C.2; omega
  have hmx : X.length ≤ 9223372036854775807 := by omega
  have HE := Lib.hid he
  clear hx he
  have Dx := Blk.new w x.L 30
  have bz := (Below.refl _ w).alloc (Nat.le_refl _) (.cells x.L.toArray 30)
  have hsz0 : (w.alloc (.cells x.L.toArray 30)).heap.size = w.heap.size + 1 := by simp
  go_enter Try.func20, Try.ntmps20
  go_wp2_with fail
  replace Dx := Dx.drew
  replace bz := bz.drew
  refine wp_region_held_drew (S := fun w9 : World => Vbx w9 w.heap.size x) (by kernel_rfl) Dx (fun hS => ?_)
  generalize (w.alloc (.cells x.L.toArray 30)).drew = wd at hS Dx  bz ⊢
  refine wpAnyH_take (i := 0) (v := ?v0_13) rfl (by kernel_rfl) (by kernel_rfl) (by kernel_rfl) (fun _ _ _ h => h) (Or.inl ⟨by rfl, ?hy0_13⟩) (by assumption) ?rest0_13
  case hy0_13 => (intro w9 hSw; have m0 : Vbx w9 w.heap.size x := hSw; refine (ld_v (by rfl) (by kernel_rfl) m0).trans ?_; with_reducible rfl)
  try simp only [Act.put, List.setIfInBounds_toArray, List.set_cons_zero, List.set_cons_succ, List.getElem_toArray, List.getElem_cons_zero, List.getElem_cons_succ]
  refine wpAnyH_take (i := 2) (v := ?v2_14) rfl (by kernel_rfl) (by kernel_rfl) (by kernel_rfl) (fun _ _ _ h => h) (Or.inl ⟨by rfl, ?hy2_14⟩) (by assumption) ?rest2_14
  case hy2_14 => (intro w9 hSw; have m0 : Vbx w9 w.heap.size x := hSw; refine (ld_v (by rfl) (by kernel_rfl) m0).trans ?_; with_reducible rfl)
  try simp only [Act.put, List.setIfInBounds_toArray, List.set_cons_zero, List.set_cons_succ, List.getElem_toArray, List.getElem_cons_zero, List.getElem_cons_succ]
  refine wpAnyH_ready (rs := [1, 3]) (by kernel_rfl) (by simp) ?_
  refine (AllReadyH.cons rfl (fun K hK => ?_) (AllReadyH.cons rfl (fun K hK => ?_) AllReadyH.nil))
  · go_simp
    with_reducible refine (Vector_any x _).mono ?_
    rintro e w1 ⟨rfl, hb⟩
    replace Dx := Dx.on hb
    replace bz := bz.trans (hb.mono bz.size)
    clear hb
    refine hK.out _ _ Dx (fun hH => ?_)
    clear hK K hS
    have hS := hH
    clear hH
    try simp only [Act.put, List.setIfInBounds_toArray, List.set_cons_zero, List.set_cons_succ, List.getElem_toArray, List.getElem_cons_zero, List.getElem_cons_succ]
    refine wpAnyH_ready (rs := [3]) (by kernel_rfl) (by simp) ?_
    refine AllReadyH.cons rfl (fun K hK => ?_) AllReadyH.nil
    go_simp
    have hL : VLs (w1.alloc (.cells #[.pointer x.p, .int .i64 x.f0, .int .i64 x.f1, .int .i64 x.d0, .int .i64 x.d1, .int .i64 x.r0, .int .i64 x.r1, .int .i64 x.R, .int .i64 x.C] 30)) ⟨w1.heap.size, 0, none⟩ [x] := VLs.of (Blk.new w1 ([x].flatMap Vu.L) 30)
    replace Dx := Dx.on ((Below.refl _ _).alloc (Nat.le_refl _) ((.cells #[.pointer x.p, .int .i64 x.f0, .int .i64 x.f1, .int .i64 x.d0, .int .i64 x.d1, .int .i64 x.r0, .int .i64 x.r1, .int .i64 x.R, .int .i64 x.C] 30)))
    replace bz := bz.alloc bz.size ((.cells #[.pointer x.p, .int .i64 x.f0, .int .i64 x.f1, .int .i64 x.d0, .int .i64 x.d1, .int .i64 x.r0, .int .i64 x.r1, .int .i64 x.R, .int .i64 x.C] 30))
    refine hK.out _ _ Dx (fun hH => ?_)
    clear hK K hS
    have hS := hH
    clear hH
    try simp only [Act.put, List.setIfInBounds_toArray, List.set_cons_zero, List.set_cons_succ, List.getElem_toArray, List.getElem_cons_zero, List.getElem_cons_succ]
    refine wpAnyH_ready (rs := [4]) (by kernel_rfl) (by simp) ?_
    refine AllReadyH.cons rfl (fun K hK => ?_) AllReadyH.nil
    go_simp
    with_reducible refine (refused_is x.vec (vs := [x]) (n := 1) rfl (by omega) hL (by intro z hz; simp only [List.mem_cons, List.mem_nil_iff, or_false] at hz; subst hz; exact ⟨_, HSx.out.on bz⟩)).mono ?_
    rintro e w2 ⟨rfl, hb⟩
    replace Dx := Dx.on hb
    replace hL := hL.on hb
    replace bz := bz.trans (hb.mono bz.size)
    clear hb hL
    rw [HE.out]
    refine hK.out _ _ Dx (fun hH => ?_)
    clear hK K hS
    have hS := hH
    clear hH
    try simp only [Act.put, List.setIfInBounds_toArray, List.set_cons_zero, List.set_cons_succ, List.getElem_toArray, List.getElem_cons_zero, List.getElem_cons_succ]
    refine wpAnyH_take (i := 5) (v := ?v5_15) rfl (by kernel_rfl) (by kernel_rfl) (by kernel_rfl) (fun _ _ _ h => h) (Or.inl ⟨by rfl, ?hy5_15⟩) (by assumption) ?rest5_15
    case hy5_15 => (intro w9 hSw; clear hSw; go_simp; try with_reducible rfl)
    try simp only [Act.put, List.setIfInBounds_toArray, List.set_cons_zero, List.set_cons_succ, List.getElem_toArray, List.getElem_cons_zero, List.getElem_cons_succ]
    refine wpAnyH_done (by kernel_rfl) ?_ _
    obtain ⟨c0, c1, c2, c3, c4, c5, c6, c7, c8⟩ := Vbx.cells Dx
    go_wp2_with fail
    with_reducible refine (floats_is (HSx.out.on bz)).mono ?_
    rintro e w3 ⟨A, c, rfl, ho, hb⟩
    clear c0 c1 c2 c3 c4 c5 c6 c7 c8
    replace Dx := Dx.on hb
    replace bz := bz.trans (hb.mono bz.size)
    clear hb
    have HH := Lib.hid (ho.fl HSx.out.wd)
    clear ho
    obtain ⟨n, hn⟩ : ∃ n, X.length = n := ⟨_, rfl⟩
    have HLn := Lib.hid hn
    simp only [hn] at HH hmx ⊢
    clear hn
    have b0 : (0 : Nat) ≤ 18446744073709551615 := by omega
    go_wp2_with fail
    go_loopw [6, 7, 22] (fun pl top i wr => ∃ (k : Nat) (p : Int) (P : Nat), k ≤ n ∧ i = .int .i64 k ∧ pl = .int .i64 p ∧ top = .float .f64 P ∧ Hid ((p, af P) = amxA X k ∧ (p < 0 → af P = some 0)) ∧ (P ≤ 18446744073709551615 ∧ -1 ≤ p ∧ p ≤ 9223372036854775807) ∧ w3 = wr) (fun _ _ i _ => n - (intOf i).toNat)
    case atStart => exact ⟨0, -1, 0, Nat.zero_le _, rfl, rfl, rfl, Lib.hid ⟨by rw [af_zero]; rfl, fun _ => af_zero⟩, ⟨b0, by omega, by omega⟩, rfl⟩
    case round =>
      obtain ⟨k, p, P, hk, rfl, rfl, rfl, HN, ⟨bP, p0, p1⟩, rfl⟩ := hrel
      by_cases hlt : k < n
      · obtain ⟨ad, hA, hb1, hc1⟩ := HH.out.at_ hlt
        obtain ⟨x0, x1⟩ := HH.out.2.2.at_ k
        have bX : (D X k).toNat ≤ 18446744073709551615 := by omega
        have HX : Hid (af (D X k).toNat = fa (D X k)) := Lib.hid rfl
        generalize (D X k).toNat = Xk at *
        subst hA
        have k0 : (0 : Int) ≤ k := by omega
        have k1 : (k : Int) < n := by omega
        clear x0 x1 hb1
        go_wp2_with fail
        with_reducible refine (Abs_any bX _).mono ?_
        rintro e v1 ⟨r1, rfl, h1, b1, rfl⟩
        have hask := fun t1 t2 t3 e1 e2 e3 => amx_ask (p := p) h1 bX b1 bP HN.out.2 (t1 := t1) (t2 := t2) (t3 := t3) e1 e2 e3
        rw [HX.out] at h1
        have HP := Lib.hid (fun (t1 t2 t3 : Bool) e1 e2 e3 => (amx_pick (k := k) HN.out.1 h1 b1 bP (t1 := _) (t2 := _) (t3 := _) rfl rfl rfl).trans (by rw [hask t1 t2 t3 e1 e2 e3]))
        have HN2 := Lib.hid HN.out.2
        clear h1 HX HN hask
        cases e1 : (FloatKind.f64.format.order r1 P == some .gt)
        · by_cases e2 : p < 0
          · cases e3 : (FloatKind.f64.format.order r1 P == some .eq)
            · skip
              have HK : Hid ((p, af P) = amxA X (k + 1) ∧ (p < 0 → af P = some 0)) := Lib.hid ⟨(HP.out false true false e1 (decide_eq_true e2) e3).symm, HN2.out⟩
              go_wp2_with fail
              go_roundw
              case rel => exact ⟨k + 1, p, P, by omega, by go_num, rfl, rfl, HK, ⟨bP, p0, p1⟩, (by first | rfl | trivial)⟩
              case measure => simp [intOf]; omega
            · skip
              have HK : Hid (((k : Int), af r1) = amxA X (k + 1) ∧ ((k : Int) < 0 → af r1 = some 0)) := Lib.hid ⟨(HP.out false true true e1 (decide_eq_true e2) e3).symm, fun h => by omega⟩
              go_wp2_with fail
              go_roundw
              case rel => exact ⟨k + 1, k, r1, by omega, by go_num, rfl, rfl, HK, ⟨b1, by omega, by omega⟩, (by first | rfl | trivial)⟩
              case measure => simp [intOf]; omega
          · skip
            have HK : Hid ((p, af P) = amxA X (k + 1) ∧ (p < 0 → af P = some 0)) := Lib.hid ⟨(HP.out false false _ e1 (decide_eq_false e2) rfl).symm, HN2.out⟩
            go_wp2_with fail
            go_roundw
            case rel => exact ⟨k + 1, p, P, by omega, by go_num, rfl, rfl, HK, ⟨bP, p0, p1⟩, (by first | rfl | trivial)⟩
            case measure => simp [intOf]; omega
        · skip
          have HK : Hid (((k : Int), af r1) = amxA X (k + 1) ∧ ((k : Int) < 0 → af r1 = some 0)) := Lib.hid ⟨(HP.out true _ _ e1 rfl rfl).symm, fun h => by omega⟩
          go_wp2_with fail
          go_roundw
          case rel => exact ⟨k + 1, k, r1, by omega, by go_num, rfl, rfl, HK, ⟨b1, by omega, by omega⟩, (by first | rfl | trivial)⟩
          case measure => simp [intOf]; omega
      · obtain rfl : k = n := by omega
        go_wp2_with fail
        refine bodyPost_ret (v := .tuple #[.int .i64 p, .float .f64 P, .int .i64 0]) (by simp [results, Try.results20, go_sem]) rfl ?_
        exact ⟨p, P, rfl, by rw [HLn.out]; exact HN.out.1, bP, bz⟩
  · go_simp
    have hL : VLs (wd.alloc (.cells #[.pointer x.p, .int .i64 x.f0, .int .i64 x.f1, .int .i64 x.d0, .int .i64 x.d1, .int .i64 x.r0, .int .i64 x.r1, .int .i64 x.R, .int .i64 x.C] 30)) ⟨wd.heap.size, 0, none⟩ [x] := VLs.of (Blk.new wd ([x].flatMap Vu.L) 30)
    replace Dx := Dx.on ((Below.refl _ _).alloc (Nat.le_refl _) ((.cells #[.pointer x.p, .int .i64 x.f0, .int .i64 x.f1, .int .i64 x.d0, .int .i64 x.d1, .int .i64 x.r0, .int .i64 x.r1, .int .i64 x.R, .int .i64 x.C] 30)))
    replace bz := bz.alloc bz.size ((.cells #[.pointer x.p, .int .i64 x.f0, .int .i64 x.f1, .int .i64 x.d0, .int .i64 x.d1, .int .i64 x.r0, .int .i64 x.r1, .int .i64 x.R, .int .i64 x.C] 30))
    refine hK.out _ _ Dx (fun hH => ?_)
    clear hK K hS
    have hS := hH
    clear hH
    try simp only [Act.put, List.setIfInBounds_toArray, List.set_cons_zero, List.set_cons_succ, List.getElem_toArray, List.getElem_cons_zero, List.getElem_cons_succ]
    refine wpAnyH_ready (rs := [1]) (by kernel_rfl) (by simp) ?_
    refine AllReadyH.cons rfl (fun K hK => ?_) AllReadyH.nil
    go_simp
    with_reducible refine (Vector_any x _).mono ?_
    rintro e w1 ⟨rfl, hb⟩
    replace Dx := Dx.on hb
    replace hL := hL.on hb
    replace bz := bz.trans (hb.mono bz.size)
    clear hb
    refine hK.out _ _ Dx (fun hH => ?_)
    clear hK K hS
    have hS := hH
    clear hH
    try simp only [Act.put, List.setIfInBounds_toArray, List.set_cons_zero, List.set_cons_succ, List.getElem_toArray, List.getElem_cons_zero, List.getElem_cons_succ]
    refine wpAnyH_ready (rs := [4]) (by kernel_rfl) (by simp) ?_
    refine AllReadyH.cons rfl (fun K hK => ?_) AllReadyH.nil
    go_simp
    with_reducible refine (refused_is x.vec (vs := [x]) (n := 1) rfl (by omega) hL (by intro z hz; simp only [List.mem_cons, List.mem_nil_iff, or_false] at hz; subst hz; exact ⟨_, HSx.out.on bz⟩)).mono ?_
    rintro e w2 ⟨rfl, hb⟩
    replace Dx := Dx.on hb
    replace hL := hL.on hb
    replace bz := bz.trans (hb.mono bz.size)
    clear hb hL
    rw [HE.out]
    refine hK.out _ _ Dx (fun hH => ?_)
    clear hK K hS
    have hS := hH
    clear hH
    try simp only [Act.put, List.setIfInBounds_toArray, List.set_cons_zero, List.set_cons_succ, List.getElem_toArray, List.getElem_cons_zero, List.getElem_cons_succ]
    refine wpAnyH_take (i := 5) (v := ?v5_16) rfl (by kernel_rfl) (by kernel_rfl) (by kernel_rfl) (fun _ _ _ h => h) (Or.inl ⟨by rfl, ?hy5_16⟩) (by assumption) ?rest5_16
    case hy5_16 => (intro w9 hSw; clear hSw; go_simp; try with_reducible rfl)
    try simp only [Act.put, List.setIfInBounds_toArray, List.set_cons_zero, List.set_cons_succ, List.getElem_toArray, List.getElem_cons_zero, List.getElem_cons_succ]
    refine wpAnyH_done (by kernel_rfl) ?_ _
    obtain ⟨c0, c1, c2, c3, c4, c5, c6, c7, c8⟩ := Vbx.cells Dx
    go_wp2_with fail
    with_reducible refine (floats_is (HSx.out.on bz)).mono ?_
    rintro e w3 ⟨A, c, rfl, ho, hb⟩
    clear c0 c1 c2 c3 c4 c5 c6 c7 c8
    replace Dx := Dx.on hb
    replace bz := bz.trans (hb.mono bz.size)
    clear hb
    have HH := Lib.hid (ho.fl HSx.out.wd)
    clear ho
    obtain ⟨n, hn⟩ : ∃ n, X.length = n := ⟨_, rfl⟩
    have HLn := Lib.hid hn
    simp only [hn] at HH hmx ⊢
    clear hn
    have b0 : (0 : Nat) ≤ 18446744073709551615 := by omega
    go_wp2_with fail
    go_loopw [6, 7, 22] (fun pl top i wr => ∃ (k : Nat) (p : Int) (P : Nat), k ≤ n ∧ i = .int .i64 k ∧ pl = .int .i64 p ∧ top = .float .f64 P ∧ Hid ((p, af P) = amxA X k ∧ (p < 0 → af P = some 0)) ∧ (P ≤ 18446744073709551615 ∧ -1 ≤ p ∧ p ≤ 9223372036854775807) ∧ w3 = wr) (fun _ _ i _ => n - (intOf i).toNat)
    case atStart => exact ⟨0, -1, 0, Nat.zero_le _, rfl, rfl, rfl, Lib.hid ⟨by rw [af_zero]; rfl, fun _ => af_zero⟩, ⟨b0, by omega, by omega⟩, rfl⟩
    case round =>
      obtain ⟨k, p, P, hk, rfl, rfl, rfl, HN, ⟨bP, p0, p1⟩, rfl⟩ := hrel
      by_cases hlt : k < n
      · obtain ⟨ad, hA, hb1, hc1⟩ := HH.out.at_ hlt
        obtain ⟨x0, x1⟩ := HH.out.2.2.at_ k
        have bX : (D X k).toNat ≤ 18446744073709551615 := by omega
        have HX : Hid (af (D X k).toNat = fa (D X k)) := Lib.hid rfl
        generalize (D X k).toNat = Xk at *
        subst hA
        have k0 : (0 : Int) ≤ k := by omega
        have k1 : (k : Int) < n := by omega
        clear x0 x1 hb1
        go_wp2_with fail
        with_reducible refine (Abs_any bX _).mono ?_
        rintro e v1 ⟨r1, rfl, h1, b1, rfl⟩
        have hask := fun t1 t2 t3 e1 e2 e3 => amx_ask (p := p) h1 bX b1 bP HN.out.2 (t1 := t1) (t2 := t2) (t3 := t3) e1 e2 e3
        rw [HX.out] at h1
        have HP := Lib.hid (fun (t1 t2 t3 : Bool) e1 e2 e3 => (amx_pick (k := k) HN.out.1 h1 b1 bP (t1 := _) (t2 := _) (t3 := _) rfl rfl rfl).trans (by rw [hask t1 t2 t3 e1 e2 e3]))
        have HN2 := Lib.hid HN.out.2
        clear h1 HX HN hask
        cases e1 : (FloatKind.f64.format.order r1 P == some .gt)
        · by_cases e2 : p < 0
          · cases e3 : (FloatKind.f64.format.order r1 P == some .eq)
            · skip
              have HK : Hid ((p, af P) = amxA X (k + 1) ∧ (p < 0 → af P = some 0)) := Lib.hid ⟨(HP.out false true false e1 (decide_eq_true e2) e3).symm, HN2.out⟩
              go_wp2_with fail
              go_roundw
              case rel => exact ⟨k + 1, p, P, by omega, by go_num, rfl, rfl, HK, ⟨bP, p0, p1⟩, (by first | rfl | trivial)⟩
              case measure => simp [intOf]; omega
            · skip
              have HK : Hid (((k : Int), af r1) = amxA X (k + 1) ∧ ((k : Int) < 0 → af r1 = some 0)) := Lib.hid ⟨(HP.out false true true e1 (decide_eq_true e2) e3).symm, fun h => by omega⟩
              go_wp2_with fail
              go_roundw
              case rel => exact ⟨k + 1, k, r1, by omega, by go_num, rfl, rfl, HK, ⟨b1, by omega, by omega⟩, (by first | rfl | trivial)⟩
              case measure => simp [intOf]; omega
          · skip
            have HK : Hid ((p, af P) = amxA X (k + 1) ∧ (p < 0 → af P = some 0)) := Lib.hid ⟨(HP.out false false _ e1 (decide_eq_false e2) rfl).symm, HN2.out⟩
            go_wp2_with fail
            go_roundw
            case rel => exact ⟨k + 1, p, P, by omega, by go_num, rfl, rfl, HK, ⟨bP, p0, p1⟩, (by first | rfl | trivial)⟩
            case measure => simp [intOf]; omega
        · skip
          have HK : Hid (((k : Int), af r1) = amxA X (k + 1) ∧ ((k : Int) < 0 → af r1 = some 0)) := Lib.hid ⟨(HP.out true _ _ e1 rfl rfl).symm, fun h => by omega⟩
          go_wp2_with fail
          go_roundw
          case rel => exact ⟨k + 1, k, r1, by omega, by go_num, rfl, rfl, HK, ⟨b1, by omega, by omega⟩, (by first | rfl | trivial)⟩
          case measure => simp [intOf]; omega
      · obtain rfl : k = n := by omega
        go_wp2_with fail
        refine bodyPost_ret (v := .tuple #[.int .i64 p, .float .f64 P, .int .i64 0]) (by simp [results, Try.results20, go_sem]) rfl ?_
        exact ⟨p, P, rfl, by rw [HLn.out]; exact HN.out.1, bP, bz⟩
end
end Go.Proofs.Ytfelmkkkaphkpaa
