/-
  Layer 2, walks, part fifteen: the estimate of a quotient's limb.
-/
import Derived.Test.YtigphbjgodfhpaaDoorNatO
import Derived.Scope
import Derived.WalkMore
import Derived.ScopeJumps
namespace Go.Proofs.YtigphbjgodfhpaaDoor
open Go.RowKit
set_option linter.unusedVariables false

/-- the estimate: how often the two limbs are in the three, capped at the greatest limb -/
def EstPost (r0 r1 r2 b0 b1 : Int) (w : World) (e : Ending) (w' : World) : Prop :=
  ∃ t : Int, e = .returned (.int .u64 t) ∧ 0 ≤ t ∧ t ≤ 18446744073709551615 ∧
    Hid (t * (b0 * 18446744073709551616 + b1) ≤ (r0 * 18446744073709551616 + r1) * 18446744073709551616 + r2 ∧
      (t = 18446744073709551615 ∨ (r0 * 18446744073709551616 + r1) * 18446744073709551616 + r2 < (t + 1) * (b0 * 18446744073709551616 + b1))) ∧ Below w.heap.size w w'

/-- what holds of the estimate and of what is left, at the label -/
def EstEq (r0 r1 r2 b0 b1 t left : Int) : Prop :=
  t * b0 + left = r0 * 18446744073709551616 + r1 ∧ (t = 18446744073709551615 ∨ (r0 * 18446744073709551616 + r1) * 18446744073709551616 + r2 < (t + 1) * (b0 * 18446744073709551616 + b1))
def EstInv (r0 r1 r2 b0 b1 t left : Int) : Prop := 0 ≤ t ∧ t ≤ 18446744073709551615 ∧ 0 ≤ left ∧ left < 18446744073709551616 ∧ EstEq r0 r1 r2 b0 b1 t left

section
variable {r0 r1 r2 b0 b1 t left hi lo : Int}
theorem est_more (h : EstEq r0 r1 r2 b0 b1 t left) (hm : t * b1 = hi * 18446744073709551616 + lo) (h10 : 0 ≤ r1) (h20 : 0 ≤ r2) (hb0 : 0 < b0) (hb2 : 0 ≤ b1) (i0 : 0 ≤ t) (i2 : 0 ≤ left) (m2 : 0 ≤ lo) (m3 : lo < 18446744073709551616) (h21 : r2 < 18446744073709551616)
    (hc : left < hi ∨ (hi = left ∧ r2 < lo)) : 1 ≤ t ∧ (r0 * 18446744073709551616 + r1) * 18446744073709551616 + r2 < t * (b0 * 18446744073709551616 + b1) := by
  have h1 : left * 18446744073709551616 + r2 < t * b1 := by rw [hm]; omega
  obtain ⟨h2, _⟩ := h
  constructor
  · rcases (show t = 0 ∨ 1 ≤ t by omega) with h | h
    · subst h; omega
    · exact h
  · have e : t * (b0 * 18446744073709551616 + b1) = t * b0 * 18446744073709551616 + t * b1 := by grind
    omega
theorem est_stop (h : EstEq r0 r1 r2 b0 b1 t left) (hm : t * b1 = hi * 18446744073709551616 + lo) (h20 : 0 ≤ r2) (m2 : 0 ≤ lo) (m3 : lo < 18446744073709551616)
    (hc : ¬ (left < hi ∨ (hi = left ∧ r2 < lo))) : t * (b0 * 18446744073709551616 + b1) ≤ (r0 * 18446744073709551616 + r1) * 18446744073709551616 + r2 := by
  have h1 : t * b1 ≤ left * 18446744073709551616 + r2 := by rw [hm]; omega
  obtain ⟨h2, _⟩ := h
  have e : t * (b0 * 18446744073709551616 + b1) = t * b0 * 18446744073709551616 + t * b1 := by grind
  omega
theorem est_over (h : EstEq r0 r1 r2 b0 b1 t left) (i0 : 0 ≤ t) (i1 : t ≤ 18446744073709551615) (ho : 18446744073709551616 ≤ left + b0) (hb2 : 0 ≤ b1) (hb3 : b1 < 18446744073709551616) (h20 : 0 ≤ r2) :
    (t - 1) * (b0 * 18446744073709551616 + b1) ≤ (r0 * 18446744073709551616 + r1) * 18446744073709551616 + r2 := by
  obtain ⟨h2, _⟩ := h
  have h3 : t * b1 ≤ 18446744073709551615 * 18446744073709551615 := Int.mul_le_mul i1 (by omega) hb2 (by omega)
  have e : (t - 1) * (b0 * 18446744073709551616 + b1) = t * b0 * 18446744073709551616 - b0 * 18446744073709551616 + t * b1 - b1 := by grind
  omega
theorem est_next (h : EstEq r0 r1 r2 b0 b1 t left) (h2 : (r0 * 18446744073709551616 + r1) * 18446744073709551616 + r2 < t * (b0 * 18446744073709551616 + b1)) : EstEq r0 r1 r2 b0 b1 (t - 1) (left + b0) := by
  obtain ⟨h1, _⟩ := h
  refine ⟨?_, .inr ?_⟩
  · have e : (t - 1) * b0 = t * b0 - b0 := by grind
    omega
  · rw [Int.sub_add_cancel]; exact h2
end

/-- the frame and the world at the label -/
def EstJ (r0 r1 r2 b0 b1 : Int) (w : World) (a' : Act) (w' : World) : Prop := ∃ (t left : Int) (m : Nat) (v7 v8 v9 v10 v11 v12 v13 v14 v15 v16 v17 v18 v19 v20 v21 v22 v23 v24 v25 v26 v27 v28 v29 v30 v31 v32 v33 v34 v35 v36 v37 v38 v39 v40 v41 v42 v43 v44 v45 v46 v47 v48 v49 v50 v51 v52 v53 v54 v55 v56 v57 v58 v59 v60 v61 v62 v63 v64 v65 v66 v67 : Value), a' = { tmps := #[.agg #[.int .u64 r0, .int .u64 r1, .int .u64 r2], .agg #[.int .u64 b0, .int .u64 b1], .pointer (some ⟨w.heap.size, 0, none⟩), .pointer (some ⟨w.heap.size + 1, 0, none⟩), .int .u64 0, .int .u64 t, .int .u64 left, v7, v8, v9, v10, v11, v12, v13, v14, v15, v16, v17, v18, v19, v20, v21, v22, v23, v24, v25, v26, v27, v28, v29, v30, v31, v32, v33, v34, v35, v36, v37, v38, v39, v40, v41, v42, v43, v44, v45, v46, v47, v48, v49, v50, v51, v52, v53, v54, v55, v56, v57, v58, v59, v60, v61, v62, v63, v64, v65, v66, v67], defers := [] } ∧
      w' = ((w.alloc (.cells #[.int .u64 r0, .int .u64 r1, .int .u64 r2] 91)).alloc (.cells #[.int .u64 b0, .int .u64 b1] 92)).drewN m ∧ EstInv r0 r1 r2 b0 b1 t left

theorem est_start {r0 r1 r2 b0 b1 t left : Int} (h : r0 * 18446744073709551616 + r1 = t * b0 + left) (h21 : r2 < 18446744073709551616) (hb2 : 0 ≤ b1) (hl : left < b0) (i0 : 0 ≤ t) : EstEq r0 r1 r2 b0 b1 t left := by
  refine ⟨by omega, .inr ?_⟩
  have e : (t + 1) * (b0 * 18446744073709551616 + b1) = (t * b0 + b0) * 18446744073709551616 + (t + 1) * b1 := by grind
  have h1 : 0 ≤ (t + 1) * b1 := Int.mul_nonneg (by omega) hb2
  omega

theorem wp_scope_jumps' {P : Program} {a : Act} {w : World} {Q : Exit → Act → World → Prop} {c rest : Code} (l : Nat) (J : Act → World → Prop) (μ : Act → World → Nat) (hf : findLabel c l = some (Code.seq .skip rest))
    (pass : ∀ a w, J a w → rest.wp P (Exit.jump l (fun a' w' => J a' w' ∧ μ a' w' < μ a w) Q) a w)
    (first : (∀ a w, J a w → rest.wp P (Exit.jump l J Q) a w) → c.wp P (Exit.jump l J Q) a w) : (Code.scope c).wp P Q a w :=
  wp_scope_jumps l J μ hf (first fun a w h => wp_mono (pass a w h) fun e a w hq => by
    cases e with
    | goto l' => exact ⟨hq.1, hq.2.1⟩
    | _ => exact hq) fun a w h => wp_seq (wp_skip (pass a w h))

set_option maxHeartbeats 8000000 in
set_option maxRecDepth 100000 in
theorem estimate_any (r0 r1 r2 b0 b1 : Int) (w : World) (h00 : 0 ≤ r0) (h10 : 0 ≤ r1) (h11 : r1 < 18446744073709551616) (h20 : 0 ≤ r2) (h21 : r2 < 18446744073709551616) (hb0 : 0 < b0) (hb1 : b0 < 18446744073709551616) (hb2 : 0 ≤ b1) (hb3 : b1 < 18446744073709551616) (h01 : r0 ≤ b0) :
    Calls Tryd.prog 95 #[.agg #[.int .u64 r0, .int .u64 r1, .int .u64 r2], .agg #[.int .u64 b0, .int .u64 b1]] w (EstPost r0 r1 r2 b0 b1 w) := by
  go_enter Tryd.func95, Tryd.ntmps95
  go_wp2_with fail
  refine wp_scope_jumps' 0 (EstJ r0 r1 r2 b0 b1 w) (fun a' _ => (intOf (a'.tmps.getD 5 undef)).toNat) rfl ?_ ?_
  · rintro a' w' ⟨t, left, m, v7, v8, v9, v10, v11, v12, v13, v14, v15, v16, v17, v18, v19, v20, v21, v22, v23, v24, v25, v26, v27, v28, v29, v30, v31, v32, v33, v34, v35, v36, v37, v38, v39, v40, v41, v42, v43, v44, v45, v46, v47, v48, v49, v50, v51, v52, v53, v54, v55, v56, v57, v58, v59, v60, v61, v62, v63, v64, v65, v66, v67, rfl, rfl, i0, i1, i2, i3, hi⟩
    have HI := Lib.hid hi
    clear hi
    obtain ⟨hi, lo, m0, m1, m2, m3, me, HM⟩ := mul_ex t b1 i0 (by omega) hb2 hb3
    have ME := Lib.hid me
    clear me
    by_cases hc : left < hi ∨ (hi = left ∧ r2 < lo)
    · obtain ⟨g1, g2⟩ := est_more HI.out ME.out h10 h20 hb0 hb2 i0 i2 m2 m3 h21 hc
      have G2 := Lib.hid g2
      clear g2
      by_cases ho : left + b0 < 18446744073709551616
      · rcases hc with hc | ⟨hc1, hc2⟩
        · go_wp2_with (go_at_call 90; ((with_reducible refine (HM _).mono ?_); rintro e w' ⟨rfl, rfl⟩))
          go_step3
          refine ⟨rfl, (show EstJ _ _ _ _ _ _ _ _ from ?_), ?_⟩
          · exact ⟨t - 1, left + b0, _, _, _, _, _, _, _, _, _, _, _, _, _, _, _, _, _, _, _, _, _, _, _, _, _, _, _, _, _, _, _, _, _, _, _, _, _, _, _, _, _, _, _, _, _, _, _, _, _, _, _, _, _, _, _, _, _, _, _, _, _, _, rfl, rfl, by omega, by omega, by omega, by omega, est_next HI.out G2.out⟩
          · simp [intOf]; omega
        · subst hc1
          go_wp2_with (go_at_call 90; ((with_reducible refine (HM _).mono ?_); rintro e w' ⟨rfl, rfl⟩))
          go_step3
          refine ⟨rfl, (show EstJ _ _ _ _ _ _ _ _ from ?_), ?_⟩
          · exact ⟨t - 1, hi + b0, _, _, _, _, _, _, _, _, _, _, _, _, _, _, _, _, _, _, _, _, _, _, _, _, _, _, _, _, _, _, _, _, _, _, _, _, _, _, _, _, _, _, _, _, _, _, _, _, _, _, _, _, _, _, _, _, _, _, _, _, _, _, rfl, rfl, by omega, by omega, by omega, by omega, est_next HI.out G2.out⟩
          · simp [intOf]; omega
      · have hw : IntKind.u64.wrap (left + b0) = left + b0 - 18446744073709551616 := by rw [IntKind.wrap_u64]; omega
        have hover := est_over HI.out i0 i1 (by omega) hb2 hb3 h20
        rcases hc with hc | ⟨hc1, hc2⟩
        · go_wp2_with (go_at_call 90; ((with_reducible refine (HM _).mono ?_); rintro e w' ⟨rfl, rfl⟩))
          simp only [Exit.jump]
          go_ret
          exact ⟨t - 1, rfl, by omega, by omega, ⟨hover, .inr (by rw [Int.sub_add_cancel]; exact G2.out)⟩, below_drewN (((Below.refl _ w).alloc (Nat.le_refl _) _).alloc (by simp) _) _⟩
        · subst hc1
          go_wp2_with (go_at_call 90; ((with_reducible refine (HM _).mono ?_); rintro e w' ⟨rfl, rfl⟩))
          simp only [Exit.jump]
          go_ret
          exact ⟨t - 1, rfl, by omega, by omega, ⟨hover, .inr (by rw [Int.sub_add_cancel]; exact G2.out)⟩, below_drewN (((Below.refl _ w).alloc (Nat.le_refl _) _).alloc (by simp) _) _⟩
    · have hstop := est_stop HI.out ME.out h20 m2 m3 hc
      by_cases hlt : hi < left
      · go_wp2_with (go_at_call 90; ((with_reducible refine (HM _).mono ?_); rintro e w' ⟨rfl, rfl⟩))
        simp only [Exit.jump]
        go_ret
        exact ⟨t, rfl, i0, i1, ⟨hstop, HI.out.2⟩, below_drewN (((Below.refl _ w).alloc (Nat.le_refl _) _).alloc (by simp) _) _⟩
      · obtain rfl : hi = left := by omega
        have hlo : lo ≤ r2 := by omega
        go_wp2_with (go_at_call 90; ((with_reducible refine (HM _).mono ?_); rintro e w' ⟨rfl, rfl⟩))
        simp only [Exit.jump]
        go_ret
        exact ⟨t, rfl, i0, i1, ⟨hstop, HI.out.2⟩, below_drewN (((Below.refl _ w).alloc (Nat.le_refl _) _).alloc (by simp) _) _⟩
  · intro hp
    have HP := Lib.hid hp
    clear hp
    rcases (show r0 < b0 ∨ r0 = b0 by omega) with h01' | h01'
    · go_wp2_with (go_at_call 98; ((with_reducible refine (div64_any r0 r1 b0 _ h00 h01' hb1 h10 h11).mono ?_); rintro e w' ⟨n, t, left, rfl, i0, i1', i2, i3', hdiv, rfl⟩))
      go_step3
      rename_i hK
      refine hK _ _ (HP.out _ _ ?_)
      exact ⟨t, left, _, _, _, _, _, _, _, _, _, _, _, _, _, _, _, _, _, _, _, _, _, _, _, _, _, _, _, _, _, _, _, _, _, _, _, _, _, _, _, _, _, _, _, _, _, _, _, _, _, _, _, _, _, _, _, _, _, _, _, _, _, _, rfl, rfl, by omega, by omega, by omega, by omega, est_start hdiv.out h21 hb2 i3' i0⟩
    · subst h01'
      obtain ⟨left, o, i2, i3, o0, o1, he, hr⟩ := run_add r1 r0 0 ((w.alloc (.cells #[.int .u64 r0, .int .u64 r1, .int .u64 r2] 91)).alloc (.cells #[.int .u64 r0, .int .u64 b1] 92)) h10 h11 (by omega) hb1 (by omega) (by omega)
      have HE := Lib.hid he
      clear he
      rcases (show o = 0 ∨ o = 1 by omega) with rfl | rfl
      · go_wp2_with fail
        go_step3
        rename_i hK
        refine hK _ _ (HP.out _ _ ?_)
        exact ⟨18446744073709551615, left, 0, _, _, _, _, _, _, _, _, _, _, _, _, _, _, _, _, _, _, _, _, _, _, _, _, _, _, _, _, _, _, _, _, _, _, _, _, _, _, _, _, _, _, _, _, _, _, _, _, _, _, _, _, _, _, _, _, _, _, _, _, _, rfl, rfl, by omega, by omega, by omega, by omega, ⟨by have := HE.out; omega, .inl rfl⟩⟩
      · have hover : 18446744073709551615 * (r0 * 18446744073709551616 + b1) ≤ (r0 * 18446744073709551616 + r1) * 18446744073709551616 + r2 := by have := HE.out; omega
        have HO := Lib.hid hover
        clear hover
        go_wp2_with fail
        simp only [Exit.jump]
        go_ret
        exact ⟨18446744073709551615, rfl, by omega, by omega, ⟨HO.out, .inl rfl⟩, ((Below.refl _ w).alloc (Nat.le_refl _) _).alloc (by simp) _⟩
end Go.Proofs.YtigphbjgodfhpaaDoor
