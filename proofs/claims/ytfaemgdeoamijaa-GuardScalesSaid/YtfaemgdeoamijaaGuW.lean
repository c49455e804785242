/-
  Layer 5, plain mathematics: what is in range, scaled by minus its power, is below 1, and comes back.
-/
import Derived.Test.YtfaemgdeoamijaaGuV
namespace Go.Proofs.Ytfaemgdeoamijaa
open Go.RowKit Go.Bw
set_option linter.unusedVariables false
set_option linter.unusedSimpArgs false

theorem fld_mag {x : Int} (h0 : 0 ≤ x) (h1 : x ≤ 18446744073709551615) : fld x = mag x / 4503599627370496 := by
  have a := mag_eq x h0 h1
  have b := frc_bd x
  have c := fld_bd x
  omega
theorem nE_big {x : Int} (h0 : 0 ≤ x) (h1 : x ≤ 18446744073709551615) (hb : 4503599627370496 ≤ mag x) : nE x = mag x / 4503599627370496 - 1075 := by
  have hf := fld_mag h0 h1
  have hm := mag_bd x
  have hz : fld x ≠ 0 := by omega
  rw [(up_normal hz).2.2]
  unfold px
  rw [if_neg hz, hf]
theorem gmx_le {l : List Int} {B : Int} (hB : 0 ≤ B) (h : ∀ x ∈ l, mag x ≤ B) : gmx l ≤ B := by
  have go : ∀ (l : List Int) (g : Int), g ≤ B → (∀ x ∈ l, mag x ≤ B) → l.foldl (fun g x => max g (mag x)) g ≤ B := by
    intro l
    induction l with
    | nil => intro g hg _; exact hg
    | cons y l ih =>
      intro g hg hl
      have := hl y (List.mem_cons_self ..)
      exact ih _ (show max g (mag y) ≤ B by omega) (fun x hx => hl x (List.mem_cons_of_mem _ hx))
  exact go l 0 hB h
/-- the word that a number of the middle becomes -/
theorem tw_mid {x p : Int} (h0 : 0 ≤ x) (h1 : x ≤ 18446744073709551615) (hf : fin x = true) (hz : mag x ≠ 0) (e0 : -1074 ≤ nE x + p) (e1 : nE x + p ≤ 971) :
    ∃ y, tw x p = y ∧ 0 ≤ y ∧ y ≤ 18446744073709551615 ∧ mag y = (nE x + p + 1074) * 4503599627370496 + nM x ∧ fin y = true ∧ nE y = nE x + p ∧ nM y = nM x ∧ sgb y = sgb x := by
  have b := nM_bd h0 h1 hz
  have s := sgb_or x
  have hy : tw x p = sgb x + ((nE x + p + 1074) * 4503599627370496 + nM x) := by
    unfold tw
    rw [if_neg (by rintro (h | h); rw [hf] at h; cases h; exact hz h)]
    unfold rsz
    rw [if_neg (by omega), if_neg (by omega)]
  refine ⟨_, rfl, ?_⟩
  rw [hy]
  generalize nE x + p = E at *
  generalize nM x = M at *
  generalize sgb x = S at *
  have hmag : mag (S + ((E + 1074) * 4503599627370496 + M)) = (E + 1074) * 4503599627370496 + M := by unfold mag; omega
  have y0 : 0 ≤ S + ((E + 1074) * 4503599627370496 + M) := by omega
  have y1 : S + ((E + 1074) * 4503599627370496 + M) ≤ 18446744073709551615 := by omega
  have hsg : sgb (S + ((E + 1074) * 4503599627370496 + M)) = S := by unfold sgb; split <;> omega
  have hfin : fin (S + ((E + 1074) * 4503599627370496 + M)) = true := by unfold fin; rw [hmag]; simp; omega
  have hfl := fld_mag y0 y1
  have hq := mag_eq _ y0 y1
  rw [hmag] at hfl hq
  have hfz : fld (S + ((E + 1074) * 4503599627370496 + M)) ≠ 0 := by omega
  obtain ⟨u1, u2, u3⟩ := up_normal hfz
  refine ⟨y0, y1, hmag, hfin, ?_, ?_, hsg⟩
  · rw [u3]; unfold px; rw [if_neg hfz]; omega
  · rw [u2]; unfold pm; rw [if_neg hfz]; omega
/-- there and back -/
theorem tw_back {x p : Int} (h0 : 0 ≤ x) (h1 : x ≤ 18446744073709551615) (hf : fin x = true) (hz : mag x ≠ 0) (e0 : -1074 ≤ nE x + p) (e1 : nE x + p ≤ 971) : tw (tw x p) (-p) = x := by
  obtain ⟨y, hy, y0, y1, hm, hfy, hE, hM, hs⟩ := tw_mid h0 h1 hf hz e0 e1
  have b := nM_bd h0 h1 hz
  rw [hy]
  have hzy : mag y ≠ 0 := by omega
  unfold tw
  rw [if_neg (by rintro (h | h); rw [hfy] at h; cases h; exact hzy h), hs, hM, hE, show nE x + p + -p = nE x by omega, rsz_self h0 h1 hf hz, sgb_mag x h0 h1]
theorem tw_nought {x p : Int} (hz : mag x = 0) : tw x p = x := by unfold tw; rw [if_pos (.inr hz)]

section
variable {l : List Int}
theorem range_facts (hw : Wd l) (hi : l.all inr = true) {x : Int} (hx : x ∈ l) : (mag x = 0 ∧ tw x (-pwr l) = x) ∨ (mag x ≠ 0 ∧ fin x = true ∧ -1074 ≤ nE x + -pwr l ∧ nE x + -pwr l ≤ -53) := by
  have hix := List.all_eq_true.1 hi x hx
  have hle : gmx l ≤ 6408622269748215808 := gmx_le (by omega) (fun y hy => by
    have := List.all_eq_true.1 hi y hy
    unfold inr at this; simp at this; omega)
  have hxg := gmx_ge hx
  have hgb := gmx_bd l
  obtain ⟨x0, x1⟩ := hw x hx
  by_cases hz : mag x = 0
  · exact .inl ⟨hz, tw_nought hz⟩
  · right
    have hr : 2805742567851819008 ≤ mag x := by unfold inr at hix; simp at hix; omega
    have hp : pwr l = nE (gmx l) + 53 := by unfold pwr; rw [if_neg (by omega)]
    have e1 := nE_big x0 x1 (by omega)
    have e2 := nE_big (x := gmx l) hgb.1 (by omega) (by rw [mag_self hgb.1 hgb.2]; omega)
    rw [mag_self hgb.1 hgb.2] at e2
    refine ⟨hz, inr_fin hix, ?_, ?_⟩ <;> omega
theorem scaled_fin (hw : Wd l) (hi : l.all inr = true) : (l.map fun x => tw x (-pwr l)).all fin = true := by
  rw [List.all_eq_true]
  intro y hy
  obtain ⟨x, hx, rfl⟩ := List.mem_map.1 hy
  obtain ⟨x0, x1⟩ := hw x hx
  rcases range_facts hw hi hx with ⟨hz, e⟩ | ⟨hz, hf, e0, e1⟩
  · simp only [e]
    exact inr_fin (List.all_eq_true.1 hi x hx)
  · obtain ⟨y, hy, _, _, _, hfy, _⟩ := tw_mid x0 x1 hf hz e0 (by omega)
    simp only [hy]
    exact hfy
theorem scaled_small (hw : Wd l) (hi : l.all inr = true) {x : Int} (hx : x ∈ l) : mag (tw x (-pwr l)) < 4607182418800017408 := by
  obtain ⟨x0, x1⟩ := hw x hx
  rcases range_facts hw hi hx with ⟨hz, e⟩ | ⟨hz, hf, e0, e1⟩
  · rw [e, hz]; decide
  · obtain ⟨y, hy, _, _, hm, _⟩ := tw_mid x0 x1 hf hz e0 (by omega)
    have b := nM_bd x0 x1 hz
    rw [hy, hm]
    omega
theorem scaled_back (hw : Wd l) (hi : l.all inr = true) : (l.map fun x => tw x (-pwr l)).map (fun x => tw x (pwr l)) = l := by
  rw [List.map_map]
  have : ∀ x ∈ l, ((fun x => tw x (pwr l)) ∘ fun x => tw x (-pwr l)) x = x := by
    intro x hx
    obtain ⟨x0, x1⟩ := hw x hx
    show tw (tw x (-pwr l)) (pwr l) = x
    rcases range_facts hw hi hx with ⟨hz, e⟩ | ⟨hz, hf, e0, e1⟩
    · rw [e, tw_nought hz]
    · have := tw_back x0 x1 hf hz e0 (by omega)
      rw [Int.neg_neg] at this
      exact this
  rw [List.map_congr_left this]
  exact List.map_id' l
end
end Go.Proofs.Ytfaemgdeoamijaa
