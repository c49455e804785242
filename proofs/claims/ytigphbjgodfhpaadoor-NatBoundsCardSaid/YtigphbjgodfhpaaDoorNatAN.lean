/-
  Layer 2, the laws, part two: the chapter's rows. (This text is written by wip/tools/gen_known.py.)
-/
import Derived.Test.YtigphbjgodfhpaaDoorNatAM
namespace Go.Proofs.YtigphbjgodfhpaaDoor
open Go.RowKit
set_option linter.unusedVariables false

theorem Tab.on {W W' : World} (h : Tab W) (hb : Below W.heap.size W W') : Tab W' := h.below hb h.lt
theorem Tab.al {W : World} (h : Tab W) (o : Obj) : Tab (W.alloc o) := h.on ((Below.refl _ W).alloc (Nat.le_refl _) o)
theorem bel_al {w W : World} (h : Below w.heap.size w W) (o : Obj) : Below w.heap.size w (W.alloc o) := h.alloc h.size o
theorem bel_then {w W W' : World} (h : Below w.heap.size w W) (hb : Below W.heap.size W W') : Below w.heap.size w W' := h.trans (hb.mono h.size)
theorem lv_nil (W : World) : Lv W none 0 0 [] := ⟨rfl, Nums.nil _ _, Lim.nil _⟩
theorem at_zero (g : Nat) : (⟨g, 0, none⟩ : Addr).add 0 = ⟨g, 0, none⟩ := add_at g 0 0
theorem root17 : ∀ s t : Int, IsRoot (val 18446744073709551616 [17]) s t → s = val 18446744073709551616 [4] ∧ t = val 18446744073709551616 [1] := by
  intro s t h
  have e17 : val 18446744073709551616 [17] = 17 := by decide
  have e4 : val 18446744073709551616 [4] = 4 := by decide
  have e1 : val 18446744073709551616 [1] = 1 := by decide
  rw [e17] at h
  rw [e4, e1]
  obtain ⟨h1, h2, h3, h4⟩ := h
  have h5 : s ≤ 4 := by
    rcases Int.lt_or_le 4 s with k | k
    · have : 5 * 5 ≤ s * s := Int.mul_le_mul (by omega) (by omega) (by omega) (by omega)
      omega
    · exact k
  obtain rfl | rfl | rfl | rfl | rfl : s = 0 ∨ s = 1 ∨ s = 2 ∨ s = 3 ∨ s = 4 := by omega
  all_goals omega
theorem bits_nil : IsBits (val 18446744073709551616 []) 0 := by unfold IsBits; decide
theorem bits_two : IsBits (val 18446744073709551616 [0, 1]) 65 := by unfold IsBits; decide
theorem zeros_two : ∀ j, IsZeros (val 18446744073709551616 [0, 1]) j → j = 64 := by
  intro j h
  have h1 := lost_of (j := 64) h
  have h2 := lost_of (j := 65) h
  rw [show lostB (val 18446744073709551616 [0, 1]) 64 = false by decide] at h1
  rw [show lostB (val 18446744073709551616 [0, 1]) 65 = true by decide] at h2
  simp at h1 h2
  omega
theorem txt_two : txt (val 18446744073709551616 [0, 1]).toNat = [49, 56, 52, 52, 54, 55, 52, 52, 48, 55, 51, 55, 48, 57, 53, 53, 49, 54, 49, 54] := by
  have hd : digs (val 18446744073709551616 [0, 1]).toNat = [6, 1, 6, 1, 5, 5, 9, 0, 7, 3, 7, 0, 4, 4, 7, 6, 4, 4, 8, 1] :=
    (digs_unique (by intro x hx; simp at hx; omega) (.inr (by decide)) (by decide)).symm
  unfold txt
  rw [hd, if_neg (by decide)]
  decide
theorem bad_00 : ¬ OkText (⟨#[48, 48]⟩ : ByteArray).data.toList := fun h => h.2.2.1 (by decide) (by decide)
theorem ok_two : OkText (⟨#[49, 56, 52, 52, 54, 55, 52, 52, 48, 55, 51, 55, 48, 57, 53, 53, 49, 54, 49, 54]⟩ : ByteArray).data.toList := by
  refine ⟨by decide, by decide, by decide, ?_⟩
  unfold IsDig
  decide
theorem lim_k0 : Lim 18446744073709551616 [18446744073709551615] := by intro x hx; simp at hx; omega
theorem ok_k0 : Okl [18446744073709551615] := ⟨lim_k0, .inr (by decide), by decide⟩
theorem lim_k1 : Lim 18446744073709551616 [0, 1] := by intro x hx; simp at hx; omega
theorem ok_k1 : Okl [0, 1] := ⟨lim_k1, .inr (by decide), by decide⟩
theorem lim_k2 : Lim 18446744073709551616 [1] := by intro x hx; simp at hx; omega
theorem ok_k2 : Okl [1] := ⟨lim_k2, .inr (by decide), by decide⟩
theorem lim_k3 : Lim 18446744073709551616 [2] := by intro x hx; simp at hx; omega
theorem ok_k3 : Okl [2] := ⟨lim_k3, .inr (by decide), by decide⟩
theorem lim_k4 : Lim 18446744073709551616 [1, 18446744073709551614] := by intro x hx; simp at hx; omega
theorem ok_k4 : Okl [1, 18446744073709551614] := ⟨lim_k4, .inr (by decide), by decide⟩
theorem lim_k5 : Lim 18446744073709551616 [10] := by intro x hx; simp at hx; omega
theorem ok_k5 : Okl [10] := ⟨lim_k5, .inr (by decide), by decide⟩
theorem lim_k6 : Lim 18446744073709551616 [1844674407370955161] := by intro x hx; simp at hx; omega
theorem ok_k6 : Okl [1844674407370955161] := ⟨lim_k6, .inr (by decide), by decide⟩
theorem lim_k7 : Lim 18446744073709551616 [6] := by intro x hx; simp at hx; omega
theorem ok_k7 : Okl [6] := ⟨lim_k7, .inr (by decide), by decide⟩
theorem lim_k8 : Lim 18446744073709551616 [17] := by intro x hx; simp at hx; omega
theorem ok_k8 : Okl [17] := ⟨lim_k8, .inr (by decide), by decide⟩
theorem lim_k9 : Lim 18446744073709551616 [4] := by intro x hx; simp at hx; omega
theorem ok_k9 : Okl [4] := ⟨lim_k9, .inr (by decide), by decide⟩
theorem lim_k10 : Lim 18446744073709551616 [3] := by intro x hx; simp at hx; omega
theorem ok_k10 : Okl [3] := ⟨lim_k10, .inr (by decide), by decide⟩

set_option maxRecDepth 1000000 in
set_option maxHeartbeats 8000000 in
/-- the chapter's rows -/
theorem known_any (w : World) (hT : Tab w) : Calls Tryd.prog 16 #[] w fun e w' => e = .returned (.bool true) ∧ Below w.heap.size w w' := by
  have bw : Below w.heap.size w w := Below.refl _ w
  go_enter Tryd.func16, Tryd.ntmps16
  go_wp2_with fail
  have m_most := Lv.row (w) [18446744073709551615] 1 (w.heap.size) (by simp) rfl (by omega) (lim_k0) (.cells #[.int .u64 18446744073709551615] 39) rfl
  replace hT := hT.al (.cells #[.int .u64 18446744073709551615] 39)
  replace bw := bel_al bw (.cells #[.int .u64 18446744073709551615] 39)
  have m_two := Lv.row ((w).alloc (.cells #[.int .u64 18446744073709551615] 39)) [0, 1] 2 (w.heap.size + 1) (by simp) rfl (by omega) (lim_k1) (.cells #[.int .u64 0, .int .u64 1] 39) rfl
  replace m_most := m_most.alloc (.cells #[.int .u64 0, .int .u64 1] 39)
  replace hT := hT.al (.cells #[.int .u64 0, .int .u64 1] 39)
  replace bw := bel_al bw (.cells #[.int .u64 0, .int .u64 1] 39)
  have m_u := Lv.row (((w).alloc (.cells #[.int .u64 18446744073709551615] 39)).alloc (.cells #[.int .u64 0, .int .u64 1] 39)) [1] 1 (w.heap.size + 1 + 1) (by simp) rfl (by omega) (lim_k2) (.cells #[.int .u64 1] 39) rfl
  replace m_most := m_most.alloc (.cells #[.int .u64 1] 39)
  replace m_two := m_two.alloc (.cells #[.int .u64 1] 39)
  replace hT := hT.al (.cells #[.int .u64 1] 39)
  replace bw := bel_al bw (.cells #[.int .u64 1] 39)
  with_reducible refine (Add_good m_most m_u (by omega) (by omega) (r := [0, 1]) (k := 2) ok_k1 rfl (by decide)).mono ?_
  rintro e w1 ⟨A_a, c_a, rfl, m_a, hb⟩
  replace m_most := m_most.on hb
  replace m_two := m_two.on hb
  replace m_u := m_u.on hb
  replace hT := hT.on hb
  replace bw := bel_then bw hb
  clear hb
  clear m_u
  go_wp2_with fail
  have m_u := Lv.row (w1) [1] 1 (w1.heap.size) (by simp) rfl (by omega) (lim_k2) (.cells #[.int .u64 1] 39) rfl
  replace m_most := m_most.alloc (.cells #[.int .u64 1] 39)
  replace m_two := m_two.alloc (.cells #[.int .u64 1] 39)
  replace m_a := m_a.alloc (.cells #[.int .u64 1] 39)
  replace hT := hT.al (.cells #[.int .u64 1] 39)
  replace bw := bel_al bw (.cells #[.int .u64 1] 39)
  with_reducible refine (Sub_good m_two m_u (by omega) (by omega) (r := [18446744073709551615]) (k := 1) ok_k0 rfl (by decide)).mono ?_
  rintro e w2 ⟨A_b, c_b, rfl, m_b, hb⟩
  replace m_most := m_most.on hb
  replace m_two := m_two.on hb
  replace m_a := m_a.on hb
  replace m_u := m_u.on hb
  replace hT := hT.on hb
  replace bw := bel_then bw hb
  clear hb
  clear m_u
  go_wp2_with fail
  have m_u := Lv.row (w2) [1] 1 (w2.heap.size) (by simp) rfl (by omega) (lim_k2) (.cells #[.int .u64 1] 39) rfl
  replace m_most := m_most.alloc (.cells #[.int .u64 1] 39)
  replace m_two := m_two.alloc (.cells #[.int .u64 1] 39)
  replace m_a := m_a.alloc (.cells #[.int .u64 1] 39)
  replace m_b := m_b.alloc (.cells #[.int .u64 1] 39)
  replace hT := hT.al (.cells #[.int .u64 1] 39)
  replace bw := bel_al bw (.cells #[.int .u64 1] 39)
  have m_v := Lv.row ((w2).alloc (.cells #[.int .u64 1] 39)) [2] 1 (w2.heap.size + 1) (by simp) rfl (by omega) (lim_k3) (.cells #[.int .u64 2] 39) rfl
  replace m_most := m_most.alloc (.cells #[.int .u64 2] 39)
  replace m_two := m_two.alloc (.cells #[.int .u64 2] 39)
  replace m_a := m_a.alloc (.cells #[.int .u64 2] 39)
  replace m_b := m_b.alloc (.cells #[.int .u64 2] 39)
  replace m_u := m_u.alloc (.cells #[.int .u64 2] 39)
  replace hT := hT.al (.cells #[.int .u64 2] 39)
  replace bw := bel_al bw (.cells #[.int .u64 2] 39)
  with_reducible refine (Sub_bad m_u m_v (by omega) (by omega) (by decide)).mono ?_
  rintro e w3 ⟨rfl, hb⟩
  replace m_most := m_most.on hb
  replace m_two := m_two.on hb
  replace m_a := m_a.on hb
  replace m_b := m_b.on hb
  replace m_u := m_u.on hb
  replace m_v := m_v.on hb
  replace hT := hT.on hb
  replace bw := bel_then bw hb
  clear hb
  clear m_u
  clear m_v
  go_wp2_with fail
  with_reducible refine (Mul_good m_most m_most (by omega) (by omega) (r := [1, 18446744073709551614]) (k := 2) ok_k4 rfl (by decide)).mono ?_
  rintro e w4 ⟨A_c, c_c, rfl, m_c, hb⟩
  replace m_most := m_most.on hb
  replace m_two := m_two.on hb
  replace m_a := m_a.on hb
  replace m_b := m_b.on hb
  replace hT := hT.on hb
  replace bw := bel_then bw hb
  clear hb
  go_wp2_with fail
  have m_u := Lv.row (w4) [10] 1 (w4.heap.size) (by simp) rfl (by omega) (lim_k5) (.cells #[.int .u64 10] 39) rfl
  replace m_most := m_most.alloc (.cells #[.int .u64 10] 39)
  replace m_two := m_two.alloc (.cells #[.int .u64 10] 39)
  replace m_a := m_a.alloc (.cells #[.int .u64 10] 39)
  replace m_b := m_b.alloc (.cells #[.int .u64 10] 39)
  replace m_c := m_c.alloc (.cells #[.int .u64 10] 39)
  replace hT := hT.al (.cells #[.int .u64 10] 39)
  replace bw := bel_al bw (.cells #[.int .u64 10] 39)
  with_reducible refine (Div_good m_two m_u (by omega) (by omega) (q := [1844674407370955161]) (r := [6]) (k := 1) (k2 := 1) ok_k6 ok_k7 rfl rfl (by decide) (by decide)).mono ?_
  rintro e w5 ⟨A_q, c_q, A_r, c_r, rfl, m_q, m_r, hb⟩
  replace m_most := m_most.on hb
  replace m_two := m_two.on hb
  replace m_a := m_a.on hb
  replace m_b := m_b.on hb
  replace m_c := m_c.on hb
  replace m_u := m_u.on hb
  replace hT := hT.on hb
  replace bw := bel_then bw hb
  clear hb
  clear m_u
  go_wp2_with fail
  have m_u := Lv.row (w5) [17] 1 (w5.heap.size) (by simp) rfl (by omega) (lim_k8) (.cells #[.int .u64 17] 39) rfl
  replace m_most := m_most.alloc (.cells #[.int .u64 17] 39)
  replace m_two := m_two.alloc (.cells #[.int .u64 17] 39)
  replace m_a := m_a.alloc (.cells #[.int .u64 17] 39)
  replace m_b := m_b.alloc (.cells #[.int .u64 17] 39)
  replace m_c := m_c.alloc (.cells #[.int .u64 17] 39)
  replace m_q := m_q.alloc (.cells #[.int .u64 17] 39)
  replace m_r := m_r.alloc (.cells #[.int .u64 17] 39)
  replace hT := hT.al (.cells #[.int .u64 17] 39)
  replace bw := bel_al bw (.cells #[.int .u64 17] 39)
  with_reducible refine (Sqrt_good m_u (by omega) (q := [4]) (r := [1]) (k := 1) (k2 := 1) ok_k9 ok_k2 rfl rfl root17).mono ?_
  rintro e w6 ⟨A_s, c_s, A_t, c_t, rfl, m_s, m_t, hb⟩
  replace m_most := m_most.on hb
  replace m_two := m_two.on hb
  replace m_a := m_a.on hb
  replace m_b := m_b.on hb
  replace m_c := m_c.on hb
  replace m_q := m_q.on hb
  replace m_r := m_r.on hb
  replace m_u := m_u.on hb
  replace hT := hT.on hb
  replace bw := bel_then bw hb
  clear hb
  clear m_u
  go_wp2_with fail
  have m_u := Lv.row (w6) [1] 1 (w6.heap.size) (by simp) rfl (by omega) (lim_k2) (.cells #[.int .u64 1] 39) rfl
  replace m_most := m_most.alloc (.cells #[.int .u64 1] 39)
  replace m_two := m_two.alloc (.cells #[.int .u64 1] 39)
  replace m_a := m_a.alloc (.cells #[.int .u64 1] 39)
  replace m_b := m_b.alloc (.cells #[.int .u64 1] 39)
  replace m_c := m_c.alloc (.cells #[.int .u64 1] 39)
  replace m_q := m_q.alloc (.cells #[.int .u64 1] 39)
  replace m_r := m_r.alloc (.cells #[.int .u64 1] 39)
  replace m_s := m_s.alloc (.cells #[.int .u64 1] 39)
  replace m_t := m_t.alloc (.cells #[.int .u64 1] 39)
  replace hT := hT.al (.cells #[.int .u64 1] 39)
  replace bw := bel_al bw (.cells #[.int .u64 1] 39)
  with_reducible refine (Shl_good m_u (by omega) (r := [0, 1]) (k := 2) ok_k1 rfl 64 64 rfl (by decide) (by decide)).mono ?_
  rintro e w7 ⟨A_d, c_d, rfl, m_d, hb⟩
  replace m_most := m_most.on hb
  replace m_two := m_two.on hb
  replace m_a := m_a.on hb
  replace m_b := m_b.on hb
  replace m_c := m_c.on hb
  replace m_q := m_q.on hb
  replace m_r := m_r.on hb
  replace m_s := m_s.on hb
  replace m_t := m_t.on hb
  replace m_u := m_u.on hb
  replace hT := hT.on hb
  replace bw := bel_then bw hb
  clear hb
  clear m_u
  go_wp2_with fail
  have m_u := Lv.row (w7) [3] 1 (w7.heap.size) (by simp) rfl (by omega) (lim_k10) (.cells #[.int .u64 3] 39) rfl
  replace m_most := m_most.alloc (.cells #[.int .u64 3] 39)
  replace m_two := m_two.alloc (.cells #[.int .u64 3] 39)
  replace m_a := m_a.alloc (.cells #[.int .u64 3] 39)
  replace m_b := m_b.alloc (.cells #[.int .u64 3] 39)
  replace m_c := m_c.alloc (.cells #[.int .u64 3] 39)
  replace m_q := m_q.alloc (.cells #[.int .u64 3] 39)
  replace m_r := m_r.alloc (.cells #[.int .u64 3] 39)
  replace m_s := m_s.alloc (.cells #[.int .u64 3] 39)
  replace m_t := m_t.alloc (.cells #[.int .u64 3] 39)
  replace m_d := m_d.alloc (.cells #[.int .u64 3] 39)
  replace hT := hT.al (.cells #[.int .u64 3] 39)
  replace bw := bel_al bw (.cells #[.int .u64 3] 39)
  with_reducible refine (Shr_good m_u (by omega) (r := [1]) (k := 1) ok_k2 rfl hT 1 1 rfl (by omega) true (by decide) (by decide)).mono ?_
  rintro e w8 ⟨A_x, c_x, rfl, m_x, hb⟩
  replace m_most := m_most.on hb
  replace m_two := m_two.on hb
  replace m_a := m_a.on hb
  replace m_b := m_b.on hb
  replace m_c := m_c.on hb
  replace m_q := m_q.on hb
  replace m_r := m_r.on hb
  replace m_s := m_s.on hb
  replace m_t := m_t.on hb
  replace m_d := m_d.on hb
  replace m_u := m_u.on hb
  replace hT := hT.on hb
  replace bw := bel_then bw hb
  clear hb
  clear m_u
  go_wp2_with fail
  with_reducible refine (Bits_good (lv_nil _) (by omega) 0 0 rfl bits_nil).mono ?_
  rintro e w9 ⟨rfl, rfl⟩
  go_wp2_with fail
  with_reducible refine (Bits_good m_two (by omega) 65 65 rfl bits_two).mono ?_
  rintro e w10 ⟨rfl, rfl⟩
  go_wp2_with fail
  with_reducible refine (Zeros_good m_two (by omega) hT 64 64 rfl (by decide) zeros_two).mono ?_
  rintro e w11 ⟨rfl, rfl⟩
  go_wp2_with fail
  with_reducible refine (Text_good m_two (by omega) _ txt_two).mono ?_
  rintro e w12 ⟨rfl, hb⟩
  replace m_most := m_most.on hb
  replace m_two := m_two.on hb
  replace m_a := m_a.on hb
  replace m_b := m_b.on hb
  replace m_c := m_c.on hb
  replace m_q := m_q.on hb
  replace m_r := m_r.on hb
  replace m_s := m_s.on hb
  replace m_t := m_t.on hb
  replace m_d := m_d.on hb
  replace m_x := m_x.on hb
  replace hT := hT.on hb
  replace bw := bel_then bw hb
  clear hb
  clear m_two
  go_wp2_with fail
  with_reducible refine (Read_bad ⟨#[48, 48]⟩ (by decide) bad_00 _).mono ?_
  rintro e w13 ⟨rfl, hb⟩
  replace m_most := m_most.on hb
  replace m_a := m_a.on hb
  replace m_b := m_b.on hb
  replace m_c := m_c.on hb
  replace m_q := m_q.on hb
  replace m_r := m_r.on hb
  replace m_s := m_s.on hb
  replace m_t := m_t.on hb
  replace m_d := m_d.on hb
  replace m_x := m_x.on hb
  replace hT := hT.on hb
  replace bw := bel_then bw hb
  clear hb
  go_wp2_with fail
  with_reducible refine (Read_good (s := ⟨#[49, 56, 52, 52, 54, 55, 52, 52, 48, 55, 51, 55, 48, 57, 53, 53, 49, 54, 49, 54]⟩) (r := [0, 1]) (k := 2) ok_two ok_k1 rfl (by decide)).mono ?_
  rintro e w14 ⟨A_y, c_y, rfl, m_y, hb⟩
  replace m_most := m_most.on hb
  replace m_a := m_a.on hb
  replace m_b := m_b.on hb
  replace m_c := m_c.on hb
  replace m_q := m_q.on hb
  replace m_r := m_r.on hb
  replace m_s := m_s.on hb
  replace m_t := m_t.on hb
  replace m_d := m_d.on hb
  replace m_x := m_x.on hb
  replace hT := hT.on hb
  replace bw := bel_then bw hb
  clear hb
  go_wp2_with fail
  have m_u := Lv.row (w14) [0, 1] 2 (w14.heap.size) (by simp) rfl (by omega) (lim_k1) (.cells #[.int .u64 0, .int .u64 1] 39) rfl
  replace m_most := m_most.alloc (.cells #[.int .u64 0, .int .u64 1] 39)
  replace m_a := m_a.alloc (.cells #[.int .u64 0, .int .u64 1] 39)
  replace m_b := m_b.alloc (.cells #[.int .u64 0, .int .u64 1] 39)
  replace m_c := m_c.alloc (.cells #[.int .u64 0, .int .u64 1] 39)
  replace m_q := m_q.alloc (.cells #[.int .u64 0, .int .u64 1] 39)
  replace m_r := m_r.alloc (.cells #[.int .u64 0, .int .u64 1] 39)
  replace m_s := m_s.alloc (.cells #[.int .u64 0, .int .u64 1] 39)
  replace m_t := m_t.alloc (.cells #[.int .u64 0, .int .u64 1] 39)
  replace m_d := m_d.alloc (.cells #[.int .u64 0, .int .u64 1] 39)
  replace m_x := m_x.alloc (.cells #[.int .u64 0, .int .u64 1] 39)
  replace m_y := m_y.alloc (.cells #[.int .u64 0, .int .u64 1] 39)
  replace hT := hT.al (.cells #[.int .u64 0, .int .u64 1] 39)
  replace bw := bel_al bw (.cells #[.int .u64 0, .int .u64 1] 39)
  with_reducible refine (is_true m_a m_u).mono ?_
  rintro e w15 ⟨rfl, hb⟩
  replace m_most := m_most.on hb
  replace m_a := m_a.on hb
  replace m_b := m_b.on hb
  replace m_c := m_c.on hb
  replace m_q := m_q.on hb
  replace m_r := m_r.on hb
  replace m_s := m_s.on hb
  replace m_t := m_t.on hb
  replace m_d := m_d.on hb
  replace m_x := m_x.on hb
  replace m_y := m_y.on hb
  replace m_u := m_u.on hb
  replace hT := hT.on hb
  replace bw := bel_then bw hb
  clear hb
  clear m_u
  clear m_a
  have cm := m_most.at 0 (by omega)
  rw [at_zero, D_cons_zero] at cm
  go_wp2_with fail
  have m_u := Lv.row (w15) [18446744073709551615] 1 (w15.heap.size) (by simp) rfl (by omega) (lim_k0) (.cells #[.int .u64 18446744073709551615] 39) rfl
  replace m_most := m_most.alloc (.cells #[.int .u64 18446744073709551615] 39)
  replace m_b := m_b.alloc (.cells #[.int .u64 18446744073709551615] 39)
  replace m_c := m_c.alloc (.cells #[.int .u64 18446744073709551615] 39)
  replace m_q := m_q.alloc (.cells #[.int .u64 18446744073709551615] 39)
  replace m_r := m_r.alloc (.cells #[.int .u64 18446744073709551615] 39)
  replace m_s := m_s.alloc (.cells #[.int .u64 18446744073709551615] 39)
  replace m_t := m_t.alloc (.cells #[.int .u64 18446744073709551615] 39)
  replace m_d := m_d.alloc (.cells #[.int .u64 18446744073709551615] 39)
  replace m_x := m_x.alloc (.cells #[.int .u64 18446744073709551615] 39)
  replace m_y := m_y.alloc (.cells #[.int .u64 18446744073709551615] 39)
  replace hT := hT.al (.cells #[.int .u64 18446744073709551615] 39)
  replace bw := bel_al bw (.cells #[.int .u64 18446744073709551615] 39)
  with_reducible refine (is_true m_b m_u).mono ?_
  rintro e w16 ⟨rfl, hb⟩
  replace m_most := m_most.on hb
  replace m_b := m_b.on hb
  replace m_c := m_c.on hb
  replace m_q := m_q.on hb
  replace m_r := m_r.on hb
  replace m_s := m_s.on hb
  replace m_t := m_t.on hb
  replace m_d := m_d.on hb
  replace m_x := m_x.on hb
  replace m_y := m_y.on hb
  replace m_u := m_u.on hb
  replace hT := hT.on hb
  replace bw := bel_then bw hb
  clear hb
  clear m_u
  clear m_b
  clear cm
  go_wp2_with fail
  with_reducible refine (num_any 2 _).mono ?_
  rintro e w17 ⟨rfl, rfl⟩
  have cm := m_most.at 0 (by omega)
  rw [at_zero, D_cons_zero] at cm
  go_wp2_with fail
  have m_u := Lv.row (w16) [1, 18446744073709551614] 2 (w16.heap.size) (by simp) rfl (by omega) (lim_k4) (.cells #[.int .u64 1, .int .u64 18446744073709551614] 39) rfl
  replace m_most := m_most.alloc (.cells #[.int .u64 1, .int .u64 18446744073709551614] 39)
  replace m_c := m_c.alloc (.cells #[.int .u64 1, .int .u64 18446744073709551614] 39)
  replace m_q := m_q.alloc (.cells #[.int .u64 1, .int .u64 18446744073709551614] 39)
  replace m_r := m_r.alloc (.cells #[.int .u64 1, .int .u64 18446744073709551614] 39)
  replace m_s := m_s.alloc (.cells #[.int .u64 1, .int .u64 18446744073709551614] 39)
  replace m_t := m_t.alloc (.cells #[.int .u64 1, .int .u64 18446744073709551614] 39)
  replace m_d := m_d.alloc (.cells #[.int .u64 1, .int .u64 18446744073709551614] 39)
  replace m_x := m_x.alloc (.cells #[.int .u64 1, .int .u64 18446744073709551614] 39)
  replace m_y := m_y.alloc (.cells #[.int .u64 1, .int .u64 18446744073709551614] 39)
  replace hT := hT.al (.cells #[.int .u64 1, .int .u64 18446744073709551614] 39)
  replace bw := bel_al bw (.cells #[.int .u64 1, .int .u64 18446744073709551614] 39)
  with_reducible refine (is_true m_c m_u).mono ?_
  rintro e w18 ⟨rfl, hb⟩
  replace m_most := m_most.on hb
  replace m_c := m_c.on hb
  replace m_q := m_q.on hb
  replace m_r := m_r.on hb
  replace m_s := m_s.on hb
  replace m_t := m_t.on hb
  replace m_d := m_d.on hb
  replace m_x := m_x.on hb
  replace m_y := m_y.on hb
  replace m_u := m_u.on hb
  replace hT := hT.on hb
  replace bw := bel_then bw hb
  clear hb
  clear m_u
  clear m_c
  clear cm
  clear m_most
  go_wp2_with fail
  have m_u := Lv.row (w18) [1844674407370955161] 1 (w18.heap.size) (by simp) rfl (by omega) (lim_k6) (.cells #[.int .u64 1844674407370955161] 39) rfl
  replace m_q := m_q.alloc (.cells #[.int .u64 1844674407370955161] 39)
  replace m_r := m_r.alloc (.cells #[.int .u64 1844674407370955161] 39)
  replace m_s := m_s.alloc (.cells #[.int .u64 1844674407370955161] 39)
  replace m_t := m_t.alloc (.cells #[.int .u64 1844674407370955161] 39)
  replace m_d := m_d.alloc (.cells #[.int .u64 1844674407370955161] 39)
  replace m_x := m_x.alloc (.cells #[.int .u64 1844674407370955161] 39)
  replace m_y := m_y.alloc (.cells #[.int .u64 1844674407370955161] 39)
  replace hT := hT.al (.cells #[.int .u64 1844674407370955161] 39)
  replace bw := bel_al bw (.cells #[.int .u64 1844674407370955161] 39)
  with_reducible refine (is_true m_q m_u).mono ?_
  rintro e w19 ⟨rfl, hb⟩
  replace m_q := m_q.on hb
  replace m_r := m_r.on hb
  replace m_s := m_s.on hb
  replace m_t := m_t.on hb
  replace m_d := m_d.on hb
  replace m_x := m_x.on hb
  replace m_y := m_y.on hb
  replace m_u := m_u.on hb
  replace hT := hT.on hb
  replace bw := bel_then bw hb
  clear hb
  clear m_u
  clear m_q
  go_wp2_with fail
  have m_u := Lv.row (w19) [6] 1 (w19.heap.size) (by simp) rfl (by omega) (lim_k7) (.cells #[.int .u64 6] 39) rfl
  replace m_r := m_r.alloc (.cells #[.int .u64 6] 39)
  replace m_s := m_s.alloc (.cells #[.int .u64 6] 39)
  replace m_t := m_t.alloc (.cells #[.int .u64 6] 39)
  replace m_d := m_d.alloc (.cells #[.int .u64 6] 39)
  replace m_x := m_x.alloc (.cells #[.int .u64 6] 39)
  replace m_y := m_y.alloc (.cells #[.int .u64 6] 39)
  replace hT := hT.al (.cells #[.int .u64 6] 39)
  replace bw := bel_al bw (.cells #[.int .u64 6] 39)
  with_reducible refine (is_true m_r m_u).mono ?_
  rintro e w20 ⟨rfl, hb⟩
  replace m_r := m_r.on hb
  replace m_s := m_s.on hb
  replace m_t := m_t.on hb
  replace m_d := m_d.on hb
  replace m_x := m_x.on hb
  replace m_y := m_y.on hb
  replace m_u := m_u.on hb
  replace hT := hT.on hb
  replace bw := bel_then bw hb
  clear hb
  clear m_u
  clear m_r
  go_wp2_with fail
  have m_u := Lv.row (w20) [4] 1 (w20.heap.size) (by simp) rfl (by omega) (lim_k9) (.cells #[.int .u64 4] 39) rfl
  replace m_s := m_s.alloc (.cells #[.int .u64 4] 39)
  replace m_t := m_t.alloc (.cells #[.int .u64 4] 39)
  replace m_d := m_d.alloc (.cells #[.int .u64 4] 39)
  replace m_x := m_x.alloc (.cells #[.int .u64 4] 39)
  replace m_y := m_y.alloc (.cells #[.int .u64 4] 39)
  replace hT := hT.al (.cells #[.int .u64 4] 39)
  replace bw := bel_al bw (.cells #[.int .u64 4] 39)
  with_reducible refine (is_true m_s m_u).mono ?_
  rintro e w21 ⟨rfl, hb⟩
  replace m_s := m_s.on hb
  replace m_t := m_t.on hb
  replace m_d := m_d.on hb
  replace m_x := m_x.on hb
  replace m_y := m_y.on hb
  replace m_u := m_u.on hb
  replace hT := hT.on hb
  replace bw := bel_then bw hb
  clear hb
  clear m_u
  clear m_s
  go_wp2_with fail
  have m_u := Lv.row (w21) [1] 1 (w21.heap.size) (by simp) rfl (by omega) (lim_k2) (.cells #[.int .u64 1] 39) rfl
  replace m_t := m_t.alloc (.cells #[.int .u64 1] 39)
  replace m_d := m_d.alloc (.cells #[.int .u64 1] 39)
  replace m_x := m_x.alloc (.cells #[.int .u64 1] 39)
  replace m_y := m_y.alloc (.cells #[.int .u64 1] 39)
  replace hT := hT.al (.cells #[.int .u64 1] 39)
  replace bw := bel_al bw (.cells #[.int .u64 1] 39)
  with_reducible refine (is_true m_t m_u).mono ?_
  rintro e w22 ⟨rfl, hb⟩
  replace m_t := m_t.on hb
  replace m_d := m_d.on hb
  replace m_x := m_x.on hb
  replace m_y := m_y.on hb
  replace m_u := m_u.on hb
  replace hT := hT.on hb
  replace bw := bel_then bw hb
  clear hb
  clear m_u
  clear m_t
  go_wp2_with fail
  have m_u := Lv.row (w22) [0, 1] 2 (w22.heap.size) (by simp) rfl (by omega) (lim_k1) (.cells #[.int .u64 0, .int .u64 1] 39) rfl
  replace m_d := m_d.alloc (.cells #[.int .u64 0, .int .u64 1] 39)
  replace m_x := m_x.alloc (.cells #[.int .u64 0, .int .u64 1] 39)
  replace m_y := m_y.alloc (.cells #[.int .u64 0, .int .u64 1] 39)
  replace hT := hT.al (.cells #[.int .u64 0, .int .u64 1] 39)
  replace bw := bel_al bw (.cells #[.int .u64 0, .int .u64 1] 39)
  with_reducible refine (is_true m_d m_u).mono ?_
  rintro e w23 ⟨rfl, hb⟩
  replace m_d := m_d.on hb
  replace m_x := m_x.on hb
  replace m_y := m_y.on hb
  replace m_u := m_u.on hb
  replace hT := hT.on hb
  replace bw := bel_then bw hb
  clear hb
  clear m_u
  clear m_d
  go_wp2_with fail
  have m_u := Lv.row (w23) [1] 1 (w23.heap.size) (by simp) rfl (by omega) (lim_k2) (.cells #[.int .u64 1] 39) rfl
  replace m_x := m_x.alloc (.cells #[.int .u64 1] 39)
  replace m_y := m_y.alloc (.cells #[.int .u64 1] 39)
  replace hT := hT.al (.cells #[.int .u64 1] 39)
  replace bw := bel_al bw (.cells #[.int .u64 1] 39)
  with_reducible refine (is_true m_x m_u).mono ?_
  rintro e w24 ⟨rfl, hb⟩
  replace m_x := m_x.on hb
  replace m_y := m_y.on hb
  replace m_u := m_u.on hb
  replace hT := hT.on hb
  replace bw := bel_then bw hb
  clear hb
  clear m_u
  clear m_x
  go_wp2_with fail
  with_reducible refine (num_any 0 _).mono ?_
  rintro e w25 ⟨rfl, rfl⟩
  go_wp2_with fail
  with_reducible refine (num_any 0 _).mono ?_
  rintro e w26 ⟨rfl, rfl⟩
  go_wp2_with fail
  with_reducible refine (num_any 0 _).mono ?_
  rintro e w27 ⟨rfl, rfl⟩
  go_wp2_with fail
  with_reducible refine (num_any 0 _).mono ?_
  rintro e w28 ⟨rfl, rfl⟩
  go_wp2_with fail
  with_reducible refine (num_any 2 _).mono ?_
  rintro e w29 ⟨rfl, rfl⟩
  go_wp2_with fail
  have m_u := Lv.row (w24) [0, 1] 2 (w24.heap.size) (by simp) rfl (by omega) (lim_k1) (.cells #[.int .u64 0, .int .u64 1] 39) rfl
  replace m_y := m_y.alloc (.cells #[.int .u64 0, .int .u64 1] 39)
  replace hT := hT.al (.cells #[.int .u64 0, .int .u64 1] 39)
  replace bw := bel_al bw (.cells #[.int .u64 0, .int .u64 1] 39)
  with_reducible refine (is_true m_y m_u).mono ?_
  rintro e w30 ⟨rfl, hb⟩
  replace m_y := m_y.on hb
  replace m_u := m_u.on hb
  replace hT := hT.on hb
  replace bw := bel_then bw hb
  clear hb
  clear m_u
  clear m_y
  go_wp2_with fail
  go_ret
  exact ⟨rfl, bw⟩
end Go.Proofs.YtigphbjgodfhpaaDoor
