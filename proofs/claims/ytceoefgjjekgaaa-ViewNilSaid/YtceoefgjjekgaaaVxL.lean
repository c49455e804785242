/-
  Layer 7, walks: the reference's Take. (Written by wip/tools/gen_vxl.py.)
-/
import Derived.Test.YtceoefgjjekgaaaVxK
namespace Go.Proofs.Ytceoefgjjekgaaa
open Go.RowKit Go.Bw Go.Sort Go.Shelf
set_option linter.unusedVariables false
set_option linter.unusedSimpArgs false
attribute [local go_sem] run_store_float

section
variable {w : World} {A : Option Addr} {n cd c s : Nat} {r r2 : Ru} {v u : Vu} {K K2 : Int} {B : Nat} {l : List Int}
set_option maxHeartbeats 2000000 in
theorem rTake_none (hb : r.b = false ∨ r2.b = false) (w : World) : Calls Try.prog 45 #[r.V, r2.V] w (Ans w (.int .i64 1)) := by
  obtain ⟨A', n', c', R, C, A2, n2, c2, b⟩ := r
  obtain ⟨A3, n3, c3, R3, C3, A4, n4, c4, b4⟩ := r2
  simp only at hb
  cases b
  · clear hb
    go_enter Try.func45, Try.ntmps45
    go_wp2_with fail
    go_ret
    exact ⟨rfl, by go_grown⟩
  · have hb4 : b4 = false := by rcases hb with h | h; cases h; exact h
    subst hb4
    clear hb
    go_enter Try.func45, Try.ntmps45
    go_wp2_with fail
    go_ret
    exact ⟨rfl, by go_grown⟩
set_option maxHeartbeats 2000000 in
theorem rTake_shape (hb : r.b = true) (hb2 : r2.b = true) (hs : r.R ≠ r2.R ∨ r.C ≠ r2.C) (w : World) : Calls Try.prog 45 #[r.V, r2.V] w (Ans w (.int .i64 8)) := by
  obtain ⟨A', n', c', R, C, A2, n2, c2, b⟩ := r
  obtain ⟨A3, n3, c3, R3, C3, A4, n4, c4, b4⟩ := r2
  simp only at hb hb2 hs
  subst hb hb2
  cases e1 : (R != R3)
  · have e2 : (C != C3) = true := by
      rcases hs with h | h
      · simp at e1; exact absurd e1 h
      · simpa using h
    clear hs
    go_enter Try.func45, Try.ntmps45
    go_wp2_with fail
    go_ret
    exact ⟨rfl, by go_grown⟩
  · clear hs
    go_enter Try.func45, Try.ntmps45
    go_wp2_with fail
    go_ret
    exact ⟨rfl, by go_grown⟩

set_option maxRecDepth 100000 in
set_option maxHeartbeats 4000000 in
theorem rTake_yes (h : Rk w A n cd r v c) (h2 : Rk w A n cd r2 u c) (hs : Sr w B A n cd l) (hv : Vk v s c n K) (hu : Vk u s c n K2) (hb : r.b = true) (hb2 : r2.b = true) (hR : v.R = u.R) (hC : v.C = u.C) :
    Calls Try.prog 45 #[r.V, r2.V] w (WroteR w B A n cd 0 (setTo v c (D (u.fl c l)) l (v.R * v.C).toNat)) := by
  have DR := (Blk.new w r.L 51).alloc (.cells r2.L.toArray 51)
  have D2 := Blk.new (w.alloc (.cells r.L.toArray 51)) r2.L 51
  rw [World.size_alloc] at D2
  have bw := ((Below.refl _ w).alloc (Nat.le_refl _) (.cells r.L.toArray 51)).alloc (by simp) (.cells r2.L.toArray 51)
  have hGl : (u.fl c l).length = (v.R * v.C).toNat := by rw [fl_length, hR, hC]
  have hGw : Wd (u.fl c l) := wd_fl (fun _ => hs.wd) hu.none_
  have pl := rList_any (h2.on bw) (hs.on bw) hu
  have HF : Hid (∀ k, k < (v.R * v.C).toNat → ∃ p : Nat, D (v.ats c) k = p ∧ p < n ∧ v.ix c (v.ei k) (v.ej k) = p) := Lib.hid (fun k hk => by
    obtain ⟨p, hp, hpn, _⟩ := hv.ins _ _ (ei_bd hv.bd hk)
    exact ⟨p, by rw [ats_D v c hk]; exact hp, hpn, hp⟩)
  have hNb := prod_bd hv.bd.R.1 hv.bd.R.2 hv.bd.C.1 hv.bd.C.2
  have hn2 := h.n2
  rw [ats_length] at hn2
  obtain ⟨N, hN⟩ : ∃ N, (v.R * v.C).toNat = N := ⟨_, rfl⟩
  obtain ⟨G, hG⟩ : ∃ G, u.fl c l = G := ⟨_, rfl⟩
  have HL := Lib.hid (ats_length v c)
  rw [hN] at HF hGl hn2 HL ⊢
  rw [hG] at hGl hGw pl ⊢
  have hNb2 : N ≤ 262144 := by omega
  have HH := Lib.hid h
  have HS := Lib.hid hs
  have hRR : r.R = r2.R := by rw [h.R, h2.R, hR]
  have hCC : r.C = r2.C := by rw [h.C, h2.C, hC]
  obtain ⟨d1, d2, d3⟩ := h.data hb
  clear hNb hN hG hR hC h h2 hs hv hu
  obtain ⟨A', n', c', R, C, A2, n2, c2, b⟩ := r
  obtain ⟨A3, n3, c3, R3, C3, A4, n4, c4, b4⟩ := r2
  simp only at hb hb2 hRR hCC d1 d2 d3 hn2
  subst hb hb2 hRR hCC d1 d2 d3 hn2
  obtain ⟨r0, hr0⟩ : ∃ r0, Ru.mk A' n' c' R C A2 n2 c2 true = r0 := ⟨_, rfl⟩
  have Hr0 := Lib.hid hr0
  clear hr0
  have e1 : (R != R) = false := by simp
  have e2 : (C != C) = false := by simp
  have hsz : ((w.alloc (.cells (Ru.L ⟨A', n', c', R, C, A2, n2, c2, true⟩).toArray 51)).alloc (.cells (Ru.L ⟨A3, n3, c3, R, C, A4, n4, c4, true⟩).toArray 51)).heap.size = w.heap.size + 2 := by simp
  obtain ⟨k0, k1, k2, k3, k4⟩ := Rbx.cells DR
  obtain ⟨z0, z1, z2, z3, z4⟩ := Rbx.cells D2
  go_enter Try.func45, Try.ntmps45
  go_wp2_with fail
  with_reducible refine pl.mono ?_
  rintro e w2 ⟨A5, c5, rfl, hown, hb5⟩
  rw [hsz] at hown
  replace DR := DR.on hb5
  replace bw := bw.trans (hb5.mono (by omega))
  have hs2 : w.heap.size + 2 ≤ w2.heap.size := by have := hb5.size; omega
  clear k0 k1 k2 k3 k4 z0 z1 z2 z3 z4 hb5 hsz pl D2
  go_wp2_with fail
  go_loopw [6] (fun i wr => ∃ (k : Nat), k ≤ n2 ∧ i = .int .i64 k ∧ Sr wr B A' n' c' (setTo v c (D G) l k) ∧ Rbx wr w.heap.size r0 ∧ OwnF wr (w.heap.size + 2) A5 c5 G ∧ w.grownBy wr (A'.map (·.block)) ∧ w.heap.size + 2 ≤ wr.heap.size) (fun i _ => n2 - (intOf i).toNat)
  case atStart => exact ⟨0, Nat.zero_le _, rfl, by rw [setTo_zero]; exact HS.out.on bw, by rw [← Hr0.out]; exact DR, hown, grown_below bw _, hs2⟩
  case round =>
    clear DR hown bw hs2
    obtain ⟨k, hk, rfl, hSr, DR, hown, hg, hsz⟩ := hrel
    have hgl := hown.nums.length
    by_cases hlt : k < n2
    · obtain ⟨p, hp, hpn, hix⟩ := HF.out k hlt
      obtain ⟨g, hA, hgB, hgs⟩ := HS.out.own.form (by rw [HS.out.len]; omega)
      obtain ⟨ad2, hA2, hb2, hc2⟩ := (HH.out.wrote hg).num.at_ (k := k) (by rw [HL.out]; exact hlt)
      have hab2 : ad2.block < w.heap.size := by
        obtain ⟨ad', e, hb', _⟩ := HH.out.num.at_ (k := k) (by rw [HL.out]; exact hlt)
        rw [hA2] at e; cases e; exact hb'
      have hfar : ad2.block ≠ g := by have := HH.out.far _ ad2 hA hA2; exact this
      obtain ⟨ad3, hA5, _, hc3⟩ := hown.nums.at_ (k := k) (by rw [hGl]; exact hlt)
      obtain ⟨g3, hA5', hg3, _⟩ := hown.form (by rw [hGl]; omega)
      have had3 : (⟨g3, 0, none⟩ : Addr) = ad3 := by rw [hA5'] at hA5; exact Option.some.inj hA5
      have hb3 : ad3.block ≠ g ∧ w.heap.size + 2 ≤ ad3.block := by rw [← had3]; exact ⟨by show g3 ≠ g; omega, hg3⟩
      have HAD := Lib.hid had3
      clear hA5' hg3
      rw [hp] at hc2
      have hmx := HS.out.fl.max
      obtain ⟨x0, x1⟩ := hGw.at_ k
      have hST := Lib.hid (setTo_succ v c (D G) l k)
      rw [hix] at hST
      obtain ⟨X, hXe⟩ : ∃ X, D G k = X := ⟨_, rfl⟩
      rw [hXe] at hc3 x0 x1 hST
      obtain ⟨L, hL⟩ : ∃ L, setTo v c (D G) l k = L := ⟨_, rfl⟩
      rw [hL] at hSr hST
      have hSl := hSr.len
      rw [hA] at hSr hg
      obtain ⟨g', hgg, hcc, hff⟩ := hSr.own.at_ (k := p) (by rw [hSl]; exact hpn)
      cases hgg
      clear hXe hL hp hix had3
      simp only at hA2
      subst hA hA2 hA5
      have i0 : (0 : Int) ≤ k := by omega
      have i1 : (k : Int) < n2 := by omega
      have j0 : (0 : Int) ≤ p := by omega
      have j1 : (p : Int) < n' := by omega
      have i2 : (k : Int) < G.length := by omega
      go_wp2_with fail
      refine wp_only ?_
      refine wp_region_held_drew (S := fun w9 : World => Rbx w9 w.heap.size r0 ∧ w9.cell? (ad2.add k) = some (.int .i64 (p : Int)) ∧ w9.cell? (ad3.add k) = some (.float .f64 X.toNat)) (by kernel_rfl) ⟨DR.drew, hc2, hc3⟩ (fun hS => ?_)
      refine wpAnyH_take (i := 0) (v := ?v0_1) rfl (by kernel_rfl) (by kernel_rfl) (by kernel_rfl) (fun _ _ _ h => h) (Or.inl ⟨by rfl, ?hy0_1⟩) (by assumption) ?rest0_1
      case hy0_1 => (intro w9 hSw; clear hSw; go_simp; try with_reducible rfl)
      try simp only [Act.put, List.setIfInBounds_toArray, List.set_cons_zero, List.set_cons_succ, List.getElem_toArray, List.getElem_cons_zero, List.getElem_cons_succ]
      refine wpAnyH_take (i := 1) (v := ?v1_2) rfl (by kernel_rfl) (by kernel_rfl) (by kernel_rfl) (fun _ _ _ h => h) (Or.inl ⟨by rfl, ?hy1_2⟩) (by assumption) ?rest1_2
      case hy1_2 => (intro w9 hSw; obtain ⟨n0, n1, n2⟩ := hSw; obtain ⟨k0, k1, k2, k3, k4⟩ := Rbx.cells n0; rw [← Hr0.out] at k0 k1 k2 k3 k4; go_simp; try with_reducible rfl)
      try simp only [Act.put, List.setIfInBounds_toArray, List.set_cons_zero, List.set_cons_succ, List.getElem_toArray, List.getElem_cons_zero, List.getElem_cons_succ]
      refine wpAnyH_take (i := 2) (v := ?v2_3) rfl (by kernel_rfl) (by kernel_rfl) (by kernel_rfl) (fun _ _ _ h => h) (Or.inl ⟨by rfl, ?hy2_3⟩) (by assumption) ?rest2_3
      case hy2_3 => (intro w9 hSw; clear hSw; go_simp; try with_reducible rfl)
      try simp only [Act.put, List.setIfInBounds_toArray, List.set_cons_zero, List.set_cons_succ, List.getElem_toArray, List.getElem_cons_zero, List.getElem_cons_succ]
      refine wpAnyH_take (i := 3) (v := ?v3_4) rfl (by kernel_rfl) (by kernel_rfl) (by kernel_rfl) (fun _ _ _ h => h) (Or.inl ⟨by rfl, ?hy3_4⟩) (by assumption) ?rest3_4
      case hy3_4 => (intro w9 hSw; obtain ⟨n0, n1, n2⟩ := hSw; obtain ⟨k0, k1, k2, k3, k4⟩ := Rbx.cells n0; rw [← Hr0.out] at k0 k1 k2 k3 k4; go_simp; try with_reducible rfl)
      try simp only [Act.put, List.setIfInBounds_toArray, List.set_cons_zero, List.set_cons_succ, List.getElem_toArray, List.getElem_cons_zero, List.getElem_cons_succ]
      refine wpAnyH_take (i := 4) (v := ?v4_5) rfl (by kernel_rfl) (by kernel_rfl) (by kernel_rfl) (fun _ _ _ h => h) (Or.inl ⟨by rfl, ?hy4_5⟩) (by assumption) ?rest4_5
      case hy4_5 => (intro w9 hSw; clear hSw; go_simp; try with_reducible rfl)
      try simp only [Act.put, List.setIfInBounds_toArray, List.set_cons_zero, List.set_cons_succ, List.getElem_toArray, List.getElem_cons_zero, List.getElem_cons_succ]
      refine wpAnyH_take (i := 5) (v := ?v5_6) rfl (by kernel_rfl) (by kernel_rfl) (by kernel_rfl) (fun _ _ _ h => h) (Or.inl ⟨by rfl, ?hy5_6⟩) (by assumption) ?rest5_6
      case hy5_6 => (intro w9 hSw; clear hSw; go_simp; try with_reducible rfl)
      try simp only [Act.put, List.setIfInBounds_toArray, List.set_cons_zero, List.set_cons_succ, List.getElem_toArray, List.getElem_cons_zero, List.getElem_cons_succ]
      refine wpAnyH_take (i := 6) (v := ?v6_7) rfl (by kernel_rfl) (by kernel_rfl) (by kernel_rfl) (fun _ _ _ h => h) (Or.inl ⟨by rfl, ?hy6_7⟩) (by assumption) ?rest6_7
      case hy6_7 => (intro w9 hSw; obtain ⟨n0, n1, n2⟩ := hSw; go_simp; try with_reducible rfl)
      try simp only [Act.put, List.setIfInBounds_toArray, List.set_cons_zero, List.set_cons_succ, List.getElem_toArray, List.getElem_cons_zero, List.getElem_cons_succ]
      refine wpAnyH_take (i := 7) (v := ?v7_8) rfl (by kernel_rfl) (by kernel_rfl) (by kernel_rfl) (fun _ _ _ h => h) (Or.inl ⟨by rfl, ?hy7_8⟩) (by assumption) ?rest7_8
      case hy7_8 => (intro w9 hSw; clear hSw; go_simp; try with_reducible rfl)
      try simp only [Act.put, List.setIfInBounds_toArray, List.set_cons_zero, List.set_cons_succ, List.getElem_toArray, List.getElem_cons_zero, List.getElem_cons_succ]
      refine wpAnyH_take (i := 8) (v := ?v8_9) rfl (by kernel_rfl) (by kernel_rfl) (by kernel_rfl) (fun _ _ _ h => h) (Or.inl ⟨by rfl, ?hy8_9⟩) (by assumption) ?rest8_9
      case hy8_9 => (intro w9 hSw; clear hSw; go_simp; try with_reducible rfl)
      try simp only [Act.put, List.setIfInBounds_toArray, List.set_cons_zero, List.set_cons_succ, List.getElem_toArray, List.getElem_cons_zero, List.getElem_cons_succ]
      refine wpAnyH_take (i := 9) (v := ?v9_10) rfl (by kernel_rfl) (by kernel_rfl) (by kernel_rfl) (fun _ _ _ h => h) (Or.inl ⟨by rfl, ?hy9_10⟩) (by assumption) ?rest9_10
      case hy9_10 => (intro w9 hSw; clear hSw; go_simp; try with_reducible rfl)
      try simp only [Act.put, List.setIfInBounds_toArray, List.set_cons_zero, List.set_cons_succ, List.getElem_toArray, List.getElem_cons_zero, List.getElem_cons_succ]
      refine wpAnyH_take (i := 10) (v := ?v10_11) rfl (by kernel_rfl) (by kernel_rfl) (by kernel_rfl) (fun _ _ _ h => h) (Or.inl ⟨by rfl, ?hy10_11⟩) (by assumption) ?rest10_11
      case hy10_11 => (intro w9 hSw; obtain ⟨n0, n1, n2⟩ := hSw; go_simp; try with_reducible rfl)
      try simp only [Act.put, List.setIfInBounds_toArray, List.set_cons_zero, List.set_cons_succ, List.getElem_toArray, List.getElem_cons_zero, List.getElem_cons_succ]
      refine wpAnyH_take (i := 11) (v := ?v11_12) rfl (by kernel_rfl) (by kernel_rfl) (by kernel_rfl) (fun _ _ _ h => h) (Or.inl ⟨by rfl, ?hy11_12⟩) (by assumption) ?rest11_12
      case hy11_12 => (intro w9 hSw; clear hSw; go_simp; try with_reducible rfl)
      try simp only [Act.put, List.setIfInBounds_toArray, List.set_cons_zero, List.set_cons_succ, List.getElem_toArray, List.getElem_cons_zero, List.getElem_cons_succ]
      refine wpAnyH_ready (rs := [12]) (by kernel_rfl) (by simp) ?_
      refine AllReadyH.cons rfl (fun K hK => ?_) AllReadyH.nil
      go_simp
      refine hK.out _ _ ⟨Blk.far DR.drew (by simp; omega) _, (World.cell?_of_block (Below.heap_setCell wr.drew ⟨g, p, none⟩ _ _ (by simp only [add_block]; omega))).trans hc2, (World.cell?_of_block (Below.heap_setCell wr.drew ⟨g, p, none⟩ _ _ (by simp only [add_block]; omega))).trans hc3⟩ (fun hH => ?_)
      clear hK K hS
      have hS := hH
      clear hH
      try simp only [Act.put, List.setIfInBounds_toArray, List.set_cons_zero, List.set_cons_succ, List.getElem_toArray, List.getElem_cons_zero, List.getElem_cons_succ]
      refine wpAnyH_done (by kernel_rfl) ?_ _
      simp only [onlyN]
      go_wp2_with fail
      go_roundw
      case rel => exact ⟨k + 1, by omega, by go_num, by rw [hST.out, Int.toNat_natCast]; exact ⟨hSr.own.set_ p X, by rw [List.length_set]; exact hSl, wd_set hSr.wd x0 x1 p⟩, Blk.far DR.drew (by simp; omega) _, by have h9 := hown; rw [← HAD.out] at h9 ⊢; exact h9.farG (p := ⟨g, p, none⟩) (by have := hb3.1; rw [← HAD.out] at this; exact this) _, grown_on (setb_grown (show w.grownBy wr (some g) from hg) p _) (Below.refl _ _).drew, by simp; omega⟩
      case measure => simp [intOf]; omega
    · obtain rfl : k = n2 := by omega
      go_wp2_with fail
      go_ret
      exact ⟨rfl, hSr, hg⟩
end
end Go.Proofs.Ytceoefgjjekgaaa
