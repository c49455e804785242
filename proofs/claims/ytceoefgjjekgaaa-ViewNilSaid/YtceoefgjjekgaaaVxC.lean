/-
  Layer 7, walks: the reference's List, Matrix. (Written by wip/tools/gen_vxc.py.)
-/
import Derived.Test.YtceoefgjjekgaaaVxB
namespace Go.Proofs.Ytceoefgjjekgaaa
open Go.RowKit Go.Bw Go.Sort Go.Shelf
set_option linter.unusedVariables false
set_option linter.unusedSimpArgs false

section
variable {w : World} {A : Option Addr} {n cd c s : Nat} {r : Ru} {v : Vu} {K : Int} {B : Nat} {l : List Int}
/-- a new list of floats of the call's own -/
def NewL (w : World) (F : List Int) (e : Ending) (w' : World) : Prop := ∃ A3 c3, e = .returned (.slice A3 F.length c3) ∧ OwnF w' w.heap.size A3 c3 F ∧ Below w.heap.size w w'
set_option maxRecDepth 100000 in
set_option maxHeartbeats 4000000 in
theorem rList_any (h : Rk w A n cd r v c) (hs : Sr w B A n cd l) (hv : Vk v s c n K) :
    Calls Try.prog 34 #[r.V] w (NewL w (v.fl c l)) := by
  have DB := Blk.new w r.L 51
  have bw := (Below.refl _ w).alloc (Nat.le_refl _) (.cells r.L.toArray 51)
  have hsz : (w.alloc (.cells r.L.toArray 51)).heap.size = w.heap.size + 1 := World.size_alloc _ _
  have hN2 := h.n2
  rw [ats_length] at hN2
  have hNb := prod_bd hv.bd.R.1 hv.bd.R.2 hv.bd.C.1 hv.bd.C.2
  have hFl := fl_length v c l
  have HF : ∀ k, k < (v.R * v.C).toNat → ∃ p : Nat, D (v.ats c) k = p ∧ p < n ∧ D (v.fl c l) k = D l p ∧ r.b = true := fun k hk => by
    have hyes := ei_bd hv.bd hk
    obtain ⟨p, hp, hpn, _⟩ := hv.ins _ _ hyes
    refine ⟨p, by rw [ats_D v c hk]; exact hp, hpn, ?_, ?_⟩
    · rw [fl_D v c l hk]; unfold Vu.at_; rw [hyes, hp]; rfl
    · rw [h.b]
      cases hz : (v.p == none)
      · rfl
      · have : v.p = none := by simpa using hz
        rw [Vk.none_ hv this, Vu.has_zero] at hyes; cases hyes
  obtain ⟨N, hN⟩ : ∃ N, (v.R * v.C).toNat = N := ⟨_, rfl⟩
  obtain ⟨F, hF⟩ : ∃ F, v.fl c l = F := ⟨_, rfl⟩
  have HL := Lib.hid (ats_length v c)
  rw [hN] at hN2 hFl HF HL
  rw [hF] at hFl ⊢
  simp only [hF] at HF
  have hNb2 : N ≤ 262144 := by omega
  have HF2 := Lib.hid HF
  clear hN hF hNb HF
  have h0 := h
  obtain ⟨r0, hr0⟩ : ∃ r0, r = r0 := ⟨_, rfl⟩
  have Hr0 := Lib.hid hr0
  have h1 := h
  rw [hr0] at h1
  clear hr0 h0
  obtain ⟨A', n', c', R, C, A2, n2, c2, b⟩ := r
  simp only at hN2
  subst hN2
  have HH := Lib.hid h
  have HS := Lib.hid hs
  clear h hs hv h1
  obtain ⟨k0, k1, k2, k3, k4⟩ := Rbx.cells DB
  go_enter Try.func34, Try.ntmps34
  go_wp2_with fail
  clear k0 k1 k2 k3 k4
  go_loopw [3, 4] (fun lv i wr => ∃ (k : Nat) (A3 : Option Addr) (c3 : Nat), k ≤ n2 ∧ lv = .slice A3 k c3 ∧ i = .int .i64 k ∧ OwnF wr (w.heap.size + 1) A3 c3 (F.take k) ∧ Rbx wr w.heap.size r0 ∧ Below w.heap.size w wr ∧ w.heap.size + 1 ≤ wr.heap.size) (fun _ i _ => n2 - (intOf i).toNat)
  case atStart => exact ⟨0, none, 0, Nat.zero_le _, rfl, rfl, OwnF.nil _ _, by rw [← Hr0.out]; exact DB, bw, by simp⟩
  case round =>
    clear DB bw hsz
    obtain ⟨k, A3, c3, hk, rfl, rfl, ho, DR, bw, hsz⟩ := hrel
    have hlk : (F.take k).length = k := by rw [List.length_take, hFl]; omega
    obtain ⟨k0, k1, k2, k3, k4⟩ := Rbx.cells DR
    rw [← Hr0.out] at k0 k1 k2 k3 k4
    by_cases hlt : k < n2
    · obtain ⟨p, hp, hpn, hX, hbt⟩ := HF2.out k hlt
      obtain ⟨d1, d2, d3⟩ := HH.out.data hbt
      simp only at d1 d2 d3 hbt
      obtain ⟨ad2, hA2, hb2, hc2⟩ := (HH.out.on bw).num.at_ (k := k) (by rw [HL.out]; exact hlt)
      obtain ⟨ad, hA, hbd, hc⟩ := (HS.out.on bw).fl.at_ hpn
      have hab2 : ad2.block < w.heap.size := by
        obtain ⟨ad', e, hb', _⟩ := HH.out.num.at_ (k := k) (by rw [HL.out]; exact hlt)
        rw [hA2] at e; cases e; exact hb'
      have hab : ad.block < w.heap.size := by
        obtain ⟨ad', e, hb', _⟩ := HS.out.fl.at_ hpn
        rw [hA] at e; cases e; exact hb'
      rw [hp] at hc2
      have hmx := HS.out.fl.max
      have HT := Lib.hid (take_next (l := F) (k := k) (by rw [hFl]; exact hlt))
      rw [hX] at HT
      obtain ⟨X, hXe⟩ : ∃ X, D l p = X := ⟨_, rfl⟩
      rw [hXe] at hc HT
      obtain ⟨L, hL⟩ : ∃ L, F.take k = L := ⟨_, rfl⟩
      rw [hL] at ho hlk HT
      clear hX hXe hL hp
      simp only at hA2
      rw [hA] at d1
      have d4 : n' = n := d2
      subst d1 hA2 d3 hbt d4
      subst hlk
      have i0 : (0 : Int) ≤ L.length := by omega
      have i1 : (L.length : Int) < n2 := by omega
      have j0 : (0 : Int) ≤ p := by omega
      have j1 : (p : Int) < n' := by omega
      obtain ⟨o, hoe⟩ : ∃ o, Obj.cells #[fV X] 37 = o := ⟨_, rfl⟩
      have hsrc : NumF (wr.drew.alloc o) (wr.heap.size + 1) (some ⟨wr.heap.size, 0, none⟩) 1 [X] := by
        have := (RowF.one wr.drew X).nums (B := wr.heap.size + 1) (c := 1) 0 1 (by simp) (by omega) (by unfold maxLen; omega) (by simp)
        rw [← hoe]
        simpa using this
      have hown1 : OwnF (wr.drew.alloc o) (w.heap.size + 1) A3 c3 L := (show OwnF wr.drew (w.heap.size + 1) A3 c3 L from ho).alloc_ o
      have hS1 : Rbx (wr.drew.alloc o) w.heap.size r0 ∧ (wr.drew.alloc o).cell? (ad2.add L.length) = some (.int .i64 (p : Int)) ∧ (wr.drew.alloc o).cell? (ad.add p) = some (.float .f64 X.toNat) :=
        ⟨DR.drew.alloc o, by rw [World.cell?_alloc_lt _ _ _ (by rw [add_block]; simp; omega)]; exact hc2, by rw [World.cell?_alloc_lt _ _ _ (by rw [add_block]; simp; omega)]; exact hc⟩
      have HK := Lib.hid (show ∀ w4, (wr.drew.alloc o).grownBy w4 (Value.slice A3 L.length c3).ownBlock → (Rbx w4 w.heap.size r0 ∧ w4.cell? (ad2.add L.length) = some (.int .i64 (p : Int)) ∧ w4.cell? (ad.add p) = some (.float .f64 X.toNat)) ∧ Below w.heap.size w w4 ∧ w.heap.size + 1 ≤ w4.heap.size from fun w4 hg => by
        have hlo : ∀ g, (Value.slice A3 L.length c3).ownBlock = some g → w.heap.size + 1 ≤ g := fun g hk => (World.ownsRow.lt hown1 g hk).1
        have b2 : Below (w.heap.size + 1) (wr.drew.alloc o) w4 := below_appF (Below.refl _ _) hown1 hg (by simp; omega)
        have bel : Below w.heap.size w w4 := below_appF (bw.drew.alloc (by simp; omega) o) (hown1.less (by omega)) hg (by simp; omega)
        refine ⟨⟨hS1.1.grown hg (fun e => ?_), by rw [b2.cell (by rw [add_block]; omega)]; exact hS1.2.1, by rw [b2.cell (by rw [add_block]; omega)]; exact hS1.2.2⟩, bel, ?_⟩
        · have := hlo _ e.symm; omega
        · have := b2.size; simp at this; omega)
      have hCl : L.length ≤ 262144 := by omega
      subst hoe
      go_wp2_with fail
      refine wp_only ?_
      refine wp_region_held_drew (S := fun w9 : World => Rbx w9 w.heap.size r0 ∧ w9.cell? (ad2.add L.length) = some (.int .i64 (p : Int)) ∧ w9.cell? (ad.add p) = some (.float .f64 X.toNat)) (by kernel_rfl) ⟨DR.drew, hc2, hc⟩ (fun hS => ?_)
      refine wpAnyH_take (i := 0) (v := ?v0_1) rfl (by kernel_rfl) (by kernel_rfl) (by kernel_rfl) (fun _ _ _ h => h) (Or.inl ⟨by rfl, ?hy0_1⟩) (by assumption) ?rest0_1
      case hy0_1 => (intro w9 hSw; clear hSw; go_simp; try with_reducible rfl)
      try simp only [Act.put, List.setIfInBounds_toArray, List.set_cons_zero, List.set_cons_succ, List.getElem_toArray, List.getElem_cons_zero, List.getElem_cons_succ]
      refine wpAnyH_take (i := 1) (v := ?v1_2) rfl (by kernel_rfl) (by kernel_rfl) (by kernel_rfl) (fun _ _ _ h => h) (Or.inl ⟨by rfl, ?hy1_2⟩) (by assumption) ?rest1_2
      case hy1_2 => (intro w9 hSw; clear hSw; go_simp; try with_reducible rfl)
      try simp only [Act.put, List.setIfInBounds_toArray, List.set_cons_zero, List.set_cons_succ, List.getElem_toArray, List.getElem_cons_zero, List.getElem_cons_succ]
      refine wpAnyH_take (i := 2) (v := ?v2_3) rfl (by kernel_rfl) (by kernel_rfl) (by kernel_rfl) (fun _ _ _ h => h) (Or.inl ⟨by rfl, ?hy2_3⟩) (by assumption) ?rest2_3
      case hy2_3 => (intro w9 hSw; obtain ⟨n0, n1, n2⟩ := hSw; obtain ⟨k0, k1, k2, k3, k4⟩ := Rbx.cells n0; rw [← Hr0.out] at k0 k1 k2 k3 k4; go_simp; try with_reducible rfl)
      try simp only [Act.put, List.setIfInBounds_toArray, List.set_cons_zero, List.set_cons_succ, List.getElem_toArray, List.getElem_cons_zero, List.getElem_cons_succ]
      refine wpAnyH_take (i := 3) (v := ?v3_4) rfl (by kernel_rfl) (by kernel_rfl) (by kernel_rfl) (fun _ _ _ h => h) (Or.inl ⟨by rfl, ?hy3_4⟩) (by assumption) ?rest3_4
      case hy3_4 => (intro w9 hSw; clear hSw; go_simp; try with_reducible rfl)
      try simp only [Act.put, List.setIfInBounds_toArray, List.set_cons_zero, List.set_cons_succ, List.getElem_toArray, List.getElem_cons_zero, List.getElem_cons_succ]
      refine wpAnyH_take (i := 4) (v := ?v4_5) rfl (by kernel_rfl) (by kernel_rfl) (by kernel_rfl) (fun _ _ _ h => h) (Or.inl ⟨by rfl, ?hy4_5⟩) (by assumption) ?rest4_5
      case hy4_5 => (intro w9 hSw; obtain ⟨n0, n1, n2⟩ := hSw; obtain ⟨k0, k1, k2, k3, k4⟩ := Rbx.cells n0; rw [← Hr0.out] at k0 k1 k2 k3 k4; go_simp; try with_reducible rfl)
      try simp only [Act.put, List.setIfInBounds_toArray, List.set_cons_zero, List.set_cons_succ, List.getElem_toArray, List.getElem_cons_zero, List.getElem_cons_succ]
      refine wpAnyH_take (i := 5) (v := ?v5_6) rfl (by kernel_rfl) (by kernel_rfl) (by kernel_rfl) (fun _ _ _ h => h) (Or.inl ⟨by rfl, ?hy5_6⟩) (by assumption) ?rest5_6
      case hy5_6 => (intro w9 hSw; clear hSw; go_simp; try with_reducible rfl)
      try simp only [Act.put, List.setIfInBounds_toArray, List.set_cons_zero, List.set_cons_succ, List.getElem_toArray, List.getElem_cons_zero, List.getElem_cons_succ]
      refine wpAnyH_take (i := 6) (v := ?v6_7) rfl (by kernel_rfl) (by kernel_rfl) (by kernel_rfl) (fun _ _ _ h => h) (Or.inl ⟨by rfl, ?hy6_7⟩) (by assumption) ?rest6_7
      case hy6_7 => (intro w9 hSw; clear hSw; go_simp; try with_reducible rfl)
      try simp only [Act.put, List.setIfInBounds_toArray, List.set_cons_zero, List.set_cons_succ, List.getElem_toArray, List.getElem_cons_zero, List.getElem_cons_succ]
      refine wpAnyH_take (i := 7) (v := ?v7_8) rfl (by kernel_rfl) (by kernel_rfl) (by kernel_rfl) (fun _ _ _ h => h) (Or.inl ⟨by rfl, ?hy7_8⟩) (by assumption) ?rest7_8
      case hy7_8 => (intro w9 hSw; obtain ⟨n0, n1, n2⟩ := hSw; obtain ⟨k0, k1, k2, k3, k4⟩ := Rbx.cells n0; rw [← Hr0.out] at k0 k1 k2 k3 k4; go_simp; try with_reducible rfl)
      try simp only [Act.put, List.setIfInBounds_toArray, List.set_cons_zero, List.set_cons_succ, List.getElem_toArray, List.getElem_cons_zero, List.getElem_cons_succ]
      refine wpAnyH_take (i := 8) (v := ?v8_9) rfl (by kernel_rfl) (by kernel_rfl) (by kernel_rfl) (fun _ _ _ h => h) (Or.inl ⟨by rfl, ?hy8_9⟩) (by assumption) ?rest8_9
      case hy8_9 => (intro w9 hSw; clear hSw; go_simp; try with_reducible rfl)
      try simp only [Act.put, List.setIfInBounds_toArray, List.set_cons_zero, List.set_cons_succ, List.getElem_toArray, List.getElem_cons_zero, List.getElem_cons_succ]
      refine wpAnyH_take (i := 9) (v := ?v9_10) rfl (by kernel_rfl) (by kernel_rfl) (by kernel_rfl) (fun _ _ _ h => h) (Or.inl ⟨by rfl, ?hy9_10⟩) (by assumption) ?rest9_10
      case hy9_10 => (intro w9 hSw; obtain ⟨n0, n1, n2⟩ := hSw; obtain ⟨k0, k1, k2, k3, k4⟩ := Rbx.cells n0; rw [← Hr0.out] at k0 k1 k2 k3 k4; go_simp; try with_reducible rfl)
      try simp only [Act.put, List.setIfInBounds_toArray, List.set_cons_zero, List.set_cons_succ, List.getElem_toArray, List.getElem_cons_zero, List.getElem_cons_succ]
      refine wpAnyH_ready (rs := [10]) (by kernel_rfl) (by simp) ?_
      refine AllReadyH.cons rfl (fun K hK => ?_) AllReadyH.nil
      go_simp
      refine hK.out _ _ hS1 (fun hH => ?_)
      clear hK K hS
      have hS := hH
      clear hH
      try simp only [Act.put, List.setIfInBounds_toArray, List.set_cons_zero, List.set_cons_succ, List.getElem_toArray, List.getElem_cons_zero, List.getElem_cons_succ]
      refine wpAnyH_ready (rs := [11]) (by kernel_rfl) (by simp) ?_
      refine AllReadyH.cons rfl (fun K hK => ?_) AllReadyH.nil
      refine wp_appF _ _ _ (by rfl) (w.heap.size + 1) A3 c3 L (by rfl) hown1 _ (some ⟨wr.heap.size, 0, none⟩) 1 [X] (by rfl) hsrc (by simp; omega) (by simp; omega) ?_
      intro A4 c4 w4 hown4 hg hat
      obtain ⟨hS4, hb4, hs4⟩ := HK.out _ hg
      refine hK.out _ _ hS4 (fun hH => ?_)
      clear hK K hS
      have hS := hH
      clear hH
      try simp only [Act.put, List.setIfInBounds_toArray, List.set_cons_zero, List.set_cons_succ, List.getElem_toArray, List.getElem_cons_zero, List.getElem_cons_succ]
      refine wpAnyH_ready (rs := [12]) (by kernel_rfl) (by simp) ?_
      refine AllReadyH.cons rfl (fun K hK => ?_) AllReadyH.nil
      go_simp
      refine hK.out _ _ hS4 (fun hH => ?_)
      clear hK K hS
      have hS := hH
      clear hH
      try simp only [Act.put, List.setIfInBounds_toArray, List.set_cons_zero, List.set_cons_succ, List.getElem_toArray, List.getElem_cons_zero, List.getElem_cons_succ]
      refine wpAnyH_done (by kernel_rfl) ?_ _
      simp only [onlyN]
      go_wp2_with fail
      go_roundw
      case rel => exact ⟨L.length + 1, A4, c4, by omega, by simp, by go_num, by rw [HT.out]; exact hown4, hS4.1, hb4, hs4⟩
      case measure => simp [intOf]; omega
    · obtain rfl : k = n2 := by omega
      go_wp2_with fail
      go_ret
      refine ⟨A3, c3, by rw [hFl]; rfl, ?_, bw⟩
      rw [List.take_of_length_le (by omega)] at ho
      exact ho.less (by omega)
end
end Go.Proofs.Ytceoefgjjekgaaa
