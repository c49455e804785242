/-
  Layer 5, walks: a matrix scaled, by the program; two lists that are the same, by the reference. (Written by wip/tools/gen_guv.py.)
-/
import Derived.Test.YtfaemgdeoamijaaGuU
namespace Go.Proofs.Ytfaemgdeoamijaa
open Go.RowKit Go.Bw
set_option linter.unusedVariables false
set_option linter.unusedSimpArgs false

section
variable {A : Option Addr} {len c : Nat} {r s p : Int} {l : List Int} {w : World}
set_option maxHeartbeats 2000000 in
theorem sameAll_any {A2 : Option Addr} {len2 c2 : Nat} (h : FL w A len c l) (h2 : FL w A2 len2 c2 l) :
    Calls Try.prog 29 #[.slice A len c, .slice A2 len2 c2] w (AnsD w (.bool true)) := by
  have hmx := h.max
  obtain rfl : len = len2 := by rw [← h.1, ← h2.1]
  go_enter Try.func29, Try.ntmps29
  go_wp2_with fail
  go_loopw [5] (fun i wr => ∃ (k t : Nat), k ≤ len ∧ i = .int .i64 k ∧ wr = w.drewN t) (fun i _ => len - (intOf i).toNat)
  case atStart => exact ⟨0, 0, Nat.zero_le _, rfl, rfl⟩
  case round =>
    obtain ⟨k, t, hk, rfl, rfl⟩ := hrel
    by_cases hlt : k < len
    · obtain ⟨ad, rfl, hb, hc⟩ := h.at_ hlt
      obtain ⟨ad2, rfl, hb2, hc2⟩ := h2.at_ hlt
      obtain ⟨x0, x1⟩ := h.2.2.at_ k
      have i0 : (0 : Int) ≤ k := by omega
      have i1 : (k : Int) < len := by omega
      obtain ⟨X, hX⟩ : ∃ X, D l k = X := ⟨_, rfl⟩
      rw [hX] at hc hc2 x0 x1
      clear hX
      go_wp2_with fail
      go_quiet ((go_at_call 24; exact (rSame_self _ x0 _).mono (by rintro e w' ⟨he, hw⟩; exact ⟨he, _, hw.symm⟩)))
      go_wp2_with fail
      go_roundw
      case rel => exact ⟨k + 1, _, by omega, by go_num, by first | rfl | simp⟩
      case measure => simp [intOf]; omega
    · obtain rfl : k = len := by omega
      go_wp2_with fail
      go_ret
      exact ⟨rfl, _, rfl⟩

set_option maxHeartbeats 2000000 in
theorem scale_arg (hp : p < -2000 ∨ 2000 < p) :
    Calls Try.prog 27 #[mV r s A len c, .int .i64 p] w (MatC 2 0 0 [] w) := by
  have DB := Blk.new (w.alloc (.cells #[.int .i64 r, .int .i64 s, .slice A len c] 26)) [.int .i64 0, .int .i64 0, .slice none 0 0] 26
  simp only [World.size_alloc] at DB
  obtain ⟨DB_0, DB_1, DB_2, DB_f0, DB_f1, DB_f2⟩ := Mbx.cells DB
  have bw : Below w.heap.size w ((w.alloc (.cells #[.int .i64 r, .int .i64 s, .slice A len c] 26)).alloc (.cells #[.int .i64 0, .int .i64 0, .slice none 0 0] 26)) := by go_grown
  rcases hp with hp | hp
  · go_enter Try.func27, Try.ntmps27
    go_wp2_with fail
    refine bodyPost_ret (v := .tuple #[mV 0 0 none 0 0, .int .i64 2]) (by simp [results, Try.results27, go_sem, DB_0, DB_1, DB_2, DB_f0, DB_f1, DB_f2]) rfl ?_
    exact ⟨none, 0, rfl, FL.nil _, bw⟩
  · go_enter Try.func27, Try.ntmps27
    go_wp2_with fail
    refine bodyPost_ret (v := .tuple #[mV 0 0 none 0 0, .int .i64 2]) (by simp [results, Try.results27, go_sem, DB_0, DB_1, DB_2, DB_f0, DB_f1, DB_f2]) rfl ?_
    exact ⟨none, 0, rfl, FL.nil _, bw⟩

set_option maxHeartbeats 2000000 in
theorem scale_no (h : FL w A len c l) (hp : -2000 ≤ p) (hp2 : p ≤ 2000) (hw : wrC r s l ≠ 0) :
    Calls Try.prog 27 #[mV r s A len c, .int .i64 p] w (MatC (wrC r s l) 0 0 [] w) := by
  have DB := Blk.new (w.alloc (.cells #[.int .i64 r, .int .i64 s, .slice A len c] 26)) [.int .i64 0, .int .i64 0, .slice none 0 0] 26
  simp only [World.size_alloc] at DB
  have DA := (Blk.new w [.int .i64 r, .int .i64 s, .slice A len c] 26).alloc (.cells #[.int .i64 0, .int .i64 0, .slice none 0 0] 26)
  have h2 := (h.alloc (.cells #[.int .i64 r, .int .i64 s, .slice A len c] 26)).alloc (.cells #[.int .i64 0, .int .i64 0, .slice none 0 0] 26)
  have bw : Below w.heap.size w ((w.alloc (.cells #[.int .i64 r, .int .i64 s, .slice A len c] 26)).alloc (.cells #[.int .i64 0, .int .i64 0, .slice none 0 0] 26)) := by go_grown
  have pw := wrong_any (r := r) (s := s) h2
  have d : (wrC r s l != 0) = true := by simpa using hw
  obtain ⟨DA_0, DA_1, DA_2, DA_f0, DA_f1, DA_f2⟩ := Mbx.cells DA
  clear hw
  go_enter Try.func27, Try.ntmps27
  go_wp2_with fail
  with_reducible refine pw.mono ?_
  rintro e w1 ⟨rfl, hb⟩
  replace bw := bw.trans (hb.mono (by simp; omega))
  replace DB := Blk.on DB hb
  obtain ⟨DB_0, DB_1, DB_2, DB_f0, DB_f1, DB_f2⟩ := Mbx.cells DB
  clear DA_0 DA_1 DA_2 DA_f0 DA_f1 DA_f2 hb pw
  go_wp2_with fail
  refine bodyPost_ret (v := .tuple #[mV 0 0 none 0 0, .int .i64 (wrC r s l)]) (by simp [results, Try.results27, go_sem, DB_0, DB_1, DB_2, DB_f0, DB_f1, DB_f2]) rfl ?_
  exact ⟨none, 0, rfl, FL.nil _, below_put bw (by omega) _ _ _⟩

theorem D_map {F : Int → Int} {k : Nat} (hk : k < l.length) : D (l.map F) k = F (D l k) := by
  rw [D_in (by simpa using hk), D_in hk, List.getElem_map]
theorem wrC_zero (h : wrC r s l = 0) : szB r s = true ∧ (l.length : Int) = r * s ∧ l.all fin = true := by
  unfold wrC at h
  cases hs : szB r s <;> rw [hs] at h
  · simp at h
  · by_cases hl : (l.length : Int) = r * s
    · cases hf : l.all fin <;> rw [hf] at h
      · simp [hl] at h
      · exact ⟨rfl, hl, rfl⟩
    · simp [hl] at h

set_option maxRecDepth 100000 in
set_option maxHeartbeats 16000000 in
theorem scale_ok (h : FL w A len c l) (hp : -2000 ≤ p) (hp2 : p ≤ 2000) (hw : wrC r s l = 0) :
    Calls Try.prog 27 #[mV r s A len c, .int .i64 p] w (MatC 0 r s (l.map fun x => tw x p) w) := by
  obtain ⟨hs, hlen, hfin⟩ := wrC_zero hw
  obtain ⟨⟨m0, m1, n0, n1⟩, p0, p1⟩ := szB_bd hs
  rw [h.1] at hlen
  have hL : len ≤ 262144 := by omega
  have hP : r * s = (len : Int) := hlen.symm
  have DR := Blk.new (w.alloc (.cells #[.int .i64 r, .int .i64 s, .slice A len c] 26)) [.int .i64 0, .int .i64 0, .slice none 0 0] 26
  simp only [World.size_alloc] at DR
  have DA := (Blk.new w [.int .i64 r, .int .i64 s, .slice A len c] 26).alloc (.cells #[.int .i64 0, .int .i64 0, .slice none 0 0] 26)
  have h2 := (h.alloc (.cells #[.int .i64 r, .int .i64 s, .slice A len c] 26)).alloc (.cells #[.int .i64 0, .int .i64 0, .slice none 0 0] 26)
  have bw : Below w.heap.size w ((w.alloc (.cells #[.int .i64 r, .int .i64 s, .slice A len c] 26)).alloc (.cells #[.int .i64 0, .int .i64 0, .slice none 0 0] 26)) := by go_grown
  have pw := wrong_any (r := r) (s := s) h2
  rw [hw] at pw
  obtain ⟨DA_0, DA_1, DA_2, DA_f0, DA_f1, DA_f2⟩ := Mbx.cells DA
  have hwd : Wd (l.map fun x => tw x p) := fun y hy => by
    obtain ⟨x, hx, rfl⟩ := List.mem_map.1 hy
    exact tw_bd x p (h.2.2 x hx).1 (h.2.2 x hx).2
  have HWD := Lib.hid hwd
  clear hw hwd hlen
  go_enter Try.func27, Try.ntmps27
  go_wp2_with fail
  with_reducible refine pw.mono ?_
  rintro e w1 ⟨rfl, hb⟩
  have hs1 := hb.size
  simp only [World.size_alloc] at hs1
  replace bw := bw.trans (hb.mono (by simp; omega))
  replace DR := Blk.on DR hb
  replace DA := Blk.on DA hb
  have h3 := h2.on hb
  clear DA_0 DA_1 DA_2 DA_f0 DA_f1 DA_f2 hb pw h2
  obtain ⟨DA_0, DA_1, DA_2, DA_f0, DA_f1, DA_f2⟩ := Mbx.cells DA
  have DS := Blk.new w1 [.int .i64 r, .int .i64 s, .slice none 0 0] 26
  have DA3 := DA.alloc (.cells #[.int .i64 r, .int .i64 s, .slice none 0 0] 26)
  have DR3 := DR.alloc (.cells #[.int .i64 r, .int .i64 s, .slice none 0 0] 26)
  have bw3 : Below w.heap.size w (w1.alloc (.cells #[.int .i64 r, .int .i64 s, .slice none 0 0] 26)) := bw.alloc (by omega) _
  obtain ⟨DC_0, DC_1, DC_2, DC_f0, DC_f1, DC_f2⟩ := Mbx.cells DA3
  go_wp2_with fail
  clear DA_0 DA_1 DA_2 DA_f0 DA_f1 DA_f2 DC_0 DC_1 DC_2 DC_f0 DC_f1 DC_f2
  have sz3 : (w1.alloc (.cells #[.int .i64 r, .int .i64 s, .slice none 0 0] 26)).heap.size = w1.heap.size + 1 := by simp
  obtain ⟨g, hg⟩ : ∃ g, w1.heap.size = g := ⟨_, rfl⟩
  rw [hg] at DS sz3 hs1 ⊢
  go_loopw [32] (fun i wr => ∃ (k : Nat) (A2 : Option Addr) (c2 : Nat), k ≤ len ∧ i = .int .i64 k ∧ OwnF wr (g + 1) A2 c2 ((l.map fun x => tw x p).take k) ∧ Mbx wr g r s A2 k c2 ∧ Mbx wr w.heap.size r s A len c ∧ Mbx wr (w.heap.size + 1) 0 0 none 0 0 ∧ Below w.heap.size w wr ∧ g + 1 ≤ wr.heap.size) (fun i _ => len - (intOf i).toNat)
  case atStart => exact ⟨0, none, 0, Nat.zero_le _, rfl, OwnF.nil _ _, DS, DA3, DR3, bw3, by omega⟩
  case round =>
    clear DS DA3 DR3 bw3 sz3 DA DR bw h3
    obtain ⟨k, A2, c2, hk, rfl, ho, DS, DA, DR, bw, hsz⟩ := hrel
    have hll : (l.map fun x => tw x p).length = len := by rw [List.length_map, h.1]
    have hlk : ((l.map fun x => tw x p).take k).length = k := by rw [List.length_take, hll]; omega
    by_cases hlt : k < len
    · obtain ⟨ad, rfl, hadb, hc⟩ := (h.on bw).at_ hlt
      obtain ⟨x0, x1⟩ := h.2.2.at_ k
      have hT := Lib.hid (take_next (l := l.map fun x => tw x p) (k := k) (by rw [hll]; exact hlt))
      rw [D_map (by rw [h.1]; exact hlt)] at hT
      obtain ⟨X, hX⟩ : ∃ X, D l k = X := ⟨_, rfl⟩
      rw [hX] at hc x0 x1 hT
      have pt := times_any X p x0 x1 (by omega) (by omega)
      obtain ⟨Y, hY⟩ : ∃ Y, tw X p = Y := ⟨_, rfl⟩
      rw [hY] at hT pt
      obtain ⟨C, hC⟩ : ∃ C, (l.map fun x => tw x p).take k = C := ⟨_, rfl⟩
      rw [hC] at ho hlk hT
      clear hX hC hY hll
      subst hlk
      have i0 : (0 : Int) ≤ C.length := by omega
      have i1 : (C.length : Int) < len := by omega
      obtain ⟨o, hoe⟩ : ∃ o, Obj.cells #[fV Y] 37 = o := ⟨_, rfl⟩
      have hsrc : NumF (wr.alloc o).drew (wr.heap.size + 1) (some ⟨wr.heap.size, 0, none⟩) 1 [Y] := by
        have := (RowF.one wr Y).nums (B := wr.heap.size + 1) (c := 1) 0 1 (by simp) (by omega) (by unfold maxLen; omega) (by omega)
        rw [← hoe]
        have h9 : NumF (wr.alloc (Obj.cells #[fV Y] 37)) (wr.heap.size + 1) (some ⟨wr.heap.size, 0, none⟩) 1 [Y] := by simpa using this
        exact h9.drew
      have hown1 : OwnF (wr.alloc o).drew (g + 1) A2 c2 C := ho.alloc_ o
      have DS1 := (DS.alloc o).drew
      have DA1 := (DA.alloc o).drew
      have DR1 := (DR.alloc o).drew
      have hfar : ∀ w4, (wr.alloc o).drew.grownBy w4 (Value.slice A2 C.length c2).ownBlock → Mbx w4 g r s A2 C.length c2 ∧ Mbx w4 w.heap.size r s (some ad) len c ∧ Mbx w4 (w.heap.size + 1) 0 0 none 0 0 ∧ Below w.heap.size w w4 ∧ g + 1 ≤ w4.heap.size := fun w4 hg => by
        have hlo : ∀ g', (Value.slice A2 C.length c2).ownBlock = some g' → g + 1 ≤ g' := fun g' hk => (World.ownsRow.lt hown1 g' hk).1
        have bel : Below w.heap.size w w4 := below_appF (bw.alloc (by omega) o).drew (hown1.less (by omega)) hg (by simp; omega)
        have b2 : Below (g + 1) (wr.alloc o).drew w4 := below_appF (Below.refl _ _) hown1 hg (by simp; omega)
        refine ⟨DS1.grown hg (fun e => ?_), DA1.grown hg (fun e => ?_), DR1.grown hg (fun e => ?_), bel, ?_⟩
        · have := hlo _ e.symm; omega
        · have := hlo _ e.symm; omega
        · have := hlo _ e.symm; omega
        · have := b2.size; simp at this; omega
      have HK := Lib.hid hfar
      obtain ⟨DA_0, DA_1, DA_2, DA_f0, DA_f1, DA_f2⟩ := Mbx.cells DA
      obtain ⟨DS_0, DS_1, DS_2, DS_f0, DS_f1, DS_f2⟩ := Mbx.cells DS
      obtain ⟨DT_0, DT_1, DT_2, DT_f0, DT_f1, DT_f2⟩ := Mbx.cells DS1
      have hCl : C.length ≤ 262144 := by omega
      have hgl := Blk.lt DS
      subst hoe
      clear hfar
      go_wp2_with fail
      refine wp_region_held_drew (S := fun _ => True) (by kernel_rfl) trivial (fun _ => ?_)
      refine wpAnyH_take (i := 0) (v := ?v0_1) rfl (by kernel_rfl) (by kernel_rfl) (by kernel_rfl) (fun _ _ _ h => h) (Or.inl ⟨by rfl, ?hy0_1⟩) (by trivial) ?rest0_1
      case hy0_1 => (intro w9 hSw; clear hSw; go_simp; try with_reducible rfl)
      simp only [Act.put, List.setIfInBounds_toArray, List.set_cons_zero, List.set_cons_succ, List.getElem_toArray, List.getElem_cons_zero, List.getElem_cons_succ]
      refine wpAnyH_take (i := 2) (v := ?v2_2) rfl (by kernel_rfl) (by kernel_rfl) (by kernel_rfl) (fun _ _ _ h => h) (Or.inl ⟨by rfl, ?hy2_2⟩) (by trivial) ?rest2_2
      case hy2_2 => (intro w9 hSw; clear hSw; go_simp; try with_reducible rfl)
      simp only [Act.put, List.setIfInBounds_toArray, List.set_cons_zero, List.set_cons_succ, List.getElem_toArray, List.getElem_cons_zero, List.getElem_cons_succ]
      refine wpAnyH_take (i := 4) (v := ?v4_3) rfl (by kernel_rfl) (by kernel_rfl) (by kernel_rfl) (fun _ _ _ h => h) (Or.inl ⟨by rfl, ?hy4_3⟩) (by trivial) ?rest4_3
      case hy4_3 => (intro w9 hSw; clear hSw; go_simp; try with_reducible rfl)
      simp only [Act.put, List.setIfInBounds_toArray, List.set_cons_zero, List.set_cons_succ, List.getElem_toArray, List.getElem_cons_zero, List.getElem_cons_succ]
      refine wpAnyH_take (i := 7) (v := ?v7_4) rfl (by kernel_rfl) (by kernel_rfl) (by kernel_rfl) (fun _ _ _ h => h) (Or.inl ⟨by rfl, ?hy7_4⟩) (by trivial) ?rest7_4
      case hy7_4 => (intro w9 hSw; clear hSw; go_simp; try with_reducible rfl)
      simp only [Act.put, List.setIfInBounds_toArray, List.set_cons_zero, List.set_cons_succ, List.getElem_toArray, List.getElem_cons_zero, List.getElem_cons_succ]
      refine wpAnyH_ready (rs := [1, 3]) (by kernel_rfl) (by simp) ?_
      refine (AllReadyH.cons rfl (fun K hK => ?_) (AllReadyH.cons rfl (fun K hK => ?_) AllReadyH.nil))
      · go_simp
        refine hK.out _ _ trivial (fun _ => ?_)
        clear hK K
        try simp only [Act.put, List.setIfInBounds_toArray, List.set_cons_zero, List.set_cons_succ, List.getElem_toArray, List.getElem_cons_zero, List.getElem_cons_succ]
        refine wpAnyH_ready (rs := [3]) (by kernel_rfl) (by simp) ?_
        refine (AllReadyH.cons rfl (fun K hK => ?_) AllReadyH.nil)
        go_simp
        refine hK.out _ _ trivial (fun _ => ?_)
        clear hK K
        try simp only [Act.put, List.setIfInBounds_toArray, List.set_cons_zero, List.set_cons_succ, List.getElem_toArray, List.getElem_cons_zero, List.getElem_cons_succ]
        refine wpAnyH_ready (rs := [5]) (by kernel_rfl) (by simp) ?_
        refine (AllReadyH.cons rfl (fun K hK => ?_) AllReadyH.nil)
        go_simp
        refine hK.out _ _ trivial (fun _ => ?_)
        clear hK K
        try simp only [Act.put, List.setIfInBounds_toArray, List.set_cons_zero, List.set_cons_succ, List.getElem_toArray, List.getElem_cons_zero, List.getElem_cons_succ]
        refine wpAnyH_ready (rs := [6]) (by kernel_rfl) (by simp) ?_
        refine (AllReadyH.cons rfl (fun K hK => ?_) AllReadyH.nil)
        go_simp
        refine hK.out _ _ trivial (fun _ => ?_)
        clear hK K
        try simp only [Act.put, List.setIfInBounds_toArray, List.set_cons_zero, List.set_cons_succ, List.getElem_toArray, List.getElem_cons_zero, List.getElem_cons_succ]
        refine wpAnyH_ready (rs := [8]) (by kernel_rfl) (by simp) ?_
        refine (AllReadyH.cons rfl (fun K hK => ?_) AllReadyH.nil)
        go_simp
        with_reducible refine (pt _).mono ?_
        rintro e w5 ⟨rfl, rfl⟩
        refine hK.out _ _ trivial (fun _ => ?_)
        clear hK K
        try simp only [Act.put, List.setIfInBounds_toArray, List.set_cons_zero, List.set_cons_succ, List.getElem_toArray, List.getElem_cons_zero, List.getElem_cons_succ]
        refine wpAnyH_ready (rs := [9]) (by kernel_rfl) (by simp) ?_
        refine (AllReadyH.cons rfl (fun K hK => ?_) AllReadyH.nil)
        go_simp
        refine hK.out _ _ trivial (fun _ => ?_)
        clear hK K
        try simp only [Act.put, List.setIfInBounds_toArray, List.set_cons_zero, List.set_cons_succ, List.getElem_toArray, List.getElem_cons_zero, List.getElem_cons_succ]
        refine wpAnyH_ready (rs := [10]) (by kernel_rfl) (by simp) ?_
        refine (AllReadyH.cons rfl (fun K hK => ?_) AllReadyH.nil)
        refine wp_appF _ _ _ (by rfl) (g + 1) A2 c2 C (by rfl) hown1 _ (some ⟨wr.heap.size, 0, none⟩) 1 [Y] (by rfl) hsrc (by simp; omega) (by simp; omega) ?_
        intro A4 c4 w4 hown4 hg hat
        obtain ⟨ES, EA, ER, EB, EZ⟩ := HK.out _ hg
        obtain ⟨ES_0, ES_1, ES_2, ES_f0, ES_f1, ES_f2⟩ := Mbx.cells ES
        refine hK.out _ _ trivial (fun _ => ?_)
        clear hK K
        try simp only [Act.put, List.setIfInBounds_toArray, List.set_cons_zero, List.set_cons_succ, List.getElem_toArray, List.getElem_cons_zero, List.getElem_cons_succ]
        refine wpAnyH_ready (rs := [11]) (by kernel_rfl) (by simp) ?_
        refine (AllReadyH.cons rfl (fun K hK => ?_) AllReadyH.nil)
        go_simp
        refine hK.out _ _ trivial (fun _ => ?_)
        clear hK K
        try simp only [Act.put, List.setIfInBounds_toArray, List.set_cons_zero, List.set_cons_succ, List.getElem_toArray, List.getElem_cons_zero, List.getElem_cons_succ]
        refine wpAnyH_ready (rs := [12]) (by kernel_rfl) (by simp) ?_
        refine (AllReadyH.cons rfl (fun K hK => ?_) AllReadyH.nil)
        go_simp
        refine hK.out _ _ trivial (fun _ => ?_)
        clear hK K
        try simp only [Act.put, List.setIfInBounds_toArray, List.set_cons_zero, List.set_cons_succ, List.getElem_toArray, List.getElem_cons_zero, List.getElem_cons_succ]
        refine wpAnyH_done (by kernel_rfl) ?_ _
        go_wp2_with fail
        go_roundw
        case rel => exact ⟨C.length + 1, A4, c4, by omega, by go_num, by rw [hT.out]; exact hown4.farC (by simp) _, ES.putD A4 (C.length + 1) c4, Blk.far EA (by simp; omega) _, Blk.far ER (by simp; omega) _, EB.setCell (p := ⟨g, 2, none⟩) (by simp; omega) _, by simp; omega⟩
        case measure => simp [intOf]; omega
      · go_simp
        refine hK.out _ _ trivial (fun _ => ?_)
        clear hK K
        try simp only [Act.put, List.setIfInBounds_toArray, List.set_cons_zero, List.set_cons_succ, List.getElem_toArray, List.getElem_cons_zero, List.getElem_cons_succ]
        refine wpAnyH_ready (rs := [1, 5]) (by kernel_rfl) (by simp) ?_
        refine (AllReadyH.cons rfl (fun K hK => ?_) (AllReadyH.cons rfl (fun K hK => ?_) AllReadyH.nil))
        · go_simp
          refine hK.out _ _ trivial (fun _ => ?_)
          clear hK K
          try simp only [Act.put, List.setIfInBounds_toArray, List.set_cons_zero, List.set_cons_succ, List.getElem_toArray, List.getElem_cons_zero, List.getElem_cons_succ]
          refine wpAnyH_ready (rs := [5]) (by kernel_rfl) (by simp) ?_
          refine (AllReadyH.cons rfl (fun K hK => ?_) AllReadyH.nil)
          go_simp
          refine hK.out _ _ trivial (fun _ => ?_)
          clear hK K
          try simp only [Act.put, List.setIfInBounds_toArray, List.set_cons_zero, List.set_cons_succ, List.getElem_toArray, List.getElem_cons_zero, List.getElem_cons_succ]
          refine wpAnyH_ready (rs := [6]) (by kernel_rfl) (by simp) ?_
          refine (AllReadyH.cons rfl (fun K hK => ?_) AllReadyH.nil)
          go_simp
          refine hK.out _ _ trivial (fun _ => ?_)
          clear hK K
          try simp only [Act.put, List.setIfInBounds_toArray, List.set_cons_zero, List.set_cons_succ, List.getElem_toArray, List.getElem_cons_zero, List.getElem_cons_succ]
          refine wpAnyH_ready (rs := [8]) (by kernel_rfl) (by simp) ?_
          refine (AllReadyH.cons rfl (fun K hK => ?_) AllReadyH.nil)
          go_simp
          with_reducible refine (pt _).mono ?_
          rintro e w5 ⟨rfl, rfl⟩
          refine hK.out _ _ trivial (fun _ => ?_)
          clear hK K
          try simp only [Act.put, List.setIfInBounds_toArray, List.set_cons_zero, List.set_cons_succ, List.getElem_toArray, List.getElem_cons_zero, List.getElem_cons_succ]
          refine wpAnyH_ready (rs := [9]) (by kernel_rfl) (by simp) ?_
          refine (AllReadyH.cons rfl (fun K hK => ?_) AllReadyH.nil)
          go_simp
          refine hK.out _ _ trivial (fun _ => ?_)
          clear hK K
          try simp only [Act.put, List.setIfInBounds_toArray, List.set_cons_zero, List.set_cons_succ, List.getElem_toArray, List.getElem_cons_zero, List.getElem_cons_succ]
          refine wpAnyH_ready (rs := [10]) (by kernel_rfl) (by simp) ?_
          refine (AllReadyH.cons rfl (fun K hK => ?_) AllReadyH.nil)
          refine wp_appF _ _ _ (by rfl) (g + 1) A2 c2 C (by rfl) hown1 _ (some ⟨wr.heap.size, 0, none⟩) 1 [Y] (by rfl) hsrc (by simp; omega) (by simp; omega) ?_
          intro A4 c4 w4 hown4 hg hat
          obtain ⟨ES, EA, ER, EB, EZ⟩ := HK.out _ hg
          obtain ⟨ES_0, ES_1, ES_2, ES_f0, ES_f1, ES_f2⟩ := Mbx.cells ES
          refine hK.out _ _ trivial (fun _ => ?_)
          clear hK K
          try simp only [Act.put, List.setIfInBounds_toArray, List.set_cons_zero, List.set_cons_succ, List.getElem_toArray, List.getElem_cons_zero, List.getElem_cons_succ]
          refine wpAnyH_ready (rs := [11]) (by kernel_rfl) (by simp) ?_
          refine (AllReadyH.cons rfl (fun K hK => ?_) AllReadyH.nil)
          go_simp
          refine hK.out _ _ trivial (fun _ => ?_)
          clear hK K
          try simp only [Act.put, List.setIfInBounds_toArray, List.set_cons_zero, List.set_cons_succ, List.getElem_toArray, List.getElem_cons_zero, List.getElem_cons_succ]
          refine wpAnyH_ready (rs := [12]) (by kernel_rfl) (by simp) ?_
          refine (AllReadyH.cons rfl (fun K hK => ?_) AllReadyH.nil)
          go_simp
          refine hK.out _ _ trivial (fun _ => ?_)
          clear hK K
          try simp only [Act.put, List.setIfInBounds_toArray, List.set_cons_zero, List.set_cons_succ, List.getElem_toArray, List.getElem_cons_zero, List.getElem_cons_succ]
          refine wpAnyH_done (by kernel_rfl) ?_ _
          go_wp2_with fail
          go_roundw
          case rel => exact ⟨C.length + 1, A4, c4, by omega, by go_num, by rw [hT.out]; exact hown4.farC (by simp) _, ES.putD A4 (C.length + 1) c4, Blk.far EA (by simp; omega) _, Blk.far ER (by simp; omega) _, EB.setCell (p := ⟨g, 2, none⟩) (by simp; omega) _, by simp; omega⟩
          case measure => simp [intOf]; omega
        · go_simp
          refine hK.out _ _ trivial (fun _ => ?_)
          clear hK K
          try simp only [Act.put, List.setIfInBounds_toArray, List.set_cons_zero, List.set_cons_succ, List.getElem_toArray, List.getElem_cons_zero, List.getElem_cons_succ]
          refine wpAnyH_ready (rs := [1, 6]) (by kernel_rfl) (by simp) ?_
          refine (AllReadyH.cons rfl (fun K hK => ?_) (AllReadyH.cons rfl (fun K hK => ?_) AllReadyH.nil))
          · go_simp
            refine hK.out _ _ trivial (fun _ => ?_)
            clear hK K
            try simp only [Act.put, List.setIfInBounds_toArray, List.set_cons_zero, List.set_cons_succ, List.getElem_toArray, List.getElem_cons_zero, List.getElem_cons_succ]
            refine wpAnyH_ready (rs := [6]) (by kernel_rfl) (by simp) ?_
            refine (AllReadyH.cons rfl (fun K hK => ?_) AllReadyH.nil)
            go_simp
            refine hK.out _ _ trivial (fun _ => ?_)
            clear hK K
            try simp only [Act.put, List.setIfInBounds_toArray, List.set_cons_zero, List.set_cons_succ, List.getElem_toArray, List.getElem_cons_zero, List.getElem_cons_succ]
            refine wpAnyH_ready (rs := [8]) (by kernel_rfl) (by simp) ?_
            refine (AllReadyH.cons rfl (fun K hK => ?_) AllReadyH.nil)
            go_simp
            with_reducible refine (pt _).mono ?_
            rintro e w5 ⟨rfl, rfl⟩
            refine hK.out _ _ trivial (fun _ => ?_)
            clear hK K
            try simp only [Act.put, List.setIfInBounds_toArray, List.set_cons_zero, List.set_cons_succ, List.getElem_toArray, List.getElem_cons_zero, List.getElem_cons_succ]
            refine wpAnyH_ready (rs := [9]) (by kernel_rfl) (by simp) ?_
            refine (AllReadyH.cons rfl (fun K hK => ?_) AllReadyH.nil)
            go_simp
            refine hK.out _ _ trivial (fun _ => ?_)
            clear hK K
            try simp only [Act.put, List.setIfInBounds_toArray, List.set_cons_zero, List.set_cons_succ, List.getElem_toArray, List.getElem_cons_zero, List.getElem_cons_succ]
            refine wpAnyH_ready (rs := [10]) (by kernel_rfl) (by simp) ?_
            refine (AllReadyH.cons rfl (fun K hK => ?_) AllReadyH.nil)
            refine wp_appF _ _ _ (by rfl) (g + 1) A2 c2 C (by rfl) hown1 _ (some ⟨wr.heap.size, 0, none⟩) 1 [Y] (by rfl) hsrc (by simp; omega) (by simp; omega) ?_
            intro A4 c4 w4 hown4 hg hat
            obtain ⟨ES, EA, ER, EB, EZ⟩ := HK.out _ hg
            obtain ⟨ES_0, ES_1, ES_2, ES_f0, ES_f1, ES_f2⟩ := Mbx.cells ES
            refine hK.out _ _ trivial (fun _ => ?_)
            clear hK K
            try simp only [Act.put, List.setIfInBounds_toArray, List.set_cons_zero, List.set_cons_succ, List.getElem_toArray, List.getElem_cons_zero, List.getElem_cons_succ]
            refine wpAnyH_ready (rs := [11]) (by kernel_rfl) (by simp) ?_
            refine (AllReadyH.cons rfl (fun K hK => ?_) AllReadyH.nil)
            go_simp
            refine hK.out _ _ trivial (fun _ => ?_)
            clear hK K
            try simp only [Act.put, List.setIfInBounds_toArray, List.set_cons_zero, List.set_cons_succ, List.getElem_toArray, List.getElem_cons_zero, List.getElem_cons_succ]
            refine wpAnyH_ready (rs := [12]) (by kernel_rfl) (by simp) ?_
            refine (AllReadyH.cons rfl (fun K hK => ?_) AllReadyH.nil)
            go_simp
            refine hK.out _ _ trivial (fun _ => ?_)
            clear hK K
            try simp only [Act.put, List.setIfInBounds_toArray, List.set_cons_zero, List.set_cons_succ, List.getElem_toArray, List.getElem_cons_zero, List.getElem_cons_succ]
            refine wpAnyH_done (by kernel_rfl) ?_ _
            go_wp2_with fail
            go_roundw
            case rel => exact ⟨C.length + 1, A4, c4, by omega, by go_num, by rw [hT.out]; exact hown4.farC (by simp) _, ES.putD A4 (C.length + 1) c4, Blk.far EA (by simp; omega) _, Blk.far ER (by simp; omega) _, EB.setCell (p := ⟨g, 2, none⟩) (by simp; omega) _, by simp; omega⟩
            case measure => simp [intOf]; omega
          · go_simp
            refine hK.out _ _ trivial (fun _ => ?_)
            clear hK K
            try simp only [Act.put, List.setIfInBounds_toArray, List.set_cons_zero, List.set_cons_succ, List.getElem_toArray, List.getElem_cons_zero, List.getElem_cons_succ]
            refine wpAnyH_ready (rs := [1, 8]) (by kernel_rfl) (by simp) ?_
            refine (AllReadyH.cons rfl (fun K hK => ?_) (AllReadyH.cons rfl (fun K hK => ?_) AllReadyH.nil))
            · go_simp
              refine hK.out _ _ trivial (fun _ => ?_)
              clear hK K
              try simp only [Act.put, List.setIfInBounds_toArray, List.set_cons_zero, List.set_cons_succ, List.getElem_toArray, List.getElem_cons_zero, List.getElem_cons_succ]
              refine wpAnyH_ready (rs := [8]) (by kernel_rfl) (by simp) ?_
              refine (AllReadyH.cons rfl (fun K hK => ?_) AllReadyH.nil)
              go_simp
              with_reducible refine (pt _).mono ?_
              rintro e w5 ⟨rfl, rfl⟩
              refine hK.out _ _ trivial (fun _ => ?_)
              clear hK K
              try simp only [Act.put, List.setIfInBounds_toArray, List.set_cons_zero, List.set_cons_succ, List.getElem_toArray, List.getElem_cons_zero, List.getElem_cons_succ]
              refine wpAnyH_ready (rs := [9]) (by kernel_rfl) (by simp) ?_
              refine (AllReadyH.cons rfl (fun K hK => ?_) AllReadyH.nil)
              go_simp
              refine hK.out _ _ trivial (fun _ => ?_)
              clear hK K
              try simp only [Act.put, List.setIfInBounds_toArray, List.set_cons_zero, List.set_cons_succ, List.getElem_toArray, List.getElem_cons_zero, List.getElem_cons_succ]
              refine wpAnyH_ready (rs := [10]) (by kernel_rfl) (by simp) ?_
              refine (AllReadyH.cons rfl (fun K hK => ?_) AllReadyH.nil)
              refine wp_appF _ _ _ (by rfl) (g + 1) A2 c2 C (by rfl) hown1 _ (some ⟨wr.heap.size, 0, none⟩) 1 [Y] (by rfl) hsrc (by simp; omega) (by simp; omega) ?_
              intro A4 c4 w4 hown4 hg hat
              obtain ⟨ES, EA, ER, EB, EZ⟩ := HK.out _ hg
              obtain ⟨ES_0, ES_1, ES_2, ES_f0, ES_f1, ES_f2⟩ := Mbx.cells ES
              refine hK.out _ _ trivial (fun _ => ?_)
              clear hK K
              try simp only [Act.put, List.setIfInBounds_toArray, List.set_cons_zero, List.set_cons_succ, List.getElem_toArray, List.getElem_cons_zero, List.getElem_cons_succ]
              refine wpAnyH_ready (rs := [11]) (by kernel_rfl) (by simp) ?_
              refine (AllReadyH.cons rfl (fun K hK => ?_) AllReadyH.nil)
              go_simp
              refine hK.out _ _ trivial (fun _ => ?_)
              clear hK K
              try simp only [Act.put, List.setIfInBounds_toArray, List.set_cons_zero, List.set_cons_succ, List.getElem_toArray, List.getElem_cons_zero, List.getElem_cons_succ]
              refine wpAnyH_ready (rs := [12]) (by kernel_rfl) (by simp) ?_
              refine (AllReadyH.cons rfl (fun K hK => ?_) AllReadyH.nil)
              go_simp
              refine hK.out _ _ trivial (fun _ => ?_)
              clear hK K
              try simp only [Act.put, List.setIfInBounds_toArray, List.set_cons_zero, List.set_cons_succ, List.getElem_toArray, List.getElem_cons_zero, List.getElem_cons_succ]
              refine wpAnyH_done (by kernel_rfl) ?_ _
              go_wp2_with fail
              go_roundw
              case rel => exact ⟨C.length + 1, A4, c4, by omega, by go_num, by rw [hT.out]; exact hown4.farC (by simp) _, ES.putD A4 (C.length + 1) c4, Blk.far EA (by simp; omega) _, Blk.far ER (by simp; omega) _, EB.setCell (p := ⟨g, 2, none⟩) (by simp; omega) _, by simp; omega⟩
              case measure => simp [intOf]; omega
            · go_simp
              with_reducible refine (pt _).mono ?_
              rintro e w5 ⟨rfl, rfl⟩
              refine hK.out _ _ trivial (fun _ => ?_)
              clear hK K
              try simp only [Act.put, List.setIfInBounds_toArray, List.set_cons_zero, List.set_cons_succ, List.getElem_toArray, List.getElem_cons_zero, List.getElem_cons_succ]
              refine wpAnyH_ready (rs := [1, 9]) (by kernel_rfl) (by simp) ?_
              refine (AllReadyH.cons rfl (fun K hK => ?_) (AllReadyH.cons rfl (fun K hK => ?_) AllReadyH.nil))
              · go_simp
                refine hK.out _ _ trivial (fun _ => ?_)
                clear hK K
                try simp only [Act.put, List.setIfInBounds_toArray, List.set_cons_zero, List.set_cons_succ, List.getElem_toArray, List.getElem_cons_zero, List.getElem_cons_succ]
                refine wpAnyH_ready (rs := [9]) (by kernel_rfl) (by simp) ?_
                refine (AllReadyH.cons rfl (fun K hK => ?_) AllReadyH.nil)
                go_simp
                refine hK.out _ _ trivial (fun _ => ?_)
                clear hK K
                try simp only [Act.put, List.setIfInBounds_toArray, List.set_cons_zero, List.set_cons_succ, List.getElem_toArray, List.getElem_cons_zero, List.getElem_cons_succ]
                refine wpAnyH_ready (rs := [10]) (by kernel_rfl) (by simp) ?_
                refine (AllReadyH.cons rfl (fun K hK => ?_) AllReadyH.nil)
                refine wp_appF _ _ _ (by rfl) (g + 1) A2 c2 C (by rfl) hown1 _ (some ⟨wr.heap.size, 0, none⟩) 1 [Y] (by rfl) hsrc (by simp; omega) (by simp; omega) ?_
                intro A4 c4 w4 hown4 hg hat
                obtain ⟨ES, EA, ER, EB, EZ⟩ := HK.out _ hg
                obtain ⟨ES_0, ES_1, ES_2, ES_f0, ES_f1, ES_f2⟩ := Mbx.cells ES
                refine hK.out _ _ trivial (fun _ => ?_)
                clear hK K
                try simp only [Act.put, List.setIfInBounds_toArray, List.set_cons_zero, List.set_cons_succ, List.getElem_toArray, List.getElem_cons_zero, List.getElem_cons_succ]
                refine wpAnyH_ready (rs := [11]) (by kernel_rfl) (by simp) ?_
                refine (AllReadyH.cons rfl (fun K hK => ?_) AllReadyH.nil)
                go_simp
                refine hK.out _ _ trivial (fun _ => ?_)
                clear hK K
                try simp only [Act.put, List.setIfInBounds_toArray, List.set_cons_zero, List.set_cons_succ, List.getElem_toArray, List.getElem_cons_zero, List.getElem_cons_succ]
                refine wpAnyH_ready (rs := [12]) (by kernel_rfl) (by simp) ?_
                refine (AllReadyH.cons rfl (fun K hK => ?_) AllReadyH.nil)
                go_simp
                refine hK.out _ _ trivial (fun _ => ?_)
                clear hK K
                try simp only [Act.put, List.setIfInBounds_toArray, List.set_cons_zero, List.set_cons_succ, List.getElem_toArray, List.getElem_cons_zero, List.getElem_cons_succ]
                refine wpAnyH_done (by kernel_rfl) ?_ _
                go_wp2_with fail
                go_roundw
                case rel => exact ⟨C.length + 1, A4, c4, by omega, by go_num, by rw [hT.out]; exact hown4.farC (by simp) _, ES.putD A4 (C.length + 1) c4, Blk.far EA (by simp; omega) _, Blk.far ER (by simp; omega) _, EB.setCell (p := ⟨g, 2, none⟩) (by simp; omega) _, by simp; omega⟩
                case measure => simp [intOf]; omega
              · go_simp
                refine hK.out _ _ trivial (fun _ => ?_)
                clear hK K
                try simp only [Act.put, List.setIfInBounds_toArray, List.set_cons_zero, List.set_cons_succ, List.getElem_toArray, List.getElem_cons_zero, List.getElem_cons_succ]
                refine wpAnyH_ready (rs := [1]) (by kernel_rfl) (by simp) ?_
                refine (AllReadyH.cons rfl (fun K hK => ?_) AllReadyH.nil)
                go_simp
                refine hK.out _ _ trivial (fun _ => ?_)
                clear hK K
                try simp only [Act.put, List.setIfInBounds_toArray, List.set_cons_zero, List.set_cons_succ, List.getElem_toArray, List.getElem_cons_zero, List.getElem_cons_succ]
                refine wpAnyH_ready (rs := [10]) (by kernel_rfl) (by simp) ?_
                refine (AllReadyH.cons rfl (fun K hK => ?_) AllReadyH.nil)
                refine wp_appF _ _ _ (by rfl) (g + 1) A2 c2 C (by rfl) hown1 _ (some ⟨wr.heap.size, 0, none⟩) 1 [Y] (by rfl) hsrc (by simp; omega) (by simp; omega) ?_
                intro A4 c4 w4 hown4 hg hat
                obtain ⟨ES, EA, ER, EB, EZ⟩ := HK.out _ hg
                obtain ⟨ES_0, ES_1, ES_2, ES_f0, ES_f1, ES_f2⟩ := Mbx.cells ES
                refine hK.out _ _ trivial (fun _ => ?_)
                clear hK K
                try simp only [Act.put, List.setIfInBounds_toArray, List.set_cons_zero, List.set_cons_succ, List.getElem_toArray, List.getElem_cons_zero, List.getElem_cons_succ]
                refine wpAnyH_ready (rs := [11]) (by kernel_rfl) (by simp) ?_
                refine (AllReadyH.cons rfl (fun K hK => ?_) AllReadyH.nil)
                go_simp
                refine hK.out _ _ trivial (fun _ => ?_)
                clear hK K
                try simp only [Act.put, List.setIfInBounds_toArray, List.set_cons_zero, List.set_cons_succ, List.getElem_toArray, List.getElem_cons_zero, List.getElem_cons_succ]
                refine wpAnyH_ready (rs := [12]) (by kernel_rfl) (by simp) ?_
                refine (AllReadyH.cons rfl (fun K hK => ?_) AllReadyH.nil)
                go_simp
                refine hK.out _ _ trivial (fun _ => ?_)
                clear hK K
                try simp only [Act.put, List.setIfInBounds_toArray, List.set_cons_zero, List.set_cons_succ, List.getElem_toArray, List.getElem_cons_zero, List.getElem_cons_succ]
                refine wpAnyH_done (by kernel_rfl) ?_ _
                go_wp2_with fail
                go_roundw
                case rel => exact ⟨C.length + 1, A4, c4, by omega, by go_num, by rw [hT.out]; exact hown4.farC (by simp) _, ES.putD A4 (C.length + 1) c4, Blk.far EA (by simp; omega) _, Blk.far ER (by simp; omega) _, EB.setCell (p := ⟨g, 2, none⟩) (by simp; omega) _, by simp; omega⟩
                case measure => simp [intOf]; omega
    · obtain rfl : k = len := by omega
      have ht : (l.map fun x => tw x p).take k = l.map fun x => tw x p := by rw [← hll, List.take_length]
      rw [ht] at ho hlk
      have hfl := ho.fl HWD.out
      obtain ⟨DS_0, DS_1, DS_2, DS_f0, DS_f1, DS_f2⟩ := Mbx.cells DS
      obtain ⟨DB_0, DB_1, DB_2, DB_f0, DB_f1, DB_f2⟩ := Mbx.cells DR
      obtain ⟨q, hq⟩ : ∃ q, (l.map fun x => tw x p) = q := ⟨_, rfl⟩
      rw [hq] at hfl hlk
      have HQ := Lib.hid hq
      clear hq ht ho hll
      subst hlk
      go_wp2_with fail
      refine bodyPost_ret (v := .tuple #[mV r s A2 q.length c2, .int .i64 0]) (by simp [results, Try.results27, go_sem, DB_0, DB_1, DB_2, DB_f0, DB_f1, DB_f2]) rfl ?_
      try unfold MatC
      rw [HQ.out]
      exact ⟨A2, c2, rfl, hfl.put DR r s A2 q.length c2, below_put bw (by omega) _ _ _⟩
end
end Go.Proofs.Ytfaemgdeoamijaa
