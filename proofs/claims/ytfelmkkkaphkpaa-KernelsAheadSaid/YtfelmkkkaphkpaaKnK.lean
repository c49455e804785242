/-
  Layer 8: the laws' known rows. (Written by wip/tools/gen_knk.py.)
-/
import Derived.Test.YtfelmkkkaphkpaaKnQ
namespace Go.Proofs.Ytfelmkkkaphkpaa
open Go.RowKit Go.Bw Go.Sort Go.Shelf
set_option linter.unusedVariables false
set_option linter.unusedSimpArgs false

theorem o8_32 : (FloatKind.f64.format.order 4629700416936869888 4629700416936869888 == some .eq) = true := by decide +kernel
theorem o8_3 : (FloatKind.f64.format.order 4613937818241073152 4613937818241073152 == some .eq) = true := by decide +kernel
theorem o8_1 : (FloatKind.f64.format.order 4607182418800017408 4607182418800017408 == some .eq) = true := by decide +kernel
theorem o8_5 : (FloatKind.f64.format.order 4617315517961601024 4617315517961601024 == some .eq) = true := by decide +kernel
theorem o8_7 : (FloatKind.f64.format.order 4619567317775286272 4619567317775286272 == some .eq) = true := by decide +kernel
set_option maxRecDepth 100000 in
set_option maxHeartbeats 8000000 in
theorem known_any (w : World) : Calls Try.prog 16 #[] w (Ans w (.bool true)) := by
  have o8_32 := o8_32
  have o8_3 := o8_3
  have o8_1 := o8_1
  have o8_5 := o8_5
  have o8_7 := o8_7
  have hz : IntKind.i64.wrap 0 = 0 := by decide
  go_enter Try.func16, Try.ntmps16
  have bz := Below.refl w.heap.size w
  have F1 : FL (w.alloc (.cells #[.float .f64 4607182418800017408, .float .f64 4611686018427387904, .float .f64 4613937818241073152] 32)) (some ⟨w.heap.size, 0, none⟩) 3 3 [(4607182418800017408 : Int), (4611686018427387904 : Int), (4613937818241073152 : Int)] := ⟨rfl, (own_new w [(4607182418800017408 : Int), (4611686018427387904 : Int), (4613937818241073152 : Int)] (by decide) (B := 0) (Nat.zero_le _)).nums, fun x hx => by simp at hx; omega⟩
  try simp only [World.size_alloc] at F1
  replace bz := bz.alloc bz.size ((.cells #[.float .f64 4607182418800017408, .float .f64 4611686018427387904, .float .f64 4613937818241073152] 32))
  go_wp2_with fail
  with_reducible refine (vec_any F1 (by omega)).mono ?_
  rintro e w1 ⟨Va, sa, ga, capa, ca, la, rfl, ha, hb⟩
  replace bz := bz.trans (hb.mono bz.size)
  clear hb F1
  have F1 : FL (w1.alloc (.cells #[.float .f64 4616189618054758400, .float .f64 4617315517961601024, .float .f64 4618441417868443648] 32)) (some ⟨w1.heap.size, 0, none⟩) 3 3 [(4616189618054758400 : Int), (4617315517961601024 : Int), (4618441417868443648 : Int)] := ⟨rfl, (own_new w1 [(4616189618054758400 : Int), (4617315517961601024 : Int), (4618441417868443648 : Int)] (by decide) (B := 0) (Nat.zero_le _)).nums, fun x hx => by simp at hx; omega⟩
  try simp only [World.size_alloc] at F1
  replace ha := ha.on ((Below.refl _ _).alloc (Nat.le_refl _) ((.cells #[.float .f64 4616189618054758400, .float .f64 4617315517961601024, .float .f64 4618441417868443648] 32)))
  replace bz := bz.alloc bz.size ((.cells #[.float .f64 4616189618054758400, .float .f64 4617315517961601024, .float .f64 4618441417868443648] 32))
  go_wp2_with fail
  with_reducible refine (vec_any F1 (by omega)).mono ?_
  rintro e w2 ⟨Vq, sq, gq, capq, cq, lq, rfl, hq, hb⟩
  replace ha := ha.on hb
  replace bz := bz.trans (hb.mono bz.size)
  clear hb F1
  go_wp2_with fail
  with_reducible refine (k_dot ha hq).mono ?_
  rintro e w3 ⟨rfl, hb⟩
  replace ha := ha.on hb
  replace hq := hq.on hb
  replace bz := bz.trans (hb.mono bz.size)
  clear hb
  clear ha hq
  have F1 : FL (w3.alloc (.cells #[.float .f64 4607182418800017408, .float .f64 13835058055282163712] 32)) (some ⟨w3.heap.size, 0, none⟩) 2 2 [(4607182418800017408 : Int), (13835058055282163712 : Int)] := ⟨rfl, (own_new w3 [(4607182418800017408 : Int), (13835058055282163712 : Int)] (by decide) (B := 0) (Nat.zero_le _)).nums, fun x hx => by simp at hx; omega⟩
  try simp only [World.size_alloc] at F1
  replace bz := bz.alloc bz.size ((.cells #[.float .f64 4607182418800017408, .float .f64 13835058055282163712] 32))
  go_wp2_with fail
  with_reducible refine (vec_any F1 (by omega)).mono ?_
  rintro e w4 ⟨Va, sa, ga, capa, ca, la, rfl, ha, hb⟩
  replace bz := bz.trans (hb.mono bz.size)
  clear hb F1
  go_wp2_with fail
  with_reducible refine (k_asum ha).mono ?_
  rintro e w5 ⟨rfl, hb⟩
  replace ha := ha.on hb
  replace bz := bz.trans (hb.mono bz.size)
  clear hb
  clear ha
  have F1 : FL (w5.alloc (.cells #[.float .f64 4607182418800017408, .float .f64 13837309855095848960, .float .f64 4613937818241073152] 32)) (some ⟨w5.heap.size, 0, none⟩) 3 3 [(4607182418800017408 : Int), (13837309855095848960 : Int), (4613937818241073152 : Int)] := ⟨rfl, (own_new w5 [(4607182418800017408 : Int), (13837309855095848960 : Int), (4613937818241073152 : Int)] (by decide) (B := 0) (Nat.zero_le _)).nums, fun x hx => by simp at hx; omega⟩
  try simp only [World.size_alloc] at F1
  replace bz := bz.alloc bz.size ((.cells #[.float .f64 4607182418800017408, .float .f64 13837309855095848960, .float .f64 4613937818241073152] 32))
  go_wp2_with fail
  with_reducible refine (vec_any F1 (by omega)).mono ?_
  rintro e w6 ⟨Va, sa, ga, capa, ca, la, rfl, ha, hb⟩
  replace bz := bz.trans (hb.mono bz.size)
  clear hb F1
  go_wp2_with fail
  with_reducible refine (k_amax ha).mono ?_
  rintro e w7 ⟨rfl, hb⟩
  replace ha := ha.on hb
  replace bz := bz.trans (hb.mono bz.size)
  clear hb
  clear ha
  have F1 : FL (w7.alloc (.cells #[.float .f64 4621256167635550208, .float .f64 4621256167635550208] 32)) (some ⟨w7.heap.size, 0, none⟩) 2 2 [(4621256167635550208 : Int), (4621256167635550208 : Int)] := ⟨rfl, (own_new w7 [(4621256167635550208 : Int), (4621256167635550208 : Int)] (by decide) (B := 0) (Nat.zero_le _)).nums, fun x hx => by simp at hx; omega⟩
  try simp only [World.size_alloc] at F1
  replace bz := bz.alloc bz.size ((.cells #[.float .f64 4621256167635550208, .float .f64 4621256167635550208] 32))
  have hszy := bz.size
  go_wp2_with fail
  with_reducible refine (vec_any F1 (by omega)).mono ?_
  rintro e w8 ⟨Vy, sy, gy, capy, cy, ly, rfl, hy, hb⟩
  replace bz := bz.trans (hb.mono bz.size)
  clear hb F1
  have hgyw : w.heap.size ≤ gy := by have := hy.st.gt.1; omega
  have hlty := And.intro hy.st.lt hy.st.gt.2
  have Dy := Blk.new w8 (Vy).L 30
  obtain ⟨HDy, eHDy⟩ : ∃ H, w8.heap.size = H := ⟨_, rfl⟩
  rw [eHDy] at Dy
  replace hy := hy.on ((Below.refl _ _).alloc (Nat.le_refl _) (.cells (Vy).L.toArray 30))
  replace bz := bz.alloc bz.size (.cells (Vy).L.toArray 30)
  have HHDy := Lib.hid eHDy
  rw [eHDy] at hlty
  go_wp2_with fail
  replace hy := hy.drew
  replace Dy := Dy.drew
  replace bz := bz.drew
  refine wp_region_held_drew (S := fun w9 : World => Vbx w9 HDy Vy) (by kernel_rfl) Dy (fun hS => ?_)
  generalize (w8.alloc (.cells (Vy).L.toArray 30)).drew = wr5 at hS hy Dy  bz ⊢
  refine wpAnyH_take (i := 4) (v := ?v4_1) rfl (by kernel_rfl) (by kernel_rfl) (by kernel_rfl) (fun _ _ _ h => h) (Or.inl ⟨by rfl, ?hy4_1⟩) (by assumption) ?rest4_1
  case hy4_1 => (intro w9 hSw; refine (ld_v (by rfl) (by kernel_rfl) (show Vbx w9 HDy Vy from hSw)).trans ?_; with_reducible rfl)
  try simp only [Act.put, List.setIfInBounds_toArray, List.set_cons_zero, List.set_cons_succ, List.getElem_toArray, List.getElem_cons_zero, List.getElem_cons_succ]
  refine wpAnyH_ready (rs := [0, 2]) (by kernel_rfl) (by simp) ?_
  refine (AllReadyH.cons rfl (fun K hK => ?_) (AllReadyH.cons rfl (fun K hK => ?_) AllReadyH.nil))
  · go_simp
    have F1 : FL (wr5.alloc (.cells #[.float .f64 4607182418800017408, .float .f64 4611686018427387904, .float .f64 4613937818241073152, .float .f64 4616189618054758400] 32)) (some ⟨wr5.heap.size, 0, none⟩) 4 4 [(4607182418800017408 : Int), (4611686018427387904 : Int), (4613937818241073152 : Int), (4616189618054758400 : Int)] := ⟨rfl, (own_new wr5 [(4607182418800017408 : Int), (4611686018427387904 : Int), (4613937818241073152 : Int), (4616189618054758400 : Int)] (by decide) (B := 0) (Nat.zero_le _)).nums, fun x hx => by simp at hx; omega⟩
    try simp only [World.size_alloc] at F1
    replace hy := hy.on ((Below.refl _ _).alloc (Nat.le_refl _) ((.cells #[.float .f64 4607182418800017408, .float .f64 4611686018427387904, .float .f64 4613937818241073152, .float .f64 4616189618054758400] 32)))
    replace Dy := Dy.on ((Below.refl _ _).alloc (Nat.le_refl _) ((.cells #[.float .f64 4607182418800017408, .float .f64 4611686018427387904, .float .f64 4613937818241073152, .float .f64 4616189618054758400] 32)))
    replace bz := bz.alloc bz.size ((.cells #[.float .f64 4607182418800017408, .float .f64 4611686018427387904, .float .f64 4613937818241073152, .float .f64 4616189618054758400] 32))
    refine hK.out _ _ Dy (fun hH => ?_)
    clear hK K hS
    have hS := hH
    clear hH
    try simp only [Act.put, List.setIfInBounds_toArray, List.set_cons_zero, List.set_cons_succ, List.getElem_toArray, List.getElem_cons_zero, List.getElem_cons_succ]
    refine wpAnyH_ready (rs := [1, 2]) (by kernel_rfl) (by simp) ?_
    refine (AllReadyH.cons rfl (fun K hK => ?_) (AllReadyH.cons rfl (fun K hK => ?_) AllReadyH.nil))
    · go_simp
      with_reducible refine (two_any F1).mono ?_
      rintro e w9 ⟨Vt, st, gt, capt, ct, lt, rfl, ht, hb⟩
      replace hy := hy.on hb
      replace Dy := Dy.on hb
      replace F1 := F1.on hb
      replace bz := bz.trans (hb.mono bz.size)
      clear hb F1
      refine hK.out _ _ Dy (fun hH => ?_)
      clear hK K hS
      have hS := hH
      clear hH
      try simp only [Act.put, List.setIfInBounds_toArray, List.set_cons_zero, List.set_cons_succ, List.getElem_toArray, List.getElem_cons_zero, List.getElem_cons_succ]
      refine wpAnyH_ready (rs := [2]) (by kernel_rfl) (by simp) ?_
      refine AllReadyH.cons rfl (fun K hK => ?_) AllReadyH.nil
      go_simp
      have F2 : FL (w9.alloc (.cells #[.float .f64 4607182418800017408, .float .f64 4607182418800017408] 32)) (some ⟨w9.heap.size, 0, none⟩) 2 2 [(4607182418800017408 : Int), (4607182418800017408 : Int)] := ⟨rfl, (own_new w9 [(4607182418800017408 : Int), (4607182418800017408 : Int)] (by decide) (B := 0) (Nat.zero_le _)).nums, fun x hx => by simp at hx; omega⟩
      try simp only [World.size_alloc] at F2
      replace hy := hy.on ((Below.refl _ _).alloc (Nat.le_refl _) ((.cells #[.float .f64 4607182418800017408, .float .f64 4607182418800017408] 32)))
      replace Dy := Dy.on ((Below.refl _ _).alloc (Nat.le_refl _) ((.cells #[.float .f64 4607182418800017408, .float .f64 4607182418800017408] 32)))
      replace ht := ht.on ((Below.refl _ _).alloc (Nat.le_refl _) ((.cells #[.float .f64 4607182418800017408, .float .f64 4607182418800017408] 32)))
      replace bz := bz.alloc bz.size ((.cells #[.float .f64 4607182418800017408, .float .f64 4607182418800017408] 32))
      refine hK.out _ _ Dy (fun hH => ?_)
      clear hK K hS
      have hS := hH
      clear hH
      try simp only [Act.put, List.setIfInBounds_toArray, List.set_cons_zero, List.set_cons_succ, List.getElem_toArray, List.getElem_cons_zero, List.getElem_cons_succ]
      refine wpAnyH_ready (rs := [3]) (by kernel_rfl) (by simp) ?_
      refine AllReadyH.cons rfl (fun K hK => ?_) AllReadyH.nil
      go_simp
      with_reducible refine (vec_any F2 (by omega)).mono ?_
      rintro e w10 ⟨Vx, sx, gx, capx, cx, lx, rfl, hx, hb⟩
      replace hy := hy.on hb
      replace Dy := Dy.on hb
      replace ht := ht.on hb
      replace F2 := F2.on hb
      replace bz := bz.trans (hb.mono bz.size)
      clear hb F2
      refine hK.out _ _ Dy (fun hH => ?_)
      clear hK K hS
      have hS := hH
      clear hH
      try simp only [Act.put, List.setIfInBounds_toArray, List.set_cons_zero, List.set_cons_succ, List.getElem_toArray, List.getElem_cons_zero, List.getElem_cons_succ]
      refine wpAnyH_ready (rs := [5]) (by kernel_rfl) (by simp) ?_
      refine AllReadyH.cons rfl (fun K hK => ?_) AllReadyH.nil
      go_simp
      with_reducible refine (k_gemv ht hx hy).mono ?_
      rintro e w78 ⟨ly2, rfl, hy2, hgy⟩
      replace Dy := Dy.grown hgy (by simp; omega)
      replace bz := bz.grown hgy bz.size (fun k e => by cases e; omega)
      replace hy := hy2
      clear hy2 hgy ht hx
      refine hK.out _ _ Dy (fun hH => ?_)
      clear hK K hS
      have hS := hH
      clear hH
      try simp only [Act.put, List.setIfInBounds_toArray, List.set_cons_zero, List.set_cons_succ, List.getElem_toArray, List.getElem_cons_zero, List.getElem_cons_succ]
      refine wpAnyH_take (i := 6) (v := ?v6_2) rfl (by kernel_rfl) (by kernel_rfl) (by kernel_rfl) (fun _ _ _ h => h) (Or.inl ⟨by rfl, ?hy6_2⟩) (by assumption) ?rest6_2
      case hy6_2 => (intro w9 hSw; clear hSw; go_simp; try with_reducible rfl)
      try simp only [Act.put, List.setIfInBounds_toArray, List.set_cons_zero, List.set_cons_succ, List.getElem_toArray, List.getElem_cons_zero, List.getElem_cons_succ]
      refine wpAnyH_done (by kernel_rfl) ?_ _
      have F1 : FL (w78.alloc (.cells #[.float .f64 4607182418800017408, .float .f64 4607182418800017408] 32)) (some ⟨w78.heap.size, 0, none⟩) 2 2 [(4607182418800017408 : Int), (4607182418800017408 : Int)] := ⟨rfl, (own_new w78 [(4607182418800017408 : Int), (4607182418800017408 : Int)] (by decide) (B := 0) (Nat.zero_le _)).nums, fun x hx => by simp at hx; omega⟩
      try simp only [World.size_alloc] at F1
      replace hy := hy.on ((Below.refl _ _).alloc (Nat.le_refl _) ((.cells #[.float .f64 4607182418800017408, .float .f64 4607182418800017408] 32)))
      replace Dy := Dy.on ((Below.refl _ _).alloc (Nat.le_refl _) ((.cells #[.float .f64 4607182418800017408, .float .f64 4607182418800017408] 32)))
      replace bz := bz.alloc bz.size ((.cells #[.float .f64 4607182418800017408, .float .f64 4607182418800017408] 32))
      have hszm := bz.size
      have hyl := And.intro hy.st.lt (And.intro hy.st.gt.2 Dy.lt)
      go_wp2_with fail
      with_reducible refine (vec_any F1 (by omega)).mono ?_
      rintro e w11 ⟨Vm, sm, gm, capm, cm, lm, rfl, hm, hb⟩
      replace hy := hy.on hb
      replace Dy := Dy.on hb
      replace bz := bz.trans (hb.mono bz.size)
      clear hb F1
      have hltm := And.intro hm.st.lt hm.st.gt.2
      have hym : sy < sm ∧ gy < sm ∧ sy < gm ∧ gy < gm ∧ w.heap.size ≤ gm ∧ HDy < gm := by have h1 := hm.st.lo; have h2 := hm.st.gt.1; omega
      have Dm := Blk.new w11 (Vm).L 30
      obtain ⟨HDm, eHDm⟩ : ∃ H, w11.heap.size = H := ⟨_, rfl⟩
      rw [eHDm] at Dm
      replace hy := hy.on ((Below.refl _ _).alloc (Nat.le_refl _) (.cells (Vm).L.toArray 30))
      replace Dy := Dy.on ((Below.refl _ _).alloc (Nat.le_refl _) (.cells (Vm).L.toArray 30))
      replace hm := hm.on ((Below.refl _ _).alloc (Nat.le_refl _) (.cells (Vm).L.toArray 30))
      replace bz := bz.alloc bz.size (.cells (Vm).L.toArray 30)
      have HHDm := Lib.hid eHDm
      rw [eHDm] at hltm
      go_wp2_with fail
      replace hy := hy.drew
      replace Dy := Dy.drew
      replace hm := hm.drew
      replace Dm := Dm.drew
      replace bz := bz.drew
      refine wp_region_held_drew (S := fun w9 : World => Vbx w9 HDm Vm) (by kernel_rfl) Dm (fun hS => ?_)
      generalize (w11.alloc (.cells (Vm).L.toArray 30)).drew = wr7 at hS hy Dy hm Dm  bz ⊢
      refine wpAnyH_take (i := 2) (v := ?v2_3) rfl (by kernel_rfl) (by kernel_rfl) (by kernel_rfl) (fun _ _ _ h => h) (Or.inl ⟨by rfl, ?hy2_3⟩) (by assumption) ?rest2_3
      case hy2_3 => (intro w9 hSw; refine (ld_v (by rfl) (by kernel_rfl) (show Vbx w9 HDm Vm from hSw)).trans ?_; with_reducible rfl)
      try simp only [Act.put, List.setIfInBounds_toArray, List.set_cons_zero, List.set_cons_succ, List.getElem_toArray, List.getElem_cons_zero, List.getElem_cons_succ]
      refine wpAnyH_ready (rs := [0]) (by kernel_rfl) (by simp) ?_
      refine AllReadyH.cons rfl (fun K hK => ?_) AllReadyH.nil
      go_simp
      have F1 : FL (wr7.alloc (.cells #[.float .f64 4607182418800017408, .float .f64 4621256167635550208, .float .f64 4611686018427387904, .float .f64 4613937818241073152] 32)) (some ⟨wr7.heap.size, 0, none⟩) 4 4 [(4607182418800017408 : Int), (4621256167635550208 : Int), (4611686018427387904 : Int), (4613937818241073152 : Int)] := ⟨rfl, (own_new wr7 [(4607182418800017408 : Int), (4621256167635550208 : Int), (4611686018427387904 : Int), (4613937818241073152 : Int)] (by decide) (B := 0) (Nat.zero_le _)).nums, fun x hx => by simp at hx; omega⟩
      try simp only [World.size_alloc] at F1
      replace hy := hy.on ((Below.refl _ _).alloc (Nat.le_refl _) ((.cells #[.float .f64 4607182418800017408, .float .f64 4621256167635550208, .float .f64 4611686018427387904, .float .f64 4613937818241073152] 32)))
      replace Dy := Dy.on ((Below.refl _ _).alloc (Nat.le_refl _) ((.cells #[.float .f64 4607182418800017408, .float .f64 4621256167635550208, .float .f64 4611686018427387904, .float .f64 4613937818241073152] 32)))
      replace hm := hm.on ((Below.refl _ _).alloc (Nat.le_refl _) ((.cells #[.float .f64 4607182418800017408, .float .f64 4621256167635550208, .float .f64 4611686018427387904, .float .f64 4613937818241073152] 32)))
      replace Dm := Dm.on ((Below.refl _ _).alloc (Nat.le_refl _) ((.cells #[.float .f64 4607182418800017408, .float .f64 4621256167635550208, .float .f64 4611686018427387904, .float .f64 4613937818241073152] 32)))
      replace bz := bz.alloc bz.size ((.cells #[.float .f64 4607182418800017408, .float .f64 4621256167635550208, .float .f64 4611686018427387904, .float .f64 4613937818241073152] 32))
      refine hK.out _ _ Dm (fun hH => ?_)
      clear hK K hS
      have hS := hH
      clear hH
      try simp only [Act.put, List.setIfInBounds_toArray, List.set_cons_zero, List.set_cons_succ, List.getElem_toArray, List.getElem_cons_zero, List.getElem_cons_succ]
      refine wpAnyH_ready (rs := [1]) (by kernel_rfl) (by simp) ?_
      refine AllReadyH.cons rfl (fun K hK => ?_) AllReadyH.nil
      go_simp
      with_reducible refine (two_any F1).mono ?_
      rintro e w12 ⟨Vt, st, gt, capt, ct, lt, rfl, ht, hb⟩
      replace hy := hy.on hb
      replace Dy := Dy.on hb
      replace hm := hm.on hb
      replace Dm := Dm.on hb
      replace F1 := F1.on hb
      replace bz := bz.trans (hb.mono bz.size)
      clear hb F1
      refine hK.out _ _ Dm (fun hH => ?_)
      clear hK K hS
      have hS := hH
      clear hH
      try simp only [Act.put, List.setIfInBounds_toArray, List.set_cons_zero, List.set_cons_succ, List.getElem_toArray, List.getElem_cons_zero, List.getElem_cons_succ]
      refine wpAnyH_ready (rs := [3]) (by kernel_rfl) (by simp) ?_
      refine AllReadyH.cons rfl (fun K hK => ?_) AllReadyH.nil
      go_simp
      with_reducible refine (k_trmm ht hm).mono ?_
      rintro e w77 ⟨lm2, rfl, hm2, hgm⟩
      replace Dm := Dm.grown hgm (by simp; omega)
      replace Dy := Dy.grown hgm (by simp; omega)
      replace hy := hy.grown hgm (by omega) (by omega)
      replace hm := hm2
      replace bz := bz.grown hgm bz.size (fun k e => by cases e; omega)
      clear hm2 hgm ht
      refine hK.out _ _ Dm (fun hH => ?_)
      clear hK K hS
      have hS := hH
      clear hH
      try simp only [Act.put, List.setIfInBounds_toArray, List.set_cons_zero, List.set_cons_succ, List.getElem_toArray, List.getElem_cons_zero, List.getElem_cons_succ]
      refine wpAnyH_take (i := 4) (v := ?v4_4) rfl (by kernel_rfl) (by kernel_rfl) (by kernel_rfl) (fun _ _ _ h => h) (Or.inl ⟨by rfl, ?hy4_4⟩) (by assumption) ?rest4_4
      case hy4_4 => (intro w9 hSw; clear hSw; go_simp; try with_reducible rfl)
      try simp only [Act.put, List.setIfInBounds_toArray, List.set_cons_zero, List.set_cons_succ, List.getElem_toArray, List.getElem_cons_zero, List.getElem_cons_succ]
      refine wpAnyH_done (by kernel_rfl) ?_ _
      have F1 : FL (w77.alloc (.cells #[.float .f64 4607182418800017408] 32)) (some ⟨w77.heap.size, 0, none⟩) 1 1 [(4607182418800017408 : Int)] := ⟨rfl, (own_new w77 [(4607182418800017408 : Int)] (by decide) (B := 0) (Nat.zero_le _)).nums, fun x hx => by simp at hx; omega⟩
      try simp only [World.size_alloc] at F1
      replace hy := hy.on ((Below.refl _ _).alloc (Nat.le_refl _) ((.cells #[.float .f64 4607182418800017408] 32)))
      replace Dy := Dy.on ((Below.refl _ _).alloc (Nat.le_refl _) ((.cells #[.float .f64 4607182418800017408] 32)))
      replace hm := hm.on ((Below.refl _ _).alloc (Nat.le_refl _) ((.cells #[.float .f64 4607182418800017408] 32)))
      replace Dm := Dm.on ((Below.refl _ _).alloc (Nat.le_refl _) ((.cells #[.float .f64 4607182418800017408] 32)))
      replace bz := bz.alloc bz.size ((.cells #[.float .f64 4607182418800017408] 32))
      go_wp2_with fail
      with_reducible refine (vec_any F1 (by omega)).mono ?_
      rintro e w13 ⟨Va, sa, ga, capa, ca, la, rfl, ha, hb⟩
      replace hy := hy.on hb
      replace Dy := Dy.on hb
      replace hm := hm.on hb
      replace Dm := Dm.on hb
      replace bz := bz.trans (hb.mono bz.size)
      clear hb F1
      have F1 : FL (w13.alloc (.cells #[.float .f64 4607182418800017408, .float .f64 4611686018427387904] 32)) (some ⟨w13.heap.size, 0, none⟩) 2 2 [(4607182418800017408 : Int), (4611686018427387904 : Int)] := ⟨rfl, (own_new w13 [(4607182418800017408 : Int), (4611686018427387904 : Int)] (by decide) (B := 0) (Nat.zero_le _)).nums, fun x hx => by simp at hx; omega⟩
      try simp only [World.size_alloc] at F1
      replace hy := hy.on ((Below.refl _ _).alloc (Nat.le_refl _) ((.cells #[.float .f64 4607182418800017408, .float .f64 4611686018427387904] 32)))
      replace Dy := Dy.on ((Below.refl _ _).alloc (Nat.le_refl _) ((.cells #[.float .f64 4607182418800017408, .float .f64 4611686018427387904] 32)))
      replace hm := hm.on ((Below.refl _ _).alloc (Nat.le_refl _) ((.cells #[.float .f64 4607182418800017408, .float .f64 4611686018427387904] 32)))
      replace Dm := Dm.on ((Below.refl _ _).alloc (Nat.le_refl _) ((.cells #[.float .f64 4607182418800017408, .float .f64 4611686018427387904] 32)))
      replace ha := ha.on ((Below.refl _ _).alloc (Nat.le_refl _) ((.cells #[.float .f64 4607182418800017408, .float .f64 4611686018427387904] 32)))
      replace bz := bz.alloc bz.size ((.cells #[.float .f64 4607182418800017408, .float .f64 4611686018427387904] 32))
      go_wp2_with fail
      with_reducible refine (vec_any F1 (by omega)).mono ?_
      rintro e w14 ⟨Vq, sq, gq, capq, cq, lq, rfl, hq, hb⟩
      replace hy := hy.on hb
      replace Dy := Dy.on hb
      replace hm := hm.on hb
      replace Dm := Dm.on hb
      replace ha := ha.on hb
      replace bz := bz.trans (hb.mono bz.size)
      clear hb F1
      go_wp2_with fail
      with_reducible refine (k_dot8 ha hq).mono ?_
      rintro e w15 ⟨rfl, hb⟩
      replace hy := hy.on hb
      replace Dy := Dy.on hb
      replace hm := hm.on hb
      replace Dm := Dm.on hb
      replace ha := ha.on hb
      replace hq := hq.on hb
      replace bz := bz.trans (hb.mono bz.size)
      clear hb
      clear ha hq
      have F1 : FL (w15.alloc (.cells #[.float .f64 4607182418800017408] 32)) (some ⟨w15.heap.size, 0, none⟩) 1 1 [(4607182418800017408 : Int)] := ⟨rfl, (own_new w15 [(4607182418800017408 : Int)] (by decide) (B := 0) (Nat.zero_le _)).nums, fun x hx => by simp at hx; omega⟩
      try simp only [World.size_alloc] at F1
      replace hy := hy.on ((Below.refl _ _).alloc (Nat.le_refl _) ((.cells #[.float .f64 4607182418800017408] 32)))
      replace Dy := Dy.on ((Below.refl _ _).alloc (Nat.le_refl _) ((.cells #[.float .f64 4607182418800017408] 32)))
      replace hm := hm.on ((Below.refl _ _).alloc (Nat.le_refl _) ((.cells #[.float .f64 4607182418800017408] 32)))
      replace Dm := Dm.on ((Below.refl _ _).alloc (Nat.le_refl _) ((.cells #[.float .f64 4607182418800017408] 32)))
      replace bz := bz.alloc bz.size ((.cells #[.float .f64 4607182418800017408] 32))
      go_wp2_with fail
      with_reducible refine (vec_any F1 (by omega)).mono ?_
      rintro e w16 ⟨Va, sa, ga, capa, ca, la, rfl, ha, hb⟩
      replace hy := hy.on hb
      replace Dy := Dy.on hb
      replace hm := hm.on hb
      replace Dm := Dm.on hb
      replace bz := bz.trans (hb.mono bz.size)
      clear hb F1
      go_wp2_with fail
      with_reducible refine (k_dot1 ha).mono ?_
      rintro e w17 ⟨rfl, hb⟩
      replace hy := hy.on hb
      replace Dy := Dy.on hb
      replace hm := hm.on hb
      replace Dm := Dm.on hb
      replace ha := ha.on hb
      replace bz := bz.trans (hb.mono bz.size)
      clear hb
      clear ha
      go_wp2_with fail
      with_reducible refine (New_yes (R := 2) (C := 3) (by decide) _).mono ?_
      rintro e w18 ⟨sw, gw, capw, rfl, hw, hb⟩
      replace hy := hy.on hb
      replace Dy := Dy.on hb
      replace hm := hm.on hb
      replace Dm := Dm.on hb
      replace bz := bz.trans (hb.mono bz.size)
      clear hb
      have hw9 : Ov w18 w17.heap.size (Vu.all sw 2 3) sw gw capw (3 : Int).toNat (List.replicate 6 0) 2 3 (List.replicate 6 0) := ov_all hw (by omega) (by omega) (by omega) (by omega) (by decide)
      clear hw
      have Dw := Blk.new w18 ((Vu.all sw 2 3)).L 30
      obtain ⟨HDw, eHDw⟩ : ∃ H, w18.heap.size = H := ⟨_, rfl⟩
      rw [eHDw] at Dw
      replace hy := hy.on ((Below.refl _ _).alloc (Nat.le_refl _) (.cells ((Vu.all sw 2 3)).L.toArray 30))
      replace Dy := Dy.on ((Below.refl _ _).alloc (Nat.le_refl _) (.cells ((Vu.all sw 2 3)).L.toArray 30))
      replace hm := hm.on ((Below.refl _ _).alloc (Nat.le_refl _) (.cells ((Vu.all sw 2 3)).L.toArray 30))
      replace Dm := Dm.on ((Below.refl _ _).alloc (Nat.le_refl _) (.cells ((Vu.all sw 2 3)).L.toArray 30))
      replace hw9 := hw9.on ((Below.refl _ _).alloc (Nat.le_refl _) (.cells ((Vu.all sw 2 3)).L.toArray 30))
      replace bz := bz.alloc bz.size (.cells ((Vu.all sw 2 3)).L.toArray 30)
      have HHDw := Lib.hid eHDw
      obtain ⟨cDw_0, cDw_1, cDw_2, cDw_3, cDw_4, cDw_5, cDw_6, cDw_7, cDw_8⟩ := Vbx.cells Dw
      go_wp2_with fail
      with_reducible refine (k_gemm8 hw9).mono ?_
      rintro e w19 ⟨rfl, hb⟩
      clear cDw_0 cDw_1 cDw_2 cDw_3 cDw_4 cDw_5 cDw_6 cDw_7 cDw_8
      replace hy := hy.on hb
      replace Dy := Dy.on hb
      replace hm := hm.on hb
      replace Dm := Dm.on hb
      replace hw9 := hw9.on hb
      replace Dw := Dw.on hb
      replace bz := bz.trans (hb.mono bz.size)
      clear hb hw9 Dw
      go_wp2_with fail
      with_reducible refine (num_any _ _).mono ?_
      rintro e v20 ⟨rfl, rfl⟩
      go_wp2_with fail
      with_reducible refine (num_any _ _).mono ?_
      rintro e v21 ⟨rfl, rfl⟩
      go_wp2_with fail
      with_reducible refine (num_any _ _).mono ?_
      rintro e v22 ⟨rfl, rfl⟩
      go_wp2_with fail
      with_reducible refine (num_any _ _).mono ?_
      rintro e v23 ⟨rfl, rfl⟩
      go_wp2_with fail
      with_reducible refine (num_any _ _).mono ?_
      rintro e v24 ⟨rfl, rfl⟩
      obtain ⟨cDy_0, cDy_1, cDy_2, cDy_3, cDy_4, cDy_5, cDy_6, cDy_7, cDy_8⟩ := Vbx.cells Dy
      go_wp2_with fail
      with_reducible refine (hy.Get (i := 0) (by omega) (k := 0) (by omega) (x := 4613937818241073152) (by decide)).mono ?_
      rintro e w25 ⟨rfl, hb⟩
      clear cDy_0 cDy_1 cDy_2 cDy_3 cDy_4 cDy_5 cDy_6 cDy_7 cDy_8
      replace hy := hy.on hb
      replace Dy := Dy.on hb
      replace hm := hm.on hb
      replace Dm := Dm.on hb
      replace bz := bz.trans (hb.mono bz.size)
      clear hb
      obtain ⟨cDy_0, cDy_1, cDy_2, cDy_3, cDy_4, cDy_5, cDy_6, cDy_7, cDy_8⟩ := Vbx.cells Dy
      go_wp2_with fail
      with_reducible refine (hy.Get (i := 1) (by omega) (k := 1) (by omega) (x := 4619567317775286272) (by decide)).mono ?_
      rintro e w26 ⟨rfl, hb⟩
      clear cDy_0 cDy_1 cDy_2 cDy_3 cDy_4 cDy_5 cDy_6 cDy_7 cDy_8
      replace hy := hy.on hb
      replace Dy := Dy.on hb
      replace hm := hm.on hb
      replace Dm := Dm.on hb
      replace bz := bz.trans (hb.mono bz.size)
      clear hb
      obtain ⟨cDm_0, cDm_1, cDm_2, cDm_3, cDm_4, cDm_5, cDm_6, cDm_7, cDm_8⟩ := Vbx.cells Dm
      go_wp2_with fail
      with_reducible refine (hm.Get (i := 0) (by omega) (k := 0) (by omega) (x := 4607182418800017408) (by decide)).mono ?_
      rintro e w27 ⟨rfl, hb⟩
      clear cDm_0 cDm_1 cDm_2 cDm_3 cDm_4 cDm_5 cDm_6 cDm_7 cDm_8
      replace hy := hy.on hb
      replace Dy := Dy.on hb
      replace hm := hm.on hb
      replace Dm := Dm.on hb
      replace bz := bz.trans (hb.mono bz.size)
      clear hb
      obtain ⟨cDm_0, cDm_1, cDm_2, cDm_3, cDm_4, cDm_5, cDm_6, cDm_7, cDm_8⟩ := Vbx.cells Dm
      go_wp2_with fail
      with_reducible refine (hm.Get (i := 1) (by omega) (k := 1) (by omega) (x := 4617315517961601024) (by decide)).mono ?_
      rintro e w28 ⟨rfl, hb⟩
      clear cDm_0 cDm_1 cDm_2 cDm_3 cDm_4 cDm_5 cDm_6 cDm_7 cDm_8
      replace hy := hy.on hb
      replace Dy := Dy.on hb
      replace hm := hm.on hb
      replace Dm := Dm.on hb
      replace bz := bz.trans (hb.mono bz.size)
      clear hb
      go_wp2_with fail
      with_reducible refine (num_any _ _).mono ?_
      rintro e v29 ⟨rfl, rfl⟩
      go_wp2_with fail
      with_reducible refine (num_any _ _).mono ?_
      rintro e v30 ⟨rfl, rfl⟩
      go_wp2_with fail
      with_reducible refine (num_any _ _).mono ?_
      rintro e v31 ⟨rfl, rfl⟩
      go_wp2_with fail
      go_ret
      exact ⟨rfl, bz⟩
    · go_simp
      have F2 : FL ((wr5.alloc (.cells #[.float .f64 4607182418800017408, .float .f64 4611686018427387904, .float .f64 4613937818241073152, .float .f64 4616189618054758400] 32)).alloc (.cells #[.float .f64 4607182418800017408, .float .f64 4607182418800017408] 32)) (some ⟨(wr5.alloc (.cells #[.float .f64 4607182418800017408, .float .f64 4611686018427387904, .float .f64 4613937818241073152, .float .f64 4616189618054758400] 32)).heap.size, 0, none⟩) 2 2 [(4607182418800017408 : Int), (4607182418800017408 : Int)] := ⟨rfl, (own_new (wr5.alloc (.cells #[.float .f64 4607182418800017408, .float .f64 4611686018427387904, .float .f64 4613937818241073152, .float .f64 4616189618054758400] 32)) [(4607182418800017408 : Int), (4607182418800017408 : Int)] (by decide) (B := 0) (Nat.zero_le _)).nums, fun x hx => by simp at hx; omega⟩
      try simp only [World.size_alloc] at F2
      replace hy := hy.on ((Below.refl _ _).alloc (Nat.le_refl _) ((.cells #[.float .f64 4607182418800017408, .float .f64 4607182418800017408] 32)))
      replace Dy := Dy.on ((Below.refl _ _).alloc (Nat.le_refl _) ((.cells #[.float .f64 4607182418800017408, .float .f64 4607182418800017408] 32)))
      replace F1 := F1.on ((Below.refl _ _).alloc (Nat.le_refl _) ((.cells #[.float .f64 4607182418800017408, .float .f64 4607182418800017408] 32)))
      replace bz := bz.alloc bz.size ((.cells #[.float .f64 4607182418800017408, .float .f64 4607182418800017408] 32))
      refine hK.out _ _ Dy (fun hH => ?_)
      clear hK K hS
      have hS := hH
      clear hH
      try simp only [Act.put, List.setIfInBounds_toArray, List.set_cons_zero, List.set_cons_succ, List.getElem_toArray, List.getElem_cons_zero, List.getElem_cons_succ]
      refine wpAnyH_ready (rs := [1]) (by kernel_rfl) (by simp) ?_
      refine AllReadyH.cons rfl (fun K hK => ?_) AllReadyH.nil
      go_simp
      with_reducible refine (two_any F1).mono ?_
      rintro e w9 ⟨Vt, st, gt, capt, ct, lt, rfl, ht, hb⟩
      replace hy := hy.on hb
      replace Dy := Dy.on hb
      replace F1 := F1.on hb
      replace F2 := F2.on hb
      replace bz := bz.trans (hb.mono bz.size)
      clear hb F1
      refine hK.out _ _ Dy (fun hH => ?_)
      clear hK K hS
      have hS := hH
      clear hH
      try simp only [Act.put, List.setIfInBounds_toArray, List.set_cons_zero, List.set_cons_succ, List.getElem_toArray, List.getElem_cons_zero, List.getElem_cons_succ]
      refine wpAnyH_ready (rs := [3]) (by kernel_rfl) (by simp) ?_
      refine AllReadyH.cons rfl (fun K hK => ?_) AllReadyH.nil
      go_simp
      with_reducible refine (vec_any F2 (by omega)).mono ?_
      rintro e w10 ⟨Vx, sx, gx, capx, cx, lx, rfl, hx, hb⟩
      replace hy := hy.on hb
      replace Dy := Dy.on hb
      replace F2 := F2.on hb
      replace ht := ht.on hb
      replace bz := bz.trans (hb.mono bz.size)
      clear hb F2
      refine hK.out _ _ Dy (fun hH => ?_)
      clear hK K hS
      have hS := hH
      clear hH
      try simp only [Act.put, List.setIfInBounds_toArray, List.set_cons_zero, List.set_cons_succ, List.getElem_toArray, List.getElem_cons_zero, List.getElem_cons_succ]
      refine wpAnyH_ready (rs := [5]) (by kernel_rfl) (by simp) ?_
      refine AllReadyH.cons rfl (fun K hK => ?_) AllReadyH.nil
      go_simp
      with_reducible refine (k_gemv ht hx hy).mono ?_
      rintro e w78 ⟨ly2, rfl, hy2, hgy⟩
      replace Dy := Dy.grown hgy (by simp; omega)
      replace bz := bz.grown hgy bz.size (fun k e => by cases e; omega)
      replace hy := hy2
      clear hy2 hgy ht hx
      refine hK.out _ _ Dy (fun hH => ?_)
      clear hK K hS
      have hS := hH
      clear hH
      try simp only [Act.put, List.setIfInBounds_toArray, List.set_cons_zero, List.set_cons_succ, List.getElem_toArray, List.getElem_cons_zero, List.getElem_cons_succ]
      refine wpAnyH_take (i := 6) (v := ?v6_5) rfl (by kernel_rfl) (by kernel_rfl) (by kernel_rfl) (fun _ _ _ h => h) (Or.inl ⟨by rfl, ?hy6_5⟩) (by assumption) ?rest6_5
      case hy6_5 => (intro w9 hSw; clear hSw; go_simp; try with_reducible rfl)
      try simp only [Act.put, List.setIfInBounds_toArray, List.set_cons_zero, List.set_cons_succ, List.getElem_toArray, List.getElem_cons_zero, List.getElem_cons_succ]
      refine wpAnyH_done (by kernel_rfl) ?_ _
      have F1 : FL (w78.alloc (.cells #[.float .f64 4607182418800017408, .float .f64 4607182418800017408] 32)) (some ⟨w78.heap.size, 0, none⟩) 2 2 [(4607182418800017408 : Int), (4607182418800017408 : Int)] := ⟨rfl, (own_new w78 [(4607182418800017408 : Int), (4607182418800017408 : Int)] (by decide) (B := 0) (Nat.zero_le _)).nums, fun x hx => by simp at hx; omega⟩
      try simp only [World.size_alloc] at F1
      replace hy := hy.on ((Below.refl _ _).alloc (Nat.le_refl _) ((.cells #[.float .f64 4607182418800017408, .float .f64 4607182418800017408] 32)))
      replace Dy := Dy.on ((Below.refl _ _).alloc (Nat.le_refl _) ((.cells #[.float .f64 4607182418800017408, .float .f64 4607182418800017408] 32)))
      replace bz := bz.alloc bz.size ((.cells #[.float .f64 4607182418800017408, .float .f64 4607182418800017408] 32))
      have hszm := bz.size
      have hyl := And.intro hy.st.lt (And.intro hy.st.gt.2 Dy.lt)
      go_wp2_with fail
      with_reducible refine (vec_any F1 (by omega)).mono ?_
      rintro e w11 ⟨Vm, sm, gm, capm, cm, lm, rfl, hm, hb⟩
      replace hy := hy.on hb
      replace Dy := Dy.on hb
      replace bz := bz.trans (hb.mono bz.size)
      clear hb F1
      have hltm := And.intro hm.st.lt hm.st.gt.2
      have hym : sy < sm ∧ gy < sm ∧ sy < gm ∧ gy < gm ∧ w.heap.size ≤ gm ∧ HDy < gm := by have h1 := hm.st.lo; have h2 := hm.st.gt.1; omega
      have Dm := Blk.new w11 (Vm).L 30
      obtain ⟨HDm, eHDm⟩ : ∃ H, w11.heap.size = H := ⟨_, rfl⟩
      rw [eHDm] at Dm
      replace hy := hy.on ((Below.refl _ _).alloc (Nat.le_refl _) (.cells (Vm).L.toArray 30))
      replace Dy := Dy.on ((Below.refl _ _).alloc (Nat.le_refl _) (.cells (Vm).L.toArray 30))
      replace hm := hm.on ((Below.refl _ _).alloc (Nat.le_refl _) (.cells (Vm).L.toArray 30))
      replace bz := bz.alloc bz.size (.cells (Vm).L.toArray 30)
      have HHDm := Lib.hid eHDm
      rw [eHDm] at hltm
      go_wp2_with fail
      replace hy := hy.drew
      replace Dy := Dy.drew
      replace hm := hm.drew
      replace Dm := Dm.drew
      replace bz := bz.drew
      refine wp_region_held_drew (S := fun w9 : World => Vbx w9 HDm Vm) (by kernel_rfl) Dm (fun hS => ?_)
      generalize (w11.alloc (.cells (Vm).L.toArray 30)).drew = wr7 at hS hy Dy hm Dm  bz ⊢
      refine wpAnyH_take (i := 2) (v := ?v2_6) rfl (by kernel_rfl) (by kernel_rfl) (by kernel_rfl) (fun _ _ _ h => h) (Or.inl ⟨by rfl, ?hy2_6⟩) (by assumption) ?rest2_6
      case hy2_6 => (intro w9 hSw; refine (ld_v (by rfl) (by kernel_rfl) (show Vbx w9 HDm Vm from hSw)).trans ?_; with_reducible rfl)
      try simp only [Act.put, List.setIfInBounds_toArray, List.set_cons_zero, List.set_cons_succ, List.getElem_toArray, List.getElem_cons_zero, List.getElem_cons_succ]
      refine wpAnyH_ready (rs := [0]) (by kernel_rfl) (by simp) ?_
      refine AllReadyH.cons rfl (fun K hK => ?_) AllReadyH.nil
      go_simp
      have F1 : FL (wr7.alloc (.cells #[.float .f64 4607182418800017408, .float .f64 4621256167635550208, .float .f64 4611686018427387904, .float .f64 4613937818241073152] 32)) (some ⟨wr7.heap.size, 0, none⟩) 4 4 [(4607182418800017408 : Int), (4621256167635550208 : Int), (4611686018427387904 : Int), (4613937818241073152 : Int)] := ⟨rfl, (own_new wr7 [(4607182418800017408 : Int), (4621256167635550208 : Int), (4611686018427387904 : Int), (4613937818241073152 : Int)] (by decide) (B := 0) (Nat.zero_le _)).nums, fun x hx => by simp at hx; omega⟩
      try simp only [World.size_alloc] at F1
      replace hy := hy.on ((Below.refl _ _).alloc (Nat.le_refl _) ((.cells #[.float .f64 4607182418800017408, .float .f64 4621256167635550208, .float .f64 4611686018427387904, .float .f64 4613937818241073152] 32)))
      replace Dy := Dy.on ((Below.refl _ _).alloc (Nat.le_refl _) ((.cells #[.float .f64 4607182418800017408, .float .f64 4621256167635550208, .float .f64 4611686018427387904, .float .f64 4613937818241073152] 32)))
      replace hm := hm.on ((Below.refl _ _).alloc (Nat.le_refl _) ((.cells #[.float .f64 4607182418800017408, .float .f64 4621256167635550208, .float .f64 4611686018427387904, .float .f64 4613937818241073152] 32)))
      replace Dm := Dm.on ((Below.refl _ _).alloc (Nat.le_refl _) ((.cells #[.float .f64 4607182418800017408, .float .f64 4621256167635550208, .float .f64 4611686018427387904, .float .f64 4613937818241073152] 32)))
      replace bz := bz.alloc bz.size ((.cells #[.float .f64 4607182418800017408, .float .f64 4621256167635550208, .float .f64 4611686018427387904, .float .f64 4613937818241073152] 32))
      refine hK.out _ _ Dm (fun hH => ?_)
      clear hK K hS
      have hS := hH
      clear hH
      try simp only [Act.put, List.setIfInBounds_toArray, List.set_cons_zero, List.set_cons_succ, List.getElem_toArray, List.getElem_cons_zero, List.getElem_cons_succ]
      refine wpAnyH_ready (rs := [1]) (by kernel_rfl) (by simp) ?_
      refine AllReadyH.cons rfl (fun K hK => ?_) AllReadyH.nil
      go_simp
      with_reducible refine (two_any F1).mono ?_
      rintro e w12 ⟨Vt, st, gt, capt, ct, lt, rfl, ht, hb⟩
      replace hy := hy.on hb
      replace Dy := Dy.on hb
      replace hm := hm.on hb
      replace Dm := Dm.on hb
      replace F1 := F1.on hb
      replace bz := bz.trans (hb.mono bz.size)
      clear hb F1
      refine hK.out _ _ Dm (fun hH => ?_)
      clear hK K hS
      have hS := hH
      clear hH
      try simp only [Act.put, List.setIfInBounds_toArray, List.set_cons_zero, List.set_cons_succ, List.getElem_toArray, List.getElem_cons_zero, List.getElem_cons_succ]
      refine wpAnyH_ready (rs := [3]) (by kernel_rfl) (by simp) ?_
      refine AllReadyH.cons rfl (fun K hK => ?_) AllReadyH.nil
      go_simp
      with_reducible refine (k_trmm ht hm).mono ?_
      rintro e w77 ⟨lm2, rfl, hm2, hgm⟩
      replace Dm := Dm.grown hgm (by simp; omega)
      replace Dy := Dy.grown hgm (by simp; omega)
      replace hy := hy.grown hgm (by omega) (by omega)
      replace hm := hm2
      replace bz := bz.grown hgm bz.size (fun k e => by cases e; omega)
      clear hm2 hgm ht
      refine hK.out _ _ Dm (fun hH => ?_)
      clear hK K hS
      have hS := hH
      clear hH
      try simp only [Act.put, List.setIfInBounds_toArray, List.set_cons_zero, List.set_cons_succ, List.getElem_toArray, List.getElem_cons_zero, List.getElem_cons_succ]
      refine wpAnyH_take (i := 4) (v := ?v4_7) rfl (by kernel_rfl) (by kernel_rfl) (by kernel_rfl) (fun _ _ _ h => h) (Or.inl ⟨by rfl, ?hy4_7⟩) (by assumption) ?rest4_7
      case hy4_7 => (intro w9 hSw; clear hSw; go_simp; try with_reducible rfl)
      try simp only [Act.put, List.setIfInBounds_toArray, List.set_cons_zero, List.set_cons_succ, List.getElem_toArray, List.getElem_cons_zero, List.getElem_cons_succ]
      refine wpAnyH_done (by kernel_rfl) ?_ _
      have F1 : FL (w77.alloc (.cells #[.float .f64 4607182418800017408] 32)) (some ⟨w77.heap.size, 0, none⟩) 1 1 [(4607182418800017408 : Int)] := ⟨rfl, (own_new w77 [(4607182418800017408 : Int)] (by decide) (B := 0) (Nat.zero_le _)).nums, fun x hx => by simp at hx; omega⟩
      try simp only [World.size_alloc] at F1
      replace hy := hy.on ((Below.refl _ _).alloc (Nat.le_refl _) ((.cells #[.float .f64 4607182418800017408] 32)))
      replace Dy := Dy.on ((Below.refl _ _).alloc (Nat.le_refl _) ((.cells #[.float .f64 4607182418800017408] 32)))
      replace hm := hm.on ((Below.refl _ _).alloc (Nat.le_refl _) ((.cells #[.float .f64 4607182418800017408] 32)))
      replace Dm := Dm.on ((Below.refl _ _).alloc (Nat.le_refl _) ((.cells #[.float .f64 4607182418800017408] 32)))
      replace bz := bz.alloc bz.size ((.cells #[.float .f64 4607182418800017408] 32))
      go_wp2_with fail
      with_reducible refine (vec_any F1 (by omega)).mono ?_
      rintro e w13 ⟨Va, sa, ga, capa, ca, la, rfl, ha, hb⟩
      replace hy := hy.on hb
      replace Dy := Dy.on hb
      replace hm := hm.on hb
      replace Dm := Dm.on hb
      replace bz := bz.trans (hb.mono bz.size)
      clear hb F1
      have F1 : FL (w13.alloc (.cells #[.float .f64 4607182418800017408, .float .f64 4611686018427387904] 32)) (some ⟨w13.heap.size, 0, none⟩) 2 2 [(4607182418800017408 : Int), (4611686018427387904 : Int)] := ⟨rfl, (own_new w13 [(4607182418800017408 : Int), (4611686018427387904 : Int)] (by decide) (B := 0) (Nat.zero_le _)).nums, fun x hx => by simp at hx; omega⟩
      try simp only [World.size_alloc] at F1
      replace hy := hy.on ((Below.refl _ _).alloc (Nat.le_refl _) ((.cells #[.float .f64 4607182418800017408, .float .f64 4611686018427387904] 32)))
      replace Dy := Dy.on ((Below.refl _ _).alloc (Nat.le_refl _) ((.cells #[.float .f64 4607182418800017408, .float .f64 4611686018427387904] 32)))
      replace hm := hm.on ((Below.refl _ _).alloc (Nat.le_refl _) ((.cells #[.float .f64 4607182418800017408, .float .f64 4611686018427387904] 32)))
      replace Dm := Dm.on ((Below.refl _ _).alloc (Nat.le_refl _) ((.cells #[.float .f64 4607182418800017408, .float .f64 4611686018427387904] 32)))
      replace ha := ha.on ((Below.refl _ _).alloc (Nat.le_refl _) ((.cells #[.float .f64 4607182418800017408, .float .f64 4611686018427387904] 32)))
      replace bz := bz.alloc bz.size ((.cells #[.float .f64 4607182418800017408, .float .f64 4611686018427387904] 32))
      go_wp2_with fail
      with_reducible refine (vec_any F1 (by omega)).mono ?_
      rintro e w14 ⟨Vq, sq, gq, capq, cq, lq, rfl, hq, hb⟩
      replace hy := hy.on hb
      replace Dy := Dy.on hb
      replace hm := hm.on hb
      replace Dm := Dm.on hb
      replace ha := ha.on hb
      replace bz := bz.trans (hb.mono bz.size)
      clear hb F1
      go_wp2_with fail
      with_reducible refine (k_dot8 ha hq).mono ?_
      rintro e w15 ⟨rfl, hb⟩
      replace hy := hy.on hb
      replace Dy := Dy.on hb
      replace hm := hm.on hb
      replace Dm := Dm.on hb
      replace ha := ha.on hb
      replace hq := hq.on hb
      replace bz := bz.trans (hb.mono bz.size)
      clear hb
      clear ha hq
      have F1 : FL (w15.alloc (.cells #[.float .f64 4607182418800017408] 32)) (some ⟨w15.heap.size, 0, none⟩) 1 1 [(4607182418800017408 : Int)] := ⟨rfl, (own_new w15 [(4607182418800017408 : Int)] (by decide) (B := 0) (Nat.zero_le _)).nums, fun x hx => by simp at hx; omega⟩
      try simp only [World.size_alloc] at F1
      replace hy := hy.on ((Below.refl _ _).alloc (Nat.le_refl _) ((.cells #[.float .f64 4607182418800017408] 32)))
      replace Dy := Dy.on ((Below.refl _ _).alloc (Nat.le_refl _) ((.cells #[.float .f64 4607182418800017408] 32)))
      replace hm := hm.on ((Below.refl _ _).alloc (Nat.le_refl _) ((.cells #[.float .f64 4607182418800017408] 32)))
      replace Dm := Dm.on ((Below.refl _ _).alloc (Nat.le_refl _) ((.cells #[.float .f64 4607182418800017408] 32)))
      replace bz := bz.alloc bz.size ((.cells #[.float .f64 4607182418800017408] 32))
      go_wp2_with fail
      with_reducible refine (vec_any F1 (by omega)).mono ?_
      rintro e w16 ⟨Va, sa, ga, capa, ca, la, rfl, ha, hb⟩
      replace hy := hy.on hb
      replace Dy := Dy.on hb
      replace hm := hm.on hb
      replace Dm := Dm.on hb
      replace bz := bz.trans (hb.mono bz.size)
      clear hb F1
      go_wp2_with fail
      with_reducible refine (k_dot1 ha).mono ?_
      rintro e w17 ⟨rfl, hb⟩
      replace hy := hy.on hb
      replace Dy := Dy.on hb
      replace hm := hm.on hb
      replace Dm := Dm.on hb
      replace ha := ha.on hb
      replace bz := bz.trans (hb.mono bz.size)
      clear hb
      clear ha
      go_wp2_with fail
      with_reducible refine (New_yes (R := 2) (C := 3) (by decide) _).mono ?_
      rintro e w18 ⟨sw, gw, capw, rfl, hw, hb⟩
      replace hy := hy.on hb
      replace Dy := Dy.on hb
      replace hm := hm.on hb
      replace Dm := Dm.on hb
      replace bz := bz.trans (hb.mono bz.size)
      clear hb
      have hw9 : Ov w18 w17.heap.size (Vu.all sw 2 3) sw gw capw (3 : Int).toNat (List.replicate 6 0) 2 3 (List.replicate 6 0) := ov_all hw (by omega) (by omega) (by omega) (by omega) (by decide)
      clear hw
      have Dw := Blk.new w18 ((Vu.all sw 2 3)).L 30
      obtain ⟨HDw, eHDw⟩ : ∃ H, w18.heap.size = H := ⟨_, rfl⟩
      rw [eHDw] at Dw
      replace hy := hy.on ((Below.refl _ _).alloc (Nat.le_refl _) (.cells ((Vu.all sw 2 3)).L.toArray 30))
      replace Dy := Dy.on ((Below.refl _ _).alloc (Nat.le_refl _) (.cells ((Vu.all sw 2 3)).L.toArray 30))
      replace hm := hm.on ((Below.refl _ _).alloc (Nat.le_refl _) (.cells ((Vu.all sw 2 3)).L.toArray 30))
      replace Dm := Dm.on ((Below.refl _ _).alloc (Nat.le_refl _) (.cells ((Vu.all sw 2 3)).L.toArray 30))
      replace hw9 := hw9.on ((Below.refl _ _).alloc (Nat.le_refl _) (.cells ((Vu.all sw 2 3)).L.toArray 30))
      replace bz := bz.alloc bz.size (.cells ((Vu.all sw 2 3)).L.toArray 30)
      have HHDw := Lib.hid eHDw
      obtain ⟨cDw_0, cDw_1, cDw_2, cDw_3, cDw_4, cDw_5, cDw_6, cDw_7, cDw_8⟩ := Vbx.cells Dw
      go_wp2_with fail
      with_reducible refine (k_gemm8 hw9).mono ?_
      rintro e w19 ⟨rfl, hb⟩
      clear cDw_0 cDw_1 cDw_2 cDw_3 cDw_4 cDw_5 cDw_6 cDw_7 cDw_8
      replace hy := hy.on hb
      replace Dy := Dy.on hb
      replace hm := hm.on hb
      replace Dm := Dm.on hb
      replace hw9 := hw9.on hb
      replace Dw := Dw.on hb
      replace bz := bz.trans (hb.mono bz.size)
      clear hb hw9 Dw
      go_wp2_with fail
      with_reducible refine (num_any _ _).mono ?_
      rintro e v20 ⟨rfl, rfl⟩
      go_wp2_with fail
      with_reducible refine (num_any _ _).mono ?_
      rintro e v21 ⟨rfl, rfl⟩
      go_wp2_with fail
      with_reducible refine (num_any _ _).mono ?_
      rintro e v22 ⟨rfl, rfl⟩
      go_wp2_with fail
      with_reducible refine (num_any _ _).mono ?_
      rintro e v23 ⟨rfl, rfl⟩
      go_wp2_with fail
      with_reducible refine (num_any _ _).mono ?_
      rintro e v24 ⟨rfl, rfl⟩
      obtain ⟨cDy_0, cDy_1, cDy_2, cDy_3, cDy_4, cDy_5, cDy_6, cDy_7, cDy_8⟩ := Vbx.cells Dy
      go_wp2_with fail
      with_reducible refine (hy.Get (i := 0) (by omega) (k := 0) (by omega) (x := 4613937818241073152) (by decide)).mono ?_
      rintro e w25 ⟨rfl, hb⟩
      clear cDy_0 cDy_1 cDy_2 cDy_3 cDy_4 cDy_5 cDy_6 cDy_7 cDy_8
      replace hy := hy.on hb
      replace Dy := Dy.on hb
      replace hm := hm.on hb
      replace Dm := Dm.on hb
      replace bz := bz.trans (hb.mono bz.size)
      clear hb
      obtain ⟨cDy_0, cDy_1, cDy_2, cDy_3, cDy_4, cDy_5, cDy_6, cDy_7, cDy_8⟩ := Vbx.cells Dy
      go_wp2_with fail
      with_reducible refine (hy.Get (i := 1) (by omega) (k := 1) (by omega) (x := 4619567317775286272) (by decide)).mono ?_
      rintro e w26 ⟨rfl, hb⟩
      clear cDy_0 cDy_1 cDy_2 cDy_3 cDy_4 cDy_5 cDy_6 cDy_7 cDy_8
      replace hy := hy.on hb
      replace Dy := Dy.on hb
      replace hm := hm.on hb
      replace Dm := Dm.on hb
      replace bz := bz.trans (hb.mono bz.size)
      clear hb
      obtain ⟨cDm_0, cDm_1, cDm_2, cDm_3, cDm_4, cDm_5, cDm_6, cDm_7, cDm_8⟩ := Vbx.cells Dm
      go_wp2_with fail
      with_reducible refine (hm.Get (i := 0) (by omega) (k := 0) (by omega) (x := 4607182418800017408) (by decide)).mono ?_
      rintro e w27 ⟨rfl, hb⟩
      clear cDm_0 cDm_1 cDm_2 cDm_3 cDm_4 cDm_5 cDm_6 cDm_7 cDm_8
      replace hy := hy.on hb
      replace Dy := Dy.on hb
      replace hm := hm.on hb
      replace Dm := Dm.on hb
      replace bz := bz.trans (hb.mono bz.size)
      clear hb
      obtain ⟨cDm_0, cDm_1, cDm_2, cDm_3, cDm_4, cDm_5, cDm_6, cDm_7, cDm_8⟩ := Vbx.cells Dm
      go_wp2_with fail
      with_reducible refine (hm.Get (i := 1) (by omega) (k := 1) (by omega) (x := 4617315517961601024) (by decide)).mono ?_
      rintro e w28 ⟨rfl, hb⟩
      clear cDm_0 cDm_1 cDm_2 cDm_3 cDm_4 cDm_5 cDm_6 cDm_7 cDm_8
      replace hy := hy.on hb
      replace Dy := Dy.on hb
      replace hm := hm.on hb
      replace Dm := Dm.on hb
      replace bz := bz.trans (hb.mono bz.size)
      clear hb
      go_wp2_with fail
      with_reducible refine (num_any _ _).mono ?_
      rintro e v29 ⟨rfl, rfl⟩
      go_wp2_with fail
      with_reducible refine (num_any _ _).mono ?_
      rintro e v30 ⟨rfl, rfl⟩
      go_wp2_with fail
      with_reducible refine (num_any _ _).mono ?_
      rintro e v31 ⟨rfl, rfl⟩
      go_wp2_with fail
      go_ret
      exact ⟨rfl, bz⟩
  · go_simp
    have F2 : FL (wr5.alloc (.cells #[.float .f64 4607182418800017408, .float .f64 4607182418800017408] 32)) (some ⟨wr5.heap.size, 0, none⟩) 2 2 [(4607182418800017408 : Int), (4607182418800017408 : Int)] := ⟨rfl, (own_new wr5 [(4607182418800017408 : Int), (4607182418800017408 : Int)] (by decide) (B := 0) (Nat.zero_le _)).nums, fun x hx => by simp at hx; omega⟩
    try simp only [World.size_alloc] at F2
    replace hy := hy.on ((Below.refl _ _).alloc (Nat.le_refl _) ((.cells #[.float .f64 4607182418800017408, .float .f64 4607182418800017408] 32)))
    replace Dy := Dy.on ((Below.refl _ _).alloc (Nat.le_refl _) ((.cells #[.float .f64 4607182418800017408, .float .f64 4607182418800017408] 32)))
    replace bz := bz.alloc bz.size ((.cells #[.float .f64 4607182418800017408, .float .f64 4607182418800017408] 32))
    refine hK.out _ _ Dy (fun hH => ?_)
    clear hK K hS
    have hS := hH
    clear hH
    try simp only [Act.put, List.setIfInBounds_toArray, List.set_cons_zero, List.set_cons_succ, List.getElem_toArray, List.getElem_cons_zero, List.getElem_cons_succ]
    refine wpAnyH_ready (rs := [0]) (by kernel_rfl) (by simp) ?_
    refine AllReadyH.cons rfl (fun K hK => ?_) AllReadyH.nil
    go_simp
    have F1 : FL ((wr5.alloc (.cells #[.float .f64 4607182418800017408, .float .f64 4607182418800017408] 32)).alloc (.cells #[.float .f64 4607182418800017408, .float .f64 4611686018427387904, .float .f64 4613937818241073152, .float .f64 4616189618054758400] 32)) (some ⟨(wr5.alloc (.cells #[.float .f64 4607182418800017408, .float .f64 4607182418800017408] 32)).heap.size, 0, none⟩) 4 4 [(4607182418800017408 : Int), (4611686018427387904 : Int), (4613937818241073152 : Int), (4616189618054758400 : Int)] := ⟨rfl, (own_new (wr5.alloc (.cells #[.float .f64 4607182418800017408, .float .f64 4607182418800017408] 32)) [(4607182418800017408 : Int), (4611686018427387904 : Int), (4613937818241073152 : Int), (4616189618054758400 : Int)] (by decide) (B := 0) (Nat.zero_le _)).nums, fun x hx => by simp at hx; omega⟩
    try simp only [World.size_alloc] at F1
    replace hy := hy.on ((Below.refl _ _).alloc (Nat.le_refl _) ((.cells #[.float .f64 4607182418800017408, .float .f64 4611686018427387904, .float .f64 4613937818241073152, .float .f64 4616189618054758400] 32)))
    replace Dy := Dy.on ((Below.refl _ _).alloc (Nat.le_refl _) ((.cells #[.float .f64 4607182418800017408, .float .f64 4611686018427387904, .float .f64 4613937818241073152, .float .f64 4616189618054758400] 32)))
    replace F2 := F2.on ((Below.refl _ _).alloc (Nat.le_refl _) ((.cells #[.float .f64 4607182418800017408, .float .f64 4611686018427387904, .float .f64 4613937818241073152, .float .f64 4616189618054758400] 32)))
    replace bz := bz.alloc bz.size ((.cells #[.float .f64 4607182418800017408, .float .f64 4611686018427387904, .float .f64 4613937818241073152, .float .f64 4616189618054758400] 32))
    refine hK.out _ _ Dy (fun hH => ?_)
    clear hK K hS
    have hS := hH
    clear hH
    try simp only [Act.put, List.setIfInBounds_toArray, List.set_cons_zero, List.set_cons_succ, List.getElem_toArray, List.getElem_cons_zero, List.getElem_cons_succ]
    refine wpAnyH_ready (rs := [1]) (by kernel_rfl) (by simp) ?_
    refine AllReadyH.cons rfl (fun K hK => ?_) AllReadyH.nil
    go_simp
    with_reducible refine (two_any F1).mono ?_
    rintro e w9 ⟨Vt, st, gt, capt, ct, lt, rfl, ht, hb⟩
    replace hy := hy.on hb
    replace Dy := Dy.on hb
    replace F2 := F2.on hb
    replace F1 := F1.on hb
    replace bz := bz.trans (hb.mono bz.size)
    clear hb F1
    refine hK.out _ _ Dy (fun hH => ?_)
    clear hK K hS
    have hS := hH
    clear hH
    try simp only [Act.put, List.setIfInBounds_toArray, List.set_cons_zero, List.set_cons_succ, List.getElem_toArray, List.getElem_cons_zero, List.getElem_cons_succ]
    refine wpAnyH_ready (rs := [3]) (by kernel_rfl) (by simp) ?_
    refine AllReadyH.cons rfl (fun K hK => ?_) AllReadyH.nil
    go_simp
    with_reducible refine (vec_any F2 (by omega)).mono ?_
    rintro e w10 ⟨Vx, sx, gx, capx, cx, lx, rfl, hx, hb⟩
    replace hy := hy.on hb
    replace Dy := Dy.on hb
    replace F2 := F2.on hb
    replace ht := ht.on hb
    replace bz := bz.trans (hb.mono bz.size)
    clear hb F2
    refine hK.out _ _ Dy (fun hH => ?_)
    clear hK K hS
    have hS := hH
    clear hH
    try simp only [Act.put, List.setIfInBounds_toArray, List.set_cons_zero, List.set_cons_succ, List.getElem_toArray, List.getElem_cons_zero, List.getElem_cons_succ]
    refine wpAnyH_ready (rs := [5]) (by kernel_rfl) (by simp) ?_
    refine AllReadyH.cons rfl (fun K hK => ?_) AllReadyH.nil
    go_simp
    with_reducible refine (k_gemv ht hx hy).mono ?_
    rintro e w78 ⟨ly2, rfl, hy2, hgy⟩
    replace Dy := Dy.grown hgy (by simp; omega)
    replace bz := bz.grown hgy bz.size (fun k e => by cases e; omega)
    replace hy := hy2
    clear hy2 hgy ht hx
    refine hK.out _ _ Dy (fun hH => ?_)
    clear hK K hS
    have hS := hH
    clear hH
    try simp only [Act.put, List.setIfInBounds_toArray, List.set_cons_zero, List.set_cons_succ, List.getElem_toArray, List.getElem_cons_zero, List.getElem_cons_succ]
    refine wpAnyH_take (i := 6) (v := ?v6_8) rfl (by kernel_rfl) (by kernel_rfl) (by kernel_rfl) (fun _ _ _ h => h) (Or.inl ⟨by rfl, ?hy6_8⟩) (by assumption) ?rest6_8
    case hy6_8 => (intro w9 hSw; clear hSw; go_simp; try with_reducible rfl)
    try simp only [Act.put, List.setIfInBounds_toArray, List.set_cons_zero, List.set_cons_succ, List.getElem_toArray, List.getElem_cons_zero, List.getElem_cons_succ]
    refine wpAnyH_done (by kernel_rfl) ?_ _
    have F1 : FL (w78.alloc (.cells #[.float .f64 4607182418800017408, .float .f64 4607182418800017408] 32)) (some ⟨w78.heap.size, 0, none⟩) 2 2 [(4607182418800017408 : Int), (4607182418800017408 : Int)] := ⟨rfl, (own_new w78 [(4607182418800017408 : Int), (4607182418800017408 : Int)] (by decide) (B := 0) (Nat.zero_le _)).nums, fun x hx => by simp at hx; omega⟩
    try simp only [World.size_alloc] at F1
    replace hy := hy.on ((Below.refl _ _).alloc (Nat.le_refl _) ((.cells #[.float .f64 4607182418800017408, .float .f64 4607182418800017408] 32)))
    replace Dy := Dy.on ((Below.refl _ _).alloc (Nat.le_refl _) ((.cells #[.float .f64 4607182418800017408, .float .f64 4607182418800017408] 32)))
    replace bz := bz.alloc bz.size ((.cells #[.float .f64 4607182418800017408, .float .f64 4607182418800017408] 32))
    have hszm := bz.size
    have hyl := And.intro hy.st.lt (And.intro hy.st.gt.2 Dy.lt)
    go_wp2_with fail
    with_reducible refine (vec_any F1 (by omega)).mono ?_
    rintro e w11 ⟨Vm, sm, gm, capm, cm, lm, rfl, hm, hb⟩
    replace hy := hy.on hb
    replace Dy := Dy.on hb
    replace bz := bz.trans (hb.mono bz.size)
    clear hb F1
    have hltm := And.intro hm.st.lt hm.st.gt.2
    have hym : sy < sm ∧ gy < sm ∧ sy < gm ∧ gy < gm ∧ w.heap.size ≤ gm ∧ HDy < gm := by have h1 := hm.st.lo; have h2 := hm.st.gt.1; omega
    have Dm := Blk.new w11 (Vm).L 30
    obtain ⟨HDm, eHDm⟩ : ∃ H, w11.heap.size = H := ⟨_, rfl⟩
    rw [eHDm] at Dm
    replace hy := hy.on ((Below.refl _ _).alloc (Nat.le_refl _) (.cells (Vm).L.toArray 30))
    replace Dy := Dy.on ((Below.refl _ _).alloc (Nat.le_refl _) (.cells (Vm).L.toArray 30))
    replace hm := hm.on ((Below.refl _ _).alloc (Nat.le_refl _) (.cells (Vm).L.toArray 30))
    replace bz := bz.alloc bz.size (.cells (Vm).L.toArray 30)
    have HHDm := Lib.hid eHDm
    rw [eHDm] at hltm
    go_wp2_with fail
    replace hy := hy.drew
    replace Dy := Dy.drew
    replace hm := hm.drew
    replace Dm := Dm.drew
    replace bz := bz.drew
    refine wp_region_held_drew (S := fun w9 : World => Vbx w9 HDm Vm) (by kernel_rfl) Dm (fun hS => ?_)
    generalize (w11.alloc (.cells (Vm).L.toArray 30)).drew = wr7 at hS hy Dy hm Dm  bz ⊢
    refine wpAnyH_take (i := 2) (v := ?v2_9) rfl (by kernel_rfl) (by kernel_rfl) (by kernel_rfl) (fun _ _ _ h => h) (Or.inl ⟨by rfl, ?hy2_9⟩) (by assumption) ?rest2_9
    case hy2_9 => (intro w9 hSw; refine (ld_v (by rfl) (by kernel_rfl) (show Vbx w9 HDm Vm from hSw)).trans ?_; with_reducible rfl)
    try simp only [Act.put, List.setIfInBounds_toArray, List.set_cons_zero, List.set_cons_succ, List.getElem_toArray, List.getElem_cons_zero, List.getElem_cons_succ]
    refine wpAnyH_ready (rs := [0]) (by kernel_rfl) (by simp) ?_
    refine AllReadyH.cons rfl (fun K hK => ?_) AllReadyH.nil
    go_simp
    have F1 : FL (wr7.alloc (.cells #[.float .f64 4607182418800017408, .float .f64 4621256167635550208, .float .f64 4611686018427387904, .float .f64 4613937818241073152] 32)) (some ⟨wr7.heap.size, 0, none⟩) 4 4 [(4607182418800017408 : Int), (4621256167635550208 : Int), (4611686018427387904 : Int), (4613937818241073152 : Int)] := ⟨rfl, (own_new wr7 [(4607182418800017408 : Int), (4621256167635550208 : Int), (4611686018427387904 : Int), (4613937818241073152 : Int)] (by decide) (B := 0) (Nat.zero_le _)).nums, fun x hx => by simp at hx; omega⟩
    try simp only [World.size_alloc] at F1
    replace hy := hy.on ((Below.refl _ _).alloc (Nat.le_refl _) ((.cells #[.float .f64 4607182418800017408, .float .f64 4621256167635550208, .float .f64 4611686018427387904, .float .f64 4613937818241073152] 32)))
    replace Dy := Dy.on ((Below.refl _ _).alloc (Nat.le_refl _) ((.cells #[.float .f64 4607182418800017408, .float .f64 4621256167635550208, .float .f64 4611686018427387904, .float .f64 4613937818241073152] 32)))
    replace hm := hm.on ((Below.refl _ _).alloc (Nat.le_refl _) ((.cells #[.float .f64 4607182418800017408, .float .f64 4621256167635550208, .float .f64 4611686018427387904, .float .f64 4613937818241073152] 32)))
    replace Dm := Dm.on ((Below.refl _ _).alloc (Nat.le_refl _) ((.cells #[.float .f64 4607182418800017408, .float .f64 4621256167635550208, .float .f64 4611686018427387904, .float .f64 4613937818241073152] 32)))
    replace bz := bz.alloc bz.size ((.cells #[.float .f64 4607182418800017408, .float .f64 4621256167635550208, .float .f64 4611686018427387904, .float .f64 4613937818241073152] 32))
    refine hK.out _ _ Dm (fun hH => ?_)
    clear hK K hS
    have hS := hH
    clear hH
    try simp only [Act.put, List.setIfInBounds_toArray, List.set_cons_zero, List.set_cons_succ, List.getElem_toArray, List.getElem_cons_zero, List.getElem_cons_succ]
    refine wpAnyH_ready (rs := [1]) (by kernel_rfl) (by simp) ?_
    refine AllReadyH.cons rfl (fun K hK => ?_) AllReadyH.nil
    go_simp
    with_reducible refine (two_any F1).mono ?_
    rintro e w12 ⟨Vt, st, gt, capt, ct, lt, rfl, ht, hb⟩
    replace hy := hy.on hb
    replace Dy := Dy.on hb
    replace hm := hm.on hb
    replace Dm := Dm.on hb
    replace F1 := F1.on hb
    replace bz := bz.trans (hb.mono bz.size)
    clear hb F1
    refine hK.out _ _ Dm (fun hH => ?_)
    clear hK K hS
    have hS := hH
    clear hH
    try simp only [Act.put, List.setIfInBounds_toArray, List.set_cons_zero, List.set_cons_succ, List.getElem_toArray, List.getElem_cons_zero, List.getElem_cons_succ]
    refine wpAnyH_ready (rs := [3]) (by kernel_rfl) (by simp) ?_
    refine AllReadyH.cons rfl (fun K hK => ?_) AllReadyH.nil
    go_simp
    with_reducible refine (k_trmm ht hm).mono ?_
    rintro e w77 ⟨lm2, rfl, hm2, hgm⟩
    replace Dm := Dm.grown hgm (by simp; omega)
    replace Dy := Dy.grown hgm (by simp; omega)
    replace hy := hy.grown hgm (by omega) (by omega)
    replace hm := hm2
    replace bz := bz.grown hgm bz.size (fun k e => by cases e; omega)
    clear hm2 hgm ht
    refine hK.out _ _ Dm (fun hH => ?_)
    clear hK K hS
    have hS := hH
    clear hH
    try simp only [Act.put, List.setIfInBounds_toArray, List.set_cons_zero, List.set_cons_succ, List.getElem_toArray, List.getElem_cons_zero, List.getElem_cons_succ]
    refine wpAnyH_take (i := 4) (v := ?v4_10) rfl (by kernel_rfl) (by kernel_rfl) (by kernel_rfl) (fun _ _ _ h => h) (Or.inl ⟨by rfl, ?hy4_10⟩) (by assumption) ?rest4_10
    case hy4_10 => (intro w9 hSw; clear hSw; go_simp; try with_reducible rfl)
    try simp only [Act.put, List.setIfInBounds_toArray, List.set_cons_zero, List.set_cons_succ, List.getElem_toArray, List.getElem_cons_zero, List.getElem_cons_succ]
    refine wpAnyH_done (by kernel_rfl) ?_ _
    have F1 : FL (w77.alloc (.cells #[.float .f64 4607182418800017408] 32)) (some ⟨w77.heap.size, 0, none⟩) 1 1 [(4607182418800017408 : Int)] := ⟨rfl, (own_new w77 [(4607182418800017408 : Int)] (by decide) (B := 0) (Nat.zero_le _)).nums, fun x hx => by simp at hx; omega⟩
    try simp only [World.size_alloc] at F1
    replace hy := hy.on ((Below.refl _ _).alloc (Nat.le_refl _) ((.cells #[.float .f64 4607182418800017408] 32)))
    replace Dy := Dy.on ((Below.refl _ _).alloc (Nat.le_refl _) ((.cells #[.float .f64 4607182418800017408] 32)))
    replace hm := hm.on ((Below.refl _ _).alloc (Nat.le_refl _) ((.cells #[.float .f64 4607182418800017408] 32)))
    replace Dm := Dm.on ((Below.refl _ _).alloc (Nat.le_refl _) ((.cells #[.float .f64 4607182418800017408] 32)))
    replace bz := bz.alloc bz.size ((.cells #[.float .f64 4607182418800017408] 32))
    go_wp2_with fail
    with_reducible refine (vec_any F1 (by omega)).mono ?_
    rintro e w13 ⟨Va, sa, ga, capa, ca, la, rfl, ha, hb⟩
    replace hy := hy.on hb
    replace Dy := Dy.on hb
    replace hm := hm.on hb
    replace Dm := Dm.on hb
    replace bz := bz.trans (hb.mono bz.size)
    clear hb F1
    have F1 : FL (w13.alloc (.cells #[.float .f64 4607182418800017408, .float .f64 4611686018427387904] 32)) (some ⟨w13.heap.size, 0, none⟩) 2 2 [(4607182418800017408 : Int), (4611686018427387904 : Int)] := ⟨rfl, (own_new w13 [(4607182418800017408 : Int), (4611686018427387904 : Int)] (by decide) (B := 0) (Nat.zero_le _)).nums, fun x hx => by simp at hx; omega⟩
    try simp only [World.size_alloc] at F1
    replace hy := hy.on ((Below.refl _ _).alloc (Nat.le_refl _) ((.cells #[.float .f64 4607182418800017408, .float .f64 4611686018427387904] 32)))
    replace Dy := Dy.on ((Below.refl _ _).alloc (Nat.le_refl _) ((.cells #[.float .f64 4607182418800017408, .float .f64 4611686018427387904] 32)))
    replace hm := hm.on ((Below.refl _ _).alloc (Nat.le_refl _) ((.cells #[.float .f64 4607182418800017408, .float .f64 4611686018427387904] 32)))
    replace Dm := Dm.on ((Below.refl _ _).alloc (Nat.le_refl _) ((.cells #[.float .f64 4607182418800017408, .float .f64 4611686018427387904] 32)))
    replace ha := ha.on ((Below.refl _ _).alloc (Nat.le_refl _) ((.cells #[.float .f64 4607182418800017408, .float .f64 4611686018427387904] 32)))
    replace bz := bz.alloc bz.size ((.cells #[.float .f64 4607182418800017408, .float .f64 4611686018427387904] 32))
    go_wp2_with fail
    with_reducible refine (vec_any F1 (by omega)).mono ?_
    rintro e w14 ⟨Vq, sq, gq, capq, cq, lq, rfl, hq, hb⟩
    replace hy := hy.on hb
    replace Dy := Dy.on hb
    replace hm := hm.on hb
    replace Dm := Dm.on hb
    replace ha := ha.on hb
    replace bz := bz.trans (hb.mono bz.size)
    clear hb F1
    go_wp2_with fail
    with_reducible refine (k_dot8 ha hq).mono ?_
    rintro e w15 ⟨rfl, hb⟩
    replace hy := hy.on hb
    replace Dy := Dy.on hb
    replace hm := hm.on hb
    replace Dm := Dm.on hb
    replace ha := ha.on hb
    replace hq := hq.on hb
    replace bz := bz.trans (hb.mono bz.size)
    clear hb
    clear ha hq
    have F1 : FL (w15.alloc (.cells #[.float .f64 4607182418800017408] 32)) (some ⟨w15.heap.size, 0, none⟩) 1 1 [(4607182418800017408 : Int)] := ⟨rfl, (own_new w15 [(4607182418800017408 : Int)] (by decide) (B := 0) (Nat.zero_le _)).nums, fun x hx => by simp at hx; omega⟩
    try simp only [World.size_alloc] at F1
    replace hy := hy.on ((Below.refl _ _).alloc (Nat.le_refl _) ((.cells #[.float .f64 4607182418800017408] 32)))
    replace Dy := Dy.on ((Below.refl _ _).alloc (Nat.le_refl _) ((.cells #[.float .f64 4607182418800017408] 32)))
    replace hm := hm.on ((Below.refl _ _).alloc (Nat.le_refl _) ((.cells #[.float .f64 4607182418800017408] 32)))
    replace Dm := Dm.on ((Below.refl _ _).alloc (Nat.le_refl _) ((.cells #[.float .f64 4607182418800017408] 32)))
    replace bz := bz.alloc bz.size ((.cells #[.float .f64 4607182418800017408] 32))
    go_wp2_with fail
    with_reducible refine (vec_any F1 (by omega)).mono ?_
    rintro e w16 ⟨Va, sa, ga, capa, ca, la, rfl, ha, hb⟩
    replace hy := hy.on hb
    replace Dy := Dy.on hb
    replace hm := hm.on hb
    replace Dm := Dm.on hb
    replace bz := bz.trans (hb.mono bz.size)
    clear hb F1
    go_wp2_with fail
    with_reducible refine (k_dot1 ha).mono ?_
    rintro e w17 ⟨rfl, hb⟩
    replace hy := hy.on hb
    replace Dy := Dy.on hb
    replace hm := hm.on hb
    replace Dm := Dm.on hb
    replace ha := ha.on hb
    replace bz := bz.trans (hb.mono bz.size)
    clear hb
    clear ha
    go_wp2_with fail
    with_reducible refine (New_yes (R := 2) (C := 3) (by decide) _).mono ?_
    rintro e w18 ⟨sw, gw, capw, rfl, hw, hb⟩
    replace hy := hy.on hb
    replace Dy := Dy.on hb
    replace hm := hm.on hb
    replace Dm := Dm.on hb
    replace bz := bz.trans (hb.mono bz.size)
    clear hb
    have hw9 : Ov w18 w17.heap.size (Vu.all sw 2 3) sw gw capw (3 : Int).toNat (List.replicate 6 0) 2 3 (List.replicate 6 0) := ov_all hw (by omega) (by omega) (by omega) (by omega) (by decide)
    clear hw
    have Dw := Blk.new w18 ((Vu.all sw 2 3)).L 30
    obtain ⟨HDw, eHDw⟩ : ∃ H, w18.heap.size = H := ⟨_, rfl⟩
    rw [eHDw] at Dw
    replace hy := hy.on ((Below.refl _ _).alloc (Nat.le_refl _) (.cells ((Vu.all sw 2 3)).L.toArray 30))
    replace Dy := Dy.on ((Below.refl _ _).alloc (Nat.le_refl _) (.cells ((Vu.all sw 2 3)).L.toArray 30))
    replace hm := hm.on ((Below.refl _ _).alloc (Nat.le_refl _) (.cells ((Vu.all sw 2 3)).L.toArray 30))
    replace Dm := Dm.on ((Below.refl _ _).alloc (Nat.le_refl _) (.cells ((Vu.all sw 2 3)).L.toArray 30))
    replace hw9 := hw9.on ((Below.refl _ _).alloc (Nat.le_refl _) (.cells ((Vu.all sw 2 3)).L.toArray 30))
    replace bz := bz.alloc bz.size (.cells ((Vu.all sw 2 3)).L.toArray 30)
    have HHDw := Lib.hid eHDw
    obtain ⟨cDw_0, cDw_1, cDw_2, cDw_3, cDw_4, cDw_5, cDw_6, cDw_7, cDw_8⟩ := Vbx.cells Dw
    go_wp2_with fail
    with_reducible refine (k_gemm8 hw9).mono ?_
    rintro e w19 ⟨rfl, hb⟩
    clear cDw_0 cDw_1 cDw_2 cDw_3 cDw_4 cDw_5 cDw_6 cDw_7 cDw_8
    replace hy := hy.on hb
    replace Dy := Dy.on hb
    replace hm := hm.on hb
    replace Dm := Dm.on hb
    replace hw9 := hw9.on hb
    replace Dw := Dw.on hb
    replace bz := bz.trans (hb.mono bz.size)
    clear hb hw9 Dw
    go_wp2_with fail
    with_reducible refine (num_any _ _).mono ?_
    rintro e v20 ⟨rfl, rfl⟩
    go_wp2_with fail
    with_reducible refine (num_any _ _).mono ?_
    rintro e v21 ⟨rfl, rfl⟩
    go_wp2_with fail
    with_reducible refine (num_any _ _).mono ?_
    rintro e v22 ⟨rfl, rfl⟩
    go_wp2_with fail
    with_reducible refine (num_any _ _).mono ?_
    rintro e v23 ⟨rfl, rfl⟩
    go_wp2_with fail
    with_reducible refine (num_any _ _).mono ?_
    rintro e v24 ⟨rfl, rfl⟩
    obtain ⟨cDy_0, cDy_1, cDy_2, cDy_3, cDy_4, cDy_5, cDy_6, cDy_7, cDy_8⟩ := Vbx.cells Dy
    go_wp2_with fail
    with_reducible refine (hy.Get (i := 0) (by omega) (k := 0) (by omega) (x := 4613937818241073152) (by decide)).mono ?_
    rintro e w25 ⟨rfl, hb⟩
    clear cDy_0 cDy_1 cDy_2 cDy_3 cDy_4 cDy_5 cDy_6 cDy_7 cDy_8
    replace hy := hy.on hb
    replace Dy := Dy.on hb
    replace hm := hm.on hb
    replace Dm := Dm.on hb
    replace bz := bz.trans (hb.mono bz.size)
    clear hb
    obtain ⟨cDy_0, cDy_1, cDy_2, cDy_3, cDy_4, cDy_5, cDy_6, cDy_7, cDy_8⟩ := Vbx.cells Dy
    go_wp2_with fail
    with_reducible refine (hy.Get (i := 1) (by omega) (k := 1) (by omega) (x := 4619567317775286272) (by decide)).mono ?_
    rintro e w26 ⟨rfl, hb⟩
    clear cDy_0 cDy_1 cDy_2 cDy_3 cDy_4 cDy_5 cDy_6 cDy_7 cDy_8
    replace hy := hy.on hb
    replace Dy := Dy.on hb
    replace hm := hm.on hb
    replace Dm := Dm.on hb
    replace bz := bz.trans (hb.mono bz.size)
    clear hb
    obtain ⟨cDm_0, cDm_1, cDm_2, cDm_3, cDm_4, cDm_5, cDm_6, cDm_7, cDm_8⟩ := Vbx.cells Dm
    go_wp2_with fail
    with_reducible refine (hm.Get (i := 0) (by omega) (k := 0) (by omega) (x := 4607182418800017408) (by decide)).mono ?_
    rintro e w27 ⟨rfl, hb⟩
    clear cDm_0 cDm_1 cDm_2 cDm_3 cDm_4 cDm_5 cDm_6 cDm_7 cDm_8
    replace hy := hy.on hb
    replace Dy := Dy.on hb
    replace hm := hm.on hb
    replace Dm := Dm.on hb
    replace bz := bz.trans (hb.mono bz.size)
    clear hb
    obtain ⟨cDm_0, cDm_1, cDm_2, cDm_3, cDm_4, cDm_5, cDm_6, cDm_7, cDm_8⟩ := Vbx.cells Dm
    go_wp2_with fail
    with_reducible refine (hm.Get (i := 1) (by omega) (k := 1) (by omega) (x := 4617315517961601024) (by decide)).mono ?_
    rintro e w28 ⟨rfl, hb⟩
    clear cDm_0 cDm_1 cDm_2 cDm_3 cDm_4 cDm_5 cDm_6 cDm_7 cDm_8
    replace hy := hy.on hb
    replace Dy := Dy.on hb
    replace hm := hm.on hb
    replace Dm := Dm.on hb
    replace bz := bz.trans (hb.mono bz.size)
    clear hb
    go_wp2_with fail
    with_reducible refine (num_any _ _).mono ?_
    rintro e v29 ⟨rfl, rfl⟩
    go_wp2_with fail
    with_reducible refine (num_any _ _).mono ?_
    rintro e v30 ⟨rfl, rfl⟩
    go_wp2_with fail
    with_reducible refine (num_any _ _).mono ?_
    rintro e v31 ⟨rfl, rfl⟩
    go_wp2_with fail
    go_ret
    exact ⟨rfl, bz⟩
end Go.Proofs.Ytfelmkkkaphkpaa
