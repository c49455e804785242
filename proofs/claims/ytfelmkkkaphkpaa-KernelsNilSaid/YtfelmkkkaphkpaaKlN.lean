/-
  Layer 8: the law KernelsNil. (Written by wip/tools/gen_kln.py.)
-/
import Derived.Test.YtfelmkkkaphkpaaKlA
import Derived.Test.YtfelmkkkaphkpaaKoN
import Derived.Test.YtfelmkkkaphkpaaRgT
namespace Go.Proofs.Ytfelmkkkaphkpaa
open Go.RowKit Go.Bw Go.Sort Go.Shelf
set_option linter.unusedVariables false
set_option linter.unusedSimpArgs false

section
variable {w : World} {B s g cap c : Nat} {V : Vu} {l FV : List Int} {R C : Int}
theorem n_asum : Calls Try.prog 19 #[Vu.zero.V] w (Ans w (.tuple #[.float .f64 0, .int .i64 1])) := Asum_no (Sv.zero w) (any_yes (k := 0) rfl rfl _) (by omega)
theorem n_amax : Calls Try.prog 20 #[Vu.zero.V] w (Ans w (.tuple #[.int .i64 0, .float .f64 0, .int .i64 1])) := Amax_no (Sv.zero w) (any_yes (k := 0) rfl rfl _) (by omega)
theorem n_dot (h : Ov w B V s g cap c l R C FV) : Calls Try.prog 18 #[V.V, Vu.zero.V] w (Ans w (.tuple #[.float .f64 0, .int .i64 1])) := Dot_no h.sv (Sv.zero w) (any_yes (k := 1) rfl rfl _) (by omega)
theorem n_scal : Calls Try.prog 31 #[.float .f64 4607182418800017408, Vu.zero.V] w (Ans w (.int .i64 1)) := Scal_no (Sv.zero w) (any_yes (k := 0) rfl rfl _) (by omega)
theorem n_axpy1 (h : Ov w B V s g cap c l R C FV) : Calls Try.prog 27 #[.float .f64 4607182418800017408, V.V, Vu.zero.V] w (Ans w (.int .i64 1)) := Axpy_no h.sv (Sv.zero w) (any_yes (k := 1) rfl rfl _) (by omega)
theorem n_axpy2 (h : Ov w B V s g cap c l R C FV) : Calls Try.prog 27 #[.float .f64 4607182418800017408, Vu.zero.V, V.V] w (Ans w (.int .i64 1)) := Axpy_no (Sv.zero w) h.sv (any_yes (k := 0) rfl rfl _) (by omega)
theorem n_swap : Calls Try.prog 33 #[Vu.zero.V, Vu.zero.V] w (Ans w (.int .i64 1)) := Swap_no (Sv.zero w) (Sv.zero w) (any_yes (k := 0) rfl rfl _) (by omega)
theorem n_gemv1 (h : Ov w B V s g cap c l R C FV) : Calls Try.prog 34 #[.float .f64 4607182418800017408, V.V, V.V, .float .f64 0, Vu.zero.V] w (Ans w (.int .i64 1)) := Gemv_no h.sv h.sv (Sv.zero w) (any_yes (k := 2) rfl rfl _) (by omega)
theorem n_gemv2 (h : Ov w B V s g cap c l R C FV) : Calls Try.prog 34 #[.float .f64 4607182418800017408, Vu.zero.V, V.V, .float .f64 0, V.V] w (Ans w (.int .i64 1)) := Gemv_no (Sv.zero w) h.sv h.sv (any_yes (k := 0) rfl rfl _) (by omega)
theorem n_symv (h : Ov w B V s g cap c l R C FV) : Calls Try.prog 36 #[.float .f64 4607182418800017408, V.V, Vu.zero.V, .float .f64 0, V.V] w (Ans w (.int .i64 1)) := Symv_no h.sv (Sv.zero w) h.sv (any_yes (k := 1) rfl rfl _) (by omega)
theorem n_ger (h : Ov w B V s g cap c l R C FV) : Calls Try.prog 39 #[.float .f64 4607182418800017408, Vu.zero.V, V.V, V.V] w (Ans w (.int .i64 1)) := Ger_no (Sv.zero w) h.sv h.sv (any_yes (k := 0) rfl rfl _) (by omega)
theorem n_syr2 (h : Ov w B V s g cap c l R C FV) : Calls Try.prog 41 #[.float .f64 4607182418800017408, V.V, V.V, Vu.zero.V] w (Ans w (.int .i64 1)) := Syr2_no h.sv h.sv (Sv.zero w) (any_yes (k := 2) rfl rfl _) (by omega)
theorem n_gemm (h : Ov w B V s g cap c l R C FV) : Calls Try.prog 43 #[.float .f64 4607182418800017408, V.V, Vu.zero.V, .float .f64 0, V.V] w (Ans w (.int .i64 1)) := Gemm_no h.sv (Sv.zero w) h.sv (any_yes (k := 1) rfl rfl _) (by omega)
theorem n_syr2k (h : Ov w B V s g cap c l R C FV) : Calls Try.prog 45 #[.float .f64 4607182418800017408, V.V, V.V, .float .f64 0, Vu.zero.V] w (Ans w (.int .i64 1)) := Syr2k_no h.sv h.sv (Sv.zero w) (any_yes (k := 2) rfl rfl _) (by omega)
theorem n_trmm (h : Ov w B V s g cap c l R C FV) : Calls Try.prog 47 #[.bool true, .bool true, Vu.zero.V, V.V] w (Ans w (.int .i64 1)) := Trmm_no (Sv.zero w) h.sv (any_yes (k := 0) rfl rfl _) (by omega)
theorem e_dot (h : Ov w B (Vu.all s 0 0) s g cap c l 0 0 FV) : Calls Try.prog 18 #[(Vu.all s 0 0).V, (Vu.all s 0 0).V] w (fun e w' => ∃ r, e = .returned (.tuple #[.float .f64 r, .int .i64 0]) ∧ af r = af 0 ∧ r ≤ 18446744073709551615 ∧ Below w.heap.size w w') := by
  have hl : FV.length = 0 := by have := h.FR; omega
  have := Dot_yes h.sv h.sv (refE_ok rfl (mem2 h.ne h.ne)) (Nat.le_refl _)
  rw [hl] at this
  refine this.mono ?_
  rintro e w1 ⟨r, h1, h2, h3, h4⟩
  exact ⟨r, h1, h2.trans af_zero.symm, h3, h4⟩
theorem e_amax (h : Ov w B (Vu.all s 0 0) s g cap c l 0 0 FV) : Calls Try.prog 20 #[(Vu.all s 0 0).V] w (fun e w' => ∃ P : Nat, e = .returned (.tuple #[.int .i64 (-1), .float .f64 P, .int .i64 0]) ∧ af P = af 0 ∧ P ≤ 18446744073709551615 ∧ Below w.heap.size w w') := by
  have hl : FV.length = 0 := by have := h.FR; omega
  have := Amax_yes h.sv (refE_ok rfl (mem1 h.ne))
  rw [hl] at this
  refine this.mono ?_
  rintro e w1 ⟨p, P, h1, h2, h3, h4⟩
  have h5 : (p, af P) = ((-1 : Int), af 0) := h2
  injection h5 with h6 h7
  subst h6
  exact ⟨P, h1, h7, h3, h4⟩
theorem e_gemm (h : Ov w B (Vu.all s 0 0) s g cap c l 0 0 FV) : Calls Try.prog 43 #[.float .f64 4607182418800017408, (Vu.all s 0 0).V, (Vu.all s 0 0).V, .float .f64 4607182418800017408, (Vu.all s 0 0).V] w (fun e w' => ∃ lx G, e = .returned (.int .i64 0) ∧ Ov w' B (Vu.all s 0 0) s g cap c lx 0 0 G ∧ w.grownBy w' (some g)) := by
  refine (Gemm_yes (m := 0) (q := 0) (p := 0) (by omega) (by omega) h.sv h.sv h.sv (refE_ok rfl (mem3 h.ne h.ne h.ne)) h.vk h.st rfl h.inj rfl rfl rfl).mono ?_
  rintro e w1 ⟨lx, rfl, hs, hg, hW⟩
  exact ⟨lx, _, rfl, h.wrote hs hW, hg⟩
theorem e_swap (h : Ov w B (Vu.all s 0 0) s g cap c l 0 0 FV) : Calls Try.prog 33 #[(Vu.all s 0 0).V, (Vu.all s 0 0).V] w (fun e w' => e = .returned (.int .i64 0) ∧ w.grownBy w' (some g)) := swap_self h (by unfold shB; simp)
end
set_option maxRecDepth 100000 in
set_option maxHeartbeats 8000000 in
theorem KernelsNil_law (w : World) : Calls Try.prog 14 #[] w (Ans w (.bool true)) := by
  have b0 : (0 : Nat) ≤ 18446744073709551615 := by omega
  go_enter Try.func14, Try.ntmps14
  have bz := Below.refl w.heap.size w
  have Dz := Blk.new w (Vu.zero).L 30
  obtain ⟨HDz, eHDz⟩ : ∃ H, w.heap.size = H := ⟨_, rfl⟩
  rw [eHDz] at Dz
  replace bz := bz.alloc bz.size (.cells (Vu.zero).L.toArray 30)
  have HHDz := Lib.hid eHDz
  have F1 : FL ((w.alloc (.cells (Vu.zero).L.toArray 30)).alloc (.cells #[.float .f64 4607182418800017408] 32)) (some ⟨(w.alloc (.cells (Vu.zero).L.toArray 30)).heap.size, 0, none⟩) 1 1 [4607182418800017408] := ⟨rfl, (own_new (w.alloc (.cells (Vu.zero).L.toArray 30)) [4607182418800017408] (by decide) (B := 0) (Nat.zero_le _)).nums, fun x hx => by simp at hx; omega⟩
  simp only [World.size_alloc, eHDz] at F1
  have hbA := (Below.refl _ (w.alloc (.cells (Vu.zero).L.toArray 30))).alloc (Nat.le_refl _) ((.cells #[.float .f64 4607182418800017408] 32))
  replace Dz := Dz.on hbA
  clear hbA
  replace bz := bz.alloc bz.size ((.cells #[.float .f64 4607182418800017408] 32))
  go_wp2_with fail
  with_reducible refine (vec_any F1 (by omega)).mono ?_
  rintro e w1 ⟨Vv, sv, gv, capv, cv, lv, rfl, hv, hb⟩
  replace Dz := Dz.on hb
  replace F1 := F1.on hb
  replace bz := bz.trans (hb.mono bz.size)
  clear hb F1
  have hzv := And.intro hv.st.lt hv.st.gt.2
  have Dv := Blk.new w1 (Vv).L 30
  obtain ⟨HDv, eHDv⟩ : ∃ H, w1.heap.size = H := ⟨_, rfl⟩
  rw [eHDv] at Dv
  have hbA := (Below.refl _ w1).alloc (Nat.le_refl _) (.cells (Vv).L.toArray 30)
  replace Dz := Dz.on hbA
  replace hv := hv.on hbA
  clear hbA
  replace bz := bz.alloc bz.size (.cells (Vv).L.toArray 30)
  have HHDv := Lib.hid eHDv
  have hz0 := bz.size
  simp only [World.size_alloc] at hz0
  go_wp2_with fail
  with_reducible refine (New_yes (R := 0) (C := 0) rfl _).mono ?_
  rintro e w2 ⟨sn, gn, capn, rfl, hn, hb⟩
  replace Dz := Dz.on hb
  replace hv := hv.on hb
  replace Dv := Dv.on hb
  replace bz := bz.trans (hb.mono bz.size)
  clear hb
  have hN := ov_all (R := 0) (C := 0) (F := []) hn (by omega) (by omega) (by omega) (by omega) rfl
  have hzn := And.intro hn.lo hn.gt.1
  simp only [World.size_alloc] at hzn
  have hz4 := And.intro hN.st.lt hN.st.gt.2
  have hzb := bz.size
  have hz1 := Dz.lt
  have hz2 := Dv.lt
  have hz3 := And.intro hv.st.lt hv.st.gt.2
  clear hn
  have Dn := Blk.new w2 ((Vu.all sn 0 0)).L 30
  obtain ⟨HDn, eHDn⟩ : ∃ H, w2.heap.size = H := ⟨_, rfl⟩
  rw [eHDn] at Dn
  have hbA := (Below.refl _ w2).alloc (Nat.le_refl _) (.cells ((Vu.all sn 0 0)).L.toArray 30)
  replace Dz := Dz.on hbA
  replace hv := hv.on hbA
  replace Dv := Dv.on hbA
  replace hN := hN.on hbA
  clear hbA
  replace bz := bz.alloc bz.size (.cells ((Vu.all sn 0 0)).L.toArray 30)
  have HHDn := Lib.hid eHDn
  obtain ⟨cDz_0, cDz_1, cDz_2, cDz_3, cDz_4, cDz_5, cDz_6, cDz_7, cDz_8⟩ := Vbx.cells Dz
  go_wp2_with fail
  with_reducible refine (n_asum).mono ?_
  rintro e w3 ⟨rfl, hb⟩
  clear cDz_0 cDz_1 cDz_2 cDz_3 cDz_4 cDz_5 cDz_6 cDz_7 cDz_8
  replace Dz := Dz.on hb
  replace hv := hv.on hb
  replace Dv := Dv.on hb
  replace hN := hN.on hb
  replace Dn := Dn.on hb
  replace bz := bz.trans (hb.mono bz.size)
  clear hb
  obtain ⟨cDz_0, cDz_1, cDz_2, cDz_3, cDz_4, cDz_5, cDz_6, cDz_7, cDz_8⟩ := Vbx.cells Dz
  go_wp2_with fail
  with_reducible refine (n_amax).mono ?_
  rintro e w4 ⟨rfl, hb⟩
  clear cDz_0 cDz_1 cDz_2 cDz_3 cDz_4 cDz_5 cDz_6 cDz_7 cDz_8
  replace Dz := Dz.on hb
  replace hv := hv.on hb
  replace Dv := Dv.on hb
  replace hN := hN.on hb
  replace Dn := Dn.on hb
  replace bz := bz.trans (hb.mono bz.size)
  clear hb
  obtain ⟨cDv_0, cDv_1, cDv_2, cDv_3, cDv_4, cDv_5, cDv_6, cDv_7, cDv_8⟩ := Vbx.cells Dv
  obtain ⟨cDz_0, cDz_1, cDz_2, cDz_3, cDz_4, cDz_5, cDz_6, cDz_7, cDz_8⟩ := Vbx.cells Dz
  go_wp2_with fail
  with_reducible refine (n_dot hv).mono ?_
  rintro e w5 ⟨rfl, hb⟩
  clear cDv_0 cDv_1 cDv_2 cDv_3 cDv_4 cDv_5 cDv_6 cDv_7 cDv_8 cDz_0 cDz_1 cDz_2 cDz_3 cDz_4 cDz_5 cDz_6 cDz_7 cDz_8
  replace Dz := Dz.on hb
  replace hv := hv.on hb
  replace Dv := Dv.on hb
  replace hN := hN.on hb
  replace Dn := Dn.on hb
  replace bz := bz.trans (hb.mono bz.size)
  clear hb
  obtain ⟨cDn_0, cDn_1, cDn_2, cDn_3, cDn_4, cDn_5, cDn_6, cDn_7, cDn_8⟩ := Vbx.cells Dn
  go_wp2_with fail
  with_reducible refine (e_dot hN).mono ?_
  rintro e w6 ⟨rd, rfl, hd, bd, hb⟩
  clear cDn_0 cDn_1 cDn_2 cDn_3 cDn_4 cDn_5 cDn_6 cDn_7 cDn_8
  replace Dz := Dz.on hb
  replace hv := hv.on hb
  replace Dv := Dv.on hb
  replace hN := hN.on hb
  replace Dn := Dn.on hb
  replace bz := bz.trans (hb.mono bz.size)
  clear hb
  obtain ⟨cDn_0, cDn_1, cDn_2, cDn_3, cDn_4, cDn_5, cDn_6, cDn_7, cDn_8⟩ := Vbx.cells Dn
  go_wp2_with fail
  with_reducible refine (e_amax hN).mono ?_
  rintro e w7 ⟨rm, rfl, hm, bm, hb⟩
  clear cDn_0 cDn_1 cDn_2 cDn_3 cDn_4 cDn_5 cDn_6 cDn_7 cDn_8
  replace Dz := Dz.on hb
  replace hv := hv.on hb
  replace Dv := Dv.on hb
  replace hN := hN.on hb
  replace Dn := Dn.on hb
  replace bz := bz.trans (hb.mono bz.size)
  clear hb
  go_wp2_with fail
  have HD := Lib.hid hd
  have HM := Lib.hid hm
  clear hd hm
  replace Dz := Dz.drew
  replace hv := hv.drew
  replace Dv := Dv.drew
  replace hN := hN.drew
  replace Dn := Dn.drew
  replace bz := bz.drew
  refine wp_region_held_drew (S := fun w9 : World => Vbx w9 HDz Vu.zero ∧ Vbx w9 HDv Vv ∧ Vbx w9 HDn (Vu.all sn 0 0)) (by kernel_rfl) ⟨Dz, Dv, Dn⟩ (fun hS => ?_)
  generalize w7.drew = wd9 at hS Dz hv Dv hN Dn  bz ⊢
  refine wpAnyH_tab [⟨56, 64, 0⟩, ⟨57, 512, 0⟩, ⟨58, 2048, 0⟩, ⟨59, 2, 0⟩, ⟨60, 288230376151711744, 8⟩, ⟨61, 4, 0⟩, ⟨62, 2, 0⟩, ⟨63, 3458764513820540928, 112⟩, ⟨64, 2, 0⟩, ⟨65, 4, 0⟩, ⟨66, 27670116110564327424, 896⟩, ⟨67, 2, 0⟩, ⟨68, 2, 0⟩, ⟨69, 221360928884514619392, 7168⟩, ⟨70, 4, 0⟩, ⟨71, 4, 0⟩, ⟨72, 2, 0⟩, ⟨73, 4132070672510939561984, 122880⟩, ⟨74, 2, 0⟩, ⟨75, 4, 0⟩, ⟨76, 4, 0⟩, ⟨77, 66113130760175032991744, 1966080⟩, ⟨78, 4, 0⟩, ⟨79, 2, 0⟩, ⟨80, 4, 0⟩, ⟨81, 1057810092162800527867904, 31457280⟩, ⟨82, 2, 0⟩, ⟨83, 4, 0⟩, ⟨84, 4, 0⟩, ⟨85, 16924961474604808445886464, 503316480⟩, ⟨86, 4, 0⟩, ⟨87, 4, 0⟩, ⟨88, 2, 0⟩, ⟨89, 270799383593676935134183424, 8053063680⟩, ⟨90, 4, 0⟩, ⟨91, 2, 0⟩, ⟨92, 4, 0⟩, ⟨93, 4332790137498830962146934784, 128849018880⟩, ⟨94, 4, 0⟩, ⟨95, 4, 0⟩, ⟨96, 2, 0⟩, ⟨97, 69324642199981295394350956544, 2061584302080⟩, ⟨98, 2, 0⟩, ⟨99, 4, 0⟩, ⟨100, 475368975085586025561263702016, 15393162788864⟩, ⟨101, 718335340151987303666790957056, 19937810850967⟩, ⟨18, 1267650600228229401496703205376, 70368744177663⟩] (by kernel_rfl) (fun hT => ?_)
  refine wpAnyH_take (i := 0) (oi := { dst := some 55, op := Go.Op.move (Go.Operand.tmp 6), type := 33, pos := "law.go:283", after := #[], guard := none }) (v := ?v0_1) (by kernel_rfl) (tab_ns hT) (tab_free 0 hT (by kernel_rfl) (by kernel_rfl)) (tab_rdy 0 hT (by kernel_rfl) (by kernel_rfl) (by kernel_rfl)) (fun _ _ _ h => h) (Or.inl ⟨by kernel_rfl, ?hy0_1⟩) (by assumption) ?rest0_1
  case hy0_1 => (intro w9 hSw; clear hSw; go_simp; try with_reducible rfl)
  try simp only [Act.put, List.setIfInBounds_toArray, List.set_cons_zero, List.set_cons_succ, List.getElem_toArray, List.getElem_cons_zero, List.getElem_cons_succ]
  refine wpAnyH_take (i := 1) (oi := { dst := some 56, op := Go.Op.move (Go.Operand.tmp 9), type := 33, pos := "law.go:283", after := #[], guard := none }) (v := ?v1_2) (by kernel_rfl) (tab_ns hT) (tab_free 1 hT (by kernel_rfl) (by kernel_rfl)) (tab_rdy 1 hT (by kernel_rfl) (by kernel_rfl) (by kernel_rfl)) (fun _ _ _ h => h) (Or.inl ⟨by kernel_rfl, ?hy1_2⟩) (by assumption) ?rest1_2
  case hy1_2 => (intro w9 hSw; clear hSw; go_simp; try with_reducible rfl)
  try simp only [Act.put, List.setIfInBounds_toArray, List.set_cons_zero, List.set_cons_succ, List.getElem_toArray, List.getElem_cons_zero, List.getElem_cons_succ]
  refine wpAnyH_take (i := 2) (oi := { dst := some 57, op := Go.Op.move (Go.Operand.tmp 11), type := 33, pos := "law.go:283", after := #[], guard := none }) (v := ?v2_3) (by kernel_rfl) (tab_ns hT) (tab_free 3 hT (by kernel_rfl) (by kernel_rfl)) (tab_rdy 3 hT (by kernel_rfl) (by kernel_rfl) (by kernel_rfl)) (fun _ _ _ h => h) (Or.inl ⟨by kernel_rfl, ?hy2_3⟩) (by assumption) ?rest2_3
  case hy2_3 => (intro w9 hSw; clear hSw; go_simp; try with_reducible rfl)
  try simp only [Act.put, List.setIfInBounds_toArray, List.set_cons_zero, List.set_cons_succ, List.getElem_toArray, List.getElem_cons_zero, List.getElem_cons_succ]
  refine wpAnyH_take (i := 3) (oi := { dst := some 58, op := Go.Op.load 30 (Go.Operand.tmp 1), type := 30, pos := "law.go:283", after := #[], guard := none }) (v := ?v3_4) (by kernel_rfl) (tab_ns hT) (tab_free 7 hT (by kernel_rfl) (by kernel_rfl)) (tab_rdy 7 hT (by kernel_rfl) (by kernel_rfl) (by kernel_rfl)) (fun _ _ _ h => h) (Or.inl ⟨by kernel_rfl, ?hy3_4⟩) (by assumption) ?rest3_4
  case hy3_4 => (intro w9 hSw; obtain ⟨m0, m1, m2⟩ := hSw; refine (ld_v (by rfl) (by kernel_rfl) m0).trans ?_; with_reducible rfl)
  try simp only [Act.put, List.setIfInBounds_toArray, List.set_cons_zero, List.set_cons_succ, List.getElem_toArray, List.getElem_cons_zero, List.getElem_cons_succ]
  refine wpAnyH_take (i := 5) (oi := { dst := some 60, op := Go.Op.load 30 (Go.Operand.tmp 2), type := 30, pos := "law.go:283", after := #[], guard := none }) (v := ?v5_5) (by kernel_rfl) (tab_ns hT) (tab_free 15 hT (by kernel_rfl) (by kernel_rfl)) (tab_rdy 15 hT (by kernel_rfl) (by kernel_rfl) (by kernel_rfl)) (fun _ _ _ h => h) (Or.inl ⟨by kernel_rfl, ?hy5_5⟩) (by assumption) ?rest5_5
  case hy5_5 => (intro w9 hSw; obtain ⟨m0, m1, m2⟩ := hSw; refine (ld_v (by rfl) (by kernel_rfl) m1).trans ?_; with_reducible rfl)
  try simp only [Act.put, List.setIfInBounds_toArray, List.set_cons_zero, List.set_cons_succ, List.getElem_toArray, List.getElem_cons_zero, List.getElem_cons_succ]
  refine wpAnyH_take (i := 6) (oi := { dst := some 61, op := Go.Op.load 30 (Go.Operand.tmp 1), type := 30, pos := "law.go:283", after := #[], guard := none }) (v := ?v6_6) (by kernel_rfl) (tab_ns hT) (tab_free 47 hT (by kernel_rfl) (by kernel_rfl)) (tab_rdy 47 hT (by kernel_rfl) (by kernel_rfl) (by kernel_rfl)) (fun _ _ _ h => h) (Or.inl ⟨by kernel_rfl, ?hy6_6⟩) (by assumption) ?rest6_6
  case hy6_6 => (intro w9 hSw; obtain ⟨m0, m1, m2⟩ := hSw; refine (ld_v (by rfl) (by kernel_rfl) m0).trans ?_; with_reducible rfl)
  try simp only [Act.put, List.setIfInBounds_toArray, List.set_cons_zero, List.set_cons_succ, List.getElem_toArray, List.getElem_cons_zero, List.getElem_cons_succ]
  refine wpAnyH_take (i := 8) (oi := { dst := some 63, op := Go.Op.load 30 (Go.Operand.tmp 1), type := 30, pos := "law.go:283", after := #[], guard := none }) (v := ?v8_7) (by kernel_rfl) (tab_ns hT) (tab_free 111 hT (by kernel_rfl) (by kernel_rfl)) (tab_rdy 111 hT (by kernel_rfl) (by kernel_rfl) (by kernel_rfl)) (fun _ _ _ h => h) (Or.inl ⟨by kernel_rfl, ?hy8_7⟩) (by assumption) ?rest8_7
  case hy8_7 => (intro w9 hSw; obtain ⟨m0, m1, m2⟩ := hSw; refine (ld_v (by rfl) (by kernel_rfl) m0).trans ?_; with_reducible rfl)
  try simp only [Act.put, List.setIfInBounds_toArray, List.set_cons_zero, List.set_cons_succ, List.getElem_toArray, List.getElem_cons_zero, List.getElem_cons_succ]
  refine wpAnyH_take (i := 9) (oi := { dst := some 64, op := Go.Op.load 30 (Go.Operand.tmp 2), type := 30, pos := "law.go:283", after := #[], guard := none }) (v := ?v9_8) (by kernel_rfl) (tab_ns hT) (tab_free 367 hT (by kernel_rfl) (by kernel_rfl)) (tab_rdy 367 hT (by kernel_rfl) (by kernel_rfl) (by kernel_rfl)) (fun _ _ _ h => h) (Or.inl ⟨by kernel_rfl, ?hy9_8⟩) (by assumption) ?rest9_8
  case hy9_8 => (intro w9 hSw; obtain ⟨m0, m1, m2⟩ := hSw; refine (ld_v (by rfl) (by kernel_rfl) m1).trans ?_; with_reducible rfl)
  try simp only [Act.put, List.setIfInBounds_toArray, List.set_cons_zero, List.set_cons_succ, List.getElem_toArray, List.getElem_cons_zero, List.getElem_cons_succ]
  refine wpAnyH_take (i := 11) (oi := { dst := some 66, op := Go.Op.load 30 (Go.Operand.tmp 1), type := 30, pos := "law.go:283", after := #[], guard := none }) (v := ?v11_9) (by kernel_rfl) (tab_ns hT) (tab_free 879 hT (by kernel_rfl) (by kernel_rfl)) (tab_rdy 879 hT (by kernel_rfl) (by kernel_rfl) (by kernel_rfl)) (fun _ _ _ h => h) (Or.inl ⟨by kernel_rfl, ?hy11_9⟩) (by assumption) ?rest11_9
  case hy11_9 => (intro w9 hSw; obtain ⟨m0, m1, m2⟩ := hSw; refine (ld_v (by rfl) (by kernel_rfl) m0).trans ?_; with_reducible rfl)
  try simp only [Act.put, List.setIfInBounds_toArray, List.set_cons_zero, List.set_cons_succ, List.getElem_toArray, List.getElem_cons_zero, List.getElem_cons_succ]
  refine wpAnyH_take (i := 12) (oi := { dst := some 67, op := Go.Op.load 30 (Go.Operand.tmp 1), type := 30, pos := "law.go:283", after := #[], guard := none }) (v := ?v12_10) (by kernel_rfl) (tab_ns hT) (tab_free 2927 hT (by kernel_rfl) (by kernel_rfl)) (tab_rdy 2927 hT (by kernel_rfl) (by kernel_rfl) (by kernel_rfl)) (fun _ _ _ h => h) (Or.inl ⟨by kernel_rfl, ?hy12_10⟩) (by assumption) ?rest12_10
  case hy12_10 => (intro w9 hSw; obtain ⟨m0, m1, m2⟩ := hSw; refine (ld_v (by rfl) (by kernel_rfl) m0).trans ?_; with_reducible rfl)
  try simp only [Act.put, List.setIfInBounds_toArray, List.set_cons_zero, List.set_cons_succ, List.getElem_toArray, List.getElem_cons_zero, List.getElem_cons_succ]
  refine wpAnyH_take (i := 14) (oi := { dst := some 69, op := Go.Op.load 30 (Go.Operand.tmp 2), type := 30, pos := "law.go:283", after := #[], guard := none }) (v := ?v14_11) (by kernel_rfl) (tab_ns hT) (tab_free 7023 hT (by kernel_rfl) (by kernel_rfl)) (tab_rdy 7023 hT (by kernel_rfl) (by kernel_rfl) (by kernel_rfl)) (fun _ _ _ h => h) (Or.inl ⟨by kernel_rfl, ?hy14_11⟩) (by assumption) ?rest14_11
  case hy14_11 => (intro w9 hSw; obtain ⟨m0, m1, m2⟩ := hSw; refine (ld_v (by rfl) (by kernel_rfl) m1).trans ?_; with_reducible rfl)
  try simp only [Act.put, List.setIfInBounds_toArray, List.set_cons_zero, List.set_cons_succ, List.getElem_toArray, List.getElem_cons_zero, List.getElem_cons_succ]
  refine wpAnyH_take (i := 15) (oi := { dst := some 70, op := Go.Op.load 30 (Go.Operand.tmp 2), type := 30, pos := "law.go:283", after := #[], guard := none }) (v := ?v15_12) (by kernel_rfl) (tab_ns hT) (tab_free 23407 hT (by kernel_rfl) (by kernel_rfl)) (tab_rdy 23407 hT (by kernel_rfl) (by kernel_rfl) (by kernel_rfl)) (fun _ _ _ h => h) (Or.inl ⟨by kernel_rfl, ?hy15_12⟩) (by assumption) ?rest15_12
  case hy15_12 => (intro w9 hSw; obtain ⟨m0, m1, m2⟩ := hSw; refine (ld_v (by rfl) (by kernel_rfl) m1).trans ?_; with_reducible rfl)
  try simp only [Act.put, List.setIfInBounds_toArray, List.set_cons_zero, List.set_cons_succ, List.getElem_toArray, List.getElem_cons_zero, List.getElem_cons_succ]
  refine wpAnyH_take (i := 16) (oi := { dst := some 71, op := Go.Op.load 30 (Go.Operand.tmp 1), type := 30, pos := "law.go:283", after := #[], guard := none }) (v := ?v16_13) (by kernel_rfl) (tab_ns hT) (tab_free 56175 hT (by kernel_rfl) (by kernel_rfl)) (tab_rdy 56175 hT (by kernel_rfl) (by kernel_rfl) (by kernel_rfl)) (fun _ _ _ h => h) (Or.inl ⟨by kernel_rfl, ?hy16_13⟩) (by assumption) ?rest16_13
  case hy16_13 => (intro w9 hSw; obtain ⟨m0, m1, m2⟩ := hSw; refine (ld_v (by rfl) (by kernel_rfl) m0).trans ?_; with_reducible rfl)
  try simp only [Act.put, List.setIfInBounds_toArray, List.set_cons_zero, List.set_cons_succ, List.getElem_toArray, List.getElem_cons_zero, List.getElem_cons_succ]
  refine wpAnyH_take (i := 18) (oi := { dst := some 73, op := Go.Op.load 30 (Go.Operand.tmp 1), type := 30, pos := "law.go:283", after := #[], guard := none }) (v := ?v18_14) (by kernel_rfl) (tab_ns hT) (tab_free 121711 hT (by kernel_rfl) (by kernel_rfl)) (tab_rdy 121711 hT (by kernel_rfl) (by kernel_rfl) (by kernel_rfl)) (fun _ _ _ h => h) (Or.inl ⟨by kernel_rfl, ?hy18_14⟩) (by assumption) ?rest18_14
  case hy18_14 => (intro w9 hSw; obtain ⟨m0, m1, m2⟩ := hSw; refine (ld_v (by rfl) (by kernel_rfl) m0).trans ?_; with_reducible rfl)
  try simp only [Act.put, List.setIfInBounds_toArray, List.set_cons_zero, List.set_cons_succ, List.getElem_toArray, List.getElem_cons_zero, List.getElem_cons_succ]
  refine wpAnyH_take (i := 19) (oi := { dst := some 74, op := Go.Op.load 30 (Go.Operand.tmp 2), type := 30, pos := "law.go:283", after := #[], guard := none }) (v := ?v19_15) (by kernel_rfl) (tab_ns hT) (tab_free 383855 hT (by kernel_rfl) (by kernel_rfl)) (tab_rdy 383855 hT (by kernel_rfl) (by kernel_rfl) (by kernel_rfl)) (fun _ _ _ h => h) (Or.inl ⟨by kernel_rfl, ?hy19_15⟩) (by assumption) ?rest19_15
  case hy19_15 => (intro w9 hSw; obtain ⟨m0, m1, m2⟩ := hSw; refine (ld_v (by rfl) (by kernel_rfl) m1).trans ?_; with_reducible rfl)
  try simp only [Act.put, List.setIfInBounds_toArray, List.set_cons_zero, List.set_cons_succ, List.getElem_toArray, List.getElem_cons_zero, List.getElem_cons_succ]
  refine wpAnyH_take (i := 20) (oi := { dst := some 75, op := Go.Op.load 30 (Go.Operand.tmp 2), type := 30, pos := "law.go:283", after := #[], guard := none }) (v := ?v20_16) (by kernel_rfl) (tab_ns hT) (tab_free 908143 hT (by kernel_rfl) (by kernel_rfl)) (tab_rdy 908143 hT (by kernel_rfl) (by kernel_rfl) (by kernel_rfl)) (fun _ _ _ h => h) (Or.inl ⟨by kernel_rfl, ?hy20_16⟩) (by assumption) ?rest20_16
  case hy20_16 => (intro w9 hSw; obtain ⟨m0, m1, m2⟩ := hSw; refine (ld_v (by rfl) (by kernel_rfl) m1).trans ?_; with_reducible rfl)
  try simp only [Act.put, List.setIfInBounds_toArray, List.set_cons_zero, List.set_cons_succ, List.getElem_toArray, List.getElem_cons_zero, List.getElem_cons_succ]
  refine wpAnyH_take (i := 22) (oi := { dst := some 77, op := Go.Op.load 30 (Go.Operand.tmp 2), type := 30, pos := "law.go:283", after := #[], guard := none }) (v := ?v22_17) (by kernel_rfl) (tab_ns hT) (tab_free 1956719 hT (by kernel_rfl) (by kernel_rfl)) (tab_rdy 1956719 hT (by kernel_rfl) (by kernel_rfl) (by kernel_rfl)) (fun _ _ _ h => h) (Or.inl ⟨by kernel_rfl, ?hy22_17⟩) (by assumption) ?rest22_17
  case hy22_17 => (intro w9 hSw; obtain ⟨m0, m1, m2⟩ := hSw; refine (ld_v (by rfl) (by kernel_rfl) m1).trans ?_; with_reducible rfl)
  try simp only [Act.put, List.setIfInBounds_toArray, List.set_cons_zero, List.set_cons_succ, List.getElem_toArray, List.getElem_cons_zero, List.getElem_cons_succ]
  refine wpAnyH_take (i := 23) (oi := { dst := some 78, op := Go.Op.load 30 (Go.Operand.tmp 1), type := 30, pos := "law.go:283", after := #[], guard := none }) (v := ?v23_18) (by kernel_rfl) (tab_ns hT) (tab_free 6151023 hT (by kernel_rfl) (by kernel_rfl)) (tab_rdy 6151023 hT (by kernel_rfl) (by kernel_rfl) (by kernel_rfl)) (fun _ _ _ h => h) (Or.inl ⟨by kernel_rfl, ?hy23_18⟩) (by assumption) ?rest23_18
  case hy23_18 => (intro w9 hSw; obtain ⟨m0, m1, m2⟩ := hSw; refine (ld_v (by rfl) (by kernel_rfl) m0).trans ?_; with_reducible rfl)
  try simp only [Act.put, List.setIfInBounds_toArray, List.set_cons_zero, List.set_cons_succ, List.getElem_toArray, List.getElem_cons_zero, List.getElem_cons_succ]
  refine wpAnyH_take (i := 24) (oi := { dst := some 79, op := Go.Op.load 30 (Go.Operand.tmp 2), type := 30, pos := "law.go:283", after := #[], guard := none }) (v := ?v24_19) (by kernel_rfl) (tab_ns hT) (tab_free 14539631 hT (by kernel_rfl) (by kernel_rfl)) (tab_rdy 14539631 hT (by kernel_rfl) (by kernel_rfl) (by kernel_rfl)) (fun _ _ _ h => h) (Or.inl ⟨by kernel_rfl, ?hy24_19⟩) (by assumption) ?rest24_19
  case hy24_19 => (intro w9 hSw; obtain ⟨m0, m1, m2⟩ := hSw; refine (ld_v (by rfl) (by kernel_rfl) m1).trans ?_; with_reducible rfl)
  try simp only [Act.put, List.setIfInBounds_toArray, List.set_cons_zero, List.set_cons_succ, List.getElem_toArray, List.getElem_cons_zero, List.getElem_cons_succ]
  refine wpAnyH_take (i := 26) (oi := { dst := some 81, op := Go.Op.load 30 (Go.Operand.tmp 1), type := 30, pos := "law.go:283", after := #[], guard := none }) (v := ?v26_20) (by kernel_rfl) (tab_ns hT) (tab_free 31316847 hT (by kernel_rfl) (by kernel_rfl)) (tab_rdy 31316847 hT (by kernel_rfl) (by kernel_rfl) (by kernel_rfl)) (fun _ _ _ h => h) (Or.inl ⟨by kernel_rfl, ?hy26_20⟩) (by assumption) ?rest26_20
  case hy26_20 => (intro w9 hSw; obtain ⟨m0, m1, m2⟩ := hSw; refine (ld_v (by rfl) (by kernel_rfl) m0).trans ?_; with_reducible rfl)
  try simp only [Act.put, List.setIfInBounds_toArray, List.set_cons_zero, List.set_cons_succ, List.getElem_toArray, List.getElem_cons_zero, List.getElem_cons_succ]
  refine wpAnyH_take (i := 27) (oi := { dst := some 82, op := Go.Op.load 30 (Go.Operand.tmp 2), type := 30, pos := "law.go:283", after := #[], guard := none }) (v := ?v27_21) (by kernel_rfl) (tab_ns hT) (tab_free 98425711 hT (by kernel_rfl) (by kernel_rfl)) (tab_rdy 98425711 hT (by kernel_rfl) (by kernel_rfl) (by kernel_rfl)) (fun _ _ _ h => h) (Or.inl ⟨by kernel_rfl, ?hy27_21⟩) (by assumption) ?rest27_21
  case hy27_21 => (intro w9 hSw; obtain ⟨m0, m1, m2⟩ := hSw; refine (ld_v (by rfl) (by kernel_rfl) m1).trans ?_; with_reducible rfl)
  try simp only [Act.put, List.setIfInBounds_toArray, List.set_cons_zero, List.set_cons_succ, List.getElem_toArray, List.getElem_cons_zero, List.getElem_cons_succ]
  refine wpAnyH_take (i := 28) (oi := { dst := some 83, op := Go.Op.load 30 (Go.Operand.tmp 2), type := 30, pos := "law.go:283", after := #[], guard := none }) (v := ?v28_22) (by kernel_rfl) (tab_ns hT) (tab_free 232643439 hT (by kernel_rfl) (by kernel_rfl)) (tab_rdy 232643439 hT (by kernel_rfl) (by kernel_rfl) (by kernel_rfl)) (fun _ _ _ h => h) (Or.inl ⟨by kernel_rfl, ?hy28_22⟩) (by assumption) ?rest28_22
  case hy28_22 => (intro w9 hSw; obtain ⟨m0, m1, m2⟩ := hSw; refine (ld_v (by rfl) (by kernel_rfl) m1).trans ?_; with_reducible rfl)
  try simp only [Act.put, List.setIfInBounds_toArray, List.set_cons_zero, List.set_cons_succ, List.getElem_toArray, List.getElem_cons_zero, List.getElem_cons_succ]
  refine wpAnyH_take (i := 30) (oi := { dst := some 85, op := Go.Op.load 30 (Go.Operand.tmp 2), type := 30, pos := "law.go:283", after := #[], guard := none }) (v := ?v30_23) (by kernel_rfl) (tab_ns hT) (tab_free 501078895 hT (by kernel_rfl) (by kernel_rfl)) (tab_rdy 501078895 hT (by kernel_rfl) (by kernel_rfl) (by kernel_rfl)) (fun _ _ _ h => h) (Or.inl ⟨by kernel_rfl, ?hy30_23⟩) (by assumption) ?rest30_23
  case hy30_23 => (intro w9 hSw; obtain ⟨m0, m1, m2⟩ := hSw; refine (ld_v (by rfl) (by kernel_rfl) m1).trans ?_; with_reducible rfl)
  try simp only [Act.put, List.setIfInBounds_toArray, List.set_cons_zero, List.set_cons_succ, List.getElem_toArray, List.getElem_cons_zero, List.getElem_cons_succ]
  refine wpAnyH_take (i := 31) (oi := { dst := some 86, op := Go.Op.load 30 (Go.Operand.tmp 2), type := 30, pos := "law.go:283", after := #[], guard := none }) (v := ?v31_24) (by kernel_rfl) (tab_ns hT) (tab_free 1574820719 hT (by kernel_rfl) (by kernel_rfl)) (tab_rdy 1574820719 hT (by kernel_rfl) (by kernel_rfl) (by kernel_rfl)) (fun _ _ _ h => h) (Or.inl ⟨by kernel_rfl, ?hy31_24⟩) (by assumption) ?rest31_24
  case hy31_24 => (intro w9 hSw; obtain ⟨m0, m1, m2⟩ := hSw; refine (ld_v (by rfl) (by kernel_rfl) m1).trans ?_; with_reducible rfl)
  try simp only [Act.put, List.setIfInBounds_toArray, List.set_cons_zero, List.set_cons_succ, List.getElem_toArray, List.getElem_cons_zero, List.getElem_cons_succ]
  refine wpAnyH_take (i := 32) (oi := { dst := some 87, op := Go.Op.load 30 (Go.Operand.tmp 1), type := 30, pos := "law.go:283", after := #[], guard := none }) (v := ?v32_25) (by kernel_rfl) (tab_ns hT) (tab_free 3722304367 hT (by kernel_rfl) (by kernel_rfl)) (tab_rdy 3722304367 hT (by kernel_rfl) (by kernel_rfl) (by kernel_rfl)) (fun _ _ _ h => h) (Or.inl ⟨by kernel_rfl, ?hy32_25⟩) (by assumption) ?rest32_25
  case hy32_25 => (intro w9 hSw; obtain ⟨m0, m1, m2⟩ := hSw; refine (ld_v (by rfl) (by kernel_rfl) m0).trans ?_; with_reducible rfl)
  try simp only [Act.put, List.setIfInBounds_toArray, List.set_cons_zero, List.set_cons_succ, List.getElem_toArray, List.getElem_cons_zero, List.getElem_cons_succ]
  refine wpAnyH_take (i := 34) (oi := { dst := some 89, op := Go.Op.load 30 (Go.Operand.tmp 2), type := 30, pos := "law.go:283", after := #[], guard := none }) (v := ?v34_26) (by kernel_rfl) (tab_ns hT) (tab_free 8017271663 hT (by kernel_rfl) (by kernel_rfl)) (tab_rdy 8017271663 hT (by kernel_rfl) (by kernel_rfl) (by kernel_rfl)) (fun _ _ _ h => h) (Or.inl ⟨by kernel_rfl, ?hy34_26⟩) (by assumption) ?rest34_26
  case hy34_26 => (intro w9 hSw; obtain ⟨m0, m1, m2⟩ := hSw; refine (ld_v (by rfl) (by kernel_rfl) m1).trans ?_; with_reducible rfl)
  try simp only [Act.put, List.setIfInBounds_toArray, List.set_cons_zero, List.set_cons_succ, List.getElem_toArray, List.getElem_cons_zero, List.getElem_cons_succ]
  refine wpAnyH_take (i := 35) (oi := { dst := some 90, op := Go.Op.load 30 (Go.Operand.tmp 1), type := 30, pos := "law.go:283", after := #[], guard := none }) (v := ?v35_27) (by kernel_rfl) (tab_ns hT) (tab_free 25197140847 hT (by kernel_rfl) (by kernel_rfl)) (tab_rdy 25197140847 hT (by kernel_rfl) (by kernel_rfl) (by kernel_rfl)) (fun _ _ _ h => h) (Or.inl ⟨by kernel_rfl, ?hy35_27⟩) (by assumption) ?rest35_27
  case hy35_27 => (intro w9 hSw; obtain ⟨m0, m1, m2⟩ := hSw; refine (ld_v (by rfl) (by kernel_rfl) m0).trans ?_; with_reducible rfl)
  try simp only [Act.put, List.setIfInBounds_toArray, List.set_cons_zero, List.set_cons_succ, List.getElem_toArray, List.getElem_cons_zero, List.getElem_cons_succ]
  refine wpAnyH_take (i := 36) (oi := { dst := some 91, op := Go.Op.load 30 (Go.Operand.tmp 2), type := 30, pos := "law.go:283", after := #[], guard := none }) (v := ?v36_28) (by kernel_rfl) (tab_ns hT) (tab_free 59556879215 hT (by kernel_rfl) (by kernel_rfl)) (tab_rdy 59556879215 hT (by kernel_rfl) (by kernel_rfl) (by kernel_rfl)) (fun _ _ _ h => h) (Or.inl ⟨by kernel_rfl, ?hy36_28⟩) (by assumption) ?rest36_28
  case hy36_28 => (intro w9 hSw; obtain ⟨m0, m1, m2⟩ := hSw; refine (ld_v (by rfl) (by kernel_rfl) m1).trans ?_; with_reducible rfl)
  try simp only [Act.put, List.setIfInBounds_toArray, List.set_cons_zero, List.set_cons_succ, List.getElem_toArray, List.getElem_cons_zero, List.getElem_cons_succ]
  refine wpAnyH_take (i := 38) (oi := { dst := some 93, op := Go.Op.load 30 (Go.Operand.tmp 2), type := 30, pos := "law.go:283", after := #[], guard := none }) (v := ?v38_29) (by kernel_rfl) (tab_ns hT) (tab_free 128276355951 hT (by kernel_rfl) (by kernel_rfl)) (tab_rdy 128276355951 hT (by kernel_rfl) (by kernel_rfl) (by kernel_rfl)) (fun _ _ _ h => h) (Or.inl ⟨by kernel_rfl, ?hy38_29⟩) (by assumption) ?rest38_29
  case hy38_29 => (intro w9 hSw; obtain ⟨m0, m1, m2⟩ := hSw; refine (ld_v (by rfl) (by kernel_rfl) m1).trans ?_; with_reducible rfl)
  try simp only [Act.put, List.setIfInBounds_toArray, List.set_cons_zero, List.set_cons_succ, List.getElem_toArray, List.getElem_cons_zero, List.getElem_cons_succ]
  refine wpAnyH_take (i := 39) (oi := { dst := some 94, op := Go.Op.load 30 (Go.Operand.tmp 2), type := 30, pos := "law.go:283", after := #[], guard := none }) (v := ?v39_30) (by kernel_rfl) (tab_ns hT) (tab_free 403154262895 hT (by kernel_rfl) (by kernel_rfl)) (tab_rdy 403154262895 hT (by kernel_rfl) (by kernel_rfl) (by kernel_rfl)) (fun _ _ _ h => h) (Or.inl ⟨by kernel_rfl, ?hy39_30⟩) (by assumption) ?rest39_30
  case hy39_30 => (intro w9 hSw; obtain ⟨m0, m1, m2⟩ := hSw; refine (ld_v (by rfl) (by kernel_rfl) m1).trans ?_; with_reducible rfl)
  try simp only [Act.put, List.setIfInBounds_toArray, List.set_cons_zero, List.set_cons_succ, List.getElem_toArray, List.getElem_cons_zero, List.getElem_cons_succ]
  refine wpAnyH_take (i := 40) (oi := { dst := some 95, op := Go.Op.load 30 (Go.Operand.tmp 1), type := 30, pos := "law.go:283", after := #[], guard := none }) (v := ?v40_31) (by kernel_rfl) (tab_ns hT) (tab_free 952910076783 hT (by kernel_rfl) (by kernel_rfl)) (tab_rdy 952910076783 hT (by kernel_rfl) (by kernel_rfl) (by kernel_rfl)) (fun _ _ _ h => h) (Or.inl ⟨by kernel_rfl, ?hy40_31⟩) (by assumption) ?rest40_31
  case hy40_31 => (intro w9 hSw; obtain ⟨m0, m1, m2⟩ := hSw; refine (ld_v (by rfl) (by kernel_rfl) m0).trans ?_; with_reducible rfl)
  try simp only [Act.put, List.setIfInBounds_toArray, List.set_cons_zero, List.set_cons_succ, List.getElem_toArray, List.getElem_cons_zero, List.getElem_cons_succ]
  refine wpAnyH_take (i := 42) (oi := { dst := some 97, op := Go.Op.load 30 (Go.Operand.tmp 1), type := 30, pos := "law.go:283", after := #[], guard := none }) (v := ?v42_32) (by kernel_rfl) (tab_ns hT) (tab_free 2052421704559 hT (by kernel_rfl) (by kernel_rfl)) (tab_rdy 2052421704559 hT (by kernel_rfl) (by kernel_rfl) (by kernel_rfl)) (fun _ _ _ h => h) (Or.inl ⟨by kernel_rfl, ?hy42_32⟩) (by assumption) ?rest42_32
  case hy42_32 => (intro w9 hSw; obtain ⟨m0, m1, m2⟩ := hSw; refine (ld_v (by rfl) (by kernel_rfl) m0).trans ?_; with_reducible rfl)
  try simp only [Act.put, List.setIfInBounds_toArray, List.set_cons_zero, List.set_cons_succ, List.getElem_toArray, List.getElem_cons_zero, List.getElem_cons_succ]
  refine wpAnyH_take (i := 43) (oi := { dst := some 98, op := Go.Op.load 30 (Go.Operand.tmp 2), type := 30, pos := "law.go:283", after := #[], guard := none }) (v := ?v43_33) (by kernel_rfl) (tab_ns hT) (tab_free 6450468215663 hT (by kernel_rfl) (by kernel_rfl)) (tab_rdy 6450468215663 hT (by kernel_rfl) (by kernel_rfl) (by kernel_rfl)) (fun _ _ _ h => h) (Or.inl ⟨by kernel_rfl, ?hy43_33⟩) (by assumption) ?rest43_33
  case hy43_33 => (intro w9 hSw; obtain ⟨m0, m1, m2⟩ := hSw; refine (ld_v (by rfl) (by kernel_rfl) m1).trans ?_; with_reducible rfl)
  try simp only [Act.put, List.setIfInBounds_toArray, List.set_cons_zero, List.set_cons_succ, List.getElem_toArray, List.getElem_cons_zero, List.getElem_cons_succ]
  refine wpAnyH_ready (rs := [4]) (tab_ready 15246561237871 hT (by kernel_rfl) (by kernel_rfl) (by kernel_rfl)) (by simp) ?_
  refine AllReadyH.con1 (o := { dst := some 59, op := Go.Op.call { callee := Go.Callee.value (Go.Operand.func 31), args := #[Go.Operand.const (Go.Value.float Go.FloatKind.f64 4607182418800017408), Go.Operand.tmp 58], argTypes := #[32, 30] }, type := 33, pos := "law.go:283", after := #[{ on := 3, ground := Go.Ground.data }], guard := none }) (by kernel_rfl) (by kernel_rfl) (fun K hK => ?_) AllReadyH.nil
  go_simp
  with_reducible refine (n_scal).mono ?_
  rintro e w8 ⟨rfl, hb⟩
  replace Dz := Dz.on hb
  replace hv := hv.on hb
  replace Dv := Dv.on hb
  replace hN := hN.on hb
  replace Dn := Dn.on hb
  replace bz := bz.trans (hb.mono bz.size)
  clear hb
  clear hS; refine hK.out _ _ ⟨Dz, Dv, Dn⟩ (fun hS => ?_); clear hK K
  try simp only [Act.put, List.setIfInBounds_toArray, List.set_cons_zero, List.set_cons_succ, List.getElem_toArray, List.getElem_cons_zero, List.getElem_cons_succ]
  refine wpAnyH_ready (rs := [7]) (tab_ready 15246561237887 hT (by kernel_rfl) (by kernel_rfl) (by kernel_rfl)) (by simp) ?_
  refine AllReadyH.con1 (o := { dst := some 62, op := Go.Op.call { callee := Go.Callee.value (Go.Operand.func 27), args := #[Go.Operand.const (Go.Value.float Go.FloatKind.f64 4607182418800017408), Go.Operand.tmp 60, Go.Operand.tmp 61], argTypes := #[32, 30, 30] }, type := 33, pos := "law.go:283", after := #[{ on := 5, ground := Go.Ground.data }, { on := 6, ground := Go.Ground.data }, { on := 4, ground := Go.Ground.chain }], guard := none }) (by kernel_rfl) (by kernel_rfl) (fun K hK => ?_) AllReadyH.nil
  go_simp
  with_reducible refine (n_axpy1 hv).mono ?_
  rintro e w9 ⟨rfl, hb⟩
  replace Dz := Dz.on hb
  replace hv := hv.on hb
  replace Dv := Dv.on hb
  replace hN := hN.on hb
  replace Dn := Dn.on hb
  replace bz := bz.trans (hb.mono bz.size)
  clear hb
  clear hS; refine hK.out _ _ ⟨Dz, Dv, Dn⟩ (fun hS => ?_); clear hK K
  try simp only [Act.put, List.setIfInBounds_toArray, List.set_cons_zero, List.set_cons_succ, List.getElem_toArray, List.getElem_cons_zero, List.getElem_cons_succ]
  refine wpAnyH_ready (rs := [10]) (tab_ready 15246561238015 hT (by kernel_rfl) (by kernel_rfl) (by kernel_rfl)) (by simp) ?_
  refine AllReadyH.con1 (o := { dst := some 65, op := Go.Op.call { callee := Go.Callee.value (Go.Operand.func 27), args := #[Go.Operand.const (Go.Value.float Go.FloatKind.f64 4607182418800017408), Go.Operand.tmp 63, Go.Operand.tmp 64], argTypes := #[32, 30, 30] }, type := 33, pos := "law.go:283", after := #[{ on := 8, ground := Go.Ground.data }, { on := 9, ground := Go.Ground.data }, { on := 7, ground := Go.Ground.chain }], guard := none }) (by kernel_rfl) (by kernel_rfl) (fun K hK => ?_) AllReadyH.nil
  go_simp
  with_reducible refine (n_axpy2 hv).mono ?_
  rintro e w10 ⟨rfl, hb⟩
  replace Dz := Dz.on hb
  replace hv := hv.on hb
  replace Dv := Dv.on hb
  replace hN := hN.on hb
  replace Dn := Dn.on hb
  replace bz := bz.trans (hb.mono bz.size)
  clear hb
  clear hS; refine hK.out _ _ ⟨Dz, Dv, Dn⟩ (fun hS => ?_); clear hK K
  try simp only [Act.put, List.setIfInBounds_toArray, List.set_cons_zero, List.set_cons_succ, List.getElem_toArray, List.getElem_cons_zero, List.getElem_cons_succ]
  refine wpAnyH_ready (rs := [13]) (tab_ready 15246561239039 hT (by kernel_rfl) (by kernel_rfl) (by kernel_rfl)) (by simp) ?_
  refine AllReadyH.con1 (o := { dst := some 68, op := Go.Op.call { callee := Go.Callee.value (Go.Operand.func 33), args := #[Go.Operand.tmp 66, Go.Operand.tmp 67], argTypes := #[30, 30] }, type := 33, pos := "law.go:283", after := #[{ on := 11, ground := Go.Ground.data }, { on := 12, ground := Go.Ground.data }, { on := 10, ground := Go.Ground.chain }], guard := none }) (by kernel_rfl) (by kernel_rfl) (fun K hK => ?_) AllReadyH.nil
  go_simp
  with_reducible refine (n_swap).mono ?_
  rintro e w11 ⟨rfl, hb⟩
  replace Dz := Dz.on hb
  replace hv := hv.on hb
  replace Dv := Dv.on hb
  replace hN := hN.on hb
  replace Dn := Dn.on hb
  replace bz := bz.trans (hb.mono bz.size)
  clear hb
  clear hS; refine hK.out _ _ ⟨Dz, Dv, Dn⟩ (fun hS => ?_); clear hK K
  try simp only [Act.put, List.setIfInBounds_toArray, List.set_cons_zero, List.set_cons_succ, List.getElem_toArray, List.getElem_cons_zero, List.getElem_cons_succ]
  refine wpAnyH_ready (rs := [17]) (tab_ready 15246561247231 hT (by kernel_rfl) (by kernel_rfl) (by kernel_rfl)) (by simp) ?_
  refine AllReadyH.con1 (o := { dst := some 72, op := Go.Op.call { callee := Go.Callee.value (Go.Operand.func 34), args := #[Go.Operand.const (Go.Value.float Go.FloatKind.f64 4607182418800017408), Go.Operand.tmp 69, Go.Operand.tmp 70, Go.Operand.const (Go.Value.float Go.FloatKind.f64 0), Go.Operand.tmp 71], argTypes := #[32, 30, 30, 32, 30] }, type := 33, pos := "law.go:283", after := #[{ on := 14, ground := Go.Ground.data }, { on := 15, ground := Go.Ground.data }, { on := 16, ground := Go.Ground.data }, { on := 13, ground := Go.Ground.chain }], guard := none }) (by kernel_rfl) (by kernel_rfl) (fun K hK => ?_) AllReadyH.nil
  go_simp
  with_reducible refine (n_gemv1 hv).mono ?_
  rintro e w12 ⟨rfl, hb⟩
  replace Dz := Dz.on hb
  replace hv := hv.on hb
  replace Dv := Dv.on hb
  replace hN := hN.on hb
  replace Dn := Dn.on hb
  replace bz := bz.trans (hb.mono bz.size)
  clear hb
  clear hS; refine hK.out _ _ ⟨Dz, Dv, Dn⟩ (fun hS => ?_); clear hK K
  try simp only [Act.put, List.setIfInBounds_toArray, List.set_cons_zero, List.set_cons_succ, List.getElem_toArray, List.getElem_cons_zero, List.getElem_cons_succ]
  refine wpAnyH_ready (rs := [21]) (tab_ready 15246561378303 hT (by kernel_rfl) (by kernel_rfl) (by kernel_rfl)) (by simp) ?_
  refine AllReadyH.con1 (o := { dst := some 76, op := Go.Op.call { callee := Go.Callee.value (Go.Operand.func 34), args := #[Go.Operand.const (Go.Value.float Go.FloatKind.f64 4607182418800017408), Go.Operand.tmp 73, Go.Operand.tmp 74, Go.Operand.const (Go.Value.float Go.FloatKind.f64 0), Go.Operand.tmp 75], argTypes := #[32, 30, 30, 32, 30] }, type := 33, pos := "law.go:283", after := #[{ on := 18, ground := Go.Ground.data }, { on := 19, ground := Go.Ground.data }, { on := 20, ground := Go.Ground.data }, { on := 17, ground := Go.Ground.chain }], guard := none }) (by kernel_rfl) (by kernel_rfl) (fun K hK => ?_) AllReadyH.nil
  go_simp
  with_reducible refine (n_gemv2 hv).mono ?_
  rintro e w13 ⟨rfl, hb⟩
  replace Dz := Dz.on hb
  replace hv := hv.on hb
  replace Dv := Dv.on hb
  replace hN := hN.on hb
  replace Dn := Dn.on hb
  replace bz := bz.trans (hb.mono bz.size)
  clear hb
  clear hS; refine hK.out _ _ ⟨Dz, Dv, Dn⟩ (fun hS => ?_); clear hK K
  try simp only [Act.put, List.setIfInBounds_toArray, List.set_cons_zero, List.set_cons_succ, List.getElem_toArray, List.getElem_cons_zero, List.getElem_cons_succ]
  refine wpAnyH_ready (rs := [25]) (tab_ready 15246563475455 hT (by kernel_rfl) (by kernel_rfl) (by kernel_rfl)) (by simp) ?_
  refine AllReadyH.con1 (o := { dst := some 80, op := Go.Op.call { callee := Go.Callee.value (Go.Operand.func 36), args := #[Go.Operand.const (Go.Value.float Go.FloatKind.f64 4607182418800017408), Go.Operand.tmp 77, Go.Operand.tmp 78, Go.Operand.const (Go.Value.float Go.FloatKind.f64 0), Go.Operand.tmp 79], argTypes := #[32, 30, 30, 32, 30] }, type := 33, pos := "law.go:283", after := #[{ on := 22, ground := Go.Ground.data }, { on := 23, ground := Go.Ground.data }, { on := 24, ground := Go.Ground.data }, { on := 21, ground := Go.Ground.chain }], guard := none }) (by kernel_rfl) (by kernel_rfl) (fun K hK => ?_) AllReadyH.nil
  go_simp
  with_reducible refine (n_symv hv).mono ?_
  rintro e w14 ⟨rfl, hb⟩
  replace Dz := Dz.on hb
  replace hv := hv.on hb
  replace Dv := Dv.on hb
  replace hN := hN.on hb
  replace Dn := Dn.on hb
  replace bz := bz.trans (hb.mono bz.size)
  clear hb
  clear hS; refine hK.out _ _ ⟨Dz, Dv, Dn⟩ (fun hS => ?_); clear hK K
  try simp only [Act.put, List.setIfInBounds_toArray, List.set_cons_zero, List.set_cons_succ, List.getElem_toArray, List.getElem_cons_zero, List.getElem_cons_succ]
  refine wpAnyH_ready (rs := [29]) (tab_ready 15246597029887 hT (by kernel_rfl) (by kernel_rfl) (by kernel_rfl)) (by simp) ?_
  refine AllReadyH.con1 (o := { dst := some 84, op := Go.Op.call { callee := Go.Callee.value (Go.Operand.func 39), args := #[Go.Operand.const (Go.Value.float Go.FloatKind.f64 4607182418800017408), Go.Operand.tmp 81, Go.Operand.tmp 82, Go.Operand.tmp 83], argTypes := #[32, 30, 30, 30] }, type := 33, pos := "law.go:283", after := #[{ on := 26, ground := Go.Ground.data }, { on := 27, ground := Go.Ground.data }, { on := 28, ground := Go.Ground.data }, { on := 25, ground := Go.Ground.chain }], guard := none }) (by kernel_rfl) (by kernel_rfl) (fun K hK => ?_) AllReadyH.nil
  go_simp
  with_reducible refine (n_ger hv).mono ?_
  rintro e w15 ⟨rfl, hb⟩
  replace Dz := Dz.on hb
  replace hv := hv.on hb
  replace Dv := Dv.on hb
  replace hN := hN.on hb
  replace Dn := Dn.on hb
  replace bz := bz.trans (hb.mono bz.size)
  clear hb
  clear hS; refine hK.out _ _ ⟨Dz, Dv, Dn⟩ (fun hS => ?_); clear hK K
  try simp only [Act.put, List.setIfInBounds_toArray, List.set_cons_zero, List.set_cons_succ, List.getElem_toArray, List.getElem_cons_zero, List.getElem_cons_succ]
  refine wpAnyH_ready (rs := [33]) (tab_ready 15247133900799 hT (by kernel_rfl) (by kernel_rfl) (by kernel_rfl)) (by simp) ?_
  refine AllReadyH.con1 (o := { dst := some 88, op := Go.Op.call { callee := Go.Callee.value (Go.Operand.func 41), args := #[Go.Operand.const (Go.Value.float Go.FloatKind.f64 4607182418800017408), Go.Operand.tmp 85, Go.Operand.tmp 86, Go.Operand.tmp 87], argTypes := #[32, 30, 30, 30] }, type := 33, pos := "law.go:283", after := #[{ on := 30, ground := Go.Ground.data }, { on := 31, ground := Go.Ground.data }, { on := 32, ground := Go.Ground.data }, { on := 29, ground := Go.Ground.chain }], guard := none }) (by kernel_rfl) (by kernel_rfl) (fun K hK => ?_) AllReadyH.nil
  go_simp
  with_reducible refine (n_syr2 hv).mono ?_
  rintro e w16 ⟨rfl, hb⟩
  replace Dz := Dz.on hb
  replace hv := hv.on hb
  replace Dv := Dv.on hb
  replace hN := hN.on hb
  replace Dn := Dn.on hb
  replace bz := bz.trans (hb.mono bz.size)
  clear hb
  clear hS; refine hK.out _ _ ⟨Dz, Dv, Dn⟩ (fun hS => ?_); clear hK K
  try simp only [Act.put, List.setIfInBounds_toArray, List.set_cons_zero, List.set_cons_succ, List.getElem_toArray, List.getElem_cons_zero, List.getElem_cons_succ]
  refine wpAnyH_ready (rs := [37]) (tab_ready 15255723835391 hT (by kernel_rfl) (by kernel_rfl) (by kernel_rfl)) (by simp) ?_
  refine AllReadyH.con1 (o := { dst := some 92, op := Go.Op.call { callee := Go.Callee.value (Go.Operand.func 43), args := #[Go.Operand.const (Go.Value.float Go.FloatKind.f64 4607182418800017408), Go.Operand.tmp 89, Go.Operand.tmp 90, Go.Operand.const (Go.Value.float Go.FloatKind.f64 0), Go.Operand.tmp 91], argTypes := #[32, 30, 30, 32, 30] }, type := 33, pos := "law.go:283", after := #[{ on := 34, ground := Go.Ground.data }, { on := 35, ground := Go.Ground.data }, { on := 36, ground := Go.Ground.data }, { on := 33, ground := Go.Ground.chain }], guard := none }) (by kernel_rfl) (by kernel_rfl) (fun K hK => ?_) AllReadyH.nil
  go_simp
  with_reducible refine (n_gemm hv).mono ?_
  rintro e w17 ⟨rfl, hb⟩
  replace Dz := Dz.on hb
  replace hv := hv.on hb
  replace Dv := Dv.on hb
  replace hN := hN.on hb
  replace Dn := Dn.on hb
  replace bz := bz.trans (hb.mono bz.size)
  clear hb
  clear hS; refine hK.out _ _ ⟨Dz, Dv, Dn⟩ (fun hS => ?_); clear hK K
  try simp only [Act.put, List.setIfInBounds_toArray, List.set_cons_zero, List.set_cons_succ, List.getElem_toArray, List.getElem_cons_zero, List.getElem_cons_succ]
  refine wpAnyH_ready (rs := [41]) (tab_ready 15393162788863 hT (by kernel_rfl) (by kernel_rfl) (by kernel_rfl)) (by simp) ?_
  refine AllReadyH.con1 (o := { dst := some 96, op := Go.Op.call { callee := Go.Callee.value (Go.Operand.func 45), args := #[Go.Operand.const (Go.Value.float Go.FloatKind.f64 4607182418800017408), Go.Operand.tmp 93, Go.Operand.tmp 94, Go.Operand.const (Go.Value.float Go.FloatKind.f64 0), Go.Operand.tmp 95], argTypes := #[32, 30, 30, 32, 30] }, type := 33, pos := "law.go:283", after := #[{ on := 38, ground := Go.Ground.data }, { on := 39, ground := Go.Ground.data }, { on := 40, ground := Go.Ground.data }, { on := 37, ground := Go.Ground.chain }], guard := none }) (by kernel_rfl) (by kernel_rfl) (fun K hK => ?_) AllReadyH.nil
  go_simp
  with_reducible refine (n_syr2k hv).mono ?_
  rintro e w18 ⟨rfl, hb⟩
  replace Dz := Dz.on hb
  replace hv := hv.on hb
  replace Dv := Dv.on hb
  replace hN := hN.on hb
  replace Dn := Dn.on hb
  replace bz := bz.trans (hb.mono bz.size)
  clear hb
  clear hS; refine hK.out _ _ ⟨Dz, Dv, Dn⟩ (fun hS => ?_); clear hK K
  try simp only [Act.put, List.setIfInBounds_toArray, List.set_cons_zero, List.set_cons_succ, List.getElem_toArray, List.getElem_cons_zero, List.getElem_cons_succ]
  refine wpAnyH_ready (rs := [44]) (tab_ready 17592186044415 hT (by kernel_rfl) (by kernel_rfl) (by kernel_rfl)) (by simp) ?_
  refine AllReadyH.con1 (o := { dst := some 99, op := Go.Op.call { callee := Go.Callee.value (Go.Operand.func 47), args := #[Go.Operand.const (Go.Value.bool true), Go.Operand.const (Go.Value.bool true), Go.Operand.tmp 97, Go.Operand.tmp 98], argTypes := #[4, 4, 30, 30] }, type := 33, pos := "law.go:283", after := #[{ on := 42, ground := Go.Ground.data }, { on := 43, ground := Go.Ground.data }, { on := 41, ground := Go.Ground.chain }], guard := none }) (by kernel_rfl) (by kernel_rfl) (fun K hK => ?_) AllReadyH.nil
  go_simp
  with_reducible refine (n_trmm hv).mono ?_
  rintro e w19 ⟨rfl, hb⟩
  replace Dz := Dz.on hb
  replace hv := hv.on hb
  replace Dv := Dv.on hb
  replace hN := hN.on hb
  replace Dn := Dn.on hb
  replace bz := bz.trans (hb.mono bz.size)
  clear hb
  clear hS; refine hK.out _ _ ⟨Dz, Dv, Dn⟩ (fun hS => ?_); clear hK K
  try simp only [Act.put, List.setIfInBounds_toArray, List.set_cons_zero, List.set_cons_succ, List.getElem_toArray, List.getElem_cons_zero, List.getElem_cons_succ]
  refine wpAnyH_ready (rs := [45]) (tab_ready 35184372088831 hT (by kernel_rfl) (by kernel_rfl) (by kernel_rfl)) (by simp) ?_
  refine AllReadyH.con1 (o := { dst := some 100, op := Go.Op.buildSlice 75 15 #[(0, Go.Operand.tmp 55), (1, Go.Operand.tmp 56), (2, Go.Operand.tmp 57), (3, Go.Operand.tmp 59), (4, Go.Operand.tmp 62), (5, Go.Operand.tmp 65), (6, Go.Operand.tmp 68), (7, Go.Operand.tmp 72), (8, Go.Operand.tmp 76), (9, Go.Operand.tmp 80), (10, Go.Operand.tmp 84), (11, Go.Operand.tmp 88), (12, Go.Operand.tmp 92), (13, Go.Operand.tmp 96), (14, Go.Operand.tmp 99)], type := 75, pos := "law.go:283", after := #[{ on := 0, ground := Go.Ground.data }, { on := 1, ground := Go.Ground.data }, { on := 2, ground := Go.Ground.data }, { on := 4, ground := Go.Ground.data }, { on := 7, ground := Go.Ground.data }, { on := 10, ground := Go.Ground.data }, { on := 13, ground := Go.Ground.data }, { on := 17, ground := Go.Ground.data }, { on := 21, ground := Go.Ground.data }, { on := 25, ground := Go.Ground.data }, { on := 29, ground := Go.Ground.data }, { on := 33, ground := Go.Ground.data }, { on := 37, ground := Go.Ground.data }, { on := 41, ground := Go.Ground.data }, { on := 44, ground := Go.Ground.data }], guard := none }) (by kernel_rfl) (by kernel_rfl) (fun K hK => ?_) AllReadyH.nil
  go_simp
  have DL : Blk (w19.alloc (.cells #[.int .i64 1, .int .i64 1, .int .i64 1, .int .i64 1, .int .i64 1, .int .i64 1, .int .i64 1, .int .i64 1, .int .i64 1, .int .i64 1, .int .i64 1, .int .i64 1, .int .i64 1, .int .i64 1, .int .i64 1] 33)) w19.heap.size (List.replicate 15 (.int .i64 1)) := Blk.new w19 (List.replicate 15 (.int .i64 1)) 33
  have hbA := (Below.refl _ w19).alloc (Nat.le_refl _) ((.cells #[.int .i64 1, .int .i64 1, .int .i64 1, .int .i64 1, .int .i64 1, .int .i64 1, .int .i64 1, .int .i64 1, .int .i64 1, .int .i64 1, .int .i64 1, .int .i64 1, .int .i64 1, .int .i64 1, .int .i64 1] 33))
  replace Dz := Dz.on hbA
  replace hv := hv.on hbA
  replace Dv := Dv.on hbA
  replace hN := hN.on hbA
  replace Dn := Dn.on hbA
  clear hbA
  replace bz := bz.alloc bz.size ((.cells #[.int .i64 1, .int .i64 1, .int .i64 1, .int .i64 1, .int .i64 1, .int .i64 1, .int .i64 1, .int .i64 1, .int .i64 1, .int .i64 1, .int .i64 1, .int .i64 1, .int .i64 1, .int .i64 1, .int .i64 1] 33))
  obtain ⟨HL, hHL⟩ : ∃ H, w19.heap.size = H := ⟨_, rfl⟩
  rw [hHL] at DL ⊢
  clear hHL
  clear hS; refine hK.out _ _ ⟨Dz, Dv, Dn⟩ (fun hS => ?_); clear hK K
  try simp only [Act.put, List.setIfInBounds_toArray, List.set_cons_zero, List.set_cons_succ, List.getElem_toArray, List.getElem_cons_zero, List.getElem_cons_succ]
  refine wpAnyH_take (i := 46) (oi := { dst := some 17, op := Go.Op.assign (Go.Operand.tmp 100), type := 75, pos := "law.go:283", after := #[{ on := 45, ground := Go.Ground.data }, { on := 44, ground := Go.Ground.chain }, { on := 0, ground := Go.Ground.phase }, { on := 1, ground := Go.Ground.phase }, { on := 2, ground := Go.Ground.phase }, { on := 3, ground := Go.Ground.phase }, { on := 4, ground := Go.Ground.phase }, { on := 5, ground := Go.Ground.phase }, { on := 6, ground := Go.Ground.phase }, { on := 7, ground := Go.Ground.phase }, { on := 8, ground := Go.Ground.phase }, { on := 9, ground := Go.Ground.phase }, { on := 10, ground := Go.Ground.phase }, { on := 11, ground := Go.Ground.phase }, { on := 12, ground := Go.Ground.phase }, { on := 13, ground := Go.Ground.phase }, { on := 14, ground := Go.Ground.phase }, { on := 15, ground := Go.Ground.phase }, { on := 16, ground := Go.Ground.phase }, { on := 17, ground := Go.Ground.phase }, { on := 18, ground := Go.Ground.phase }, { on := 19, ground := Go.Ground.phase }, { on := 20, ground := Go.Ground.phase }, { on := 21, ground := Go.Ground.phase }, { on := 22, ground := Go.Ground.phase }, { on := 23, ground := Go.Ground.phase }, { on := 24, ground := Go.Ground.phase }, { on := 25, ground := Go.Ground.phase }, { on := 26, ground := Go.Ground.phase }, { on := 27, ground := Go.Ground.phase }, { on := 28, ground := Go.Ground.phase }, { on := 29, ground := Go.Ground.phase }, { on := 30, ground := Go.Ground.phase }, { on := 31, ground := Go.Ground.phase }, { on := 32, ground := Go.Ground.phase }, { on := 33, ground := Go.Ground.phase }, { on := 34, ground := Go.Ground.phase }, { on := 35, ground := Go.Ground.phase }, { on := 36, ground := Go.Ground.phase }, { on := 37, ground := Go.Ground.phase }, { on := 38, ground := Go.Ground.phase }, { on := 39, ground := Go.Ground.phase }, { on := 40, ground := Go.Ground.phase }, { on := 41, ground := Go.Ground.phase }, { on := 42, ground := Go.Ground.phase }, { on := 43, ground := Go.Ground.phase }, { on := 44, ground := Go.Ground.phase }, { on := 45, ground := Go.Ground.phase }], guard := none }) (v := ?v46_34) (by kernel_rfl) (tab_ns hT) (tab_free 70368744177663 hT (by kernel_rfl) (by kernel_rfl)) (tab_rdy 70368744177663 hT (by kernel_rfl) (by kernel_rfl) (by kernel_rfl)) (fun _ _ _ h => h) (Or.inl ⟨by kernel_rfl, ?hy46_34⟩) (by assumption) ?rest46_34
  case hy46_34 => (intro w9 hSw; clear hSw; go_simp; try with_reducible rfl)
  try simp only [Act.put, List.setIfInBounds_toArray, List.set_cons_zero, List.set_cons_succ, List.getElem_toArray, List.getElem_cons_zero, List.getElem_cons_succ]
  refine wpAnyH_done (tab_ready 140737488355327 hT (by kernel_rfl) (by kernel_rfl) (by kernel_rfl)) ?_ _
  generalize (w19.alloc (.cells #[.int .i64 1, .int .i64 1, .int .i64 1, .int .i64 1, .int .i64 1, .int .i64 1, .int .i64 1, .int .i64 1, .int .i64 1, .int .i64 1, .int .i64 1, .int .i64 1, .int .i64 1, .int .i64 1, .int .i64 1] 33)) = WL at Dz hv Dv hN Dn DL bz ⊢
  go_wp2_with fail
  go_loopw [18] (fun i wr => ∃ k : Nat, k ≤ 15 ∧ i = .int .i64 k ∧ wr = WL) (fun i _ => 15 - (intOf i).toNat)
  case atStart => exact ⟨0, by omega, rfl, rfl⟩
  case round =>
    obtain ⟨k, hk, rfl, rfl⟩ := hrel
    by_cases hlt : k < 15
    · have k0 : (0 : Int) ≤ k := by omega
      have k1 : (k : Int) < 15 := by omega
      have ck := Blk.cell DL k (v := .int .i64 1) (by rw [List.getElem?_replicate, if_pos hlt])
      go_wp2_with fail
      with_reducible refine (num_any _ _).mono ?_
      rintro e v1 ⟨rfl, rfl⟩
      go_wp2_with fail
      go_roundw
      case rel => exact ⟨k + 1, by omega, by go_num, by simp⟩
      case measure => simp [intOf]; omega
    · obtain rfl : k = 15 := by omega
      clear DL
      go_wp2_with fail
      with_reducible refine (num_any _ _).mono ?_
      rintro e v120 ⟨rfl, rfl⟩
      go_wp2_with fail
      with_reducible refine (num_any _ _).mono ?_
      rintro e v121 ⟨rfl, rfl⟩
      go_wp2_with fail
      with_reducible refine (float_true bd b0 HD.out _).mono ?_
      rintro e v122 ⟨rfl, rfl⟩
      go_wp2_with fail
      with_reducible refine (float_true bm b0 HM.out _).mono ?_
      rintro e v123 ⟨rfl, rfl⟩
      obtain ⟨cDn_0, cDn_1, cDn_2, cDn_3, cDn_4, cDn_5, cDn_6, cDn_7, cDn_8⟩ := Vbx.cells Dn
      go_wp2_with fail
      with_reducible refine (e_gemm hN).mono ?_
      rintro e w80 ⟨lx, G, rfl, hN2, hg⟩
      clear cDn_0 cDn_1 cDn_2 cDn_3 cDn_4 cDn_5 cDn_6 cDn_7 cDn_8
      replace Dn := Dn.grown hg (by simp; omega)
      replace bz := bz.grown hg bz.size (fun k e => by cases e; omega)
      clear hN hg
      go_wp2_with fail
      with_reducible refine (num_any _ _).mono ?_
      rintro e v124 ⟨rfl, rfl⟩
      obtain ⟨cDn_0, cDn_1, cDn_2, cDn_3, cDn_4, cDn_5, cDn_6, cDn_7, cDn_8⟩ := Vbx.cells Dn
      go_wp2_with fail
      with_reducible refine (e_swap hN2).mono ?_
      rintro e w81 ⟨rfl, hg⟩
      clear cDn_0 cDn_1 cDn_2 cDn_3 cDn_4 cDn_5 cDn_6 cDn_7 cDn_8
      replace bz := bz.grown hg bz.size (fun k e => by cases e; omega)
      clear hg Dn Dz Dv hv hN2
      go_wp2_with fail
      with_reducible refine (num_any _ _).mono ?_
      rintro e v125 ⟨rfl, rfl⟩
      go_wp2_with fail
      with_reducible refine (known_any _).mono ?_
      rintro e w26 ⟨rfl, hb⟩
      replace bz := bz.trans (hb.mono bz.size)
      clear hb
      go_wp2_with fail
      go_ret
      exact ⟨rfl, bz⟩
end Go.Proofs.Ytfelmkkkaphkpaa
