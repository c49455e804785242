/-
  Layer 7: the law ViewNil. (Written by wip/tools/gen_vya.py.)
-/
import Derived.Test.YtceoefgjjekgaaaVxY
import Derived.Test.YtceoefgjjekgaaaRgT
import Derived.Test.YtceoefgjjekgaaaRgV
namespace Go.Proofs.Ytceoefgjjekgaaa
open Go.RowKit Go.Bw Go.Sort Go.Shelf
set_option linter.unusedVariables false
set_option linter.unusedSimpArgs false

section
variable {w : World} {B s g cap : Nat}
theorem z_bd : Bd Vu.zero 1 := (zero_vk 0 0 0 (K := 1) (by omega)).bd
theorem n_vk (s : Nat) : Vk (Vu.all s 0 0) s 0 0 1 := all_vk s (R := 0) (C := 0) (by omega) (by omega) (by omega) (by omega) (n := 0) (by omega)
theorem z_T (W : World) : Calls Try.prog 46 #[Vu.zero.V] W (Ans W Vu.zero.V) := T_any Vu.zero W
theorem z_D (W : World) : Calls Try.prog 51 #[Vu.zero.V] W (Ans W Vu.zero.V) := Diag_any z_bd W
theorem z_P (W : World) : Calls Try.prog 49 #[Vu.zero.V, .int .i64 0, .int .i64 0, .int .i64 0, .int .i64 0] W (Ans W Vu.zero.V) := Part_any z_bd (by omega) (by omega) W
theorem z_C (W : World) : Calls Try.prog 41 #[Vu.zero.V] W (Ans W Vu.zero.V) := Copy_none rfl rfl W
theorem z_F (W : World) : Calls Try.prog 17 #[Vu.zero.V, .float .f64 4607182418800017408] W (Ans W (.int .i64 1)) := Fill_none rfl _ W
theorem z_once (W : World) : Calls Try.prog 37 #[Vu.zero.V, Ru.zero.V, .int .i64 0] W (Ans W (.bool true)) :=
  once_true (B := 0) (s := 0) (g := 0) (cap := 0) (c := 0) (n := 0) (l := []) (A := none) (cd := 0) (B2 := 0) (zero_vk 0 0 0 (K := 1) (by omega)) (fun h => absurd rfl h) (Rk.zero_ _ _ _ _ _) ⟨OwnF.nil _ _, rfl, fun x hx => by cases hx⟩ 0
theorem z_R (W : World) : Calls Try.prog 21 #[Vu.zero.V] W (Ans W (.int .i64 0)) := Rows_any Vu.zero W
theorem z_Cl (W : World) : Calls Try.prog 22 #[Vu.zero.V] W (Ans W (.int .i64 0)) := Cols_any Vu.zero W
theorem z_L (W : World) : Calls Try.prog 31 #[Vu.zero.V] W (Ans W (.int .i64 0)) := Len_any z_bd W
theorem z_V (W : World) : Calls Try.prog 29 #[Vu.zero.V] W (Ans W (.bool false)) := Vector_any Vu.zero W
theorem z_At (W : World) : Calls Try.prog 25 #[Vu.zero.V, .int .i64 0, .int .i64 0] W (Ans W (.float .f64 0)) := At_out (Vu.has_zero 0 0) W
theorem z_Get (h : St w B s g cap 3 F6) : Calls Try.prog 35 #[Vu.zero.V, .int .i64 0] w (Ans w (.float .f64 0)) := Get_any h (zero_vk s 3 6 (K := 1) (by omega)) 0
theorem z_Put (h : St w B s g cap 3 F6) : Calls Try.prog 40 #[Vu.zero.V, .int .i64 0, .float .f64 4607182418800017408] w (Wrote w B s g cap 3 1 F6) := Put_any h (zero_vk s 3 6 (K := 1) (by omega)) 0 (x := 4607182418800017408) (by omega) (by omega)
theorem z_Tk (W : World) (u : Vu) : Calls Try.prog 44 #[Vu.zero.V, u.V] W (Ans W (.int .i64 1)) := Take_none (.inl rfl) W
theorem x_Tk (W : World) (u : Vu) : Calls Try.prog 44 #[u.V, Vu.zero.V] W (Ans W (.int .i64 1)) := Take_none (.inr rfl) W
theorem z_Sh (h : St w B s g cap 3 F6) : Calls Try.prog 42 #[Vu.zero.V, (vA s).V] w (Ans w (.bool false)) := by
  have := Shares_any (w := w) (B := 0) (s := 0) (g := 0) (cap := 0) (c := 0) (n := 0) (l := []) (zero_vk 0 0 0 (K := 1) (by omega)) (fun h => absurd rfl h) (vk_A s).bd (fun a e => by cases e) h.pS
  exact this
theorem z_M (W : World) : Calls Try.prog 19 #[Vu.zero.V] W (MatA W 0 0 []) := Matrix_none rfl W
theorem n_V (W : World) (s : Nat) : Calls Try.prog 29 #[(Vu.all s 0 0).V] W (Ans W (.bool true)) := Vector_any (Vu.all s 0 0) W
theorem r_V (W : World) (s : Nat) : Calls Try.prog 29 #[(Vu.all s 1 0).V] W (Ans W (.bool true)) := Vector_any (Vu.all s 1 0) W
theorem t_V (W : World) (s : Nat) : Calls Try.prog 29 #[(Vu.all s 3 0).V] W (Ans W (.bool false)) := Vector_any (Vu.all s 3 0) W
theorem n_L (W : World) (s : Nat) : Calls Try.prog 31 #[(Vu.all s 0 0).V] W (Ans W (.int .i64 0)) := Len_any (n_vk s).bd W
theorem n_S (h : St w B s g cap 0 []) : Calls Try.prog 15 #[(Vu.all s 0 0).V, (Vu.all s 0 0).V] w (Ans w (.bool true)) := by
  have := Same_any (w := w) (n_vk s) (fun _ => ⟨h, rfl⟩) (n_vk s) (fun _ => ⟨h, rfl⟩)
  rwa [selfV] at this
theorem n_Sz (h : St w B s g cap 0 []) : Calls Try.prog 15 #[(Vu.all s 0 0).V, Vu.zero.V] w (Ans w (.bool false)) := by
  have := Same_any (w := w) (B2 := 0) (s2 := 0) (g2 := 0) (cap2 := 0) (c2 := 0) (l2 := []) (n2 := 0) (n_vk s) (fun _ => ⟨h, rfl⟩) (zero_vk 0 0 0 (K := 1) (by omega)) (fun h => absurd rfl h)
  exact this
theorem new_at (a b : Int) (h : szB a b = true) (W : World) : Calls Try.prog 23 #[.int .i64 a, .int .i64 b] W (NewV W a b (List.replicate (a * b).toNat 0)) := New_yes h W
theorem o_00 : (FloatKind.f64.format.order 0 0 == some .eq) = true := by decide +kernel
theorem run_field_0 (R C : Int) (A : Option Addr) (n cap : Nat) (w : World) : (Instr.field 24 (mV R C A n cap) 0).run Try.prog w = .ok (.int .i64 R) w := by kernel_rfl
theorem x_P (W : World) (s : Nat) : Calls Try.prog 49 #[(vA s).V, .int .i64 2, .int .i64 3, .int .i64 0, .int .i64 0] W (Ans W (Vu.V ⟨some ⟨s, 0, none⟩, 2, 3, 1, 0, 0, 1, 0, 0⟩)) := Part_any (vk_A s).bd (by omega) (by omega) W
theorem n_P (h : St w B s g cap 0 []) {s5 B5 g5 cap5 : Nat} (h5 : St w B5 s5 g5 cap5 3 F6) : Calls Try.prog 15 #[Vu.V ⟨some ⟨s5, 0, none⟩, 2, 3, 1, 0, 0, 1, 0, 0⟩, (Vu.all s 0 0).V] w (Ans w (.bool true)) := by
  have := Same_any (w := w) (part_vk (vk_A s5) (by omega) 2 3 0 0) (fun _ => ⟨h5, rfl⟩) (n_vk s) (fun _ => ⟨h, rfl⟩)
  exact this
set_option maxRecDepth 100000 in
set_option maxHeartbeats 16000000 in
theorem law_nil (w : World) : Calls Try.prog 10 #[] w (Ans w (.bool true)) := by
  have o0 := o_00
  have hz : IntKind.i64.wrap 0 = 0 := by decide
  go_enter Try.func10, Try.ntmps10
  have bz := Below.refl w.heap.size w
  go_wp2_with fail
  with_reducible refine (new_at 512 512 rfl _).mono ?_
  rintro e w1 ⟨h1_s, h1_g, h1_c, rfl, h1, hb⟩
  replace bz := bz.trans (hb.mono bz.size)
  clear hb
  have D1 := Blk.new w1 (Vu.all h1_s 512 512).L 30
  obtain ⟨HD1, eHD1⟩ : ∃ H, w1.heap.size = H := ⟨_, rfl⟩
  rw [eHD1] at D1
  replace h1 := h1.on ((Below.refl _ _).alloc (Nat.le_refl _) (.cells (Vu.all h1_s 512 512).L.toArray 30))
  replace bz := bz.alloc bz.size (.cells (Vu.all h1_s 512 512).L.toArray 30)
  have HHD1 := Lib.hid eHD1
  go_wp2_with fail
  with_reducible refine (new_at 0 0 rfl _).mono ?_
  rintro e w2 ⟨h3_s, h3_g, h3_c, rfl, h3, hb⟩
  replace h1 := h1.on hb
  replace D1 := D1.on hb
  replace bz := bz.trans (hb.mono bz.size)
  clear hb
  have D3 := Blk.new w2 (Vu.all h3_s 0 0).L 30
  obtain ⟨HD3, eHD3⟩ : ∃ H, w2.heap.size = H := ⟨_, rfl⟩
  rw [eHD3] at D3
  replace h1 := h1.on ((Below.refl _ _).alloc (Nat.le_refl _) (.cells (Vu.all h3_s 0 0).L.toArray 30))
  replace D1 := D1.on ((Below.refl _ _).alloc (Nat.le_refl _) (.cells (Vu.all h3_s 0 0).L.toArray 30))
  replace h3 := h3.on ((Below.refl _ _).alloc (Nat.le_refl _) (.cells (Vu.all h3_s 0 0).L.toArray 30))
  replace bz := bz.alloc bz.size (.cells (Vu.all h3_s 0 0).L.toArray 30)
  have HHD3 := Lib.hid eHD3
  go_wp2_with fail
  with_reducible refine (new_at 1 0 rfl _).mono ?_
  rintro e w3 ⟨h5_s, h5_g, h5_c, rfl, h5, hb⟩
  replace h1 := h1.on hb
  replace D1 := D1.on hb
  replace h3 := h3.on hb
  replace D3 := D3.on hb
  replace bz := bz.trans (hb.mono bz.size)
  clear hb
  have D5 := Blk.new w3 (Vu.all h5_s 1 0).L 30
  obtain ⟨HD5, eHD5⟩ : ∃ H, w3.heap.size = H := ⟨_, rfl⟩
  rw [eHD5] at D5
  replace h1 := h1.on ((Below.refl _ _).alloc (Nat.le_refl _) (.cells (Vu.all h5_s 1 0).L.toArray 30))
  replace D1 := D1.on ((Below.refl _ _).alloc (Nat.le_refl _) (.cells (Vu.all h5_s 1 0).L.toArray 30))
  replace h3 := h3.on ((Below.refl _ _).alloc (Nat.le_refl _) (.cells (Vu.all h5_s 1 0).L.toArray 30))
  replace D3 := D3.on ((Below.refl _ _).alloc (Nat.le_refl _) (.cells (Vu.all h5_s 1 0).L.toArray 30))
  replace h5 := h5.on ((Below.refl _ _).alloc (Nat.le_refl _) (.cells (Vu.all h5_s 1 0).L.toArray 30))
  replace bz := bz.alloc bz.size (.cells (Vu.all h5_s 1 0).L.toArray 30)
  have HHD5 := Lib.hid eHD5
  go_wp2_with fail
  with_reducible refine (new_at 3 0 rfl _).mono ?_
  rintro e w4 ⟨h7_s, h7_g, h7_c, rfl, h7, hb⟩
  replace h1 := h1.on hb
  replace D1 := D1.on hb
  replace h3 := h3.on hb
  replace D3 := D3.on hb
  replace h5 := h5.on hb
  replace D5 := D5.on hb
  replace bz := bz.trans (hb.mono bz.size)
  clear hb
  have D7 := Blk.new w4 (Vu.all h7_s 3 0).L 30
  obtain ⟨HD7, eHD7⟩ : ∃ H, w4.heap.size = H := ⟨_, rfl⟩
  rw [eHD7] at D7
  replace h1 := h1.on ((Below.refl _ _).alloc (Nat.le_refl _) (.cells (Vu.all h7_s 3 0).L.toArray 30))
  replace D1 := D1.on ((Below.refl _ _).alloc (Nat.le_refl _) (.cells (Vu.all h7_s 3 0).L.toArray 30))
  replace h3 := h3.on ((Below.refl _ _).alloc (Nat.le_refl _) (.cells (Vu.all h7_s 3 0).L.toArray 30))
  replace D3 := D3.on ((Below.refl _ _).alloc (Nat.le_refl _) (.cells (Vu.all h7_s 3 0).L.toArray 30))
  replace h5 := h5.on ((Below.refl _ _).alloc (Nat.le_refl _) (.cells (Vu.all h7_s 3 0).L.toArray 30))
  replace D5 := D5.on ((Below.refl _ _).alloc (Nat.le_refl _) (.cells (Vu.all h7_s 3 0).L.toArray 30))
  replace h7 := h7.on ((Below.refl _ _).alloc (Nat.le_refl _) (.cells (Vu.all h7_s 3 0).L.toArray 30))
  replace bz := bz.alloc bz.size (.cells (Vu.all h7_s 3 0).L.toArray 30)
  have HHD7 := Lib.hid eHD7
  clear h1 h5 h7
  go_upto_region 5 with fail
  generalize (w4.alloc (.cells (Vu.all h7_s 3 0).L.toArray 30)) = W5 at D1 h3 D3 D5 D7 bz ⊢
  have D9 := Blk.new W5 (Vu.zero).L 30
  obtain ⟨HD9, eHD9⟩ : ∃ H, W5.heap.size = H := ⟨_, rfl⟩
  rw [eHD9] at D9
  replace D1 := D1.on ((Below.refl _ _).alloc (Nat.le_refl _) (.cells (Vu.zero).L.toArray 30))
  replace h3 := h3.on ((Below.refl _ _).alloc (Nat.le_refl _) (.cells (Vu.zero).L.toArray 30))
  replace D3 := D3.on ((Below.refl _ _).alloc (Nat.le_refl _) (.cells (Vu.zero).L.toArray 30))
  replace D5 := D5.on ((Below.refl _ _).alloc (Nat.le_refl _) (.cells (Vu.zero).L.toArray 30))
  replace D7 := D7.on ((Below.refl _ _).alloc (Nat.le_refl _) (.cells (Vu.zero).L.toArray 30))
  replace bz := bz.alloc bz.size (.cells (Vu.zero).L.toArray 30)
  have HHD9 := Lib.hid eHD9
  go_wp2_with fail
  with_reducible refine (two3_any _).mono ?_
  rintro e w5 ⟨A3, c3, rfl, hF, hb⟩
  replace D1 := D1.on hb
  replace h3 := h3.on hb
  replace D3 := D3.on hb
  replace D5 := D5.on hb
  replace D7 := D7.on hb
  replace D9 := D9.on hb
  replace bz := bz.trans (hb.mono bz.size)
  clear hb
  have hz9 := D9.lt
  have hz7 := h3.lt
  have hz8 := h3.gt.2
  have hzd1 := D1.lt
  have hzd3 := D3.lt
  have hzd5 := D5.lt
  have hzd7 := D7.lt
  have hzb := bz.size
  go_wp2_with fail
  with_reducible refine (k_Of hF).mono ?_
  rintro e w6 ⟨s, g, cap, rfl, hst, hb⟩
  replace D1 := D1.on hb
  replace h3 := h3.on hb
  replace D3 := D3.on hb
  replace D5 := D5.on hb
  replace D7 := D7.on hb
  replace D9 := D9.on hb
  replace bz := bz.trans (hb.mono bz.size)
  have hgt := hst.gt
  clear hF hb
  have D10 := Blk.new w6 (vA s).L 30
  obtain ⟨HD10, eHD10⟩ : ∃ H, w6.heap.size = H := ⟨_, rfl⟩
  rw [eHD10] at D10
  replace D1 := D1.on ((Below.refl _ _).alloc (Nat.le_refl _) (.cells (vA s).L.toArray 30))
  replace h3 := h3.on ((Below.refl _ _).alloc (Nat.le_refl _) (.cells (vA s).L.toArray 30))
  replace D3 := D3.on ((Below.refl _ _).alloc (Nat.le_refl _) (.cells (vA s).L.toArray 30))
  replace D5 := D5.on ((Below.refl _ _).alloc (Nat.le_refl _) (.cells (vA s).L.toArray 30))
  replace D7 := D7.on ((Below.refl _ _).alloc (Nat.le_refl _) (.cells (vA s).L.toArray 30))
  replace D9 := D9.on ((Below.refl _ _).alloc (Nat.le_refl _) (.cells (vA s).L.toArray 30))
  replace hst := hst.on ((Below.refl _ _).alloc (Nat.le_refl _) (.cells (vA s).L.toArray 30))
  replace bz := bz.alloc bz.size (.cells (vA s).L.toArray 30)
  have HHD10 := Lib.hid eHD10
  go_wp2_with fail
  generalize (w6.alloc (.cells (vA s).L.toArray 30)) = W0 at D1 h3 D3 D5 D7 D9 hst D10 bz ⊢
  replace D1 := D1.drew
  replace h3 := h3.drew
  replace D3 := D3.drew
  replace D5 := D5.drew
  replace D7 := D7.drew
  replace D9 := D9.drew
  replace hst := hst.drew
  replace D10 := D10.drew
  replace bz := bz.drew
  refine wp_region_held_drew (S := fun w9 : World => Vbx w9 HD1 (Vu.all h1_s 512 512) ∧ Vbx w9 HD3 (Vu.all h3_s 0 0) ∧ Vbx w9 HD5 (Vu.all h5_s 1 0) ∧ Vbx w9 HD7 (Vu.all h7_s 3 0) ∧ Vbx w9 HD9 Vu.zero ∧ Vbx w9 HD10 (vA s)) (by kernel_rfl) ⟨D1, D3, D5, D7, D9, D10⟩ (fun hS => ?_)
  refine wpAnyH_tab [⟨35, 4, 0⟩, ⟨36, 17179869184, 1⟩, ⟨37, 16, 0⟩, ⟨38, 68719476736, 6⟩, ⟨39, 171798691840, 10⟩, ⟨40, 64, 0⟩, ⟨41, 549755813888, 40⟩, ⟨42, 1374389534720, 80⟩, ⟨43, 256, 0⟩, ⟨44, 4398046511104, 320⟩, ⟨45, 10995116277760, 640⟩, ⟨46, 2048, 0⟩, ⟨47, 35184372088832, 2560⟩, ⟨48, 87960930222080, 5120⟩, ⟨49, 140737488355328, 8192⟩, ⟨50, 281474976710656, 20480⟩, ⟨51, 562949953421314, 32768⟩, ⟨52, 1688849860263936, 98304⟩, ⟨53, 2814749767106560, 163840⟩, ⟨54, 5066549580791808, 294912⟩, ⟨55, 9007199254740992, 655360⟩, ⟨56, 18014398509481992, 1048576⟩, ⟨57, 54043195528445952, 3145728⟩, ⟨58, 90071992547409920, 5242880⟩, ⟨59, 144115188075855872, 12582912⟩, ⟨60, 288230376151711776, 16777216⟩, ⟨61, 864691128455135232, 50331648⟩, ⟨62, 1441151880758558720, 83886080⟩, ⟨63, 2305843009213693952, 201326592⟩, ⟨64, 4611686018427388032, 268435456⟩, ⟨65, 13835058055282163712, 805306368⟩, ⟨66, 23058430092136939520, 1342177280⟩, ⟨67, 41505174165846491136, 2415919104⟩, ⟨68, 73786976294838206464, 5368709120⟩, ⟨69, 147573952589676412936, 8589934592⟩, ⟨70, 442721857769029238784, 25769803776⟩, ⟨71, 737869762948382064640, 42949672960⟩, ⟨72, 1328165573307087716352, 77309411328⟩, ⟨73, 2361183241434822606848, 171798691840⟩, ⟨74, 4722366482869645213704, 274877906944⟩, ⟨75, 4722366482869645213704, 274877906944⟩, ⟨76, 33056565380087516495872, 1924145348608⟩, ⟨77, 42501298345826806923264, 2473901162496⟩, ⟨78, 75557863725914323419136, 6597069766656⟩, ⟨79, 151115727451828646838280, 8796093022208⟩, ⟨80, 151115727451828646838784, 8796093022208⟩, ⟨81, 1057810092162800527867904, 61572651155456⟩, ⟨82, 1360041547066457821544448, 79164837199872⟩, ⟨83, 2568967366681086996250624, 149533581377536⟩, ⟨84, 4835703278458516698824704, 351843720888320⟩, ⟨85, 9671406556917033397649920, 562949953421312⟩, ⟨86, 9671406556917033397649408, 562949953421312⟩, ⟨87, 67699845898419233783545856, 3940649673949184⟩, ⟨88, 87042659012253300578844672, 5066549580791808⟩, ⟨89, 154742504910672534362390528, 13510798882111488⟩, ⟨90, 309485009821345068724781568, 18014398509481984⟩, ⟨91, 928455029464035206174343168, 54043195528445952⟩, ⟨92, 309485009821345068724781568, 18014398509481984⟩, ⟨93, 2785365088392105618523029504, 234187180623265792⟩, ⟨94, 6499185206248246443220402176, 378302368699121664⟩, ⟨95, 309485009821345068724781568, 18014398509481984⟩, ⟨96, 20116525638387429467110768640, 1459166279268040704⟩, ⟨97, 49827086581236556064689750016, 2900318160026599424⟩, ⟨98, 79537647524085682662268731392, 4629700416936869888⟩, ⟨99, 158765810038350020255812681728, 9241386435364257792⟩, ⟨100, 316912650057057350374175801344, 20752587082923245568⟩, ⟨101, 633825300114114700748351603200, 36893488147419103232⟩, ⟨102, 1901475900342344102245054808064, 110680464442257309696⟩, ⟨103, 3169126500570573503741758013440, 184467440737095516160⟩, ⟨104, 5704427701027032306735164424192, 332041393326771929088⟩, ⟨105, 10141204801825835211973625643008, 737869762948382064640⟩, ⟨106, 20282409603651670423947251286528, 1180591620717411303424⟩, ⟨107, 60847228810955011271841753858048, 3541774862152233910272⟩, ⟨108, 101412048018258352119736256430080, 5902958103587056517120⟩, ⟨109, 182541686432865033815525261574144, 10625324586456701730816⟩, ⟨110, 324518553658426726783156020576256, 23611832414348226068480⟩, ⟨111, 649037107316853453566312041153024, 37778931862957161709568⟩, ⟨112, 1947111321950560360698936123457536, 113336795588871485128704⟩, ⟨113, 3245185536584267267831560205762560, 188894659314785808547840⟩, ⟨114, 5841333965851681082096808370372608, 340010386766614455386112⟩, ⟨115, 11033630824386508710627304699592704, 642241841670271749062656⟩, ⟨116, 20769187434139310514121985316880384, 1511157274518286468382720⟩, ⟨117, 41538374868278621028243970633761280, 2417851639229258349412352⟩, ⟨118, 124615124604835863084731911901282304, 7253554917687775048237056⟩, ⟨119, 207691874341393105141219853168803840, 12089258196146291747061760⟩, ⟨120, 373845373814507589254195735703846912, 21760664753063325144711168⟩, ⟨121, 706152372760736557480147500773933056, 41103477866897391940009984⟩, ⟨122, 1329227995784915872903807060280344576, 96714065569170333976494080⟩, ⟨123, 2658455991569831745807614120560689664, 154742504910672534362390528⟩, ⟨124, 2658455991569831745807614120560690176, 154742504910672534362390528⟩, ⟨125, 18609191940988822220653298843924824064, 1083197534374707740536733696⟩, ⟨126, 23926103924128485712268527085046202368, 1392682544196052809261514752⟩, ⟨127, 45193751856687139678729440049531715584, 2630622583481433084160638976⟩, ⟨128, 87729047721804447611651265978502742016, 5106502662052193633958887424⟩, ⟨129, 170141183460469231731687303715884105728, 12379400392853802748991242240⟩, ⟨130, 340282366920938463463374607431768212480, 19807040628566084398385987584⟩, ⟨131, 340282366920938463463374607431768211968, 19807040628566084398385987584⟩, ⟨132, 2381976568446569244243622252022377480192, 138649284399962590788701913088⟩, ⟨133, 3062541302288446171170371466885913903104, 178263365657094759585473888256⟩, ⟨134, 5784800237655953878877368326340059594752, 336719690685623434772561788928⟩, ⟨135, 11229318108390969294291362045248350978048, 653632340742680785146737590272⟩, ⟨136, 21778071482940061661655974875633165533184, 1584563250285286751870879006720⟩, ⟨137, 43556142965880123323311949751266331066880, 2535301200456458802993406410752⟩, ⟨138, 130668428897640369969935849253798993199104, 7605903601369376408980219232256⟩, ⟨139, 43556142965880123323311949751266331066880, 2535301200456458802993406410752⟩, ⟨140, 566229858556441603203055346766462303862784, 32958915605933964438914283339776⟩, ⟨141, 740454430419962096496303145771527628128256, 43100120407759799650887908982784⟩, ⟨142, 1393796574908163946345982392040522594123776, 121694457621910022543683507716096⟩, ⟨143, 2787593149816327892691964784081045188248064, 162259276829213363391578010288128⟩, ⟨144, 8362779449448983678075894352243135564742656, 486777830487640090174734030864384⟩, ⟨145, 2787593149816327892691964784081045188248064, 162259276829213363391578010288128⟩, ⟨146, 36238710947612262604995542193053587447218176, 2109370598779773724090514133745664⟩, ⟨147, 47389083546877574175763401329377768200208384, 2758407706096627177656826174898176⟩, ⟨148, 89202980794122492566142873090593446023921664, 7788445287802241442795744493830144⟩, ⟨149, 178405961588244985132285746181186892047843840, 10384593717069655257060992658440192⟩, ⟨150, 535217884764734955396857238543560676143529984, 31153781151208965771182977975320576⟩, ⟨151, 178405961588244985132285746181186892047843840, 10384593717069655257060992658440192⟩, ⟨152, 2319277500647184806719714700355429596621963264, 134999718321905518341792904559722496⟩, ⟨153, 3032901347000164747248857685080177164813336576, 176538093190184139370036875193483264⟩, ⟨154, 5708990770823839524233143877797980545530986496, 498460498419343452338927647605129216⟩, ⟨155, 11417981541647679048466287755595961091061973504, 664613997892457936451903530140172288⟩, ⟨156, 34253944624943037145398863266787883273185918976, 1993841993677373809355710590420516864⟩, ⟨157, 11417981541647679048466287755595961091061973504, 664613997892457936451903530140172288⟩, ⟨158, 148433760041419827630061740822747494183805648896, 8639981972601953173874745891822239744⟩, ⟨159, 194105686208010543823926891845131338548053540864, 11298437964171784919682360012382928896⟩, ⟨160, 365375409332725729550921208179070754913983135744, 31901471898837980949691369446728269824⟩, ⟨161, 730750818665451459101842416358141509827966272000, 42535295865117307932921825928971026432⟩, ⟨162, 2192252455996354377305527249074424529483898814464, 127605887595351923798765477786913079296⟩, ⟨163, 3653754093327257295509212081790707549139831357440, 212676479325586539664609129644855132160⟩, ⟨164, 6576757367989063131916581747223273588451696443392, 382817662786055771396296433360739237888⟩, ⟨165, 11692013098647223345629478661730264157247460343808, 850705917302346158658436518579420528640⟩, ⟨166, 23384026197294446691258957323460528314494920688128, 1361129467683753853853498429727072845824⟩, ⟨167, 23384026197294446691258957323460528314494920688640, 1361129467683753853853498429727072845824⟩, ⟨168, 163688183381061126838812701264223698201464444813312, 9527906273786276976974489008089509920768⟩, ⟨169, 210456235775650020221330615911144754830454286188544, 12250165209153784684681485867543655612416⟩, ⟨170, 397528445354005593751402274498828981346413651689472, 23139200950623815515509473305360238379008⟩, ⟨171, 748288838313422294120286634350736906063837462003712, 54445178707350154154139937189082913832960⟩, ⟨172, 1496577676626844588240573268701473812127674924007936, 87112285931760246646623899502532662132736⟩, ⟨173, 1496577676626844588240573268701473812127674924007424, 87112285931760246646623899502532662132736⟩, ⟨174, 10476043736387912117684012880910316684893724468051968, 609786001522321726526367296517728634929152⟩, ⟨175, 13469199089641601294165159418313264309149074316066816, 784010573385842219819615095522793959194624⟩, ⟨176, 23945242826029513411849172299223580994042798784118784, 2090694862362245919518973588060783891185664⟩, ⟨177, 47890485652059026823698344598447161988085597568238080, 2787593149816327892691964784081045188247552⟩, ⟨178, 143671456956177080471095033795341485964256792704712704, 8362779449448983678075894352243135564742656⟩, ⟨179, 239452428260295134118491722992235809940427987841187840, 13937965749081639463459823920405225941237760⟩, ⟨180, 431014370868531241413285101386024457892770378114138112, 25088338348346951034227683056729406694227968⟩, ⟨181, 814138256085003456002871858173601753797455158660038656, 47389083546877574175763401329377768200208384⟩, ⟨182, 1532495540865888858358347027150309183618739122183602176, 100353353393387804136910732226917626776911872⟩, ⟨183, 3064991081731777716716694054300618367237478244367205376, 178405961588244985132285746181186892047843328⟩, ⟨184, 9194973245195333150150082162901855101712434733101613056, 535217884764734955396857238543560676143529984⟩, ⟨185, 3064991081731777716716694054300618367237478244367204360, 178405961588244985132285746181186892047843328⟩, ⟨186, 39844884062513110317317022705908038774087217176773656576, 2319277500647184806719714700355429596621963264⟩, ⟨187, 52104848389440221184183798923110512243037130154242473984, 3032901347000164747248857685080177164813336576⟩, ⟨188, 98079714615416886934934209737619787751599303819750539264, 8563486156235759286349715816696970818296479744⟩, ⟨189, 196159429230833773869868419475239575503198607639501078528, 11417981541647679048466287755595961091061972992⟩, ⟨190, 588478287692501321609605258425718726509595822918503235584, 34253944624943037145398863266787883273185918976⟩, ⟨1, 784637716923335095479473677900958302012794430558004314112, 91343852333181432387730302044767688728495783935⟩] (by kernel_rfl) (fun hT => ?_)
  refine wpAnyH_take (i := 0) (oi := { dst := some 34, op := Go.Op.move (Go.Operand.tmp 2), type := 31, pos := "law.go:232", after := #[], guard := none }) (v := ?v0_1) (by kernel_rfl) (tab_ns hT) (tab_free 0 hT (by kernel_rfl) (by kernel_rfl)) (tab_rdy 0 hT (by kernel_rfl) (by kernel_rfl) (by kernel_rfl)) (fun _ _ _ h => h) (Or.inl ⟨by kernel_rfl, ?hy0_1⟩) (by assumption) ?rest0_1
  case hy0_1 => (intro w9 hSw; clear hSw; go_simp; try with_reducible rfl)
  try simp only [Act.put, List.setIfInBounds_toArray, List.set_cons_zero, List.set_cons_succ, List.getElem_toArray, List.getElem_cons_zero, List.getElem_cons_succ]
  refine wpAnyH_take (i := 2) (oi := { dst := some 36, op := Go.Op.move (Go.Operand.tmp 4), type := 31, pos := "law.go:232", after := #[], guard := none }) (v := ?v2_2) (by kernel_rfl) (tab_ns hT) (tab_free 1 hT (by kernel_rfl) (by kernel_rfl)) (tab_rdy 1 hT (by kernel_rfl) (by kernel_rfl) (by kernel_rfl)) (fun _ _ _ h => h) (Or.inl ⟨by kernel_rfl, ?hy2_2⟩) (by assumption) ?rest2_2
  case hy2_2 => (intro w9 hSw; clear hSw; go_simp; try with_reducible rfl)
  try simp only [Act.put, List.setIfInBounds_toArray, List.set_cons_zero, List.set_cons_succ, List.getElem_toArray, List.getElem_cons_zero, List.getElem_cons_succ]
  refine wpAnyH_take (i := 5) (oi := { dst := some 39, op := Go.Op.move (Go.Operand.tmp 6), type := 31, pos := "law.go:232", after := #[], guard := none }) (v := ?v5_3) (by kernel_rfl) (tab_ns hT) (tab_free 5 hT (by kernel_rfl) (by kernel_rfl)) (tab_rdy 5 hT (by kernel_rfl) (by kernel_rfl) (by kernel_rfl)) (fun _ _ _ h => h) (Or.inl ⟨by kernel_rfl, ?hy5_3⟩) (by assumption) ?rest5_3
  case hy5_3 => (intro w9 hSw; clear hSw; go_simp; try with_reducible rfl)
  try simp only [Act.put, List.setIfInBounds_toArray, List.set_cons_zero, List.set_cons_succ, List.getElem_toArray, List.getElem_cons_zero, List.getElem_cons_succ]
  refine wpAnyH_take (i := 8) (oi := { dst := some 42, op := Go.Op.move (Go.Operand.tmp 8), type := 31, pos := "law.go:232", after := #[], guard := none }) (v := ?v8_4) (by kernel_rfl) (tab_ns hT) (tab_free 37 hT (by kernel_rfl) (by kernel_rfl)) (tab_rdy 37 hT (by kernel_rfl) (by kernel_rfl) (by kernel_rfl)) (fun _ _ _ h => h) (Or.inl ⟨by kernel_rfl, ?hy8_4⟩) (by assumption) ?rest8_4
  case hy8_4 => (intro w9 hSw; clear hSw; go_simp; try with_reducible rfl)
  try simp only [Act.put, List.setIfInBounds_toArray, List.set_cons_zero, List.set_cons_succ, List.getElem_toArray, List.getElem_cons_zero, List.getElem_cons_succ]
  refine wpAnyH_take (i := 11) (oi := { dst := some 45, op := Go.Op.move (Go.Operand.tmp 11), type := 31, pos := "law.go:232", after := #[], guard := none }) (v := ?v11_5) (by kernel_rfl) (tab_ns hT) (tab_free 293 hT (by kernel_rfl) (by kernel_rfl)) (tab_rdy 293 hT (by kernel_rfl) (by kernel_rfl) (by kernel_rfl)) (fun _ _ _ h => h) (Or.inl ⟨by kernel_rfl, ?hy11_5⟩) (by assumption) ?rest11_5
  case hy11_5 => (intro w9 hSw; clear hSw; go_simp; try with_reducible rfl)
  try simp only [Act.put, List.setIfInBounds_toArray, List.set_cons_zero, List.set_cons_succ, List.getElem_toArray, List.getElem_cons_zero, List.getElem_cons_succ]
  refine wpAnyH_ready (rs := [1]) (tab_ready 2341 hT (by kernel_rfl) (by kernel_rfl) (by kernel_rfl)) (by simp) ?_
  refine AllReadyH.con1 (o := { dst := some 35, op := Go.Op.call { callee := Go.Callee.value (Go.Operand.func 16), args := #[Go.Operand.tmp 34], argTypes := #[31] }, type := 3, pos := "law.go:232", after := #[{ on := 0, ground := Go.Ground.data }], guard := none }) (by kernel_rfl) (by kernel_rfl) (fun K hK => ?_) AllReadyH.nil
  go_simp
  with_reducible refine (num_any _ _).mono ?_
  rintro e v7 ⟨rfl, rfl⟩
  refine hK.out _ _ ⟨D1, D3, D5, D7, D9, D10⟩ (fun hH => ?_)
  clear hK K hS
  have hS := hH
  clear hH
  try simp only [Act.put, List.setIfInBounds_toArray, List.set_cons_zero, List.set_cons_succ, List.getElem_toArray, List.getElem_cons_zero, List.getElem_cons_succ]
  refine wpAnyH_ready (rs := [3]) (tab_ready 2343 hT (by kernel_rfl) (by kernel_rfl) (by kernel_rfl)) (by simp) ?_
  refine AllReadyH.con1 (o := { dst := some 37, op := Go.Op.call { callee := Go.Callee.value (Go.Operand.func 16), args := #[Go.Operand.tmp 36], argTypes := #[31] }, type := 3, pos := "law.go:232", after := #[{ on := 2, ground := Go.Ground.data }, { on := 1, ground := Go.Ground.chain }], guard := none }) (by kernel_rfl) (by kernel_rfl) (fun K hK => ?_) AllReadyH.nil
  go_simp
  with_reducible refine (num_any _ _).mono ?_
  rintro e v8 ⟨rfl, rfl⟩
  refine hK.out _ _ ⟨D1, D3, D5, D7, D9, D10⟩ (fun hH => ?_)
  clear hK K hS
  have hS := hH
  clear hH
  try simp only [Act.put, List.setIfInBounds_toArray, List.set_cons_zero, List.set_cons_succ, List.getElem_toArray, List.getElem_cons_zero, List.getElem_cons_succ]
  refine wpAnyH_take (i := 4) (oi := { dst := some 38, op := Go.Op.binOp Go.BinOp.add 3 (Go.Operand.tmp 35) (Go.Operand.tmp 37) 3, type := 3, pos := "law.go:232", after := #[{ on := 1, ground := Go.Ground.data }, { on := 3, ground := Go.Ground.data }], guard := none }) (v := ?v4_6) (by kernel_rfl) (tab_ns hT) (tab_free 2351 hT (by kernel_rfl) (by kernel_rfl)) (tab_rdy 2351 hT (by kernel_rfl) (by kernel_rfl) (by kernel_rfl)) (fun _ _ _ h => h) (Or.inl ⟨by kernel_rfl, ?hy4_6⟩) (by assumption) ?rest4_6
  case hy4_6 => (intro w9 hSw; clear hSw; go_simp; try with_reducible rfl)
  try simp only [Act.put, List.setIfInBounds_toArray, List.set_cons_zero, List.set_cons_succ, List.getElem_toArray, List.getElem_cons_zero, List.getElem_cons_succ]
  refine wpAnyH_ready (rs := [6]) (tab_ready 2367 hT (by kernel_rfl) (by kernel_rfl) (by kernel_rfl)) (by simp) ?_
  refine AllReadyH.con1 (o := { dst := some 40, op := Go.Op.call { callee := Go.Callee.value (Go.Operand.func 16), args := #[Go.Operand.tmp 39], argTypes := #[31] }, type := 3, pos := "law.go:232", after := #[{ on := 5, ground := Go.Ground.data }, { on := 3, ground := Go.Ground.chain }], guard := none }) (by kernel_rfl) (by kernel_rfl) (fun K hK => ?_) AllReadyH.nil
  go_simp
  with_reducible refine (num_any _ _).mono ?_
  rintro e v9 ⟨rfl, rfl⟩
  refine hK.out _ _ ⟨D1, D3, D5, D7, D9, D10⟩ (fun hH => ?_)
  clear hK K hS
  have hS := hH
  clear hH
  try simp only [Act.put, List.setIfInBounds_toArray, List.set_cons_zero, List.set_cons_succ, List.getElem_toArray, List.getElem_cons_zero, List.getElem_cons_succ]
  refine wpAnyH_take (i := 7) (oi := { dst := some 41, op := Go.Op.binOp Go.BinOp.add 3 (Go.Operand.tmp 38) (Go.Operand.tmp 40) 3, type := 3, pos := "law.go:232", after := #[{ on := 4, ground := Go.Ground.data }, { on := 6, ground := Go.Ground.data }], guard := none }) (v := ?v7_7) (by kernel_rfl) (tab_ns hT) (tab_free 2431 hT (by kernel_rfl) (by kernel_rfl)) (tab_rdy 2431 hT (by kernel_rfl) (by kernel_rfl) (by kernel_rfl)) (fun _ _ _ h => h) (Or.inl ⟨by kernel_rfl, ?hy7_7⟩) (by assumption) ?rest7_7
  case hy7_7 => (intro w9 hSw; clear hSw; go_simp; try with_reducible rfl)
  try simp only [Act.put, List.setIfInBounds_toArray, List.set_cons_zero, List.set_cons_succ, List.getElem_toArray, List.getElem_cons_zero, List.getElem_cons_succ]
  refine wpAnyH_ready (rs := [9]) (tab_ready 2559 hT (by kernel_rfl) (by kernel_rfl) (by kernel_rfl)) (by simp) ?_
  refine AllReadyH.con1 (o := { dst := some 43, op := Go.Op.call { callee := Go.Callee.value (Go.Operand.func 16), args := #[Go.Operand.tmp 42], argTypes := #[31] }, type := 3, pos := "law.go:232", after := #[{ on := 8, ground := Go.Ground.data }, { on := 6, ground := Go.Ground.chain }], guard := none }) (by kernel_rfl) (by kernel_rfl) (fun K hK => ?_) AllReadyH.nil
  go_simp
  with_reducible refine (num_any _ _).mono ?_
  rintro e v10 ⟨rfl, rfl⟩
  refine hK.out _ _ ⟨D1, D3, D5, D7, D9, D10⟩ (fun hH => ?_)
  clear hK K hS
  have hS := hH
  clear hH
  try simp only [Act.put, List.setIfInBounds_toArray, List.set_cons_zero, List.set_cons_succ, List.getElem_toArray, List.getElem_cons_zero, List.getElem_cons_succ]
  refine wpAnyH_take (i := 10) (oi := { dst := some 44, op := Go.Op.binOp Go.BinOp.add 3 (Go.Operand.tmp 41) (Go.Operand.tmp 43) 3, type := 3, pos := "law.go:232", after := #[{ on := 7, ground := Go.Ground.data }, { on := 9, ground := Go.Ground.data }], guard := none }) (v := ?v10_8) (by kernel_rfl) (tab_ns hT) (tab_free 3071 hT (by kernel_rfl) (by kernel_rfl)) (tab_rdy 3071 hT (by kernel_rfl) (by kernel_rfl) (by kernel_rfl)) (fun _ _ _ h => h) (Or.inl ⟨by kernel_rfl, ?hy10_8⟩) (by assumption) ?rest10_8
  case hy10_8 => (intro w9 hSw; clear hSw; go_simp; try with_reducible rfl)
  try simp only [Act.put, List.setIfInBounds_toArray, List.set_cons_zero, List.set_cons_succ, List.getElem_toArray, List.getElem_cons_zero, List.getElem_cons_succ]
  refine wpAnyH_ready (rs := [12]) (tab_ready 4095 hT (by kernel_rfl) (by kernel_rfl) (by kernel_rfl)) (by simp) ?_
  refine AllReadyH.con1 (o := { dst := some 46, op := Go.Op.call { callee := Go.Callee.value (Go.Operand.func 16), args := #[Go.Operand.tmp 45], argTypes := #[31] }, type := 3, pos := "law.go:232", after := #[{ on := 11, ground := Go.Ground.data }, { on := 9, ground := Go.Ground.chain }], guard := none }) (by kernel_rfl) (by kernel_rfl) (fun K hK => ?_) AllReadyH.nil
  go_simp
  with_reducible refine (num_any _ _).mono ?_
  rintro e v11 ⟨rfl, rfl⟩
  refine hK.out _ _ ⟨D1, D3, D5, D7, D9, D10⟩ (fun hH => ?_)
  clear hK K hS
  have hS := hH
  clear hH
  try simp only [Act.put, List.setIfInBounds_toArray, List.set_cons_zero, List.set_cons_succ, List.getElem_toArray, List.getElem_cons_zero, List.getElem_cons_succ]
  refine wpAnyH_take (i := 13) (oi := { dst := some 47, op := Go.Op.binOp Go.BinOp.add 3 (Go.Operand.tmp 44) (Go.Operand.tmp 46) 3, type := 3, pos := "law.go:232", after := #[{ on := 10, ground := Go.Ground.data }, { on := 12, ground := Go.Ground.data }], guard := none }) (v := ?v13_9) (by kernel_rfl) (tab_ns hT) (tab_free 8191 hT (by kernel_rfl) (by kernel_rfl)) (tab_rdy 8191 hT (by kernel_rfl) (by kernel_rfl) (by kernel_rfl)) (fun _ _ _ h => h) (Or.inl ⟨by kernel_rfl, ?hy13_9⟩) (by assumption) ?rest13_9
  case hy13_9 => (intro w9 hSw; clear hSw; go_simp; try with_reducible rfl)
  try simp only [Act.put, List.setIfInBounds_toArray, List.set_cons_zero, List.set_cons_succ, List.getElem_toArray, List.getElem_cons_zero, List.getElem_cons_succ]
  refine wpAnyH_take (i := 14) (oi := { dst := some 48, op := Go.Op.binOp Go.BinOp.eql 3 (Go.Operand.tmp 47) (Go.Operand.const (Go.Value.int Go.IntKind.i64 0)) 3, type := 4, pos := "law.go:232", after := #[{ on := 13, ground := Go.Ground.data }], guard := none }) (v := ?v14_10) (by kernel_rfl) (tab_ns hT) (tab_free 16383 hT (by kernel_rfl) (by kernel_rfl)) (tab_rdy 16383 hT (by kernel_rfl) (by kernel_rfl) (by kernel_rfl)) (fun _ _ _ h => h) (Or.inl ⟨by kernel_rfl, ?hy14_10⟩) (by assumption) ?rest14_10
  case hy14_10 => (intro w9 hSw; clear hSw; go_simp; try with_reducible rfl)
  try simp only [Act.put, List.setIfInBounds_toArray, List.set_cons_zero, List.set_cons_succ, List.getElem_toArray, List.getElem_cons_zero, List.getElem_cons_succ]
  refine wpAnyH_take (i := 15) (oi := { dst := some 49, op := Go.Op.move (Go.Operand.tmp 48), type := 4, pos := "law.go:232", after := #[{ on := 14, ground := Go.Ground.data }, { on := 12, ground := Go.Ground.chain }], guard := none }) (v := ?v15_11) (by kernel_rfl) (tab_ns hT) (tab_free 32767 hT (by kernel_rfl) (by kernel_rfl)) (tab_rdy 32767 hT (by kernel_rfl) (by kernel_rfl) (by kernel_rfl)) (fun _ _ _ h => h) (Or.inl ⟨by kernel_rfl, ?hy15_11⟩) (by assumption) ?rest15_11
  case hy15_11 => (intro w9 hSw; clear hSw; go_simp; try with_reducible rfl)
  try simp only [Act.put, List.setIfInBounds_toArray, List.set_cons_zero, List.set_cons_succ, List.getElem_toArray, List.getElem_cons_zero, List.getElem_cons_succ]
  refine wpAnyH_take (i := 16) (oi := { dst := some 50, op := Go.Op.load 30 (Go.Operand.tmp 1), type := 30, pos := "law.go:232", after := #[{ on := 15, ground := Go.Ground.guard }], guard := some (15, true) }) (v := ?v16_12) (by kernel_rfl) (tab_ns hT) (tab_free 65535 hT (by kernel_rfl) (by kernel_rfl)) (tab_rdy 65535 hT (by kernel_rfl) (by kernel_rfl) (by kernel_rfl)) (fun _ _ _ h => h) (Or.inl ⟨by kernel_rfl, ?hy16_12⟩) (by assumption) ?rest16_12
  case hy16_12 => (intro w9 hSw; obtain ⟨m1, m3, m5, m7, m9, m10⟩ := hSw; refine (ld_v (by rfl) (by kernel_rfl) m1).trans ?_; with_reducible rfl)
  try simp only [Act.put, List.setIfInBounds_toArray, List.set_cons_zero, List.set_cons_succ, List.getElem_toArray, List.getElem_cons_zero, List.getElem_cons_succ]
  refine wpAnyH_ready (rs := [17]) (tab_ready 131071 hT (by kernel_rfl) (by kernel_rfl) (by kernel_rfl)) (by simp) ?_
  refine AllReadyH.con1 (o := { dst := some 51, op := Go.Op.call { callee := Go.Callee.value (Go.Operand.func 21), args := #[Go.Operand.tmp 50], argTypes := #[30] }, type := 3, pos := "law.go:232", after := #[{ on := 16, ground := Go.Ground.data }, { on := 15, ground := Go.Ground.chain }, { on := 15, ground := Go.Ground.guard }], guard := some (15, true) }) (by kernel_rfl) (by kernel_rfl) (fun K hK => ?_) AllReadyH.nil
  go_simp
  with_reducible refine (Rows_any (Vu.all h1_s 512 512) _).mono ?_
  rintro e w12 ⟨rfl, hb⟩
  replace D1 := D1.on hb
  replace h3 := h3.on hb
  replace D3 := D3.on hb
  replace D5 := D5.on hb
  replace D7 := D7.on hb
  replace D9 := D9.on hb
  replace hst := hst.on hb
  replace D10 := D10.on hb
  replace bz := bz.trans (hb.mono bz.size)
  clear hb
  refine hK.out _ _ ⟨D1, D3, D5, D7, D9, D10⟩ (fun hH => ?_)
  clear hK K hS
  have hS := hH
  clear hH
  try simp only [Act.put, List.setIfInBounds_toArray, List.set_cons_zero, List.set_cons_succ, List.getElem_toArray, List.getElem_cons_zero, List.getElem_cons_succ]
  refine wpAnyH_take (i := 18) (oi := { dst := some 52, op := Go.Op.binOp Go.BinOp.eql 3 (Go.Operand.tmp 51) (Go.Operand.const (Go.Value.int Go.IntKind.i64 512)) 3, type := 4, pos := "law.go:232", after := #[{ on := 17, ground := Go.Ground.data }, { on := 15, ground := Go.Ground.guard }], guard := some (15, true) }) (v := ?v18_13) (by kernel_rfl) (tab_ns hT) (tab_free 262143 hT (by kernel_rfl) (by kernel_rfl)) (tab_rdy 262143 hT (by kernel_rfl) (by kernel_rfl) (by kernel_rfl)) (fun _ _ _ h => h) (Or.inl ⟨by kernel_rfl, ?hy18_13⟩) (by assumption) ?rest18_13
  case hy18_13 => (intro w9 hSw; clear hSw; go_simp; try with_reducible rfl)
  try simp only [Act.put, List.setIfInBounds_toArray, List.set_cons_zero, List.set_cons_succ, List.getElem_toArray, List.getElem_cons_zero, List.getElem_cons_succ]
  refine wpAnyH_take (i := 19) (oi := { dst := some 53, op := Go.Op.pick (Go.Operand.tmp 49) (Go.Operand.tmp 52) (Go.Operand.const (Go.Value.bool false)), type := 4, pos := "law.go:232", after := #[{ on := 15, ground := Go.Ground.data }, { on := 18, ground := Go.Ground.data }], guard := none }) (v := ?v19_14) (by kernel_rfl) (tab_ns hT) (tab_free 524287 hT (by kernel_rfl) (by kernel_rfl)) (tab_rdy 524287 hT (by kernel_rfl) (by kernel_rfl) (by kernel_rfl)) (fun _ _ _ h => h) (Or.inl ⟨by kernel_rfl, ?hy19_14⟩) (by assumption) ?rest19_14
  case hy19_14 => (intro w9 hSw; clear hSw; go_simp; try with_reducible rfl)
  try simp only [Act.put, List.setIfInBounds_toArray, List.set_cons_zero, List.set_cons_succ, List.getElem_toArray, List.getElem_cons_zero, List.getElem_cons_succ]
  refine wpAnyH_take (i := 20) (oi := { dst := some 54, op := Go.Op.move (Go.Operand.tmp 53), type := 4, pos := "law.go:232", after := #[{ on := 19, ground := Go.Ground.data }, { on := 17, ground := Go.Ground.chain }], guard := none }) (v := ?v20_15) (by kernel_rfl) (tab_ns hT) (tab_free 1048575 hT (by kernel_rfl) (by kernel_rfl)) (tab_rdy 1048575 hT (by kernel_rfl) (by kernel_rfl) (by kernel_rfl)) (fun _ _ _ h => h) (Or.inl ⟨by kernel_rfl, ?hy20_15⟩) (by assumption) ?rest20_15
  case hy20_15 => (intro w9 hSw; clear hSw; go_simp; try with_reducible rfl)
  try simp only [Act.put, List.setIfInBounds_toArray, List.set_cons_zero, List.set_cons_succ, List.getElem_toArray, List.getElem_cons_zero, List.getElem_cons_succ]
  refine wpAnyH_take (i := 21) (oi := { dst := some 55, op := Go.Op.load 30 (Go.Operand.tmp 3), type := 30, pos := "law.go:232", after := #[{ on := 20, ground := Go.Ground.guard }], guard := some (20, true) }) (v := ?v21_16) (by kernel_rfl) (tab_ns hT) (tab_free 2097151 hT (by kernel_rfl) (by kernel_rfl)) (tab_rdy 2097151 hT (by kernel_rfl) (by kernel_rfl) (by kernel_rfl)) (fun _ _ _ h => h) (Or.inl ⟨by kernel_rfl, ?hy21_16⟩) (by assumption) ?rest21_16
  case hy21_16 => (intro w9 hSw; obtain ⟨m1, m3, m5, m7, m9, m10⟩ := hSw; refine (ld_v (by rfl) (by kernel_rfl) m3).trans ?_; with_reducible rfl)
  try simp only [Act.put, List.setIfInBounds_toArray, List.set_cons_zero, List.set_cons_succ, List.getElem_toArray, List.getElem_cons_zero, List.getElem_cons_succ]
  refine wpAnyH_ready (rs := [22]) (tab_ready 4194303 hT (by kernel_rfl) (by kernel_rfl) (by kernel_rfl)) (by simp) ?_
  refine AllReadyH.con1 (o := { dst := some 56, op := Go.Op.call { callee := Go.Callee.value (Go.Operand.func 29), args := #[Go.Operand.tmp 55], argTypes := #[30] }, type := 4, pos := "law.go:232", after := #[{ on := 21, ground := Go.Ground.data }, { on := 20, ground := Go.Ground.chain }, { on := 20, ground := Go.Ground.guard }], guard := some (20, true) }) (by kernel_rfl) (by kernel_rfl) (fun K hK => ?_) AllReadyH.nil
  go_simp
  with_reducible refine (n_V _ _).mono ?_
  rintro e w13 ⟨rfl, hb⟩
  replace D1 := D1.on hb
  replace h3 := h3.on hb
  replace D3 := D3.on hb
  replace D5 := D5.on hb
  replace D7 := D7.on hb
  replace D9 := D9.on hb
  replace hst := hst.on hb
  replace D10 := D10.on hb
  replace bz := bz.trans (hb.mono bz.size)
  clear hb
  refine hK.out _ _ ⟨D1, D3, D5, D7, D9, D10⟩ (fun hH => ?_)
  clear hK K hS
  have hS := hH
  clear hH
  try simp only [Act.put, List.setIfInBounds_toArray, List.set_cons_zero, List.set_cons_succ, List.getElem_toArray, List.getElem_cons_zero, List.getElem_cons_succ]
  refine wpAnyH_take (i := 23) (oi := { dst := some 57, op := Go.Op.pick (Go.Operand.tmp 54) (Go.Operand.tmp 56) (Go.Operand.const (Go.Value.bool false)), type := 4, pos := "law.go:232", after := #[{ on := 20, ground := Go.Ground.data }, { on := 22, ground := Go.Ground.data }], guard := none }) (v := ?v23_17) (by kernel_rfl) (tab_ns hT) (tab_free 8388607 hT (by kernel_rfl) (by kernel_rfl)) (tab_rdy 8388607 hT (by kernel_rfl) (by kernel_rfl) (by kernel_rfl)) (fun _ _ _ h => h) (Or.inl ⟨by kernel_rfl, ?hy23_17⟩) (by assumption) ?rest23_17
  case hy23_17 => (intro w9 hSw; clear hSw; go_simp; try with_reducible rfl)
  try simp only [Act.put, List.setIfInBounds_toArray, List.set_cons_zero, List.set_cons_succ, List.getElem_toArray, List.getElem_cons_zero, List.getElem_cons_succ]
  refine wpAnyH_take (i := 24) (oi := { dst := some 58, op := Go.Op.move (Go.Operand.tmp 57), type := 4, pos := "law.go:232", after := #[{ on := 23, ground := Go.Ground.data }, { on := 22, ground := Go.Ground.chain }], guard := none }) (v := ?v24_18) (by kernel_rfl) (tab_ns hT) (tab_free 16777215 hT (by kernel_rfl) (by kernel_rfl)) (tab_rdy 16777215 hT (by kernel_rfl) (by kernel_rfl) (by kernel_rfl)) (fun _ _ _ h => h) (Or.inl ⟨by kernel_rfl, ?hy24_18⟩) (by assumption) ?rest24_18
  case hy24_18 => (intro w9 hSw; clear hSw; go_simp; try with_reducible rfl)
  try simp only [Act.put, List.setIfInBounds_toArray, List.set_cons_zero, List.set_cons_succ, List.getElem_toArray, List.getElem_cons_zero, List.getElem_cons_succ]
  refine wpAnyH_take (i := 25) (oi := { dst := some 59, op := Go.Op.load 30 (Go.Operand.tmp 5), type := 30, pos := "law.go:232", after := #[{ on := 24, ground := Go.Ground.guard }], guard := some (24, true) }) (v := ?v25_19) (by kernel_rfl) (tab_ns hT) (tab_free 33554431 hT (by kernel_rfl) (by kernel_rfl)) (tab_rdy 33554431 hT (by kernel_rfl) (by kernel_rfl) (by kernel_rfl)) (fun _ _ _ h => h) (Or.inl ⟨by kernel_rfl, ?hy25_19⟩) (by assumption) ?rest25_19
  case hy25_19 => (intro w9 hSw; obtain ⟨m1, m3, m5, m7, m9, m10⟩ := hSw; refine (ld_v (by rfl) (by kernel_rfl) m5).trans ?_; with_reducible rfl)
  try simp only [Act.put, List.setIfInBounds_toArray, List.set_cons_zero, List.set_cons_succ, List.getElem_toArray, List.getElem_cons_zero, List.getElem_cons_succ]
  refine wpAnyH_ready (rs := [26]) (tab_ready 67108863 hT (by kernel_rfl) (by kernel_rfl) (by kernel_rfl)) (by simp) ?_
  refine AllReadyH.con1 (o := { dst := some 60, op := Go.Op.call { callee := Go.Callee.value (Go.Operand.func 29), args := #[Go.Operand.tmp 59], argTypes := #[30] }, type := 4, pos := "law.go:232", after := #[{ on := 25, ground := Go.Ground.data }, { on := 24, ground := Go.Ground.chain }, { on := 24, ground := Go.Ground.guard }], guard := some (24, true) }) (by kernel_rfl) (by kernel_rfl) (fun K hK => ?_) AllReadyH.nil
  go_simp
  with_reducible refine (r_V _ _).mono ?_
  rintro e w14 ⟨rfl, hb⟩
  replace D1 := D1.on hb
  replace h3 := h3.on hb
  replace D3 := D3.on hb
  replace D5 := D5.on hb
  replace D7 := D7.on hb
  replace D9 := D9.on hb
  replace hst := hst.on hb
  replace D10 := D10.on hb
  replace bz := bz.trans (hb.mono bz.size)
  clear hb
  refine hK.out _ _ ⟨D1, D3, D5, D7, D9, D10⟩ (fun hH => ?_)
  clear hK K hS
  have hS := hH
  clear hH
  try simp only [Act.put, List.setIfInBounds_toArray, List.set_cons_zero, List.set_cons_succ, List.getElem_toArray, List.getElem_cons_zero, List.getElem_cons_succ]
  refine wpAnyH_take (i := 27) (oi := { dst := some 61, op := Go.Op.pick (Go.Operand.tmp 58) (Go.Operand.tmp 60) (Go.Operand.const (Go.Value.bool false)), type := 4, pos := "law.go:232", after := #[{ on := 24, ground := Go.Ground.data }, { on := 26, ground := Go.Ground.data }], guard := none }) (v := ?v27_20) (by kernel_rfl) (tab_ns hT) (tab_free 134217727 hT (by kernel_rfl) (by kernel_rfl)) (tab_rdy 134217727 hT (by kernel_rfl) (by kernel_rfl) (by kernel_rfl)) (fun _ _ _ h => h) (Or.inl ⟨by kernel_rfl, ?hy27_20⟩) (by assumption) ?rest27_20
  case hy27_20 => (intro w9 hSw; clear hSw; go_simp; try with_reducible rfl)
  try simp only [Act.put, List.setIfInBounds_toArray, List.set_cons_zero, List.set_cons_succ, List.getElem_toArray, List.getElem_cons_zero, List.getElem_cons_succ]
  refine wpAnyH_take (i := 28) (oi := { dst := some 62, op := Go.Op.move (Go.Operand.tmp 61), type := 4, pos := "law.go:232", after := #[{ on := 27, ground := Go.Ground.data }, { on := 26, ground := Go.Ground.chain }], guard := none }) (v := ?v28_21) (by kernel_rfl) (tab_ns hT) (tab_free 268435455 hT (by kernel_rfl) (by kernel_rfl)) (tab_rdy 268435455 hT (by kernel_rfl) (by kernel_rfl) (by kernel_rfl)) (fun _ _ _ h => h) (Or.inl ⟨by kernel_rfl, ?hy28_21⟩) (by assumption) ?rest28_21
  case hy28_21 => (intro w9 hSw; clear hSw; go_simp; try with_reducible rfl)
  try simp only [Act.put, List.setIfInBounds_toArray, List.set_cons_zero, List.set_cons_succ, List.getElem_toArray, List.getElem_cons_zero, List.getElem_cons_succ]
  refine wpAnyH_take (i := 29) (oi := { dst := some 63, op := Go.Op.load 30 (Go.Operand.tmp 7), type := 30, pos := "law.go:232", after := #[{ on := 28, ground := Go.Ground.guard }], guard := some (28, true) }) (v := ?v29_22) (by kernel_rfl) (tab_ns hT) (tab_free 536870911 hT (by kernel_rfl) (by kernel_rfl)) (tab_rdy 536870911 hT (by kernel_rfl) (by kernel_rfl) (by kernel_rfl)) (fun _ _ _ h => h) (Or.inl ⟨by kernel_rfl, ?hy29_22⟩) (by assumption) ?rest29_22
  case hy29_22 => (intro w9 hSw; obtain ⟨m1, m3, m5, m7, m9, m10⟩ := hSw; refine (ld_v (by rfl) (by kernel_rfl) m7).trans ?_; with_reducible rfl)
  try simp only [Act.put, List.setIfInBounds_toArray, List.set_cons_zero, List.set_cons_succ, List.getElem_toArray, List.getElem_cons_zero, List.getElem_cons_succ]
  refine wpAnyH_ready (rs := [30]) (tab_ready 1073741823 hT (by kernel_rfl) (by kernel_rfl) (by kernel_rfl)) (by simp) ?_
  refine AllReadyH.con1 (o := { dst := some 64, op := Go.Op.call { callee := Go.Callee.value (Go.Operand.func 29), args := #[Go.Operand.tmp 63], argTypes := #[30] }, type := 4, pos := "law.go:232", after := #[{ on := 29, ground := Go.Ground.data }, { on := 28, ground := Go.Ground.chain }, { on := 28, ground := Go.Ground.guard }], guard := some (28, true) }) (by kernel_rfl) (by kernel_rfl) (fun K hK => ?_) AllReadyH.nil
  go_simp
  with_reducible refine (t_V _ _).mono ?_
  rintro e w15 ⟨rfl, hb⟩
  replace D1 := D1.on hb
  replace h3 := h3.on hb
  replace D3 := D3.on hb
  replace D5 := D5.on hb
  replace D7 := D7.on hb
  replace D9 := D9.on hb
  replace hst := hst.on hb
  replace D10 := D10.on hb
  replace bz := bz.trans (hb.mono bz.size)
  clear hb
  refine hK.out _ _ ⟨D1, D3, D5, D7, D9, D10⟩ (fun hH => ?_)
  clear hK K hS
  have hS := hH
  clear hH
  try simp only [Act.put, List.setIfInBounds_toArray, List.set_cons_zero, List.set_cons_succ, List.getElem_toArray, List.getElem_cons_zero, List.getElem_cons_succ]
  refine wpAnyH_take (i := 31) (oi := { dst := some 65, op := Go.Op.unOp Go.UnOp.not 4 (Go.Operand.tmp 64), type := 4, pos := "law.go:232", after := #[{ on := 30, ground := Go.Ground.data }, { on := 28, ground := Go.Ground.guard }], guard := some (28, true) }) (v := ?v31_23) (by kernel_rfl) (tab_ns hT) (tab_free 2147483647 hT (by kernel_rfl) (by kernel_rfl)) (tab_rdy 2147483647 hT (by kernel_rfl) (by kernel_rfl) (by kernel_rfl)) (fun _ _ _ h => h) (Or.inl ⟨by kernel_rfl, ?hy31_23⟩) (by assumption) ?rest31_23
  case hy31_23 => (intro w9 hSw; clear hSw; go_simp; try with_reducible rfl)
  try simp only [Act.put, List.setIfInBounds_toArray, List.set_cons_zero, List.set_cons_succ, List.getElem_toArray, List.getElem_cons_zero, List.getElem_cons_succ]
  refine wpAnyH_take (i := 32) (oi := { dst := some 66, op := Go.Op.pick (Go.Operand.tmp 62) (Go.Operand.tmp 65) (Go.Operand.const (Go.Value.bool false)), type := 4, pos := "law.go:232", after := #[{ on := 28, ground := Go.Ground.data }, { on := 31, ground := Go.Ground.data }], guard := none }) (v := ?v32_24) (by kernel_rfl) (tab_ns hT) (tab_free 4294967295 hT (by kernel_rfl) (by kernel_rfl)) (tab_rdy 4294967295 hT (by kernel_rfl) (by kernel_rfl) (by kernel_rfl)) (fun _ _ _ h => h) (Or.inl ⟨by kernel_rfl, ?hy32_24⟩) (by assumption) ?rest32_24
  case hy32_24 => (intro w9 hSw; clear hSw; go_simp; try with_reducible rfl)
  try simp only [Act.put, List.setIfInBounds_toArray, List.set_cons_zero, List.set_cons_succ, List.getElem_toArray, List.getElem_cons_zero, List.getElem_cons_succ]
  refine wpAnyH_take (i := 33) (oi := { dst := some 67, op := Go.Op.move (Go.Operand.tmp 66), type := 4, pos := "law.go:232", after := #[{ on := 32, ground := Go.Ground.data }, { on := 30, ground := Go.Ground.chain }], guard := none }) (v := ?v33_25) (by kernel_rfl) (tab_ns hT) (tab_free 8589934591 hT (by kernel_rfl) (by kernel_rfl)) (tab_rdy 8589934591 hT (by kernel_rfl) (by kernel_rfl) (by kernel_rfl)) (fun _ _ _ h => h) (Or.inl ⟨by kernel_rfl, ?hy33_25⟩) (by assumption) ?rest33_25
  case hy33_25 => (intro w9 hSw; clear hSw; go_simp; try with_reducible rfl)
  try simp only [Act.put, List.setIfInBounds_toArray, List.set_cons_zero, List.set_cons_succ, List.getElem_toArray, List.getElem_cons_zero, List.getElem_cons_succ]
  refine wpAnyH_take (i := 34) (oi := { dst := some 68, op := Go.Op.load 30 (Go.Operand.tmp 3), type := 30, pos := "law.go:232", after := #[{ on := 33, ground := Go.Ground.guard }], guard := some (33, true) }) (v := ?v34_26) (by kernel_rfl) (tab_ns hT) (tab_free 17179869183 hT (by kernel_rfl) (by kernel_rfl)) (tab_rdy 17179869183 hT (by kernel_rfl) (by kernel_rfl) (by kernel_rfl)) (fun _ _ _ h => h) (Or.inl ⟨by kernel_rfl, ?hy34_26⟩) (by assumption) ?rest34_26
  case hy34_26 => (intro w9 hSw; obtain ⟨m1, m3, m5, m7, m9, m10⟩ := hSw; refine (ld_v (by rfl) (by kernel_rfl) m3).trans ?_; with_reducible rfl)
  try simp only [Act.put, List.setIfInBounds_toArray, List.set_cons_zero, List.set_cons_succ, List.getElem_toArray, List.getElem_cons_zero, List.getElem_cons_succ]
  refine wpAnyH_ready (rs := [35]) (tab_ready 34359738367 hT (by kernel_rfl) (by kernel_rfl) (by kernel_rfl)) (by simp) ?_
  refine AllReadyH.con1 (o := { dst := some 69, op := Go.Op.call { callee := Go.Callee.value (Go.Operand.func 31), args := #[Go.Operand.tmp 68], argTypes := #[30] }, type := 3, pos := "law.go:232", after := #[{ on := 34, ground := Go.Ground.data }, { on := 33, ground := Go.Ground.chain }, { on := 33, ground := Go.Ground.guard }], guard := some (33, true) }) (by kernel_rfl) (by kernel_rfl) (fun K hK => ?_) AllReadyH.nil
  go_simp
  with_reducible refine (n_L _ _).mono ?_
  rintro e w16 ⟨rfl, hb⟩
  replace D1 := D1.on hb
  replace h3 := h3.on hb
  replace D3 := D3.on hb
  replace D5 := D5.on hb
  replace D7 := D7.on hb
  replace D9 := D9.on hb
  replace hst := hst.on hb
  replace D10 := D10.on hb
  replace bz := bz.trans (hb.mono bz.size)
  clear hb
  refine hK.out _ _ ⟨D1, D3, D5, D7, D9, D10⟩ (fun hH => ?_)
  clear hK K hS
  have hS := hH
  clear hH
  try simp only [Act.put, List.setIfInBounds_toArray, List.set_cons_zero, List.set_cons_succ, List.getElem_toArray, List.getElem_cons_zero, List.getElem_cons_succ]
  refine wpAnyH_take (i := 36) (oi := { dst := some 70, op := Go.Op.binOp Go.BinOp.eql 3 (Go.Operand.tmp 69) (Go.Operand.const (Go.Value.int Go.IntKind.i64 0)) 3, type := 4, pos := "law.go:232", after := #[{ on := 35, ground := Go.Ground.data }, { on := 33, ground := Go.Ground.guard }], guard := some (33, true) }) (v := ?v36_27) (by kernel_rfl) (tab_ns hT) (tab_free 68719476735 hT (by kernel_rfl) (by kernel_rfl)) (tab_rdy 68719476735 hT (by kernel_rfl) (by kernel_rfl) (by kernel_rfl)) (fun _ _ _ h => h) (Or.inl ⟨by kernel_rfl, ?hy36_27⟩) (by assumption) ?rest36_27
  case hy36_27 => (intro w9 hSw; clear hSw; go_simp; try with_reducible rfl)
  try simp only [Act.put, List.setIfInBounds_toArray, List.set_cons_zero, List.set_cons_succ, List.getElem_toArray, List.getElem_cons_zero, List.getElem_cons_succ]
  refine wpAnyH_take (i := 37) (oi := { dst := some 71, op := Go.Op.pick (Go.Operand.tmp 67) (Go.Operand.tmp 70) (Go.Operand.const (Go.Value.bool false)), type := 4, pos := "law.go:232", after := #[{ on := 33, ground := Go.Ground.data }, { on := 36, ground := Go.Ground.data }], guard := none }) (v := ?v37_28) (by kernel_rfl) (tab_ns hT) (tab_free 137438953471 hT (by kernel_rfl) (by kernel_rfl)) (tab_rdy 137438953471 hT (by kernel_rfl) (by kernel_rfl) (by kernel_rfl)) (fun _ _ _ h => h) (Or.inl ⟨by kernel_rfl, ?hy37_28⟩) (by assumption) ?rest37_28
  case hy37_28 => (intro w9 hSw; clear hSw; go_simp; try with_reducible rfl)
  try simp only [Act.put, List.setIfInBounds_toArray, List.set_cons_zero, List.set_cons_succ, List.getElem_toArray, List.getElem_cons_zero, List.getElem_cons_succ]
  refine wpAnyH_take (i := 38) (oi := { dst := some 72, op := Go.Op.move (Go.Operand.tmp 71), type := 4, pos := "law.go:232", after := #[{ on := 37, ground := Go.Ground.data }, { on := 35, ground := Go.Ground.chain }], guard := none }) (v := ?v38_29) (by kernel_rfl) (tab_ns hT) (tab_free 274877906943 hT (by kernel_rfl) (by kernel_rfl)) (tab_rdy 274877906943 hT (by kernel_rfl) (by kernel_rfl) (by kernel_rfl)) (fun _ _ _ h => h) (Or.inl ⟨by kernel_rfl, ?hy38_29⟩) (by assumption) ?rest38_29
  case hy38_29 => (intro w9 hSw; clear hSw; go_simp; try with_reducible rfl)
  try simp only [Act.put, List.setIfInBounds_toArray, List.set_cons_zero, List.set_cons_succ, List.getElem_toArray, List.getElem_cons_zero, List.getElem_cons_succ]
  refine wpAnyH_take (i := 39) (oi := { dst := some 73, op := Go.Op.load 30 (Go.Operand.tmp 3), type := 30, pos := "law.go:232", after := #[{ on := 38, ground := Go.Ground.guard }], guard := some (38, true) }) (v := ?v39_30) (by kernel_rfl) (tab_ns hT) (tab_free 549755813887 hT (by kernel_rfl) (by kernel_rfl)) (tab_rdy 549755813887 hT (by kernel_rfl) (by kernel_rfl) (by kernel_rfl)) (fun _ _ _ h => h) (Or.inl ⟨by kernel_rfl, ?hy39_30⟩) (by assumption) ?rest39_30
  case hy39_30 => (intro w9 hSw; obtain ⟨m1, m3, m5, m7, m9, m10⟩ := hSw; refine (ld_v (by rfl) (by kernel_rfl) m3).trans ?_; with_reducible rfl)
  try simp only [Act.put, List.setIfInBounds_toArray, List.set_cons_zero, List.set_cons_succ, List.getElem_toArray, List.getElem_cons_zero, List.getElem_cons_succ]
  refine wpAnyH_take (i := 40) (oi := { dst := some 74, op := Go.Op.load 30 (Go.Operand.tmp 3), type := 30, pos := "law.go:232", after := #[{ on := 38, ground := Go.Ground.guard }], guard := some (38, true) }) (v := ?v40_31) (by kernel_rfl) (tab_ns hT) (tab_free 1099511627775 hT (by kernel_rfl) (by kernel_rfl)) (tab_rdy 1099511627775 hT (by kernel_rfl) (by kernel_rfl) (by kernel_rfl)) (fun _ _ _ h => h) (Or.inl ⟨by kernel_rfl, ?hy40_31⟩) (by assumption) ?rest40_31
  case hy40_31 => (intro w9 hSw; obtain ⟨m1, m3, m5, m7, m9, m10⟩ := hSw; refine (ld_v (by rfl) (by kernel_rfl) m3).trans ?_; with_reducible rfl)
  try simp only [Act.put, List.setIfInBounds_toArray, List.set_cons_zero, List.set_cons_succ, List.getElem_toArray, List.getElem_cons_zero, List.getElem_cons_succ]
  refine wpAnyH_ready (rs := [41]) (tab_ready 2199023255551 hT (by kernel_rfl) (by kernel_rfl) (by kernel_rfl)) (by simp) ?_
  refine AllReadyH.con1 (o := { dst := some 75, op := Go.Op.call { callee := Go.Callee.value (Go.Operand.func 15), args := #[Go.Operand.tmp 73, Go.Operand.tmp 74], argTypes := #[30, 30] }, type := 4, pos := "law.go:232", after := #[{ on := 39, ground := Go.Ground.data }, { on := 40, ground := Go.Ground.data }, { on := 38, ground := Go.Ground.chain }, { on := 38, ground := Go.Ground.guard }], guard := some (38, true) }) (by kernel_rfl) (by kernel_rfl) (fun K hK => ?_) AllReadyH.nil
  go_simp
  with_reducible refine (n_S h3).mono ?_
  rintro e w17 ⟨rfl, hb⟩
  replace D1 := D1.on hb
  replace h3 := h3.on hb
  replace D3 := D3.on hb
  replace D5 := D5.on hb
  replace D7 := D7.on hb
  replace D9 := D9.on hb
  replace hst := hst.on hb
  replace D10 := D10.on hb
  replace bz := bz.trans (hb.mono bz.size)
  clear hb
  refine hK.out _ _ ⟨D1, D3, D5, D7, D9, D10⟩ (fun hH => ?_)
  clear hK K hS
  have hS := hH
  clear hH
  try simp only [Act.put, List.setIfInBounds_toArray, List.set_cons_zero, List.set_cons_succ, List.getElem_toArray, List.getElem_cons_zero, List.getElem_cons_succ]
  refine wpAnyH_take (i := 42) (oi := { dst := some 76, op := Go.Op.pick (Go.Operand.tmp 72) (Go.Operand.tmp 75) (Go.Operand.const (Go.Value.bool false)), type := 4, pos := "law.go:232", after := #[{ on := 38, ground := Go.Ground.data }, { on := 41, ground := Go.Ground.data }], guard := none }) (v := ?v42_32) (by kernel_rfl) (tab_ns hT) (tab_free 4398046511103 hT (by kernel_rfl) (by kernel_rfl)) (tab_rdy 4398046511103 hT (by kernel_rfl) (by kernel_rfl) (by kernel_rfl)) (fun _ _ _ h => h) (Or.inl ⟨by kernel_rfl, ?hy42_32⟩) (by assumption) ?rest42_32
  case hy42_32 => (intro w9 hSw; clear hSw; go_simp; try with_reducible rfl)
  try simp only [Act.put, List.setIfInBounds_toArray, List.set_cons_zero, List.set_cons_succ, List.getElem_toArray, List.getElem_cons_zero, List.getElem_cons_succ]
  refine wpAnyH_take (i := 43) (oi := { dst := some 77, op := Go.Op.move (Go.Operand.tmp 76), type := 4, pos := "law.go:232", after := #[{ on := 42, ground := Go.Ground.data }, { on := 41, ground := Go.Ground.chain }], guard := none }) (v := ?v43_33) (by kernel_rfl) (tab_ns hT) (tab_free 8796093022207 hT (by kernel_rfl) (by kernel_rfl)) (tab_rdy 8796093022207 hT (by kernel_rfl) (by kernel_rfl) (by kernel_rfl)) (fun _ _ _ h => h) (Or.inl ⟨by kernel_rfl, ?hy43_33⟩) (by assumption) ?rest43_33
  case hy43_33 => (intro w9 hSw; clear hSw; go_simp; try with_reducible rfl)
  try simp only [Act.put, List.setIfInBounds_toArray, List.set_cons_zero, List.set_cons_succ, List.getElem_toArray, List.getElem_cons_zero, List.getElem_cons_succ]
  refine wpAnyH_take (i := 44) (oi := { dst := some 78, op := Go.Op.load 30 (Go.Operand.tmp 3), type := 30, pos := "law.go:232", after := #[{ on := 43, ground := Go.Ground.guard }], guard := some (43, true) }) (v := ?v44_34) (by kernel_rfl) (tab_ns hT) (tab_free 17592186044415 hT (by kernel_rfl) (by kernel_rfl)) (tab_rdy 17592186044415 hT (by kernel_rfl) (by kernel_rfl) (by kernel_rfl)) (fun _ _ _ h => h) (Or.inl ⟨by kernel_rfl, ?hy44_34⟩) (by assumption) ?rest44_34
  case hy44_34 => (intro w9 hSw; obtain ⟨m1, m3, m5, m7, m9, m10⟩ := hSw; refine (ld_v (by rfl) (by kernel_rfl) m3).trans ?_; with_reducible rfl)
  try simp only [Act.put, List.setIfInBounds_toArray, List.set_cons_zero, List.set_cons_succ, List.getElem_toArray, List.getElem_cons_zero, List.getElem_cons_succ]
  refine wpAnyH_take (i := 45) (oi := { dst := some 79, op := Go.Op.load 30 (Go.Operand.tmp 9), type := 30, pos := "law.go:232", after := #[{ on := 43, ground := Go.Ground.guard }], guard := some (43, true) }) (v := ?v45_35) (by kernel_rfl) (tab_ns hT) (tab_free 35184372088831 hT (by kernel_rfl) (by kernel_rfl)) (tab_rdy 35184372088831 hT (by kernel_rfl) (by kernel_rfl) (by kernel_rfl)) (fun _ _ _ h => h) (Or.inl ⟨by kernel_rfl, ?hy45_35⟩) (by assumption) ?rest45_35
  case hy45_35 => (intro w9 hSw; obtain ⟨m1, m3, m5, m7, m9, m10⟩ := hSw; refine (ld_v (by rfl) (by kernel_rfl) m9).trans ?_; with_reducible rfl)
  try simp only [Act.put, List.setIfInBounds_toArray, List.set_cons_zero, List.set_cons_succ, List.getElem_toArray, List.getElem_cons_zero, List.getElem_cons_succ]
  refine wpAnyH_ready (rs := [46]) (tab_ready 70368744177663 hT (by kernel_rfl) (by kernel_rfl) (by kernel_rfl)) (by simp) ?_
  refine AllReadyH.con1 (o := { dst := some 80, op := Go.Op.call { callee := Go.Callee.value (Go.Operand.func 15), args := #[Go.Operand.tmp 78, Go.Operand.tmp 79], argTypes := #[30, 30] }, type := 4, pos := "law.go:232", after := #[{ on := 44, ground := Go.Ground.data }, { on := 45, ground := Go.Ground.data }, { on := 43, ground := Go.Ground.chain }, { on := 43, ground := Go.Ground.guard }], guard := some (43, true) }) (by kernel_rfl) (by kernel_rfl) (fun K hK => ?_) AllReadyH.nil
  go_simp
  with_reducible refine (n_Sz h3).mono ?_
  rintro e w18 ⟨rfl, hb⟩
  replace D1 := D1.on hb
  replace h3 := h3.on hb
  replace D3 := D3.on hb
  replace D5 := D5.on hb
  replace D7 := D7.on hb
  replace D9 := D9.on hb
  replace hst := hst.on hb
  replace D10 := D10.on hb
  replace bz := bz.trans (hb.mono bz.size)
  clear hb
  refine hK.out _ _ ⟨D1, D3, D5, D7, D9, D10⟩ (fun hH => ?_)
  clear hK K hS
  have hS := hH
  clear hH
  try simp only [Act.put, List.setIfInBounds_toArray, List.set_cons_zero, List.set_cons_succ, List.getElem_toArray, List.getElem_cons_zero, List.getElem_cons_succ]
  refine wpAnyH_take (i := 47) (oi := { dst := some 81, op := Go.Op.unOp Go.UnOp.not 4 (Go.Operand.tmp 80), type := 4, pos := "law.go:232", after := #[{ on := 46, ground := Go.Ground.data }, { on := 43, ground := Go.Ground.guard }], guard := some (43, true) }) (v := ?v47_36) (by kernel_rfl) (tab_ns hT) (tab_free 140737488355327 hT (by kernel_rfl) (by kernel_rfl)) (tab_rdy 140737488355327 hT (by kernel_rfl) (by kernel_rfl) (by kernel_rfl)) (fun _ _ _ h => h) (Or.inl ⟨by kernel_rfl, ?hy47_36⟩) (by assumption) ?rest47_36
  case hy47_36 => (intro w9 hSw; clear hSw; go_simp; try with_reducible rfl)
  try simp only [Act.put, List.setIfInBounds_toArray, List.set_cons_zero, List.set_cons_succ, List.getElem_toArray, List.getElem_cons_zero, List.getElem_cons_succ]
  refine wpAnyH_take (i := 48) (oi := { dst := some 82, op := Go.Op.pick (Go.Operand.tmp 77) (Go.Operand.tmp 81) (Go.Operand.const (Go.Value.bool false)), type := 4, pos := "law.go:232", after := #[{ on := 43, ground := Go.Ground.data }, { on := 47, ground := Go.Ground.data }], guard := none }) (v := ?v48_37) (by kernel_rfl) (tab_ns hT) (tab_free 281474976710655 hT (by kernel_rfl) (by kernel_rfl)) (tab_rdy 281474976710655 hT (by kernel_rfl) (by kernel_rfl) (by kernel_rfl)) (fun _ _ _ h => h) (Or.inl ⟨by kernel_rfl, ?hy48_37⟩) (by assumption) ?rest48_37
  case hy48_37 => (intro w9 hSw; clear hSw; go_simp; try with_reducible rfl)
  try simp only [Act.put, List.setIfInBounds_toArray, List.set_cons_zero, List.set_cons_succ, List.getElem_toArray, List.getElem_cons_zero, List.getElem_cons_succ]
  refine wpAnyH_take (i := 49) (oi := { dst := some 83, op := Go.Op.move (Go.Operand.tmp 82), type := 4, pos := "law.go:232", after := #[{ on := 48, ground := Go.Ground.data }, { on := 46, ground := Go.Ground.chain }], guard := none }) (v := ?v49_38) (by kernel_rfl) (tab_ns hT) (tab_free 562949953421311 hT (by kernel_rfl) (by kernel_rfl)) (tab_rdy 562949953421311 hT (by kernel_rfl) (by kernel_rfl) (by kernel_rfl)) (fun _ _ _ h => h) (Or.inl ⟨by kernel_rfl, ?hy49_38⟩) (by assumption) ?rest49_38
  case hy49_38 => (intro w9 hSw; clear hSw; go_simp; try with_reducible rfl)
  try simp only [Act.put, List.setIfInBounds_toArray, List.set_cons_zero, List.set_cons_succ, List.getElem_toArray, List.getElem_cons_zero, List.getElem_cons_succ]
  refine wpAnyH_take (i := 50) (oi := { dst := some 84, op := Go.Op.load 30 (Go.Operand.tmp 9), type := 30, pos := "law.go:232", after := #[{ on := 49, ground := Go.Ground.guard }], guard := some (49, true) }) (v := ?v50_39) (by kernel_rfl) (tab_ns hT) (tab_free 1125899906842623 hT (by kernel_rfl) (by kernel_rfl)) (tab_rdy 1125899906842623 hT (by kernel_rfl) (by kernel_rfl) (by kernel_rfl)) (fun _ _ _ h => h) (Or.inl ⟨by kernel_rfl, ?hy50_39⟩) (by assumption) ?rest50_39
  case hy50_39 => (intro w9 hSw; obtain ⟨m1, m3, m5, m7, m9, m10⟩ := hSw; refine (ld_v (by rfl) (by kernel_rfl) m9).trans ?_; with_reducible rfl)
  try simp only [Act.put, List.setIfInBounds_toArray, List.set_cons_zero, List.set_cons_succ, List.getElem_toArray, List.getElem_cons_zero, List.getElem_cons_succ]
  refine wpAnyH_take (i := 51) (oi := { dst := some 85, op := Go.Op.build 30 #[], type := 30, pos := "law.go:232", after := #[{ on := 49, ground := Go.Ground.guard }], guard := some (49, true) }) (v := ?v51_40) (by kernel_rfl) (tab_ns hT) (tab_free 2251799813685247 hT (by kernel_rfl) (by kernel_rfl)) (tab_rdy 2251799813685247 hT (by kernel_rfl) (by kernel_rfl) (by kernel_rfl)) (fun _ _ _ h => h) (Or.inl ⟨by kernel_rfl, ?hy51_40⟩) (by assumption) ?rest51_40
  case hy51_40 => (intro w9 hSw; clear hSw; go_simp; try with_reducible rfl)
  try simp only [Act.put, List.setIfInBounds_toArray, List.set_cons_zero, List.set_cons_succ, List.getElem_toArray, List.getElem_cons_zero, List.getElem_cons_succ]
  refine wpAnyH_ready (rs := [52]) (tab_ready 4503599627370495 hT (by kernel_rfl) (by kernel_rfl) (by kernel_rfl)) (by simp) ?_
  refine AllReadyH.con1 (o := { dst := some 86, op := Go.Op.call { callee := Go.Callee.value (Go.Operand.func 15), args := #[Go.Operand.tmp 84, Go.Operand.tmp 85], argTypes := #[30, 30] }, type := 4, pos := "law.go:232", after := #[{ on := 50, ground := Go.Ground.data }, { on := 51, ground := Go.Ground.data }, { on := 49, ground := Go.Ground.chain }, { on := 49, ground := Go.Ground.guard }], guard := some (49, true) }) (by kernel_rfl) (by kernel_rfl) (fun K hK => ?_) AllReadyH.nil
  go_simp
  with_reducible refine (k_SZ _).mono ?_
  rintro e w19 ⟨rfl, hb⟩
  replace D1 := D1.on hb
  replace h3 := h3.on hb
  replace D3 := D3.on hb
  replace D5 := D5.on hb
  replace D7 := D7.on hb
  replace D9 := D9.on hb
  replace hst := hst.on hb
  replace D10 := D10.on hb
  replace bz := bz.trans (hb.mono bz.size)
  clear hb
  refine hK.out _ _ ⟨D1, D3, D5, D7, D9, D10⟩ (fun hH => ?_)
  clear hK K hS
  have hS := hH
  clear hH
  try simp only [Act.put, List.setIfInBounds_toArray, List.set_cons_zero, List.set_cons_succ, List.getElem_toArray, List.getElem_cons_zero, List.getElem_cons_succ]
  refine wpAnyH_take (i := 53) (oi := { dst := some 87, op := Go.Op.pick (Go.Operand.tmp 83) (Go.Operand.tmp 86) (Go.Operand.const (Go.Value.bool false)), type := 4, pos := "law.go:232", after := #[{ on := 49, ground := Go.Ground.data }, { on := 52, ground := Go.Ground.data }], guard := none }) (v := ?v53_41) (by kernel_rfl) (tab_ns hT) (tab_free 9007199254740991 hT (by kernel_rfl) (by kernel_rfl)) (tab_rdy 9007199254740991 hT (by kernel_rfl) (by kernel_rfl) (by kernel_rfl)) (fun _ _ _ h => h) (Or.inl ⟨by kernel_rfl, ?hy53_41⟩) (by assumption) ?rest53_41
  case hy53_41 => (intro w9 hSw; clear hSw; go_simp; try with_reducible rfl)
  try simp only [Act.put, List.setIfInBounds_toArray, List.set_cons_zero, List.set_cons_succ, List.getElem_toArray, List.getElem_cons_zero, List.getElem_cons_succ]
  refine wpAnyH_take (i := 54) (oi := { dst := some 88, op := Go.Op.move (Go.Operand.tmp 87), type := 4, pos := "law.go:232", after := #[{ on := 53, ground := Go.Ground.data }, { on := 52, ground := Go.Ground.chain }], guard := none }) (v := ?v54_42) (by kernel_rfl) (tab_ns hT) (tab_free 18014398509481983 hT (by kernel_rfl) (by kernel_rfl)) (tab_rdy 18014398509481983 hT (by kernel_rfl) (by kernel_rfl) (by kernel_rfl)) (fun _ _ _ h => h) (Or.inl ⟨by kernel_rfl, ?hy54_42⟩) (by assumption) ?rest54_42
  case hy54_42 => (intro w9 hSw; clear hSw; go_simp; try with_reducible rfl)
  try simp only [Act.put, List.setIfInBounds_toArray, List.set_cons_zero, List.set_cons_succ, List.getElem_toArray, List.getElem_cons_zero, List.getElem_cons_succ]
  refine wpAnyH_take (i := 55) (oi := { dst := some 89, op := Go.Op.load 30 (Go.Operand.tmp 9), type := 30, pos := "law.go:232", after := #[{ on := 54, ground := Go.Ground.guard }], guard := some (54, true) }) (v := ?v55_43) (by kernel_rfl) (tab_ns hT) (tab_free 36028797018963967 hT (by kernel_rfl) (by kernel_rfl)) (tab_rdy 36028797018963967 hT (by kernel_rfl) (by kernel_rfl) (by kernel_rfl)) (fun _ _ _ h => h) (Or.inl ⟨by kernel_rfl, ?hy55_43⟩) (by assumption) ?rest55_43
  case hy55_43 => (intro w9 hSw; obtain ⟨m1, m3, m5, m7, m9, m10⟩ := hSw; refine (ld_v (by rfl) (by kernel_rfl) m9).trans ?_; with_reducible rfl)
  try simp only [Act.put, List.setIfInBounds_toArray, List.set_cons_zero, List.set_cons_succ, List.getElem_toArray, List.getElem_cons_zero, List.getElem_cons_succ]
  refine wpAnyH_take (i := 57) (oi := { dst := some 91, op := Go.Op.load 30 (Go.Operand.tmp 9), type := 30, pos := "law.go:232", after := #[{ on := 54, ground := Go.Ground.guard }], guard := some (54, true) }) (v := ?v57_44) (by kernel_rfl) (tab_ns hT) (tab_free 72057594037927935 hT (by kernel_rfl) (by kernel_rfl)) (tab_rdy 72057594037927935 hT (by kernel_rfl) (by kernel_rfl) (by kernel_rfl)) (fun _ _ _ h => h) (Or.inl ⟨by kernel_rfl, ?hy57_44⟩) (by assumption) ?rest57_44
  case hy57_44 => (intro w9 hSw; obtain ⟨m1, m3, m5, m7, m9, m10⟩ := hSw; refine (ld_v (by rfl) (by kernel_rfl) m9).trans ?_; with_reducible rfl)
  try simp only [Act.put, List.setIfInBounds_toArray, List.set_cons_zero, List.set_cons_succ, List.getElem_toArray, List.getElem_cons_zero, List.getElem_cons_succ]
  refine wpAnyH_take (i := 60) (oi := { dst := some 94, op := Go.Op.load 30 (Go.Operand.tmp 9), type := 30, pos := "law.go:232", after := #[{ on := 54, ground := Go.Ground.guard }], guard := some (54, true) }) (v := ?v60_45) (by kernel_rfl) (tab_ns hT) (tab_free 216172782113783807 hT (by kernel_rfl) (by kernel_rfl)) (tab_rdy 216172782113783807 hT (by kernel_rfl) (by kernel_rfl) (by kernel_rfl)) (fun _ _ _ h => h) (Or.inl ⟨by kernel_rfl, ?hy60_45⟩) (by assumption) ?rest60_45
  case hy60_45 => (intro w9 hSw; obtain ⟨m1, m3, m5, m7, m9, m10⟩ := hSw; refine (ld_v (by rfl) (by kernel_rfl) m9).trans ?_; with_reducible rfl)
  try simp only [Act.put, List.setIfInBounds_toArray, List.set_cons_zero, List.set_cons_succ, List.getElem_toArray, List.getElem_cons_zero, List.getElem_cons_succ]
  refine wpAnyH_ready (rs := [56]) (tab_ready 1369094286720630783 hT (by kernel_rfl) (by kernel_rfl) (by kernel_rfl)) (by simp) ?_
  refine AllReadyH.con1 (o := { dst := some 90, op := Go.Op.call { callee := Go.Callee.value (Go.Operand.func 21), args := #[Go.Operand.tmp 89], argTypes := #[30] }, type := 3, pos := "law.go:232", after := #[{ on := 55, ground := Go.Ground.data }, { on := 54, ground := Go.Ground.chain }, { on := 54, ground := Go.Ground.guard }], guard := some (54, true) }) (by kernel_rfl) (by kernel_rfl) (fun K hK => ?_) AllReadyH.nil
  go_simp
  with_reducible refine (z_R _).mono ?_
  rintro e w20 ⟨rfl, hb⟩
  replace D1 := D1.on hb
  replace h3 := h3.on hb
  replace D3 := D3.on hb
  replace D5 := D5.on hb
  replace D7 := D7.on hb
  replace D9 := D9.on hb
  replace hst := hst.on hb
  replace D10 := D10.on hb
  replace bz := bz.trans (hb.mono bz.size)
  clear hb
  refine hK.out _ _ ⟨D1, D3, D5, D7, D9, D10⟩ (fun hH => ?_)
  clear hK K hS
  have hS := hH
  clear hH
  try simp only [Act.put, List.setIfInBounds_toArray, List.set_cons_zero, List.set_cons_succ, List.getElem_toArray, List.getElem_cons_zero, List.getElem_cons_succ]
  refine wpAnyH_ready (rs := [58]) (tab_ready 1441151880758558719 hT (by kernel_rfl) (by kernel_rfl) (by kernel_rfl)) (by simp) ?_
  refine AllReadyH.con1 (o := { dst := some 92, op := Go.Op.call { callee := Go.Callee.value (Go.Operand.func 22), args := #[Go.Operand.tmp 91], argTypes := #[30] }, type := 3, pos := "law.go:232", after := #[{ on := 57, ground := Go.Ground.data }, { on := 56, ground := Go.Ground.chain }, { on := 54, ground := Go.Ground.guard }], guard := some (54, true) }) (by kernel_rfl) (by kernel_rfl) (fun K hK => ?_) AllReadyH.nil
  go_simp
  with_reducible refine (z_Cl _).mono ?_
  rintro e w21 ⟨rfl, hb⟩
  replace D1 := D1.on hb
  replace h3 := h3.on hb
  replace D3 := D3.on hb
  replace D5 := D5.on hb
  replace D7 := D7.on hb
  replace D9 := D9.on hb
  replace hst := hst.on hb
  replace D10 := D10.on hb
  replace bz := bz.trans (hb.mono bz.size)
  clear hb
  refine hK.out _ _ ⟨D1, D3, D5, D7, D9, D10⟩ (fun hH => ?_)
  clear hK K hS
  have hS := hH
  clear hH
  try simp only [Act.put, List.setIfInBounds_toArray, List.set_cons_zero, List.set_cons_succ, List.getElem_toArray, List.getElem_cons_zero, List.getElem_cons_succ]
  refine wpAnyH_take (i := 59) (oi := { dst := some 93, op := Go.Op.binOp Go.BinOp.add 3 (Go.Operand.tmp 90) (Go.Operand.tmp 92) 3, type := 3, pos := "law.go:232", after := #[{ on := 56, ground := Go.Ground.data }, { on := 58, ground := Go.Ground.data }, { on := 54, ground := Go.Ground.guard }], guard := some (54, true) }) (v := ?v59_46) (by kernel_rfl) (tab_ns hT) (tab_free 1729382256910270463 hT (by kernel_rfl) (by kernel_rfl)) (tab_rdy 1729382256910270463 hT (by kernel_rfl) (by kernel_rfl) (by kernel_rfl)) (fun _ _ _ h => h) (Or.inl ⟨by kernel_rfl, ?hy59_46⟩) (by assumption) ?rest59_46
  case hy59_46 => (intro w9 hSw; clear hSw; go_simp; try with_reducible rfl)
  try simp only [Act.put, List.setIfInBounds_toArray, List.set_cons_zero, List.set_cons_succ, List.getElem_toArray, List.getElem_cons_zero, List.getElem_cons_succ]
  refine wpAnyH_ready (rs := [61]) (tab_ready 2305843009213693951 hT (by kernel_rfl) (by kernel_rfl) (by kernel_rfl)) (by simp) ?_
  refine AllReadyH.con1 (o := { dst := some 95, op := Go.Op.call { callee := Go.Callee.value (Go.Operand.func 31), args := #[Go.Operand.tmp 94], argTypes := #[30] }, type := 3, pos := "law.go:232", after := #[{ on := 60, ground := Go.Ground.data }, { on := 58, ground := Go.Ground.chain }, { on := 54, ground := Go.Ground.guard }], guard := some (54, true) }) (by kernel_rfl) (by kernel_rfl) (fun K hK => ?_) AllReadyH.nil
  go_simp
  with_reducible refine (z_L _).mono ?_
  rintro e w22 ⟨rfl, hb⟩
  replace D1 := D1.on hb
  replace h3 := h3.on hb
  replace D3 := D3.on hb
  replace D5 := D5.on hb
  replace D7 := D7.on hb
  replace D9 := D9.on hb
  replace hst := hst.on hb
  replace D10 := D10.on hb
  replace bz := bz.trans (hb.mono bz.size)
  clear hb
  refine hK.out _ _ ⟨D1, D3, D5, D7, D9, D10⟩ (fun hH => ?_)
  clear hK K hS
  have hS := hH
  clear hH
  try simp only [Act.put, List.setIfInBounds_toArray, List.set_cons_zero, List.set_cons_succ, List.getElem_toArray, List.getElem_cons_zero, List.getElem_cons_succ]
  refine wpAnyH_take (i := 62) (oi := { dst := some 96, op := Go.Op.binOp Go.BinOp.add 3 (Go.Operand.tmp 93) (Go.Operand.tmp 95) 3, type := 3, pos := "law.go:232", after := #[{ on := 59, ground := Go.Ground.data }, { on := 61, ground := Go.Ground.data }, { on := 54, ground := Go.Ground.guard }], guard := some (54, true) }) (v := ?v62_47) (by kernel_rfl) (tab_ns hT) (tab_free 4611686018427387903 hT (by kernel_rfl) (by kernel_rfl)) (tab_rdy 4611686018427387903 hT (by kernel_rfl) (by kernel_rfl) (by kernel_rfl)) (fun _ _ _ h => h) (Or.inl ⟨by kernel_rfl, ?hy62_47⟩) (by assumption) ?rest62_47
  case hy62_47 => (intro w9 hSw; clear hSw; go_simp; try with_reducible rfl)
  try simp only [Act.put, List.setIfInBounds_toArray, List.set_cons_zero, List.set_cons_succ, List.getElem_toArray, List.getElem_cons_zero, List.getElem_cons_succ]
  refine wpAnyH_take (i := 63) (oi := { dst := some 97, op := Go.Op.binOp Go.BinOp.eql 3 (Go.Operand.tmp 96) (Go.Operand.const (Go.Value.int Go.IntKind.i64 0)) 3, type := 4, pos := "law.go:232", after := #[{ on := 62, ground := Go.Ground.data }, { on := 54, ground := Go.Ground.guard }], guard := some (54, true) }) (v := ?v63_48) (by kernel_rfl) (tab_ns hT) (tab_free 9223372036854775807 hT (by kernel_rfl) (by kernel_rfl)) (tab_rdy 9223372036854775807 hT (by kernel_rfl) (by kernel_rfl) (by kernel_rfl)) (fun _ _ _ h => h) (Or.inl ⟨by kernel_rfl, ?hy63_48⟩) (by assumption) ?rest63_48
  case hy63_48 => (intro w9 hSw; clear hSw; go_simp; try with_reducible rfl)
  try simp only [Act.put, List.setIfInBounds_toArray, List.set_cons_zero, List.set_cons_succ, List.getElem_toArray, List.getElem_cons_zero, List.getElem_cons_succ]
  refine wpAnyH_take (i := 64) (oi := { dst := some 98, op := Go.Op.pick (Go.Operand.tmp 88) (Go.Operand.tmp 97) (Go.Operand.const (Go.Value.bool false)), type := 4, pos := "law.go:232", after := #[{ on := 54, ground := Go.Ground.data }, { on := 63, ground := Go.Ground.data }], guard := none }) (v := ?v64_49) (by kernel_rfl) (tab_ns hT) (tab_free 18446744073709551615 hT (by kernel_rfl) (by kernel_rfl)) (tab_rdy 18446744073709551615 hT (by kernel_rfl) (by kernel_rfl) (by kernel_rfl)) (fun _ _ _ h => h) (Or.inl ⟨by kernel_rfl, ?hy64_49⟩) (by assumption) ?rest64_49
  case hy64_49 => (intro w9 hSw; clear hSw; go_simp; try with_reducible rfl)
  try simp only [Act.put, List.setIfInBounds_toArray, List.set_cons_zero, List.set_cons_succ, List.getElem_toArray, List.getElem_cons_zero, List.getElem_cons_succ]
  refine wpAnyH_take (i := 65) (oi := { dst := some 99, op := Go.Op.move (Go.Operand.tmp 98), type := 4, pos := "law.go:232", after := #[{ on := 64, ground := Go.Ground.data }, { on := 61, ground := Go.Ground.chain }], guard := none }) (v := ?v65_50) (by kernel_rfl) (tab_ns hT) (tab_free 36893488147419103231 hT (by kernel_rfl) (by kernel_rfl)) (tab_rdy 36893488147419103231 hT (by kernel_rfl) (by kernel_rfl) (by kernel_rfl)) (fun _ _ _ h => h) (Or.inl ⟨by kernel_rfl, ?hy65_50⟩) (by assumption) ?rest65_50
  case hy65_50 => (intro w9 hSw; clear hSw; go_simp; try with_reducible rfl)
  try simp only [Act.put, List.setIfInBounds_toArray, List.set_cons_zero, List.set_cons_succ, List.getElem_toArray, List.getElem_cons_zero, List.getElem_cons_succ]
  refine wpAnyH_take (i := 66) (oi := { dst := some 100, op := Go.Op.load 30 (Go.Operand.tmp 9), type := 30, pos := "law.go:232", after := #[{ on := 65, ground := Go.Ground.guard }], guard := some (65, true) }) (v := ?v66_51) (by kernel_rfl) (tab_ns hT) (tab_free 73786976294838206463 hT (by kernel_rfl) (by kernel_rfl)) (tab_rdy 73786976294838206463 hT (by kernel_rfl) (by kernel_rfl) (by kernel_rfl)) (fun _ _ _ h => h) (Or.inl ⟨by kernel_rfl, ?hy66_51⟩) (by assumption) ?rest66_51
  case hy66_51 => (intro w9 hSw; obtain ⟨m1, m3, m5, m7, m9, m10⟩ := hSw; refine (ld_v (by rfl) (by kernel_rfl) m9).trans ?_; with_reducible rfl)
  try simp only [Act.put, List.setIfInBounds_toArray, List.set_cons_zero, List.set_cons_succ, List.getElem_toArray, List.getElem_cons_zero, List.getElem_cons_succ]
  refine wpAnyH_ready (rs := [67]) (tab_ready 147573952589676412927 hT (by kernel_rfl) (by kernel_rfl) (by kernel_rfl)) (by simp) ?_
  refine AllReadyH.con1 (o := { dst := some 101, op := Go.Op.call { callee := Go.Callee.value (Go.Operand.func 25), args := #[Go.Operand.tmp 100, Go.Operand.const (Go.Value.int Go.IntKind.i64 0), Go.Operand.const (Go.Value.int Go.IntKind.i64 0)], argTypes := #[30, 3, 3] }, type := 37, pos := "law.go:232", after := #[{ on := 66, ground := Go.Ground.data }, { on := 65, ground := Go.Ground.chain }, { on := 65, ground := Go.Ground.guard }], guard := some (65, true) }) (by kernel_rfl) (by kernel_rfl) (fun K hK => ?_) AllReadyH.nil
  go_simp
  with_reducible refine (z_At _).mono ?_
  rintro e w23 ⟨rfl, hb⟩
  replace D1 := D1.on hb
  replace h3 := h3.on hb
  replace D3 := D3.on hb
  replace D5 := D5.on hb
  replace D7 := D7.on hb
  replace D9 := D9.on hb
  replace hst := hst.on hb
  replace D10 := D10.on hb
  replace bz := bz.trans (hb.mono bz.size)
  clear hb
  refine hK.out _ _ ⟨D1, D3, D5, D7, D9, D10⟩ (fun hH => ?_)
  clear hK K hS
  have hS := hH
  clear hH
  try simp only [Act.put, List.setIfInBounds_toArray, List.set_cons_zero, List.set_cons_succ, List.getElem_toArray, List.getElem_cons_zero, List.getElem_cons_succ]
  refine wpAnyH_take (i := 68) (oi := { dst := some 102, op := Go.Op.binOp Go.BinOp.eql 37 (Go.Operand.tmp 101) (Go.Operand.const (Go.Value.float Go.FloatKind.f64 0)) 37, type := 4, pos := "law.go:232", after := #[{ on := 67, ground := Go.Ground.data }, { on := 65, ground := Go.Ground.guard }], guard := some (65, true) }) (v := ?v68_52) (by kernel_rfl) (tab_ns hT) (tab_free 295147905179352825855 hT (by kernel_rfl) (by kernel_rfl)) (tab_rdy 295147905179352825855 hT (by kernel_rfl) (by kernel_rfl) (by kernel_rfl)) (fun _ _ _ h => h) (Or.inl ⟨by kernel_rfl, ?hy68_52⟩) (by assumption) ?rest68_52
  case hy68_52 => (intro w9 hSw; clear hSw; go_simp; try with_reducible rfl)
  try simp only [Act.put, List.setIfInBounds_toArray, List.set_cons_zero, List.set_cons_succ, List.getElem_toArray, List.getElem_cons_zero, List.getElem_cons_succ]
  refine wpAnyH_take (i := 69) (oi := { dst := some 103, op := Go.Op.pick (Go.Operand.tmp 99) (Go.Operand.tmp 102) (Go.Operand.const (Go.Value.bool false)), type := 4, pos := "law.go:232", after := #[{ on := 65, ground := Go.Ground.data }, { on := 68, ground := Go.Ground.data }], guard := none }) (v := ?v69_53) (by kernel_rfl) (tab_ns hT) (tab_free 590295810358705651711 hT (by kernel_rfl) (by kernel_rfl)) (tab_rdy 590295810358705651711 hT (by kernel_rfl) (by kernel_rfl) (by kernel_rfl)) (fun _ _ _ h => h) (Or.inl ⟨by kernel_rfl, ?hy69_53⟩) (by assumption) ?rest69_53
  case hy69_53 => (intro w9 hSw; clear hSw; go_simp; try with_reducible rfl)
  try simp only [Act.put, List.setIfInBounds_toArray, List.set_cons_zero, List.set_cons_succ, List.getElem_toArray, List.getElem_cons_zero, List.getElem_cons_succ]
  refine wpAnyH_take (i := 70) (oi := { dst := some 104, op := Go.Op.move (Go.Operand.tmp 103), type := 4, pos := "law.go:232", after := #[{ on := 69, ground := Go.Ground.data }, { on := 67, ground := Go.Ground.chain }], guard := none }) (v := ?v70_54) (by kernel_rfl) (tab_ns hT) (tab_free 1180591620717411303423 hT (by kernel_rfl) (by kernel_rfl)) (tab_rdy 1180591620717411303423 hT (by kernel_rfl) (by kernel_rfl) (by kernel_rfl)) (fun _ _ _ h => h) (Or.inl ⟨by kernel_rfl, ?hy70_54⟩) (by assumption) ?rest70_54
  case hy70_54 => (intro w9 hSw; clear hSw; go_simp; try with_reducible rfl)
  try simp only [Act.put, List.setIfInBounds_toArray, List.set_cons_zero, List.set_cons_succ, List.getElem_toArray, List.getElem_cons_zero, List.getElem_cons_succ]
  refine wpAnyH_take (i := 71) (oi := { dst := some 105, op := Go.Op.load 30 (Go.Operand.tmp 9), type := 30, pos := "law.go:232", after := #[{ on := 70, ground := Go.Ground.guard }], guard := some (70, true) }) (v := ?v71_55) (by kernel_rfl) (tab_ns hT) (tab_free 2361183241434822606847 hT (by kernel_rfl) (by kernel_rfl)) (tab_rdy 2361183241434822606847 hT (by kernel_rfl) (by kernel_rfl) (by kernel_rfl)) (fun _ _ _ h => h) (Or.inl ⟨by kernel_rfl, ?hy71_55⟩) (by assumption) ?rest71_55
  case hy71_55 => (intro w9 hSw; obtain ⟨m1, m3, m5, m7, m9, m10⟩ := hSw; refine (ld_v (by rfl) (by kernel_rfl) m9).trans ?_; with_reducible rfl)
  try simp only [Act.put, List.setIfInBounds_toArray, List.set_cons_zero, List.set_cons_succ, List.getElem_toArray, List.getElem_cons_zero, List.getElem_cons_succ]
  refine wpAnyH_ready (rs := [72]) (tab_ready 4722366482869645213695 hT (by kernel_rfl) (by kernel_rfl) (by kernel_rfl)) (by simp) ?_
  refine AllReadyH.con1 (o := { dst := some 106, op := Go.Op.call { callee := Go.Callee.value (Go.Operand.func 35), args := #[Go.Operand.tmp 105, Go.Operand.const (Go.Value.int Go.IntKind.i64 0)], argTypes := #[30, 3] }, type := 37, pos := "law.go:232", after := #[{ on := 71, ground := Go.Ground.data }, { on := 70, ground := Go.Ground.chain }, { on := 70, ground := Go.Ground.guard }], guard := some (70, true) }) (by kernel_rfl) (by kernel_rfl) (fun K hK => ?_) AllReadyH.nil
  go_simp
  with_reducible refine (z_Get hst).mono ?_
  rintro e w24 ⟨rfl, hb⟩
  replace D1 := D1.on hb
  replace h3 := h3.on hb
  replace D3 := D3.on hb
  replace D5 := D5.on hb
  replace D7 := D7.on hb
  replace D9 := D9.on hb
  replace hst := hst.on hb
  replace D10 := D10.on hb
  replace bz := bz.trans (hb.mono bz.size)
  clear hb
  refine hK.out _ _ ⟨D1, D3, D5, D7, D9, D10⟩ (fun hH => ?_)
  clear hK K hS
  have hS := hH
  clear hH
  try simp only [Act.put, List.setIfInBounds_toArray, List.set_cons_zero, List.set_cons_succ, List.getElem_toArray, List.getElem_cons_zero, List.getElem_cons_succ]
  refine wpAnyH_take (i := 73) (oi := { dst := some 107, op := Go.Op.binOp Go.BinOp.eql 37 (Go.Operand.tmp 106) (Go.Operand.const (Go.Value.float Go.FloatKind.f64 0)) 37, type := 4, pos := "law.go:232", after := #[{ on := 72, ground := Go.Ground.data }, { on := 70, ground := Go.Ground.guard }], guard := some (70, true) }) (v := ?v73_56) (by kernel_rfl) (tab_ns hT) (tab_free 9444732965739290427391 hT (by kernel_rfl) (by kernel_rfl)) (tab_rdy 9444732965739290427391 hT (by kernel_rfl) (by kernel_rfl) (by kernel_rfl)) (fun _ _ _ h => h) (Or.inl ⟨by kernel_rfl, ?hy73_56⟩) (by assumption) ?rest73_56
  case hy73_56 => (intro w9 hSw; clear hSw; go_simp; try with_reducible rfl)
  try simp only [Act.put, List.setIfInBounds_toArray, List.set_cons_zero, List.set_cons_succ, List.getElem_toArray, List.getElem_cons_zero, List.getElem_cons_succ]
  refine wpAnyH_take (i := 74) (oi := { dst := some 108, op := Go.Op.pick (Go.Operand.tmp 104) (Go.Operand.tmp 107) (Go.Operand.const (Go.Value.bool false)), type := 4, pos := "law.go:232", after := #[{ on := 70, ground := Go.Ground.data }, { on := 73, ground := Go.Ground.data }], guard := none }) (v := ?v74_57) (by kernel_rfl) (tab_ns hT) (tab_free 18889465931478580854783 hT (by kernel_rfl) (by kernel_rfl)) (tab_rdy 18889465931478580854783 hT (by kernel_rfl) (by kernel_rfl) (by kernel_rfl)) (fun _ _ _ h => h) (Or.inl ⟨by kernel_rfl, ?hy74_57⟩) (by assumption) ?rest74_57
  case hy74_57 => (intro w9 hSw; clear hSw; go_simp; try with_reducible rfl)
  try simp only [Act.put, List.setIfInBounds_toArray, List.set_cons_zero, List.set_cons_succ, List.getElem_toArray, List.getElem_cons_zero, List.getElem_cons_succ]
  refine wpAnyH_take (i := 75) (oi := { dst := some 109, op := Go.Op.move (Go.Operand.tmp 108), type := 4, pos := "law.go:232", after := #[{ on := 74, ground := Go.Ground.data }, { on := 72, ground := Go.Ground.chain }], guard := none }) (v := ?v75_58) (by kernel_rfl) (tab_ns hT) (tab_free 37778931862957161709567 hT (by kernel_rfl) (by kernel_rfl)) (tab_rdy 37778931862957161709567 hT (by kernel_rfl) (by kernel_rfl) (by kernel_rfl)) (fun _ _ _ h => h) (Or.inl ⟨by kernel_rfl, ?hy75_58⟩) (by assumption) ?rest75_58
  case hy75_58 => (intro w9 hSw; clear hSw; go_simp; try with_reducible rfl)
  try simp only [Act.put, List.setIfInBounds_toArray, List.set_cons_zero, List.set_cons_succ, List.getElem_toArray, List.getElem_cons_zero, List.getElem_cons_succ]
  refine wpAnyH_take (i := 76) (oi := { dst := some 110, op := Go.Op.load 30 (Go.Operand.tmp 9), type := 30, pos := "law.go:232", after := #[{ on := 75, ground := Go.Ground.guard }], guard := some (75, true) }) (v := ?v76_59) (by kernel_rfl) (tab_ns hT) (tab_free 75557863725914323419135 hT (by kernel_rfl) (by kernel_rfl)) (tab_rdy 75557863725914323419135 hT (by kernel_rfl) (by kernel_rfl) (by kernel_rfl)) (fun _ _ _ h => h) (Or.inl ⟨by kernel_rfl, ?hy76_59⟩) (by assumption) ?rest76_59
  case hy76_59 => (intro w9 hSw; obtain ⟨m1, m3, m5, m7, m9, m10⟩ := hSw; refine (ld_v (by rfl) (by kernel_rfl) m9).trans ?_; with_reducible rfl)
  try simp only [Act.put, List.setIfInBounds_toArray, List.set_cons_zero, List.set_cons_succ, List.getElem_toArray, List.getElem_cons_zero, List.getElem_cons_succ]
  refine wpAnyH_ready (rs := [77]) (tab_ready 151115727451828646838271 hT (by kernel_rfl) (by kernel_rfl) (by kernel_rfl)) (by simp) ?_
  refine AllReadyH.con1 (o := { dst := some 111, op := Go.Op.call { callee := Go.Callee.value (Go.Operand.func 40), args := #[Go.Operand.tmp 110, Go.Operand.const (Go.Value.int Go.IntKind.i64 0), Go.Operand.const (Go.Value.float Go.FloatKind.f64 4607182418800017408)], argTypes := #[30, 3, 37] }, type := 31, pos := "law.go:232", after := #[{ on := 76, ground := Go.Ground.data }, { on := 75, ground := Go.Ground.chain }, { on := 75, ground := Go.Ground.guard }], guard := some (75, true) }) (by kernel_rfl) (by kernel_rfl) (fun K hK => ?_) AllReadyH.nil
  go_simp
  with_reducible refine (z_Put hst).mono ?_
  rintro e w25 ⟨rfl, hst2, hg⟩
  replace D1 := D1.grown hg (by simp; omega)
  replace D3 := D3.grown hg (by simp; omega)
  replace D5 := D5.grown hg (by simp; omega)
  replace D7 := D7.grown hg (by simp; omega)
  replace D9 := D9.grown hg (by simp; omega)
  replace D10 := D10.grown hg (by simp; omega)
  replace h3 := h3.grown hg (by omega) (by omega)
  replace bz := bz.grown hg bz.size (fun k e => by cases e; omega)
  replace hst := hst2
  clear hst2 hg
  refine hK.out _ _ ⟨D1, D3, D5, D7, D9, D10⟩ (fun hH => ?_)
  clear hK K hS
  have hS := hH
  clear hH
  try simp only [Act.put, List.setIfInBounds_toArray, List.set_cons_zero, List.set_cons_succ, List.getElem_toArray, List.getElem_cons_zero, List.getElem_cons_succ]
  refine wpAnyH_ready (rs := [78]) (tab_ready 302231454903657293676543 hT (by kernel_rfl) (by kernel_rfl) (by kernel_rfl)) (by simp) ?_
  refine AllReadyH.con1 (o := { dst := some 112, op := Go.Op.call { callee := Go.Callee.value (Go.Operand.func 16), args := #[Go.Operand.tmp 111], argTypes := #[31] }, type := 3, pos := "law.go:232", after := #[{ on := 77, ground := Go.Ground.data }, { on := 77, ground := Go.Ground.chain }, { on := 75, ground := Go.Ground.guard }], guard := some (75, true) }) (by kernel_rfl) (by kernel_rfl) (fun K hK => ?_) AllReadyH.nil
  go_simp
  with_reducible refine (num_any _ _).mono ?_
  rintro e v26 ⟨rfl, rfl⟩
  refine hK.out _ _ ⟨D1, D3, D5, D7, D9, D10⟩ (fun hH => ?_)
  clear hK K hS
  have hS := hH
  clear hH
  try simp only [Act.put, List.setIfInBounds_toArray, List.set_cons_zero, List.set_cons_succ, List.getElem_toArray, List.getElem_cons_zero, List.getElem_cons_succ]
  refine wpAnyH_take (i := 79) (oi := { dst := some 113, op := Go.Op.binOp Go.BinOp.eql 3 (Go.Operand.tmp 112) (Go.Operand.const (Go.Value.int Go.IntKind.i64 1)) 3, type := 4, pos := "law.go:232", after := #[{ on := 78, ground := Go.Ground.data }, { on := 75, ground := Go.Ground.guard }], guard := some (75, true) }) (v := ?v79_60) (by kernel_rfl) (tab_ns hT) (tab_free 604462909807314587353087 hT (by kernel_rfl) (by kernel_rfl)) (tab_rdy 604462909807314587353087 hT (by kernel_rfl) (by kernel_rfl) (by kernel_rfl)) (fun _ _ _ h => h) (Or.inl ⟨by kernel_rfl, ?hy79_60⟩) (by assumption) ?rest79_60
  case hy79_60 => (intro w9 hSw; clear hSw; go_simp; try with_reducible rfl)
  try simp only [Act.put, List.setIfInBounds_toArray, List.set_cons_zero, List.set_cons_succ, List.getElem_toArray, List.getElem_cons_zero, List.getElem_cons_succ]
  refine wpAnyH_take (i := 80) (oi := { dst := some 114, op := Go.Op.pick (Go.Operand.tmp 109) (Go.Operand.tmp 113) (Go.Operand.const (Go.Value.bool false)), type := 4, pos := "law.go:232", after := #[{ on := 75, ground := Go.Ground.data }, { on := 79, ground := Go.Ground.data }], guard := none }) (v := ?v80_61) (by kernel_rfl) (tab_ns hT) (tab_free 1208925819614629174706175 hT (by kernel_rfl) (by kernel_rfl)) (tab_rdy 1208925819614629174706175 hT (by kernel_rfl) (by kernel_rfl) (by kernel_rfl)) (fun _ _ _ h => h) (Or.inl ⟨by kernel_rfl, ?hy80_61⟩) (by assumption) ?rest80_61
  case hy80_61 => (intro w9 hSw; clear hSw; go_simp; try with_reducible rfl)
  try simp only [Act.put, List.setIfInBounds_toArray, List.set_cons_zero, List.set_cons_succ, List.getElem_toArray, List.getElem_cons_zero, List.getElem_cons_succ]
  refine wpAnyH_take (i := 81) (oi := { dst := some 115, op := Go.Op.move (Go.Operand.tmp 114), type := 4, pos := "law.go:232", after := #[{ on := 80, ground := Go.Ground.data }, { on := 78, ground := Go.Ground.chain }], guard := none }) (v := ?v81_62) (by kernel_rfl) (tab_ns hT) (tab_free 2417851639229258349412351 hT (by kernel_rfl) (by kernel_rfl)) (tab_rdy 2417851639229258349412351 hT (by kernel_rfl) (by kernel_rfl) (by kernel_rfl)) (fun _ _ _ h => h) (Or.inl ⟨by kernel_rfl, ?hy81_62⟩) (by assumption) ?rest81_62
  case hy81_62 => (intro w9 hSw; clear hSw; go_simp; try with_reducible rfl)
  try simp only [Act.put, List.setIfInBounds_toArray, List.set_cons_zero, List.set_cons_succ, List.getElem_toArray, List.getElem_cons_zero, List.getElem_cons_succ]
  refine wpAnyH_take (i := 82) (oi := { dst := some 116, op := Go.Op.load 30 (Go.Operand.tmp 9), type := 30, pos := "law.go:232", after := #[{ on := 81, ground := Go.Ground.guard }], guard := some (81, true) }) (v := ?v82_63) (by kernel_rfl) (tab_ns hT) (tab_free 4835703278458516698824703 hT (by kernel_rfl) (by kernel_rfl)) (tab_rdy 4835703278458516698824703 hT (by kernel_rfl) (by kernel_rfl) (by kernel_rfl)) (fun _ _ _ h => h) (Or.inl ⟨by kernel_rfl, ?hy82_63⟩) (by assumption) ?rest82_63
  case hy82_63 => (intro w9 hSw; obtain ⟨m1, m3, m5, m7, m9, m10⟩ := hSw; refine (ld_v (by rfl) (by kernel_rfl) m9).trans ?_; with_reducible rfl)
  try simp only [Act.put, List.setIfInBounds_toArray, List.set_cons_zero, List.set_cons_succ, List.getElem_toArray, List.getElem_cons_zero, List.getElem_cons_succ]
  refine wpAnyH_ready (rs := [83]) (tab_ready 9671406556917033397649407 hT (by kernel_rfl) (by kernel_rfl) (by kernel_rfl)) (by simp) ?_
  refine AllReadyH.con1 (o := { dst := some 117, op := Go.Op.call { callee := Go.Callee.value (Go.Operand.func 17), args := #[Go.Operand.tmp 116, Go.Operand.const (Go.Value.float Go.FloatKind.f64 4607182418800017408)], argTypes := #[30, 37] }, type := 31, pos := "law.go:232", after := #[{ on := 82, ground := Go.Ground.data }, { on := 81, ground := Go.Ground.chain }, { on := 81, ground := Go.Ground.guard }], guard := some (81, true) }) (by kernel_rfl) (by kernel_rfl) (fun K hK => ?_) AllReadyH.nil
  go_simp
  with_reducible refine (z_F _).mono ?_
  rintro e w27 ⟨rfl, hb⟩
  replace D1 := D1.on hb
  replace h3 := h3.on hb
  replace D3 := D3.on hb
  replace D5 := D5.on hb
  replace D7 := D7.on hb
  replace D9 := D9.on hb
  replace hst := hst.on hb
  replace D10 := D10.on hb
  replace bz := bz.trans (hb.mono bz.size)
  clear hb
  refine hK.out _ _ ⟨D1, D3, D5, D7, D9, D10⟩ (fun hH => ?_)
  clear hK K hS
  have hS := hH
  clear hH
  try simp only [Act.put, List.setIfInBounds_toArray, List.set_cons_zero, List.set_cons_succ, List.getElem_toArray, List.getElem_cons_zero, List.getElem_cons_succ]
  refine wpAnyH_ready (rs := [84]) (tab_ready 19342813113834066795298815 hT (by kernel_rfl) (by kernel_rfl) (by kernel_rfl)) (by simp) ?_
  refine AllReadyH.con1 (o := { dst := some 118, op := Go.Op.call { callee := Go.Callee.value (Go.Operand.func 16), args := #[Go.Operand.tmp 117], argTypes := #[31] }, type := 3, pos := "law.go:232", after := #[{ on := 83, ground := Go.Ground.data }, { on := 83, ground := Go.Ground.chain }, { on := 81, ground := Go.Ground.guard }], guard := some (81, true) }) (by kernel_rfl) (by kernel_rfl) (fun K hK => ?_) AllReadyH.nil
  go_simp
  with_reducible refine (num_any _ _).mono ?_
  rintro e v28 ⟨rfl, rfl⟩
  refine hK.out _ _ ⟨D1, D3, D5, D7, D9, D10⟩ (fun hH => ?_)
  clear hK K hS
  have hS := hH
  clear hH
  try simp only [Act.put, List.setIfInBounds_toArray, List.set_cons_zero, List.set_cons_succ, List.getElem_toArray, List.getElem_cons_zero, List.getElem_cons_succ]
  refine wpAnyH_take (i := 85) (oi := { dst := some 119, op := Go.Op.binOp Go.BinOp.eql 3 (Go.Operand.tmp 118) (Go.Operand.const (Go.Value.int Go.IntKind.i64 1)) 3, type := 4, pos := "law.go:232", after := #[{ on := 84, ground := Go.Ground.data }, { on := 81, ground := Go.Ground.guard }], guard := some (81, true) }) (v := ?v85_64) (by kernel_rfl) (tab_ns hT) (tab_free 38685626227668133590597631 hT (by kernel_rfl) (by kernel_rfl)) (tab_rdy 38685626227668133590597631 hT (by kernel_rfl) (by kernel_rfl) (by kernel_rfl)) (fun _ _ _ h => h) (Or.inl ⟨by kernel_rfl, ?hy85_64⟩) (by assumption) ?rest85_64
  case hy85_64 => (intro w9 hSw; clear hSw; go_simp; try with_reducible rfl)
  try simp only [Act.put, List.setIfInBounds_toArray, List.set_cons_zero, List.set_cons_succ, List.getElem_toArray, List.getElem_cons_zero, List.getElem_cons_succ]
  refine wpAnyH_take (i := 86) (oi := { dst := some 120, op := Go.Op.pick (Go.Operand.tmp 115) (Go.Operand.tmp 119) (Go.Operand.const (Go.Value.bool false)), type := 4, pos := "law.go:232", after := #[{ on := 81, ground := Go.Ground.data }, { on := 85, ground := Go.Ground.data }], guard := none }) (v := ?v86_65) (by kernel_rfl) (tab_ns hT) (tab_free 77371252455336267181195263 hT (by kernel_rfl) (by kernel_rfl)) (tab_rdy 77371252455336267181195263 hT (by kernel_rfl) (by kernel_rfl) (by kernel_rfl)) (fun _ _ _ h => h) (Or.inl ⟨by kernel_rfl, ?hy86_65⟩) (by assumption) ?rest86_65
  case hy86_65 => (intro w9 hSw; clear hSw; go_simp; try with_reducible rfl)
  try simp only [Act.put, List.setIfInBounds_toArray, List.set_cons_zero, List.set_cons_succ, List.getElem_toArray, List.getElem_cons_zero, List.getElem_cons_succ]
  refine wpAnyH_take (i := 87) (oi := { dst := some 121, op := Go.Op.move (Go.Operand.tmp 120), type := 4, pos := "law.go:232", after := #[{ on := 86, ground := Go.Ground.data }, { on := 84, ground := Go.Ground.chain }], guard := none }) (v := ?v87_66) (by kernel_rfl) (tab_ns hT) (tab_free 154742504910672534362390527 hT (by kernel_rfl) (by kernel_rfl)) (tab_rdy 154742504910672534362390527 hT (by kernel_rfl) (by kernel_rfl) (by kernel_rfl)) (fun _ _ _ h => h) (Or.inl ⟨by kernel_rfl, ?hy87_66⟩) (by assumption) ?rest87_66
  case hy87_66 => (intro w9 hSw; clear hSw; go_simp; try with_reducible rfl)
  try simp only [Act.put, List.setIfInBounds_toArray, List.set_cons_zero, List.set_cons_succ, List.getElem_toArray, List.getElem_cons_zero, List.getElem_cons_succ]
  refine wpAnyH_take (i := 88) (oi := { dst := some 122, op := Go.Op.load 30 (Go.Operand.tmp 9), type := 30, pos := "law.go:232", after := #[{ on := 87, ground := Go.Ground.guard }], guard := some (87, true) }) (v := ?v88_67) (by kernel_rfl) (tab_ns hT) (tab_free 309485009821345068724781055 hT (by kernel_rfl) (by kernel_rfl)) (tab_rdy 309485009821345068724781055 hT (by kernel_rfl) (by kernel_rfl) (by kernel_rfl)) (fun _ _ _ h => h) (Or.inl ⟨by kernel_rfl, ?hy88_67⟩) (by assumption) ?rest88_67
  case hy88_67 => (intro w9 hSw; obtain ⟨m1, m3, m5, m7, m9, m10⟩ := hSw; refine (ld_v (by rfl) (by kernel_rfl) m9).trans ?_; with_reducible rfl)
  try simp only [Act.put, List.setIfInBounds_toArray, List.set_cons_zero, List.set_cons_succ, List.getElem_toArray, List.getElem_cons_zero, List.getElem_cons_succ]
  refine wpAnyH_take (i := 89) (oi := { dst := some 123, op := Go.Op.load 30 (Go.Operand.tmp 10), type := 30, pos := "law.go:232", after := #[{ on := 87, ground := Go.Ground.guard }], guard := some (87, true) }) (v := ?v89_68) (by kernel_rfl) (tab_ns hT) (tab_free 618970019642690137449562111 hT (by kernel_rfl) (by kernel_rfl)) (tab_rdy 618970019642690137449562111 hT (by kernel_rfl) (by kernel_rfl) (by kernel_rfl)) (fun _ _ _ h => h) (Or.inl ⟨by kernel_rfl, ?hy89_68⟩) (by assumption) ?rest89_68
  case hy89_68 => (intro w9 hSw; obtain ⟨m1, m3, m5, m7, m9, m10⟩ := hSw; refine (ld_v (by rfl) (by kernel_rfl) m10).trans ?_; with_reducible rfl)
  try simp only [Act.put, List.setIfInBounds_toArray, List.set_cons_zero, List.set_cons_succ, List.getElem_toArray, List.getElem_cons_zero, List.getElem_cons_succ]
  refine wpAnyH_ready (rs := [90]) (tab_ready 1237940039285380274899124223 hT (by kernel_rfl) (by kernel_rfl) (by kernel_rfl)) (by simp) ?_
  refine AllReadyH.con1 (o := { dst := some 124, op := Go.Op.call { callee := Go.Callee.value (Go.Operand.func 44), args := #[Go.Operand.tmp 122, Go.Operand.tmp 123], argTypes := #[30, 30] }, type := 31, pos := "law.go:232", after := #[{ on := 88, ground := Go.Ground.data }, { on := 89, ground := Go.Ground.data }, { on := 87, ground := Go.Ground.chain }, { on := 87, ground := Go.Ground.guard }], guard := some (87, true) }) (by kernel_rfl) (by kernel_rfl) (fun K hK => ?_) AllReadyH.nil
  go_simp
  with_reducible refine (z_Tk _ (vA s)).mono ?_
  rintro e w29 ⟨rfl, hb⟩
  replace D1 := D1.on hb
  replace h3 := h3.on hb
  replace D3 := D3.on hb
  replace D5 := D5.on hb
  replace D7 := D7.on hb
  replace D9 := D9.on hb
  replace hst := hst.on hb
  replace D10 := D10.on hb
  replace bz := bz.trans (hb.mono bz.size)
  clear hb
  refine hK.out _ _ ⟨D1, D3, D5, D7, D9, D10⟩ (fun hH => ?_)
  clear hK K hS
  have hS := hH
  clear hH
  try simp only [Act.put, List.setIfInBounds_toArray, List.set_cons_zero, List.set_cons_succ, List.getElem_toArray, List.getElem_cons_zero, List.getElem_cons_succ]
  refine wpAnyH_ready (rs := [91]) (tab_ready 2475880078570760549798248447 hT (by kernel_rfl) (by kernel_rfl) (by kernel_rfl)) (by simp) ?_
  refine AllReadyH.con1 (o := { dst := some 125, op := Go.Op.call { callee := Go.Callee.value (Go.Operand.func 16), args := #[Go.Operand.tmp 124], argTypes := #[31] }, type := 3, pos := "law.go:232", after := #[{ on := 90, ground := Go.Ground.data }, { on := 90, ground := Go.Ground.chain }, { on := 87, ground := Go.Ground.guard }], guard := some (87, true) }) (by kernel_rfl) (by kernel_rfl) (fun K hK => ?_) AllReadyH.nil
  go_simp
  with_reducible refine (num_any _ _).mono ?_
  rintro e v30 ⟨rfl, rfl⟩
  refine hK.out _ _ ⟨D1, D3, D5, D7, D9, D10⟩ (fun hH => ?_)
  clear hK K hS
  have hS := hH
  clear hH
  try simp only [Act.put, List.setIfInBounds_toArray, List.set_cons_zero, List.set_cons_succ, List.getElem_toArray, List.getElem_cons_zero, List.getElem_cons_succ]
  refine wpAnyH_take (i := 92) (oi := { dst := some 126, op := Go.Op.binOp Go.BinOp.eql 3 (Go.Operand.tmp 125) (Go.Operand.const (Go.Value.int Go.IntKind.i64 1)) 3, type := 4, pos := "law.go:232", after := #[{ on := 91, ground := Go.Ground.data }, { on := 87, ground := Go.Ground.guard }], guard := some (87, true) }) (v := ?v92_69) (by kernel_rfl) (tab_ns hT) (tab_free 4951760157141521099596496895 hT (by kernel_rfl) (by kernel_rfl)) (tab_rdy 4951760157141521099596496895 hT (by kernel_rfl) (by kernel_rfl) (by kernel_rfl)) (fun _ _ _ h => h) (Or.inl ⟨by kernel_rfl, ?hy92_69⟩) (by assumption) ?rest92_69
  case hy92_69 => (intro w9 hSw; clear hSw; go_simp; try with_reducible rfl)
  try simp only [Act.put, List.setIfInBounds_toArray, List.set_cons_zero, List.set_cons_succ, List.getElem_toArray, List.getElem_cons_zero, List.getElem_cons_succ]
  refine wpAnyH_take (i := 93) (oi := { dst := some 127, op := Go.Op.pick (Go.Operand.tmp 121) (Go.Operand.tmp 126) (Go.Operand.const (Go.Value.bool false)), type := 4, pos := "law.go:232", after := #[{ on := 87, ground := Go.Ground.data }, { on := 92, ground := Go.Ground.data }], guard := none }) (v := ?v93_70) (by kernel_rfl) (tab_ns hT) (tab_free 9903520314283042199192993791 hT (by kernel_rfl) (by kernel_rfl)) (tab_rdy 9903520314283042199192993791 hT (by kernel_rfl) (by kernel_rfl) (by kernel_rfl)) (fun _ _ _ h => h) (Or.inl ⟨by kernel_rfl, ?hy93_70⟩) (by assumption) ?rest93_70
  case hy93_70 => (intro w9 hSw; clear hSw; go_simp; try with_reducible rfl)
  try simp only [Act.put, List.setIfInBounds_toArray, List.set_cons_zero, List.set_cons_succ, List.getElem_toArray, List.getElem_cons_zero, List.getElem_cons_succ]
  refine wpAnyH_take (i := 94) (oi := { dst := some 128, op := Go.Op.move (Go.Operand.tmp 127), type := 4, pos := "law.go:232", after := #[{ on := 93, ground := Go.Ground.data }, { on := 91, ground := Go.Ground.chain }], guard := none }) (v := ?v94_71) (by kernel_rfl) (tab_ns hT) (tab_free 19807040628566084398385987583 hT (by kernel_rfl) (by kernel_rfl)) (tab_rdy 19807040628566084398385987583 hT (by kernel_rfl) (by kernel_rfl) (by kernel_rfl)) (fun _ _ _ h => h) (Or.inl ⟨by kernel_rfl, ?hy94_71⟩) (by assumption) ?rest94_71
  case hy94_71 => (intro w9 hSw; clear hSw; go_simp; try with_reducible rfl)
  try simp only [Act.put, List.setIfInBounds_toArray, List.set_cons_zero, List.set_cons_succ, List.getElem_toArray, List.getElem_cons_zero, List.getElem_cons_succ]
  refine wpAnyH_take (i := 95) (oi := { dst := some 129, op := Go.Op.load 30 (Go.Operand.tmp 10), type := 30, pos := "law.go:232", after := #[{ on := 94, ground := Go.Ground.guard }], guard := some (94, true) }) (v := ?v95_72) (by kernel_rfl) (tab_ns hT) (tab_free 39614081257132168796771975167 hT (by kernel_rfl) (by kernel_rfl)) (tab_rdy 39614081257132168796771975167 hT (by kernel_rfl) (by kernel_rfl) (by kernel_rfl)) (fun _ _ _ h => h) (Or.inl ⟨by kernel_rfl, ?hy95_72⟩) (by assumption) ?rest95_72
  case hy95_72 => (intro w9 hSw; obtain ⟨m1, m3, m5, m7, m9, m10⟩ := hSw; refine (ld_v (by rfl) (by kernel_rfl) m10).trans ?_; with_reducible rfl)
  try simp only [Act.put, List.setIfInBounds_toArray, List.set_cons_zero, List.set_cons_succ, List.getElem_toArray, List.getElem_cons_zero, List.getElem_cons_succ]
  refine wpAnyH_take (i := 96) (oi := { dst := some 130, op := Go.Op.load 30 (Go.Operand.tmp 9), type := 30, pos := "law.go:232", after := #[{ on := 94, ground := Go.Ground.guard }], guard := some (94, true) }) (v := ?v96_73) (by kernel_rfl) (tab_ns hT) (tab_free 79228162514264337593543950335 hT (by kernel_rfl) (by kernel_rfl)) (tab_rdy 79228162514264337593543950335 hT (by kernel_rfl) (by kernel_rfl) (by kernel_rfl)) (fun _ _ _ h => h) (Or.inl ⟨by kernel_rfl, ?hy96_73⟩) (by assumption) ?rest96_73
  case hy96_73 => (intro w9 hSw; obtain ⟨m1, m3, m5, m7, m9, m10⟩ := hSw; refine (ld_v (by rfl) (by kernel_rfl) m9).trans ?_; with_reducible rfl)
  try simp only [Act.put, List.setIfInBounds_toArray, List.set_cons_zero, List.set_cons_succ, List.getElem_toArray, List.getElem_cons_zero, List.getElem_cons_succ]
  refine wpAnyH_ready (rs := [97]) (tab_ready 158456325028528675187087900671 hT (by kernel_rfl) (by kernel_rfl) (by kernel_rfl)) (by simp) ?_
  refine AllReadyH.con1 (o := { dst := some 131, op := Go.Op.call { callee := Go.Callee.value (Go.Operand.func 44), args := #[Go.Operand.tmp 129, Go.Operand.tmp 130], argTypes := #[30, 30] }, type := 31, pos := "law.go:232", after := #[{ on := 95, ground := Go.Ground.data }, { on := 96, ground := Go.Ground.data }, { on := 94, ground := Go.Ground.chain }, { on := 94, ground := Go.Ground.guard }], guard := some (94, true) }) (by kernel_rfl) (by kernel_rfl) (fun K hK => ?_) AllReadyH.nil
  go_simp
  with_reducible refine (x_Tk _ (vA s)).mono ?_
  rintro e w31 ⟨rfl, hb⟩
  replace D1 := D1.on hb
  replace h3 := h3.on hb
  replace D3 := D3.on hb
  replace D5 := D5.on hb
  replace D7 := D7.on hb
  replace D9 := D9.on hb
  replace hst := hst.on hb
  replace D10 := D10.on hb
  replace bz := bz.trans (hb.mono bz.size)
  clear hb
  refine hK.out _ _ ⟨D1, D3, D5, D7, D9, D10⟩ (fun hH => ?_)
  clear hK K hS
  have hS := hH
  clear hH
  try simp only [Act.put, List.setIfInBounds_toArray, List.set_cons_zero, List.set_cons_succ, List.getElem_toArray, List.getElem_cons_zero, List.getElem_cons_succ]
  refine wpAnyH_ready (rs := [98]) (tab_ready 316912650057057350374175801343 hT (by kernel_rfl) (by kernel_rfl) (by kernel_rfl)) (by simp) ?_
  refine AllReadyH.con1 (o := { dst := some 132, op := Go.Op.call { callee := Go.Callee.value (Go.Operand.func 16), args := #[Go.Operand.tmp 131], argTypes := #[31] }, type := 3, pos := "law.go:232", after := #[{ on := 97, ground := Go.Ground.data }, { on := 97, ground := Go.Ground.chain }, { on := 94, ground := Go.Ground.guard }], guard := some (94, true) }) (by kernel_rfl) (by kernel_rfl) (fun K hK => ?_) AllReadyH.nil
  go_simp
  with_reducible refine (num_any _ _).mono ?_
  rintro e v32 ⟨rfl, rfl⟩
  refine hK.out _ _ ⟨D1, D3, D5, D7, D9, D10⟩ (fun hH => ?_)
  clear hK K hS
  have hS := hH
  clear hH
  try simp only [Act.put, List.setIfInBounds_toArray, List.set_cons_zero, List.set_cons_succ, List.getElem_toArray, List.getElem_cons_zero, List.getElem_cons_succ]
  refine wpAnyH_take (i := 99) (oi := { dst := some 133, op := Go.Op.binOp Go.BinOp.eql 3 (Go.Operand.tmp 132) (Go.Operand.const (Go.Value.int Go.IntKind.i64 1)) 3, type := 4, pos := "law.go:232", after := #[{ on := 98, ground := Go.Ground.data }, { on := 94, ground := Go.Ground.guard }], guard := some (94, true) }) (v := ?v99_74) (by kernel_rfl) (tab_ns hT) (tab_free 633825300114114700748351602687 hT (by kernel_rfl) (by kernel_rfl)) (tab_rdy 633825300114114700748351602687 hT (by kernel_rfl) (by kernel_rfl) (by kernel_rfl)) (fun _ _ _ h => h) (Or.inl ⟨by kernel_rfl, ?hy99_74⟩) (by assumption) ?rest99_74
  case hy99_74 => (intro w9 hSw; clear hSw; go_simp; try with_reducible rfl)
  try simp only [Act.put, List.setIfInBounds_toArray, List.set_cons_zero, List.set_cons_succ, List.getElem_toArray, List.getElem_cons_zero, List.getElem_cons_succ]
  refine wpAnyH_take (i := 100) (oi := { dst := some 134, op := Go.Op.pick (Go.Operand.tmp 128) (Go.Operand.tmp 133) (Go.Operand.const (Go.Value.bool false)), type := 4, pos := "law.go:232", after := #[{ on := 94, ground := Go.Ground.data }, { on := 99, ground := Go.Ground.data }], guard := none }) (v := ?v100_75) (by kernel_rfl) (tab_ns hT) (tab_free 1267650600228229401496703205375 hT (by kernel_rfl) (by kernel_rfl)) (tab_rdy 1267650600228229401496703205375 hT (by kernel_rfl) (by kernel_rfl) (by kernel_rfl)) (fun _ _ _ h => h) (Or.inl ⟨by kernel_rfl, ?hy100_75⟩) (by assumption) ?rest100_75
  case hy100_75 => (intro w9 hSw; clear hSw; go_simp; try with_reducible rfl)
  try simp only [Act.put, List.setIfInBounds_toArray, List.set_cons_zero, List.set_cons_succ, List.getElem_toArray, List.getElem_cons_zero, List.getElem_cons_succ]
  refine wpAnyH_take (i := 101) (oi := { dst := some 135, op := Go.Op.move (Go.Operand.tmp 134), type := 4, pos := "law.go:232", after := #[{ on := 100, ground := Go.Ground.data }, { on := 98, ground := Go.Ground.chain }], guard := none }) (v := ?v101_76) (by kernel_rfl) (tab_ns hT) (tab_free 2535301200456458802993406410751 hT (by kernel_rfl) (by kernel_rfl)) (tab_rdy 2535301200456458802993406410751 hT (by kernel_rfl) (by kernel_rfl) (by kernel_rfl)) (fun _ _ _ h => h) (Or.inl ⟨by kernel_rfl, ?hy101_76⟩) (by assumption) ?rest101_76
  case hy101_76 => (intro w9 hSw; clear hSw; go_simp; try with_reducible rfl)
  try simp only [Act.put, List.setIfInBounds_toArray, List.set_cons_zero, List.set_cons_succ, List.getElem_toArray, List.getElem_cons_zero, List.getElem_cons_succ]
  refine wpAnyH_take (i := 102) (oi := { dst := some 136, op := Go.Op.load 30 (Go.Operand.tmp 9), type := 30, pos := "law.go:232", after := #[{ on := 101, ground := Go.Ground.guard }], guard := some (101, true) }) (v := ?v102_77) (by kernel_rfl) (tab_ns hT) (tab_free 5070602400912917605986812821503 hT (by kernel_rfl) (by kernel_rfl)) (tab_rdy 5070602400912917605986812821503 hT (by kernel_rfl) (by kernel_rfl) (by kernel_rfl)) (fun _ _ _ h => h) (Or.inl ⟨by kernel_rfl, ?hy102_77⟩) (by assumption) ?rest102_77
  case hy102_77 => (intro w9 hSw; obtain ⟨m1, m3, m5, m7, m9, m10⟩ := hSw; refine (ld_v (by rfl) (by kernel_rfl) m9).trans ?_; with_reducible rfl)
  try simp only [Act.put, List.setIfInBounds_toArray, List.set_cons_zero, List.set_cons_succ, List.getElem_toArray, List.getElem_cons_zero, List.getElem_cons_succ]
  refine wpAnyH_take (i := 104) (oi := { dst := some 138, op := Go.Op.load 30 (Go.Operand.tmp 9), type := 30, pos := "law.go:232", after := #[{ on := 101, ground := Go.Ground.guard }], guard := some (101, true) }) (v := ?v104_78) (by kernel_rfl) (tab_ns hT) (tab_free 10141204801825835211973625643007 hT (by kernel_rfl) (by kernel_rfl)) (tab_rdy 10141204801825835211973625643007 hT (by kernel_rfl) (by kernel_rfl) (by kernel_rfl)) (fun _ _ _ h => h) (Or.inl ⟨by kernel_rfl, ?hy104_78⟩) (by assumption) ?rest104_78
  case hy104_78 => (intro w9 hSw; obtain ⟨m1, m3, m5, m7, m9, m10⟩ := hSw; refine (ld_v (by rfl) (by kernel_rfl) m9).trans ?_; with_reducible rfl)
  try simp only [Act.put, List.setIfInBounds_toArray, List.set_cons_zero, List.set_cons_succ, List.getElem_toArray, List.getElem_cons_zero, List.getElem_cons_succ]
  refine wpAnyH_ready (rs := [103]) (tab_ready 30423614405477505635920876929023 hT (by kernel_rfl) (by kernel_rfl) (by kernel_rfl)) (by simp) ?_
  refine AllReadyH.con1 (o := { dst := some 137, op := Go.Op.call { callee := Go.Callee.value (Go.Operand.func 46), args := #[Go.Operand.tmp 136], argTypes := #[30] }, type := 30, pos := "law.go:232", after := #[{ on := 102, ground := Go.Ground.data }, { on := 101, ground := Go.Ground.chain }, { on := 101, ground := Go.Ground.guard }], guard := some (101, true) }) (by kernel_rfl) (by kernel_rfl) (fun K hK => ?_) AllReadyH.nil
  go_simp
  with_reducible refine (z_T _).mono ?_
  rintro e w33 ⟨rfl, hb⟩
  replace D1 := D1.on hb
  replace h3 := h3.on hb
  replace D3 := D3.on hb
  replace D5 := D5.on hb
  replace D7 := D7.on hb
  replace D9 := D9.on hb
  replace hst := hst.on hb
  replace D10 := D10.on hb
  replace bz := bz.trans (hb.mono bz.size)
  clear hb
  refine hK.out _ _ ⟨D1, D3, D5, D7, D9, D10⟩ (fun hH => ?_)
  clear hK K hS
  have hS := hH
  clear hH
  try simp only [Act.put, List.setIfInBounds_toArray, List.set_cons_zero, List.set_cons_succ, List.getElem_toArray, List.getElem_cons_zero, List.getElem_cons_succ]
  refine wpAnyH_ready (rs := [105]) (tab_ready 40564819207303340847894502572031 hT (by kernel_rfl) (by kernel_rfl) (by kernel_rfl)) (by simp) ?_
  refine AllReadyH.con1 (o := { dst := some 139, op := Go.Op.call { callee := Go.Callee.value (Go.Operand.func 15), args := #[Go.Operand.tmp 137, Go.Operand.tmp 138], argTypes := #[30, 30] }, type := 4, pos := "law.go:232", after := #[{ on := 103, ground := Go.Ground.data }, { on := 104, ground := Go.Ground.data }, { on := 103, ground := Go.Ground.chain }, { on := 101, ground := Go.Ground.guard }], guard := some (101, true) }) (by kernel_rfl) (by kernel_rfl) (fun K hK => ?_) AllReadyH.nil
  go_simp
  with_reducible refine (k_SZ _).mono ?_
  rintro e w34 ⟨rfl, hb⟩
  replace D1 := D1.on hb
  replace h3 := h3.on hb
  replace D3 := D3.on hb
  replace D5 := D5.on hb
  replace D7 := D7.on hb
  replace D9 := D9.on hb
  replace hst := hst.on hb
  replace D10 := D10.on hb
  replace bz := bz.trans (hb.mono bz.size)
  clear hb
  refine hK.out _ _ ⟨D1, D3, D5, D7, D9, D10⟩ (fun hH => ?_)
  clear hK K hS
  have hS := hH
  clear hH
  try simp only [Act.put, List.setIfInBounds_toArray, List.set_cons_zero, List.set_cons_succ, List.getElem_toArray, List.getElem_cons_zero, List.getElem_cons_succ]
  refine wpAnyH_take (i := 106) (oi := { dst := some 140, op := Go.Op.pick (Go.Operand.tmp 135) (Go.Operand.tmp 139) (Go.Operand.const (Go.Value.bool false)), type := 4, pos := "law.go:232", after := #[{ on := 101, ground := Go.Ground.data }, { on := 105, ground := Go.Ground.data }], guard := none }) (v := ?v106_79) (by kernel_rfl) (tab_ns hT) (tab_free 81129638414606681695789005144063 hT (by kernel_rfl) (by kernel_rfl)) (tab_rdy 81129638414606681695789005144063 hT (by kernel_rfl) (by kernel_rfl) (by kernel_rfl)) (fun _ _ _ h => h) (Or.inl ⟨by kernel_rfl, ?hy106_79⟩) (by assumption) ?rest106_79
  case hy106_79 => (intro w9 hSw; clear hSw; go_simp; try with_reducible rfl)
  try simp only [Act.put, List.setIfInBounds_toArray, List.set_cons_zero, List.set_cons_succ, List.getElem_toArray, List.getElem_cons_zero, List.getElem_cons_succ]
  refine wpAnyH_take (i := 107) (oi := { dst := some 141, op := Go.Op.move (Go.Operand.tmp 140), type := 4, pos := "law.go:232", after := #[{ on := 106, ground := Go.Ground.data }, { on := 105, ground := Go.Ground.chain }], guard := none }) (v := ?v107_80) (by kernel_rfl) (tab_ns hT) (tab_free 162259276829213363391578010288127 hT (by kernel_rfl) (by kernel_rfl)) (tab_rdy 162259276829213363391578010288127 hT (by kernel_rfl) (by kernel_rfl) (by kernel_rfl)) (fun _ _ _ h => h) (Or.inl ⟨by kernel_rfl, ?hy107_80⟩) (by assumption) ?rest107_80
  case hy107_80 => (intro w9 hSw; clear hSw; go_simp; try with_reducible rfl)
  try simp only [Act.put, List.setIfInBounds_toArray, List.set_cons_zero, List.set_cons_succ, List.getElem_toArray, List.getElem_cons_zero, List.getElem_cons_succ]
  refine wpAnyH_take (i := 108) (oi := { dst := some 142, op := Go.Op.load 30 (Go.Operand.tmp 9), type := 30, pos := "law.go:232", after := #[{ on := 107, ground := Go.Ground.guard }], guard := some (107, true) }) (v := ?v108_81) (by kernel_rfl) (tab_ns hT) (tab_free 324518553658426726783156020576255 hT (by kernel_rfl) (by kernel_rfl)) (tab_rdy 324518553658426726783156020576255 hT (by kernel_rfl) (by kernel_rfl) (by kernel_rfl)) (fun _ _ _ h => h) (Or.inl ⟨by kernel_rfl, ?hy108_81⟩) (by assumption) ?rest108_81
  case hy108_81 => (intro w9 hSw; obtain ⟨m1, m3, m5, m7, m9, m10⟩ := hSw; refine (ld_v (by rfl) (by kernel_rfl) m9).trans ?_; with_reducible rfl)
  try simp only [Act.put, List.setIfInBounds_toArray, List.set_cons_zero, List.set_cons_succ, List.getElem_toArray, List.getElem_cons_zero, List.getElem_cons_succ]
  refine wpAnyH_take (i := 110) (oi := { dst := some 144, op := Go.Op.load 30 (Go.Operand.tmp 9), type := 30, pos := "law.go:232", after := #[{ on := 107, ground := Go.Ground.guard }], guard := some (107, true) }) (v := ?v110_82) (by kernel_rfl) (tab_ns hT) (tab_free 649037107316853453566312041152511 hT (by kernel_rfl) (by kernel_rfl)) (tab_rdy 649037107316853453566312041152511 hT (by kernel_rfl) (by kernel_rfl) (by kernel_rfl)) (fun _ _ _ h => h) (Or.inl ⟨by kernel_rfl, ?hy110_82⟩) (by assumption) ?rest110_82
  case hy110_82 => (intro w9 hSw; obtain ⟨m1, m3, m5, m7, m9, m10⟩ := hSw; refine (ld_v (by rfl) (by kernel_rfl) m9).trans ?_; with_reducible rfl)
  try simp only [Act.put, List.setIfInBounds_toArray, List.set_cons_zero, List.set_cons_succ, List.getElem_toArray, List.getElem_cons_zero, List.getElem_cons_succ]
  refine wpAnyH_ready (rs := [109]) (tab_ready 1947111321950560360698936123457535 hT (by kernel_rfl) (by kernel_rfl) (by kernel_rfl)) (by simp) ?_
  refine AllReadyH.con1 (o := { dst := some 143, op := Go.Op.call { callee := Go.Callee.value (Go.Operand.func 51), args := #[Go.Operand.tmp 142], argTypes := #[30] }, type := 30, pos := "law.go:232", after := #[{ on := 108, ground := Go.Ground.data }, { on := 107, ground := Go.Ground.chain }, { on := 107, ground := Go.Ground.guard }], guard := some (107, true) }) (by kernel_rfl) (by kernel_rfl) (fun K hK => ?_) AllReadyH.nil
  go_simp
  with_reducible refine (z_D _).mono ?_
  rintro e w35 ⟨rfl, hb⟩
  replace D1 := D1.on hb
  replace h3 := h3.on hb
  replace D3 := D3.on hb
  replace D5 := D5.on hb
  replace D7 := D7.on hb
  replace D9 := D9.on hb
  replace hst := hst.on hb
  replace D10 := D10.on hb
  replace bz := bz.trans (hb.mono bz.size)
  clear hb
  refine hK.out _ _ ⟨D1, D3, D5, D7, D9, D10⟩ (fun hH => ?_)
  clear hK K hS
  have hS := hH
  clear hH
  try simp only [Act.put, List.setIfInBounds_toArray, List.set_cons_zero, List.set_cons_succ, List.getElem_toArray, List.getElem_cons_zero, List.getElem_cons_succ]
  refine wpAnyH_ready (rs := [111]) (tab_ready 2596148429267413814265248164610047 hT (by kernel_rfl) (by kernel_rfl) (by kernel_rfl)) (by simp) ?_
  refine AllReadyH.con1 (o := { dst := some 145, op := Go.Op.call { callee := Go.Callee.value (Go.Operand.func 15), args := #[Go.Operand.tmp 143, Go.Operand.tmp 144], argTypes := #[30, 30] }, type := 4, pos := "law.go:232", after := #[{ on := 109, ground := Go.Ground.data }, { on := 110, ground := Go.Ground.data }, { on := 109, ground := Go.Ground.chain }, { on := 107, ground := Go.Ground.guard }], guard := some (107, true) }) (by kernel_rfl) (by kernel_rfl) (fun K hK => ?_) AllReadyH.nil
  go_simp
  with_reducible refine (k_SZ _).mono ?_
  rintro e w36 ⟨rfl, hb⟩
  replace D1 := D1.on hb
  replace h3 := h3.on hb
  replace D3 := D3.on hb
  replace D5 := D5.on hb
  replace D7 := D7.on hb
  replace D9 := D9.on hb
  replace hst := hst.on hb
  replace D10 := D10.on hb
  replace bz := bz.trans (hb.mono bz.size)
  clear hb
  refine hK.out _ _ ⟨D1, D3, D5, D7, D9, D10⟩ (fun hH => ?_)
  clear hK K hS
  have hS := hH
  clear hH
  try simp only [Act.put, List.setIfInBounds_toArray, List.set_cons_zero, List.set_cons_succ, List.getElem_toArray, List.getElem_cons_zero, List.getElem_cons_succ]
  refine wpAnyH_take (i := 112) (oi := { dst := some 146, op := Go.Op.pick (Go.Operand.tmp 141) (Go.Operand.tmp 145) (Go.Operand.const (Go.Value.bool false)), type := 4, pos := "law.go:232", after := #[{ on := 107, ground := Go.Ground.data }, { on := 111, ground := Go.Ground.data }], guard := none }) (v := ?v112_83) (by kernel_rfl) (tab_ns hT) (tab_free 5192296858534827628530496329220095 hT (by kernel_rfl) (by kernel_rfl)) (tab_rdy 5192296858534827628530496329220095 hT (by kernel_rfl) (by kernel_rfl) (by kernel_rfl)) (fun _ _ _ h => h) (Or.inl ⟨by kernel_rfl, ?hy112_83⟩) (by assumption) ?rest112_83
  case hy112_83 => (intro w9 hSw; clear hSw; go_simp; try with_reducible rfl)
  try simp only [Act.put, List.setIfInBounds_toArray, List.set_cons_zero, List.set_cons_succ, List.getElem_toArray, List.getElem_cons_zero, List.getElem_cons_succ]
  refine wpAnyH_take (i := 113) (oi := { dst := some 147, op := Go.Op.move (Go.Operand.tmp 146), type := 4, pos := "law.go:232", after := #[{ on := 112, ground := Go.Ground.data }, { on := 111, ground := Go.Ground.chain }], guard := none }) (v := ?v113_84) (by kernel_rfl) (tab_ns hT) (tab_free 10384593717069655257060992658440191 hT (by kernel_rfl) (by kernel_rfl)) (tab_rdy 10384593717069655257060992658440191 hT (by kernel_rfl) (by kernel_rfl) (by kernel_rfl)) (fun _ _ _ h => h) (Or.inl ⟨by kernel_rfl, ?hy113_84⟩) (by assumption) ?rest113_84
  case hy113_84 => (intro w9 hSw; clear hSw; go_simp; try with_reducible rfl)
  try simp only [Act.put, List.setIfInBounds_toArray, List.set_cons_zero, List.set_cons_succ, List.getElem_toArray, List.getElem_cons_zero, List.getElem_cons_succ]
  refine wpAnyH_take (i := 114) (oi := { dst := some 148, op := Go.Op.load 30 (Go.Operand.tmp 9), type := 30, pos := "law.go:232", after := #[{ on := 113, ground := Go.Ground.guard }], guard := some (113, true) }) (v := ?v114_85) (by kernel_rfl) (tab_ns hT) (tab_free 20769187434139310514121985316880383 hT (by kernel_rfl) (by kernel_rfl)) (tab_rdy 20769187434139310514121985316880383 hT (by kernel_rfl) (by kernel_rfl) (by kernel_rfl)) (fun _ _ _ h => h) (Or.inl ⟨by kernel_rfl, ?hy114_85⟩) (by assumption) ?rest114_85
  case hy114_85 => (intro w9 hSw; obtain ⟨m1, m3, m5, m7, m9, m10⟩ := hSw; refine (ld_v (by rfl) (by kernel_rfl) m9).trans ?_; with_reducible rfl)
  try simp only [Act.put, List.setIfInBounds_toArray, List.set_cons_zero, List.set_cons_succ, List.getElem_toArray, List.getElem_cons_zero, List.getElem_cons_succ]
  refine wpAnyH_take (i := 116) (oi := { dst := some 150, op := Go.Op.load 30 (Go.Operand.tmp 9), type := 30, pos := "law.go:232", after := #[{ on := 113, ground := Go.Ground.guard }], guard := some (113, true) }) (v := ?v116_86) (by kernel_rfl) (tab_ns hT) (tab_free 41538374868278621028243970633760767 hT (by kernel_rfl) (by kernel_rfl)) (tab_rdy 41538374868278621028243970633760767 hT (by kernel_rfl) (by kernel_rfl) (by kernel_rfl)) (fun _ _ _ h => h) (Or.inl ⟨by kernel_rfl, ?hy116_86⟩) (by assumption) ?rest116_86
  case hy116_86 => (intro w9 hSw; obtain ⟨m1, m3, m5, m7, m9, m10⟩ := hSw; refine (ld_v (by rfl) (by kernel_rfl) m9).trans ?_; with_reducible rfl)
  try simp only [Act.put, List.setIfInBounds_toArray, List.set_cons_zero, List.set_cons_succ, List.getElem_toArray, List.getElem_cons_zero, List.getElem_cons_succ]
  refine wpAnyH_ready (rs := [115]) (tab_ready 124615124604835863084731911901282303 hT (by kernel_rfl) (by kernel_rfl) (by kernel_rfl)) (by simp) ?_
  refine AllReadyH.con1 (o := { dst := some 149, op := Go.Op.call { callee := Go.Callee.value (Go.Operand.func 49), args := #[Go.Operand.tmp 148, Go.Operand.const (Go.Value.int Go.IntKind.i64 0), Go.Operand.const (Go.Value.int Go.IntKind.i64 0), Go.Operand.const (Go.Value.int Go.IntKind.i64 0), Go.Operand.const (Go.Value.int Go.IntKind.i64 0)], argTypes := #[30, 3, 3, 3, 3] }, type := 30, pos := "law.go:232", after := #[{ on := 114, ground := Go.Ground.data }, { on := 113, ground := Go.Ground.chain }, { on := 113, ground := Go.Ground.guard }], guard := some (113, true) }) (by kernel_rfl) (by kernel_rfl) (fun K hK => ?_) AllReadyH.nil
  go_simp
  with_reducible refine (z_P _).mono ?_
  rintro e w37 ⟨rfl, hb⟩
  replace D1 := D1.on hb
  replace h3 := h3.on hb
  replace D3 := D3.on hb
  replace D5 := D5.on hb
  replace D7 := D7.on hb
  replace D9 := D9.on hb
  replace hst := hst.on hb
  replace D10 := D10.on hb
  replace bz := bz.trans (hb.mono bz.size)
  clear hb
  refine hK.out _ _ ⟨D1, D3, D5, D7, D9, D10⟩ (fun hH => ?_)
  clear hK K hS
  have hS := hH
  clear hH
  try simp only [Act.put, List.setIfInBounds_toArray, List.set_cons_zero, List.set_cons_succ, List.getElem_toArray, List.getElem_cons_zero, List.getElem_cons_succ]
  refine wpAnyH_ready (rs := [117]) (tab_ready 166153499473114484112975882535043071 hT (by kernel_rfl) (by kernel_rfl) (by kernel_rfl)) (by simp) ?_
  refine AllReadyH.con1 (o := { dst := some 151, op := Go.Op.call { callee := Go.Callee.value (Go.Operand.func 15), args := #[Go.Operand.tmp 149, Go.Operand.tmp 150], argTypes := #[30, 30] }, type := 4, pos := "law.go:232", after := #[{ on := 115, ground := Go.Ground.data }, { on := 116, ground := Go.Ground.data }, { on := 115, ground := Go.Ground.chain }, { on := 113, ground := Go.Ground.guard }], guard := some (113, true) }) (by kernel_rfl) (by kernel_rfl) (fun K hK => ?_) AllReadyH.nil
  go_simp
  with_reducible refine (k_SZ _).mono ?_
  rintro e w38 ⟨rfl, hb⟩
  replace D1 := D1.on hb
  replace h3 := h3.on hb
  replace D3 := D3.on hb
  replace D5 := D5.on hb
  replace D7 := D7.on hb
  replace D9 := D9.on hb
  replace hst := hst.on hb
  replace D10 := D10.on hb
  replace bz := bz.trans (hb.mono bz.size)
  clear hb
  refine hK.out _ _ ⟨D1, D3, D5, D7, D9, D10⟩ (fun hH => ?_)
  clear hK K hS
  have hS := hH
  clear hH
  try simp only [Act.put, List.setIfInBounds_toArray, List.set_cons_zero, List.set_cons_succ, List.getElem_toArray, List.getElem_cons_zero, List.getElem_cons_succ]
  refine wpAnyH_take (i := 118) (oi := { dst := some 152, op := Go.Op.pick (Go.Operand.tmp 147) (Go.Operand.tmp 151) (Go.Operand.const (Go.Value.bool false)), type := 4, pos := "law.go:232", after := #[{ on := 113, ground := Go.Ground.data }, { on := 117, ground := Go.Ground.data }], guard := none }) (v := ?v118_87) (by kernel_rfl) (tab_ns hT) (tab_free 332306998946228968225951765070086143 hT (by kernel_rfl) (by kernel_rfl)) (tab_rdy 332306998946228968225951765070086143 hT (by kernel_rfl) (by kernel_rfl) (by kernel_rfl)) (fun _ _ _ h => h) (Or.inl ⟨by kernel_rfl, ?hy118_87⟩) (by assumption) ?rest118_87
  case hy118_87 => (intro w9 hSw; clear hSw; go_simp; try with_reducible rfl)
  try simp only [Act.put, List.setIfInBounds_toArray, List.set_cons_zero, List.set_cons_succ, List.getElem_toArray, List.getElem_cons_zero, List.getElem_cons_succ]
  refine wpAnyH_take (i := 119) (oi := { dst := some 153, op := Go.Op.move (Go.Operand.tmp 152), type := 4, pos := "law.go:232", after := #[{ on := 118, ground := Go.Ground.data }, { on := 117, ground := Go.Ground.chain }], guard := none }) (v := ?v119_88) (by kernel_rfl) (tab_ns hT) (tab_free 664613997892457936451903530140172287 hT (by kernel_rfl) (by kernel_rfl)) (tab_rdy 664613997892457936451903530140172287 hT (by kernel_rfl) (by kernel_rfl) (by kernel_rfl)) (fun _ _ _ h => h) (Or.inl ⟨by kernel_rfl, ?hy119_88⟩) (by assumption) ?rest119_88
  case hy119_88 => (intro w9 hSw; clear hSw; go_simp; try with_reducible rfl)
  try simp only [Act.put, List.setIfInBounds_toArray, List.set_cons_zero, List.set_cons_succ, List.getElem_toArray, List.getElem_cons_zero, List.getElem_cons_succ]
  refine wpAnyH_take (i := 120) (oi := { dst := some 154, op := Go.Op.load 30 (Go.Operand.tmp 9), type := 30, pos := "law.go:232", after := #[{ on := 119, ground := Go.Ground.guard }], guard := some (119, true) }) (v := ?v120_89) (by kernel_rfl) (tab_ns hT) (tab_free 1329227995784915872903807060280344575 hT (by kernel_rfl) (by kernel_rfl)) (tab_rdy 1329227995784915872903807060280344575 hT (by kernel_rfl) (by kernel_rfl) (by kernel_rfl)) (fun _ _ _ h => h) (Or.inl ⟨by kernel_rfl, ?hy120_89⟩) (by assumption) ?rest120_89
  case hy120_89 => (intro w9 hSw; obtain ⟨m1, m3, m5, m7, m9, m10⟩ := hSw; refine (ld_v (by rfl) (by kernel_rfl) m9).trans ?_; with_reducible rfl)
  try simp only [Act.put, List.setIfInBounds_toArray, List.set_cons_zero, List.set_cons_succ, List.getElem_toArray, List.getElem_cons_zero, List.getElem_cons_succ]
  refine wpAnyH_take (i := 122) (oi := { dst := some 156, op := Go.Op.load 30 (Go.Operand.tmp 9), type := 30, pos := "law.go:232", after := #[{ on := 119, ground := Go.Ground.guard }], guard := some (119, true) }) (v := ?v122_90) (by kernel_rfl) (tab_ns hT) (tab_free 2658455991569831745807614120560689151 hT (by kernel_rfl) (by kernel_rfl)) (tab_rdy 2658455991569831745807614120560689151 hT (by kernel_rfl) (by kernel_rfl) (by kernel_rfl)) (fun _ _ _ h => h) (Or.inl ⟨by kernel_rfl, ?hy122_90⟩) (by assumption) ?rest122_90
  case hy122_90 => (intro w9 hSw; obtain ⟨m1, m3, m5, m7, m9, m10⟩ := hSw; refine (ld_v (by rfl) (by kernel_rfl) m9).trans ?_; with_reducible rfl)
  try simp only [Act.put, List.setIfInBounds_toArray, List.set_cons_zero, List.set_cons_succ, List.getElem_toArray, List.getElem_cons_zero, List.getElem_cons_succ]
  refine wpAnyH_ready (rs := [121]) (tab_ready 7975367974709495237422842361682067455 hT (by kernel_rfl) (by kernel_rfl) (by kernel_rfl)) (by simp) ?_
  refine AllReadyH.con1 (o := { dst := some 155, op := Go.Op.call { callee := Go.Callee.value (Go.Operand.func 41), args := #[Go.Operand.tmp 154], argTypes := #[30] }, type := 30, pos := "law.go:232", after := #[{ on := 120, ground := Go.Ground.data }, { on := 119, ground := Go.Ground.chain }, { on := 119, ground := Go.Ground.guard }], guard := some (119, true) }) (by kernel_rfl) (by kernel_rfl) (fun K hK => ?_) AllReadyH.nil
  go_simp
  with_reducible refine (z_C _).mono ?_
  rintro e w39 ⟨rfl, hb⟩
  replace D1 := D1.on hb
  replace h3 := h3.on hb
  replace D3 := D3.on hb
  replace D5 := D5.on hb
  replace D7 := D7.on hb
  replace D9 := D9.on hb
  replace hst := hst.on hb
  replace D10 := D10.on hb
  replace bz := bz.trans (hb.mono bz.size)
  clear hb
  refine hK.out _ _ ⟨D1, D3, D5, D7, D9, D10⟩ (fun hH => ?_)
  clear hK K hS
  have hS := hH
  clear hH
  try simp only [Act.put, List.setIfInBounds_toArray, List.set_cons_zero, List.set_cons_succ, List.getElem_toArray, List.getElem_cons_zero, List.getElem_cons_succ]
  refine wpAnyH_ready (rs := [123]) (tab_ready 10633823966279326983230456482242756607 hT (by kernel_rfl) (by kernel_rfl) (by kernel_rfl)) (by simp) ?_
  refine AllReadyH.con1 (o := { dst := some 157, op := Go.Op.call { callee := Go.Callee.value (Go.Operand.func 15), args := #[Go.Operand.tmp 155, Go.Operand.tmp 156], argTypes := #[30, 30] }, type := 4, pos := "law.go:232", after := #[{ on := 121, ground := Go.Ground.data }, { on := 122, ground := Go.Ground.data }, { on := 121, ground := Go.Ground.chain }, { on := 119, ground := Go.Ground.guard }], guard := some (119, true) }) (by kernel_rfl) (by kernel_rfl) (fun K hK => ?_) AllReadyH.nil
  go_simp
  with_reducible refine (k_SZ _).mono ?_
  rintro e w40 ⟨rfl, hb⟩
  replace D1 := D1.on hb
  replace h3 := h3.on hb
  replace D3 := D3.on hb
  replace D5 := D5.on hb
  replace D7 := D7.on hb
  replace D9 := D9.on hb
  replace hst := hst.on hb
  replace D10 := D10.on hb
  replace bz := bz.trans (hb.mono bz.size)
  clear hb
  refine hK.out _ _ ⟨D1, D3, D5, D7, D9, D10⟩ (fun hH => ?_)
  clear hK K hS
  have hS := hH
  clear hH
  try simp only [Act.put, List.setIfInBounds_toArray, List.set_cons_zero, List.set_cons_succ, List.getElem_toArray, List.getElem_cons_zero, List.getElem_cons_succ]
  refine wpAnyH_take (i := 124) (oi := { dst := some 158, op := Go.Op.pick (Go.Operand.tmp 153) (Go.Operand.tmp 157) (Go.Operand.const (Go.Value.bool false)), type := 4, pos := "law.go:232", after := #[{ on := 119, ground := Go.Ground.data }, { on := 123, ground := Go.Ground.data }], guard := none }) (v := ?v124_91) (by kernel_rfl) (tab_ns hT) (tab_free 21267647932558653966460912964485513215 hT (by kernel_rfl) (by kernel_rfl)) (tab_rdy 21267647932558653966460912964485513215 hT (by kernel_rfl) (by kernel_rfl) (by kernel_rfl)) (fun _ _ _ h => h) (Or.inl ⟨by kernel_rfl, ?hy124_91⟩) (by assumption) ?rest124_91
  case hy124_91 => (intro w9 hSw; clear hSw; go_simp; try with_reducible rfl)
  try simp only [Act.put, List.setIfInBounds_toArray, List.set_cons_zero, List.set_cons_succ, List.getElem_toArray, List.getElem_cons_zero, List.getElem_cons_succ]
  refine wpAnyH_take (i := 125) (oi := { dst := some 159, op := Go.Op.move (Go.Operand.tmp 158), type := 4, pos := "law.go:232", after := #[{ on := 124, ground := Go.Ground.data }, { on := 123, ground := Go.Ground.chain }], guard := none }) (v := ?v125_92) (by kernel_rfl) (tab_ns hT) (tab_free 42535295865117307932921825928971026431 hT (by kernel_rfl) (by kernel_rfl)) (tab_rdy 42535295865117307932921825928971026431 hT (by kernel_rfl) (by kernel_rfl) (by kernel_rfl)) (fun _ _ _ h => h) (Or.inl ⟨by kernel_rfl, ?hy125_92⟩) (by assumption) ?rest125_92
  case hy125_92 => (intro w9 hSw; clear hSw; go_simp; try with_reducible rfl)
  try simp only [Act.put, List.setIfInBounds_toArray, List.set_cons_zero, List.set_cons_succ, List.getElem_toArray, List.getElem_cons_zero, List.getElem_cons_succ]
  refine wpAnyH_take (i := 126) (oi := { dst := some 160, op := Go.Op.load 30 (Go.Operand.tmp 9), type := 30, pos := "law.go:232", after := #[{ on := 125, ground := Go.Ground.guard }], guard := some (125, true) }) (v := ?v126_93) (by kernel_rfl) (tab_ns hT) (tab_free 85070591730234615865843651857942052863 hT (by kernel_rfl) (by kernel_rfl)) (tab_rdy 85070591730234615865843651857942052863 hT (by kernel_rfl) (by kernel_rfl) (by kernel_rfl)) (fun _ _ _ h => h) (Or.inl ⟨by kernel_rfl, ?hy126_93⟩) (by assumption) ?rest126_93
  case hy126_93 => (intro w9 hSw; obtain ⟨m1, m3, m5, m7, m9, m10⟩ := hSw; refine (ld_v (by rfl) (by kernel_rfl) m9).trans ?_; with_reducible rfl)
  try simp only [Act.put, List.setIfInBounds_toArray, List.set_cons_zero, List.set_cons_succ, List.getElem_toArray, List.getElem_cons_zero, List.getElem_cons_succ]
  refine wpAnyH_ready (rs := [127]) (tab_ready 170141183460469231731687303715884105727 hT (by kernel_rfl) (by kernel_rfl) (by kernel_rfl)) (by simp) ?_
  refine AllReadyH.con1 (o := { dst := some 161, op := Go.Op.call { callee := Go.Callee.value (Go.Operand.func 29), args := #[Go.Operand.tmp 160], argTypes := #[30] }, type := 4, pos := "law.go:232", after := #[{ on := 126, ground := Go.Ground.data }, { on := 125, ground := Go.Ground.chain }, { on := 125, ground := Go.Ground.guard }], guard := some (125, true) }) (by kernel_rfl) (by kernel_rfl) (fun K hK => ?_) AllReadyH.nil
  go_simp
  with_reducible refine (z_V _).mono ?_
  rintro e w41 ⟨rfl, hb⟩
  replace D1 := D1.on hb
  replace h3 := h3.on hb
  replace D3 := D3.on hb
  replace D5 := D5.on hb
  replace D7 := D7.on hb
  replace D9 := D9.on hb
  replace hst := hst.on hb
  replace D10 := D10.on hb
  replace bz := bz.trans (hb.mono bz.size)
  clear hb
  refine hK.out _ _ ⟨D1, D3, D5, D7, D9, D10⟩ (fun hH => ?_)
  clear hK K hS
  have hS := hH
  clear hH
  try simp only [Act.put, List.setIfInBounds_toArray, List.set_cons_zero, List.set_cons_succ, List.getElem_toArray, List.getElem_cons_zero, List.getElem_cons_succ]
  refine wpAnyH_take (i := 128) (oi := { dst := some 162, op := Go.Op.unOp Go.UnOp.not 4 (Go.Operand.tmp 161), type := 4, pos := "law.go:232", after := #[{ on := 127, ground := Go.Ground.data }, { on := 125, ground := Go.Ground.guard }], guard := some (125, true) }) (v := ?v128_94) (by kernel_rfl) (tab_ns hT) (tab_free 340282366920938463463374607431768211455 hT (by kernel_rfl) (by kernel_rfl)) (tab_rdy 340282366920938463463374607431768211455 hT (by kernel_rfl) (by kernel_rfl) (by kernel_rfl)) (fun _ _ _ h => h) (Or.inl ⟨by kernel_rfl, ?hy128_94⟩) (by assumption) ?rest128_94
  case hy128_94 => (intro w9 hSw; clear hSw; go_simp; try with_reducible rfl)
  try simp only [Act.put, List.setIfInBounds_toArray, List.set_cons_zero, List.set_cons_succ, List.getElem_toArray, List.getElem_cons_zero, List.getElem_cons_succ]
  refine wpAnyH_take (i := 129) (oi := { dst := some 163, op := Go.Op.pick (Go.Operand.tmp 159) (Go.Operand.tmp 162) (Go.Operand.const (Go.Value.bool false)), type := 4, pos := "law.go:232", after := #[{ on := 125, ground := Go.Ground.data }, { on := 128, ground := Go.Ground.data }], guard := none }) (v := ?v129_95) (by kernel_rfl) (tab_ns hT) (tab_free 680564733841876926926749214863536422911 hT (by kernel_rfl) (by kernel_rfl)) (tab_rdy 680564733841876926926749214863536422911 hT (by kernel_rfl) (by kernel_rfl) (by kernel_rfl)) (fun _ _ _ h => h) (Or.inl ⟨by kernel_rfl, ?hy129_95⟩) (by assumption) ?rest129_95
  case hy129_95 => (intro w9 hSw; clear hSw; go_simp; try with_reducible rfl)
  try simp only [Act.put, List.setIfInBounds_toArray, List.set_cons_zero, List.set_cons_succ, List.getElem_toArray, List.getElem_cons_zero, List.getElem_cons_succ]
  refine wpAnyH_take (i := 130) (oi := { dst := some 164, op := Go.Op.move (Go.Operand.tmp 163), type := 4, pos := "law.go:232", after := #[{ on := 129, ground := Go.Ground.data }, { on := 127, ground := Go.Ground.chain }], guard := none }) (v := ?v130_96) (by kernel_rfl) (tab_ns hT) (tab_free 1361129467683753853853498429727072845823 hT (by kernel_rfl) (by kernel_rfl)) (tab_rdy 1361129467683753853853498429727072845823 hT (by kernel_rfl) (by kernel_rfl) (by kernel_rfl)) (fun _ _ _ h => h) (Or.inl ⟨by kernel_rfl, ?hy130_96⟩) (by assumption) ?rest130_96
  case hy130_96 => (intro w9 hSw; clear hSw; go_simp; try with_reducible rfl)
  try simp only [Act.put, List.setIfInBounds_toArray, List.set_cons_zero, List.set_cons_succ, List.getElem_toArray, List.getElem_cons_zero, List.getElem_cons_succ]
  refine wpAnyH_take (i := 131) (oi := { dst := some 165, op := Go.Op.load 30 (Go.Operand.tmp 9), type := 30, pos := "law.go:232", after := #[{ on := 130, ground := Go.Ground.guard }], guard := some (130, true) }) (v := ?v131_97) (by kernel_rfl) (tab_ns hT) (tab_free 2722258935367507707706996859454145691647 hT (by kernel_rfl) (by kernel_rfl)) (tab_rdy 2722258935367507707706996859454145691647 hT (by kernel_rfl) (by kernel_rfl) (by kernel_rfl)) (fun _ _ _ h => h) (Or.inl ⟨by kernel_rfl, ?hy131_97⟩) (by assumption) ?rest131_97
  case hy131_97 => (intro w9 hSw; obtain ⟨m1, m3, m5, m7, m9, m10⟩ := hSw; refine (ld_v (by rfl) (by kernel_rfl) m9).trans ?_; with_reducible rfl)
  try simp only [Act.put, List.setIfInBounds_toArray, List.set_cons_zero, List.set_cons_succ, List.getElem_toArray, List.getElem_cons_zero, List.getElem_cons_succ]
  refine wpAnyH_take (i := 132) (oi := { dst := some 166, op := Go.Op.load 30 (Go.Operand.tmp 10), type := 30, pos := "law.go:232", after := #[{ on := 130, ground := Go.Ground.guard }], guard := some (130, true) }) (v := ?v132_98) (by kernel_rfl) (tab_ns hT) (tab_free 5444517870735015415413993718908291383295 hT (by kernel_rfl) (by kernel_rfl)) (tab_rdy 5444517870735015415413993718908291383295 hT (by kernel_rfl) (by kernel_rfl) (by kernel_rfl)) (fun _ _ _ h => h) (Or.inl ⟨by kernel_rfl, ?hy132_98⟩) (by assumption) ?rest132_98
  case hy132_98 => (intro w9 hSw; obtain ⟨m1, m3, m5, m7, m9, m10⟩ := hSw; refine (ld_v (by rfl) (by kernel_rfl) m10).trans ?_; with_reducible rfl)
  try simp only [Act.put, List.setIfInBounds_toArray, List.set_cons_zero, List.set_cons_succ, List.getElem_toArray, List.getElem_cons_zero, List.getElem_cons_succ]
  refine wpAnyH_ready (rs := [133]) (tab_ready 10889035741470030830827987437816582766591 hT (by kernel_rfl) (by kernel_rfl) (by kernel_rfl)) (by simp) ?_
  refine AllReadyH.con1 (o := { dst := some 167, op := Go.Op.call { callee := Go.Callee.value (Go.Operand.func 42), args := #[Go.Operand.tmp 165, Go.Operand.tmp 166], argTypes := #[30, 30] }, type := 4, pos := "law.go:232", after := #[{ on := 131, ground := Go.Ground.data }, { on := 132, ground := Go.Ground.data }, { on := 130, ground := Go.Ground.chain }, { on := 130, ground := Go.Ground.guard }], guard := some (130, true) }) (by kernel_rfl) (by kernel_rfl) (fun K hK => ?_) AllReadyH.nil
  go_simp
  with_reducible refine (z_Sh hst).mono ?_
  rintro e w42 ⟨rfl, hb⟩
  replace D1 := D1.on hb
  replace h3 := h3.on hb
  replace D3 := D3.on hb
  replace D5 := D5.on hb
  replace D7 := D7.on hb
  replace D9 := D9.on hb
  replace hst := hst.on hb
  replace D10 := D10.on hb
  replace bz := bz.trans (hb.mono bz.size)
  clear hb
  refine hK.out _ _ ⟨D1, D3, D5, D7, D9, D10⟩ (fun hH => ?_)
  clear hK K hS
  have hS := hH
  clear hH
  try simp only [Act.put, List.setIfInBounds_toArray, List.set_cons_zero, List.set_cons_succ, List.getElem_toArray, List.getElem_cons_zero, List.getElem_cons_succ]
  refine wpAnyH_take (i := 134) (oi := { dst := some 168, op := Go.Op.unOp Go.UnOp.not 4 (Go.Operand.tmp 167), type := 4, pos := "law.go:232", after := #[{ on := 133, ground := Go.Ground.data }, { on := 130, ground := Go.Ground.guard }], guard := some (130, true) }) (v := ?v134_99) (by kernel_rfl) (tab_ns hT) (tab_free 21778071482940061661655974875633165533183 hT (by kernel_rfl) (by kernel_rfl)) (tab_rdy 21778071482940061661655974875633165533183 hT (by kernel_rfl) (by kernel_rfl) (by kernel_rfl)) (fun _ _ _ h => h) (Or.inl ⟨by kernel_rfl, ?hy134_99⟩) (by assumption) ?rest134_99
  case hy134_99 => (intro w9 hSw; clear hSw; go_simp; try with_reducible rfl)
  try simp only [Act.put, List.setIfInBounds_toArray, List.set_cons_zero, List.set_cons_succ, List.getElem_toArray, List.getElem_cons_zero, List.getElem_cons_succ]
  refine wpAnyH_take (i := 135) (oi := { dst := some 169, op := Go.Op.pick (Go.Operand.tmp 164) (Go.Operand.tmp 168) (Go.Operand.const (Go.Value.bool false)), type := 4, pos := "law.go:232", after := #[{ on := 130, ground := Go.Ground.data }, { on := 134, ground := Go.Ground.data }], guard := none }) (v := ?v135_100) (by kernel_rfl) (tab_ns hT) (tab_free 43556142965880123323311949751266331066367 hT (by kernel_rfl) (by kernel_rfl)) (tab_rdy 43556142965880123323311949751266331066367 hT (by kernel_rfl) (by kernel_rfl) (by kernel_rfl)) (fun _ _ _ h => h) (Or.inl ⟨by kernel_rfl, ?hy135_100⟩) (by assumption) ?rest135_100
  case hy135_100 => (intro w9 hSw; clear hSw; go_simp; try with_reducible rfl)
  try simp only [Act.put, List.setIfInBounds_toArray, List.set_cons_zero, List.set_cons_succ, List.getElem_toArray, List.getElem_cons_zero, List.getElem_cons_succ]
  refine wpAnyH_take (i := 136) (oi := { dst := some 170, op := Go.Op.move (Go.Operand.tmp 169), type := 4, pos := "law.go:232", after := #[{ on := 135, ground := Go.Ground.data }, { on := 133, ground := Go.Ground.chain }], guard := none }) (v := ?v136_101) (by kernel_rfl) (tab_ns hT) (tab_free 87112285931760246646623899502532662132735 hT (by kernel_rfl) (by kernel_rfl)) (tab_rdy 87112285931760246646623899502532662132735 hT (by kernel_rfl) (by kernel_rfl) (by kernel_rfl)) (fun _ _ _ h => h) (Or.inl ⟨by kernel_rfl, ?hy136_101⟩) (by assumption) ?rest136_101
  case hy136_101 => (intro w9 hSw; clear hSw; go_simp; try with_reducible rfl)
  try simp only [Act.put, List.setIfInBounds_toArray, List.set_cons_zero, List.set_cons_succ, List.getElem_toArray, List.getElem_cons_zero, List.getElem_cons_succ]
  refine wpAnyH_take (i := 137) (oi := { dst := some 171, op := Go.Op.load 30 (Go.Operand.tmp 9), type := 30, pos := "law.go:232", after := #[{ on := 136, ground := Go.Ground.guard }], guard := some (136, true) }) (v := ?v137_102) (by kernel_rfl) (tab_ns hT) (tab_free 174224571863520493293247799005065324265471 hT (by kernel_rfl) (by kernel_rfl)) (tab_rdy 174224571863520493293247799005065324265471 hT (by kernel_rfl) (by kernel_rfl) (by kernel_rfl)) (fun _ _ _ h => h) (Or.inl ⟨by kernel_rfl, ?hy137_102⟩) (by assumption) ?rest137_102
  case hy137_102 => (intro w9 hSw; obtain ⟨m1, m3, m5, m7, m9, m10⟩ := hSw; refine (ld_v (by rfl) (by kernel_rfl) m9).trans ?_; with_reducible rfl)
  try simp only [Act.put, List.setIfInBounds_toArray, List.set_cons_zero, List.set_cons_succ, List.getElem_toArray, List.getElem_cons_zero, List.getElem_cons_succ]
  refine wpAnyH_take (i := 138) (oi := { dst := some 172, op := Go.Op.build 51 #[], type := 51, pos := "law.go:232", after := #[{ on := 136, ground := Go.Ground.guard }], guard := some (136, true) }) (v := ?v138_103) (by kernel_rfl) (tab_ns hT) (tab_free 348449143727040986586495598010130648530943 hT (by kernel_rfl) (by kernel_rfl)) (tab_rdy 348449143727040986586495598010130648530943 hT (by kernel_rfl) (by kernel_rfl) (by kernel_rfl)) (fun _ _ _ h => h) (Or.inl ⟨by kernel_rfl, ?hy138_103⟩) (by assumption) ?rest138_103
  case hy138_103 => (intro w9 hSw; clear hSw; go_simp; try with_reducible rfl)
  try simp only [Act.put, List.setIfInBounds_toArray, List.set_cons_zero, List.set_cons_succ, List.getElem_toArray, List.getElem_cons_zero, List.getElem_cons_succ]
  refine wpAnyH_ready (rs := [139]) (tab_ready 696898287454081973172991196020261297061887 hT (by kernel_rfl) (by kernel_rfl) (by kernel_rfl)) (by simp) ?_
  refine AllReadyH.con1 (o := { dst := some 173, op := Go.Op.call { callee := Go.Callee.value (Go.Operand.func 37), args := #[Go.Operand.tmp 171, Go.Operand.tmp 172, Go.Operand.const (Go.Value.int Go.IntKind.i64 0)], argTypes := #[30, 51, 3] }, type := 4, pos := "law.go:232", after := #[{ on := 137, ground := Go.Ground.data }, { on := 138, ground := Go.Ground.data }, { on := 136, ground := Go.Ground.chain }, { on := 136, ground := Go.Ground.guard }], guard := some (136, true) }) (by kernel_rfl) (by kernel_rfl) (fun K hK => ?_) AllReadyH.nil
  go_simp
  with_reducible refine (z_once _).mono ?_
  rintro e w43 ⟨rfl, hb⟩
  replace D1 := D1.on hb
  replace h3 := h3.on hb
  replace D3 := D3.on hb
  replace D5 := D5.on hb
  replace D7 := D7.on hb
  replace D9 := D9.on hb
  replace hst := hst.on hb
  replace D10 := D10.on hb
  replace bz := bz.trans (hb.mono bz.size)
  clear hb
  refine hK.out _ _ ⟨D1, D3, D5, D7, D9, D10⟩ (fun hH => ?_)
  clear hK K hS
  have hS := hH
  clear hH
  try simp only [Act.put, List.setIfInBounds_toArray, List.set_cons_zero, List.set_cons_succ, List.getElem_toArray, List.getElem_cons_zero, List.getElem_cons_succ]
  refine wpAnyH_take (i := 140) (oi := { dst := some 174, op := Go.Op.pick (Go.Operand.tmp 170) (Go.Operand.tmp 173) (Go.Operand.const (Go.Value.bool false)), type := 4, pos := "law.go:232", after := #[{ on := 136, ground := Go.Ground.data }, { on := 139, ground := Go.Ground.data }], guard := none }) (v := ?v140_104) (by kernel_rfl) (tab_ns hT) (tab_free 1393796574908163946345982392040522594123775 hT (by kernel_rfl) (by kernel_rfl)) (tab_rdy 1393796574908163946345982392040522594123775 hT (by kernel_rfl) (by kernel_rfl) (by kernel_rfl)) (fun _ _ _ h => h) (Or.inl ⟨by kernel_rfl, ?hy140_104⟩) (by assumption) ?rest140_104
  case hy140_104 => (intro w9 hSw; clear hSw; go_simp; try with_reducible rfl)
  try simp only [Act.put, List.setIfInBounds_toArray, List.set_cons_zero, List.set_cons_succ, List.getElem_toArray, List.getElem_cons_zero, List.getElem_cons_succ]
  refine wpAnyH_take (i := 141) (oi := { dst := some 175, op := Go.Op.move (Go.Operand.tmp 174), type := 4, pos := "law.go:232", after := #[{ on := 140, ground := Go.Ground.data }, { on := 139, ground := Go.Ground.chain }], guard := none }) (v := ?v141_105) (by kernel_rfl) (tab_ns hT) (tab_free 2787593149816327892691964784081045188247551 hT (by kernel_rfl) (by kernel_rfl)) (tab_rdy 2787593149816327892691964784081045188247551 hT (by kernel_rfl) (by kernel_rfl) (by kernel_rfl)) (fun _ _ _ h => h) (Or.inl ⟨by kernel_rfl, ?hy141_105⟩) (by assumption) ?rest141_105
  case hy141_105 => (intro w9 hSw; clear hSw; go_simp; try with_reducible rfl)
  try simp only [Act.put, List.setIfInBounds_toArray, List.set_cons_zero, List.set_cons_succ, List.getElem_toArray, List.getElem_cons_zero, List.getElem_cons_succ]
  refine wpAnyH_take (i := 142) (oi := { dst := some 176, op := Go.Op.load 30 (Go.Operand.tmp 9), type := 30, pos := "law.go:232", after := #[{ on := 141, ground := Go.Ground.guard }], guard := some (141, true) }) (v := ?v142_106) (by kernel_rfl) (tab_ns hT) (tab_free 5575186299632655785383929568162090376495103 hT (by kernel_rfl) (by kernel_rfl)) (tab_rdy 5575186299632655785383929568162090376495103 hT (by kernel_rfl) (by kernel_rfl) (by kernel_rfl)) (fun _ _ _ h => h) (Or.inl ⟨by kernel_rfl, ?hy142_106⟩) (by assumption) ?rest142_106
  case hy142_106 => (intro w9 hSw; obtain ⟨m1, m3, m5, m7, m9, m10⟩ := hSw; refine (ld_v (by rfl) (by kernel_rfl) m9).trans ?_; with_reducible rfl)
  try simp only [Act.put, List.setIfInBounds_toArray, List.set_cons_zero, List.set_cons_succ, List.getElem_toArray, List.getElem_cons_zero, List.getElem_cons_succ]
  refine wpAnyH_ready (rs := [143]) (tab_ready 11150372599265311570767859136324180752990207 hT (by kernel_rfl) (by kernel_rfl) (by kernel_rfl)) (by simp) ?_
  refine AllReadyH.con1 (o := { dst := some 177, op := Go.Op.call { callee := Go.Callee.value (Go.Operand.func 19), args := #[Go.Operand.tmp 176], argTypes := #[30] }, type := 24, pos := "law.go:232", after := #[{ on := 142, ground := Go.Ground.data }, { on := 141, ground := Go.Ground.chain }, { on := 141, ground := Go.Ground.guard }], guard := some (141, true) }) (by kernel_rfl) (by kernel_rfl) (fun K hK => ?_) AllReadyH.nil
  go_simp
  with_reducible refine (z_M _).mono ?_
  rintro e w44 ⟨A8, c8, rfl, hO8, hA8, hb⟩
  replace D1 := D1.on hb
  replace h3 := h3.on hb
  replace D3 := D3.on hb
  replace D5 := D5.on hb
  replace D7 := D7.on hb
  replace D9 := D9.on hb
  replace hst := hst.on hb
  replace D10 := D10.on hb
  replace bz := bz.trans (hb.mono bz.size)
  clear hb
  refine hK.out _ _ ⟨D1, D3, D5, D7, D9, D10⟩ (fun hH => ?_)
  clear hK K hS
  have hS := hH
  clear hH
  try simp only [Act.put, List.setIfInBounds_toArray, List.set_cons_zero, List.set_cons_succ, List.getElem_toArray, List.getElem_cons_zero, List.getElem_cons_succ]
  refine wpAnyH_take (i := 144) (oi := { dst := some 178, op := Go.Op.field 24 (Go.Operand.tmp 177) 0, type := 3, pos := "law.go:232", after := #[{ on := 143, ground := Go.Ground.data }, { on := 141, ground := Go.Ground.guard }], guard := some (141, true) }) (v := ?v144_107) (by kernel_rfl) (tab_ns hT) (tab_free 22300745198530623141535718272648361505980415 hT (by kernel_rfl) (by kernel_rfl)) (tab_rdy 22300745198530623141535718272648361505980415 hT (by kernel_rfl) (by kernel_rfl) (by kernel_rfl)) (fun _ _ _ h => h) (Or.inl ⟨by kernel_rfl, ?hy144_107⟩) (by assumption) ?rest144_107
  case hy144_107 => (intro w9 hSw; clear hSw; have hf0 := run_field_0 0 0 A8 0 c8; go_simp; try with_reducible rfl)
  try simp only [Act.put, List.setIfInBounds_toArray, List.set_cons_zero, List.set_cons_succ, List.getElem_toArray, List.getElem_cons_zero, List.getElem_cons_succ]
  refine wpAnyH_take (i := 145) (oi := { dst := some 179, op := Go.Op.binOp Go.BinOp.eql 3 (Go.Operand.tmp 178) (Go.Operand.const (Go.Value.int Go.IntKind.i64 0)) 3, type := 4, pos := "law.go:232", after := #[{ on := 144, ground := Go.Ground.data }, { on := 141, ground := Go.Ground.guard }], guard := some (141, true) }) (v := ?v145_108) (by kernel_rfl) (tab_ns hT) (tab_free 44601490397061246283071436545296723011960831 hT (by kernel_rfl) (by kernel_rfl)) (tab_rdy 44601490397061246283071436545296723011960831 hT (by kernel_rfl) (by kernel_rfl) (by kernel_rfl)) (fun _ _ _ h => h) (Or.inl ⟨by kernel_rfl, ?hy145_108⟩) (by assumption) ?rest145_108
  case hy145_108 => (intro w9 hSw; clear hSw; go_simp; try with_reducible rfl)
  try simp only [Act.put, List.setIfInBounds_toArray, List.set_cons_zero, List.set_cons_succ, List.getElem_toArray, List.getElem_cons_zero, List.getElem_cons_succ]
  refine wpAnyH_take (i := 146) (oi := { dst := some 180, op := Go.Op.pick (Go.Operand.tmp 175) (Go.Operand.tmp 179) (Go.Operand.const (Go.Value.bool false)), type := 4, pos := "law.go:232", after := #[{ on := 141, ground := Go.Ground.data }, { on := 145, ground := Go.Ground.data }], guard := none }) (v := ?v146_109) (by kernel_rfl) (tab_ns hT) (tab_free 89202980794122492566142873090593446023921663 hT (by kernel_rfl) (by kernel_rfl)) (tab_rdy 89202980794122492566142873090593446023921663 hT (by kernel_rfl) (by kernel_rfl) (by kernel_rfl)) (fun _ _ _ h => h) (Or.inl ⟨by kernel_rfl, ?hy146_109⟩) (by assumption) ?rest146_109
  case hy146_109 => (intro w9 hSw; clear hSw; go_simp; try with_reducible rfl)
  try simp only [Act.put, List.setIfInBounds_toArray, List.set_cons_zero, List.set_cons_succ, List.getElem_toArray, List.getElem_cons_zero, List.getElem_cons_succ]
  refine wpAnyH_take (i := 147) (oi := { dst := some 181, op := Go.Op.move (Go.Operand.tmp 180), type := 4, pos := "law.go:232", after := #[{ on := 146, ground := Go.Ground.data }, { on := 143, ground := Go.Ground.chain }], guard := none }) (v := ?v147_110) (by kernel_rfl) (tab_ns hT) (tab_free 178405961588244985132285746181186892047843327 hT (by kernel_rfl) (by kernel_rfl)) (tab_rdy 178405961588244985132285746181186892047843327 hT (by kernel_rfl) (by kernel_rfl) (by kernel_rfl)) (fun _ _ _ h => h) (Or.inl ⟨by kernel_rfl, ?hy147_110⟩) (by assumption) ?rest147_110
  case hy147_110 => (intro w9 hSw; clear hSw; go_simp; try with_reducible rfl)
  try simp only [Act.put, List.setIfInBounds_toArray, List.set_cons_zero, List.set_cons_succ, List.getElem_toArray, List.getElem_cons_zero, List.getElem_cons_succ]
  refine wpAnyH_take (i := 148) (oi := { dst := some 182, op := Go.Op.load 30 (Go.Operand.tmp 10), type := 30, pos := "law.go:232", after := #[{ on := 147, ground := Go.Ground.guard }], guard := some (147, true) }) (v := ?v148_111) (by kernel_rfl) (tab_ns hT) (tab_free 356811923176489970264571492362373784095686655 hT (by kernel_rfl) (by kernel_rfl)) (tab_rdy 356811923176489970264571492362373784095686655 hT (by kernel_rfl) (by kernel_rfl) (by kernel_rfl)) (fun _ _ _ h => h) (Or.inl ⟨by kernel_rfl, ?hy148_111⟩) (by assumption) ?rest148_111
  case hy148_111 => (intro w9 hSw; obtain ⟨m1, m3, m5, m7, m9, m10⟩ := hSw; refine (ld_v (by rfl) (by kernel_rfl) m10).trans ?_; with_reducible rfl)
  try simp only [Act.put, List.setIfInBounds_toArray, List.set_cons_zero, List.set_cons_succ, List.getElem_toArray, List.getElem_cons_zero, List.getElem_cons_succ]
  refine wpAnyH_take (i := 150) (oi := { dst := some 184, op := Go.Op.load 30 (Go.Operand.tmp 3), type := 30, pos := "law.go:232", after := #[{ on := 147, ground := Go.Ground.guard }], guard := some (147, true) }) (v := ?v150_112) (by kernel_rfl) (tab_ns hT) (tab_free 713623846352979940529142984724747568191373311 hT (by kernel_rfl) (by kernel_rfl)) (tab_rdy 713623846352979940529142984724747568191373311 hT (by kernel_rfl) (by kernel_rfl) (by kernel_rfl)) (fun _ _ _ h => h) (Or.inl ⟨by kernel_rfl, ?hy150_112⟩) (by assumption) ?rest150_112
  case hy150_112 => (intro w9 hSw; obtain ⟨m1, m3, m5, m7, m9, m10⟩ := hSw; refine (ld_v (by rfl) (by kernel_rfl) m3).trans ?_; with_reducible rfl)
  try simp only [Act.put, List.setIfInBounds_toArray, List.set_cons_zero, List.set_cons_succ, List.getElem_toArray, List.getElem_cons_zero, List.getElem_cons_succ]
  refine wpAnyH_ready (rs := [149]) (tab_ready 2140871539058939821587428954174242704574119935 hT (by kernel_rfl) (by kernel_rfl) (by kernel_rfl)) (by simp) ?_
  refine AllReadyH.con1 (o := { dst := some 183, op := Go.Op.call { callee := Go.Callee.value (Go.Operand.func 49), args := #[Go.Operand.tmp 182, Go.Operand.const (Go.Value.int Go.IntKind.i64 2), Go.Operand.const (Go.Value.int Go.IntKind.i64 3), Go.Operand.const (Go.Value.int Go.IntKind.i64 0), Go.Operand.const (Go.Value.int Go.IntKind.i64 0)], argTypes := #[30, 3, 3, 3, 3] }, type := 30, pos := "law.go:232", after := #[{ on := 148, ground := Go.Ground.data }, { on := 147, ground := Go.Ground.chain }, { on := 147, ground := Go.Ground.guard }], guard := some (147, true) }) (by kernel_rfl) (by kernel_rfl) (fun K hK => ?_) AllReadyH.nil
  go_simp
  with_reducible refine (x_P _ _).mono ?_
  rintro e w45 ⟨rfl, hb⟩
  replace D1 := D1.on hb
  replace h3 := h3.on hb
  replace D3 := D3.on hb
  replace D5 := D5.on hb
  replace D7 := D7.on hb
  replace D9 := D9.on hb
  replace hst := hst.on hb
  replace D10 := D10.on hb
  replace bz := bz.trans (hb.mono bz.size)
  clear hb
  refine hK.out _ _ ⟨D1, D3, D5, D7, D9, D10⟩ (fun hH => ?_)
  clear hK K hS
  have hS := hH
  clear hH
  try simp only [Act.put, List.setIfInBounds_toArray, List.set_cons_zero, List.set_cons_succ, List.getElem_toArray, List.getElem_cons_zero, List.getElem_cons_succ]
  refine wpAnyH_ready (rs := [151]) (tab_ready 2854495385411919762116571938898990272765493247 hT (by kernel_rfl) (by kernel_rfl) (by kernel_rfl)) (by simp) ?_
  refine AllReadyH.con1 (o := { dst := some 185, op := Go.Op.call { callee := Go.Callee.value (Go.Operand.func 15), args := #[Go.Operand.tmp 183, Go.Operand.tmp 184], argTypes := #[30, 30] }, type := 4, pos := "law.go:232", after := #[{ on := 149, ground := Go.Ground.data }, { on := 150, ground := Go.Ground.data }, { on := 149, ground := Go.Ground.chain }, { on := 147, ground := Go.Ground.guard }], guard := some (147, true) }) (by kernel_rfl) (by kernel_rfl) (fun K hK => ?_) AllReadyH.nil
  go_simp
  with_reducible refine (n_P h3 hst).mono ?_
  rintro e w46 ⟨rfl, hb⟩
  replace D1 := D1.on hb
  replace h3 := h3.on hb
  replace D3 := D3.on hb
  replace D5 := D5.on hb
  replace D7 := D7.on hb
  replace D9 := D9.on hb
  replace hst := hst.on hb
  replace D10 := D10.on hb
  replace bz := bz.trans (hb.mono bz.size)
  clear hb
  refine hK.out _ _ ⟨D1, D3, D5, D7, D9, D10⟩ (fun hH => ?_)
  clear hK K hS
  have hS := hH
  clear hH
  try simp only [Act.put, List.setIfInBounds_toArray, List.set_cons_zero, List.set_cons_succ, List.getElem_toArray, List.getElem_cons_zero, List.getElem_cons_succ]
  refine wpAnyH_take (i := 152) (oi := { dst := some 186, op := Go.Op.pick (Go.Operand.tmp 181) (Go.Operand.tmp 185) (Go.Operand.const (Go.Value.bool false)), type := 4, pos := "law.go:232", after := #[{ on := 147, ground := Go.Ground.data }, { on := 151, ground := Go.Ground.data }], guard := none }) (v := ?v152_113) (by kernel_rfl) (tab_ns hT) (tab_free 5708990770823839524233143877797980545530986495 hT (by kernel_rfl) (by kernel_rfl)) (tab_rdy 5708990770823839524233143877797980545530986495 hT (by kernel_rfl) (by kernel_rfl) (by kernel_rfl)) (fun _ _ _ h => h) (Or.inl ⟨by kernel_rfl, ?hy152_113⟩) (by assumption) ?rest152_113
  case hy152_113 => (intro w9 hSw; clear hSw; go_simp; try with_reducible rfl)
  try simp only [Act.put, List.setIfInBounds_toArray, List.set_cons_zero, List.set_cons_succ, List.getElem_toArray, List.getElem_cons_zero, List.getElem_cons_succ]
  refine wpAnyH_take (i := 153) (oi := { dst := some 187, op := Go.Op.move (Go.Operand.tmp 186), type := 4, pos := "law.go:232", after := #[{ on := 152, ground := Go.Ground.data }, { on := 151, ground := Go.Ground.chain }], guard := none }) (v := ?v153_114) (by kernel_rfl) (tab_ns hT) (tab_free 11417981541647679048466287755595961091061972991 hT (by kernel_rfl) (by kernel_rfl)) (tab_rdy 11417981541647679048466287755595961091061972991 hT (by kernel_rfl) (by kernel_rfl) (by kernel_rfl)) (fun _ _ _ h => h) (Or.inl ⟨by kernel_rfl, ?hy153_114⟩) (by assumption) ?rest153_114
  case hy153_114 => (intro w9 hSw; clear hSw; go_simp; try with_reducible rfl)
  try simp only [Act.put, List.setIfInBounds_toArray, List.set_cons_zero, List.set_cons_succ, List.getElem_toArray, List.getElem_cons_zero, List.getElem_cons_succ]
  refine wpAnyH_ready (rs := [154]) (tab_ready 22835963083295358096932575511191922182123945983 hT (by kernel_rfl) (by kernel_rfl) (by kernel_rfl)) (by simp) ?_
  refine AllReadyH.con1 (o := { dst := some 188, op := Go.Op.call { callee := Go.Callee.value (Go.Operand.func 12), args := #[], argTypes := #[] }, type := 4, pos := "law.go:232", after := #[{ on := 153, ground := Go.Ground.chain }, { on := 153, ground := Go.Ground.guard }], guard := some (153, true) }) (by kernel_rfl) (by kernel_rfl) (fun K hK => ?_) AllReadyH.nil
  go_simp
  with_reducible refine (known_any _).mono ?_
  rintro e w47 ⟨rfl, hb⟩
  replace D1 := D1.on hb
  replace h3 := h3.on hb
  replace D3 := D3.on hb
  replace D5 := D5.on hb
  replace D7 := D7.on hb
  replace D9 := D9.on hb
  replace hst := hst.on hb
  replace D10 := D10.on hb
  replace bz := bz.trans (hb.mono bz.size)
  clear hb
  refine hK.out _ _ ⟨D1, D3, D5, D7, D9, D10⟩ (fun hH => ?_)
  clear hK K hS
  have hS := hH
  clear hH
  try simp only [Act.put, List.setIfInBounds_toArray, List.set_cons_zero, List.set_cons_succ, List.getElem_toArray, List.getElem_cons_zero, List.getElem_cons_succ]
  refine wpAnyH_take (i := 155) (oi := { dst := some 189, op := Go.Op.pick (Go.Operand.tmp 187) (Go.Operand.tmp 188) (Go.Operand.const (Go.Value.bool false)), type := 4, pos := "law.go:232", after := #[{ on := 153, ground := Go.Ground.data }, { on := 154, ground := Go.Ground.data }], guard := none }) (v := ?v155_115) (by kernel_rfl) (tab_ns hT) (tab_free 45671926166590716193865151022383844364247891967 hT (by kernel_rfl) (by kernel_rfl)) (tab_rdy 45671926166590716193865151022383844364247891967 hT (by kernel_rfl) (by kernel_rfl) (by kernel_rfl)) (fun _ _ _ h => h) (Or.inl ⟨by kernel_rfl, ?hy155_115⟩) (by assumption) ?rest155_115
  case hy155_115 => (intro w9 hSw; clear hSw; go_simp; try with_reducible rfl)
  try simp only [Act.put, List.setIfInBounds_toArray, List.set_cons_zero, List.set_cons_succ, List.getElem_toArray, List.getElem_cons_zero, List.getElem_cons_succ]
  refine wpAnyH_take (i := 156) (oi := { dst := some 0, op := Go.Op.assign (Go.Operand.tmp 189), type := 4, pos := "law.go:232", after := #[{ on := 155, ground := Go.Ground.data }, { on := 154, ground := Go.Ground.chain }, { on := 0, ground := Go.Ground.phase }, { on := 1, ground := Go.Ground.phase }, { on := 2, ground := Go.Ground.phase }, { on := 3, ground := Go.Ground.phase }, { on := 4, ground := Go.Ground.phase }, { on := 5, ground := Go.Ground.phase }, { on := 6, ground := Go.Ground.phase }, { on := 7, ground := Go.Ground.phase }, { on := 8, ground := Go.Ground.phase }, { on := 9, ground := Go.Ground.phase }, { on := 10, ground := Go.Ground.phase }, { on := 11, ground := Go.Ground.phase }, { on := 12, ground := Go.Ground.phase }, { on := 13, ground := Go.Ground.phase }, { on := 14, ground := Go.Ground.phase }, { on := 15, ground := Go.Ground.phase }, { on := 16, ground := Go.Ground.phase }, { on := 17, ground := Go.Ground.phase }, { on := 18, ground := Go.Ground.phase }, { on := 19, ground := Go.Ground.phase }, { on := 20, ground := Go.Ground.phase }, { on := 21, ground := Go.Ground.phase }, { on := 22, ground := Go.Ground.phase }, { on := 23, ground := Go.Ground.phase }, { on := 24, ground := Go.Ground.phase }, { on := 25, ground := Go.Ground.phase }, { on := 26, ground := Go.Ground.phase }, { on := 27, ground := Go.Ground.phase }, { on := 28, ground := Go.Ground.phase }, { on := 29, ground := Go.Ground.phase }, { on := 30, ground := Go.Ground.phase }, { on := 31, ground := Go.Ground.phase }, { on := 32, ground := Go.Ground.phase }, { on := 33, ground := Go.Ground.phase }, { on := 34, ground := Go.Ground.phase }, { on := 35, ground := Go.Ground.phase }, { on := 36, ground := Go.Ground.phase }, { on := 37, ground := Go.Ground.phase }, { on := 38, ground := Go.Ground.phase }, { on := 39, ground := Go.Ground.phase }, { on := 40, ground := Go.Ground.phase }, { on := 41, ground := Go.Ground.phase }, { on := 42, ground := Go.Ground.phase }, { on := 43, ground := Go.Ground.phase }, { on := 44, ground := Go.Ground.phase }, { on := 45, ground := Go.Ground.phase }, { on := 46, ground := Go.Ground.phase }, { on := 47, ground := Go.Ground.phase }, { on := 48, ground := Go.Ground.phase }, { on := 49, ground := Go.Ground.phase }, { on := 50, ground := Go.Ground.phase }, { on := 51, ground := Go.Ground.phase }, { on := 52, ground := Go.Ground.phase }, { on := 53, ground := Go.Ground.phase }, { on := 54, ground := Go.Ground.phase }, { on := 55, ground := Go.Ground.phase }, { on := 56, ground := Go.Ground.phase }, { on := 57, ground := Go.Ground.phase }, { on := 58, ground := Go.Ground.phase }, { on := 59, ground := Go.Ground.phase }, { on := 60, ground := Go.Ground.phase }, { on := 61, ground := Go.Ground.phase }, { on := 62, ground := Go.Ground.phase }, { on := 63, ground := Go.Ground.phase }, { on := 64, ground := Go.Ground.phase }, { on := 65, ground := Go.Ground.phase }, { on := 66, ground := Go.Ground.phase }, { on := 67, ground := Go.Ground.phase }, { on := 68, ground := Go.Ground.phase }, { on := 69, ground := Go.Ground.phase }, { on := 70, ground := Go.Ground.phase }, { on := 71, ground := Go.Ground.phase }, { on := 72, ground := Go.Ground.phase }, { on := 73, ground := Go.Ground.phase }, { on := 74, ground := Go.Ground.phase }, { on := 75, ground := Go.Ground.phase }, { on := 76, ground := Go.Ground.phase }, { on := 77, ground := Go.Ground.phase }, { on := 78, ground := Go.Ground.phase }, { on := 79, ground := Go.Ground.phase }, { on := 80, ground := Go.Ground.phase }, { on := 81, ground := Go.Ground.phase }, { on := 82, ground := Go.Ground.phase }, { on := 83, ground := Go.Ground.phase }, { on := 84, ground := Go.Ground.phase }, { on := 85, ground := Go.Ground.phase }, { on := 86, ground := Go.Ground.phase }, { on := 87, ground := Go.Ground.phase }, { on := 88, ground := Go.Ground.phase }, { on := 89, ground := Go.Ground.phase }, { on := 90, ground := Go.Ground.phase }, { on := 91, ground := Go.Ground.phase }, { on := 92, ground := Go.Ground.phase }, { on := 93, ground := Go.Ground.phase }, { on := 94, ground := Go.Ground.phase }, { on := 95, ground := Go.Ground.phase }, { on := 96, ground := Go.Ground.phase }, { on := 97, ground := Go.Ground.phase }, { on := 98, ground := Go.Ground.phase }, { on := 99, ground := Go.Ground.phase }, { on := 100, ground := Go.Ground.phase }, { on := 101, ground := Go.Ground.phase }, { on := 102, ground := Go.Ground.phase }, { on := 103, ground := Go.Ground.phase }, { on := 104, ground := Go.Ground.phase }, { on := 105, ground := Go.Ground.phase }, { on := 106, ground := Go.Ground.phase }, { on := 107, ground := Go.Ground.phase }, { on := 108, ground := Go.Ground.phase }, { on := 109, ground := Go.Ground.phase }, { on := 110, ground := Go.Ground.phase }, { on := 111, ground := Go.Ground.phase }, { on := 112, ground := Go.Ground.phase }, { on := 113, ground := Go.Ground.phase }, { on := 114, ground := Go.Ground.phase }, { on := 115, ground := Go.Ground.phase }, { on := 116, ground := Go.Ground.phase }, { on := 117, ground := Go.Ground.phase }, { on := 118, ground := Go.Ground.phase }, { on := 119, ground := Go.Ground.phase }, { on := 120, ground := Go.Ground.phase }, { on := 121, ground := Go.Ground.phase }, { on := 122, ground := Go.Ground.phase }, { on := 123, ground := Go.Ground.phase }, { on := 124, ground := Go.Ground.phase }, { on := 125, ground := Go.Ground.phase }, { on := 126, ground := Go.Ground.phase }, { on := 127, ground := Go.Ground.phase }, { on := 128, ground := Go.Ground.phase }, { on := 129, ground := Go.Ground.phase }, { on := 130, ground := Go.Ground.phase }, { on := 131, ground := Go.Ground.phase }, { on := 132, ground := Go.Ground.phase }, { on := 133, ground := Go.Ground.phase }, { on := 134, ground := Go.Ground.phase }, { on := 135, ground := Go.Ground.phase }, { on := 136, ground := Go.Ground.phase }, { on := 137, ground := Go.Ground.phase }, { on := 138, ground := Go.Ground.phase }, { on := 139, ground := Go.Ground.phase }, { on := 140, ground := Go.Ground.phase }, { on := 141, ground := Go.Ground.phase }, { on := 142, ground := Go.Ground.phase }, { on := 143, ground := Go.Ground.phase }, { on := 144, ground := Go.Ground.phase }, { on := 145, ground := Go.Ground.phase }, { on := 146, ground := Go.Ground.phase }, { on := 147, ground := Go.Ground.phase }, { on := 148, ground := Go.Ground.phase }, { on := 149, ground := Go.Ground.phase }, { on := 150, ground := Go.Ground.phase }, { on := 151, ground := Go.Ground.phase }, { on := 152, ground := Go.Ground.phase }, { on := 153, ground := Go.Ground.phase }, { on := 154, ground := Go.Ground.phase }, { on := 155, ground := Go.Ground.phase }], guard := none }) (v := ?v156_116) (by kernel_rfl) (tab_ns hT) (tab_free 91343852333181432387730302044767688728495783935 hT (by kernel_rfl) (by kernel_rfl)) (tab_rdy 91343852333181432387730302044767688728495783935 hT (by kernel_rfl) (by kernel_rfl) (by kernel_rfl)) (fun _ _ _ h => h) (Or.inl ⟨by kernel_rfl, ?hy156_116⟩) (by assumption) ?rest156_116
  case hy156_116 => (intro w9 hSw; clear hSw; go_simp; try with_reducible rfl)
  try simp only [Act.put, List.setIfInBounds_toArray, List.set_cons_zero, List.set_cons_succ, List.getElem_toArray, List.getElem_cons_zero, List.getElem_cons_succ]
  refine wpAnyH_done (tab_ready 182687704666362864775460604089535377456991567871 hT (by kernel_rfl) (by kernel_rfl) (by kernel_rfl)) ?_ _
  go_wp2_with fail
  go_ret
  exact ⟨rfl, bz⟩
end
end Go.Proofs.Ytceoefgjjekgaaa
