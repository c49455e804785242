/-
  Layer 7: the laws' small words: two3, num, big, known. (Written by wip/tools/gen_vxn.py.)
-/
import Derived.Test.YtceoefgjjekgaaaVwX
namespace Go.Proofs.Ytceoefgjjekgaaa
open Go.RowKit Go.Bw Go.Sort Go.Shelf
set_option linter.unusedVariables false
set_option linter.unusedSimpArgs false

theorem num_any (x : Int) (w : World) : Calls Try.prog 16 #[.int .i64 x] w fun e w' => e = .returned (.int .i64 x) ∧ w = w' := by
  go_enter Try.func16, Try.ntmps16
  go_wp2_with fail
  go_ret
  exact ⟨rfl, rfl⟩
def bigB (n : Nat) : Bool := decide ((400 : Int) < n)
set_option maxHeartbeats 1000000 in
theorem big_any (R C : Int) (A : Option Addr) (n c : Nat) (hn : n ≤ 9223372036854775807) (w : World) : Calls Try.prog 11 #[mV R C A n c] w (Ans w (.bool (bigB n))) := by
  have DB := Blk.new w [.int .i64 R, .int .i64 C, .slice A n c] 24
  obtain ⟨DB_0, DB_1, DB_2, DB_f0, DB_f1, DB_f2⟩ := Mbx.cells DB
  clear DB
  go_enter Try.func11, Try.ntmps11
  go_wp2_with fail
  go_ret
  exact ⟨rfl, by go_grown⟩

def F6 : List Int := [4607182418800017408, 4611686018427387904, 4613937818241073152, 4616189618054758400, 4617315517961601024, 4618441417868443648]
def G6 : List Int := [4607182418800017408, 4611686018427387904, 4613937818241073152, 4616189618054758400, 4617315517961601024, 4621256167635550208]
theorem wd_F6 : Wd F6 := by unfold Wd F6; intro x hx; simp at hx; omega
def Two3 (w : World) (e : Ending) (w' : World) : Prop := ∃ A c, e = .returned (mV 2 3 A 6 c) ∧ FL w' A 6 c F6 ∧ Below w.heap.size w w'
set_option maxHeartbeats 1000000 in
theorem two3_any (w : World) : Calls Try.prog 50 #[] w (Two3 w) := by
  have D0 := (Blk.new w [.int .i64 0, .int .i64 0, .slice none 0 0] 24).alloc (.cells (LF F6).toArray 37)
  obtain ⟨k0, k1, k2, f0, f1, f2⟩ := Mbx.cells D0
  go_enter Try.func50, Try.ntmps50
  go_wp2_with fail
  clear k0 k1 k2 f0 f1 f2
  have D2 := (Blk.new w [.int .i64 2, .int .i64 3, .slice (some ⟨w.heap.size + 1, 0, none⟩) 6 6] 24).alloc (.cells (LF F6).toArray 37)
  obtain ⟨k0, k1, k2, f0, f1, f2⟩ := Mbx.cells D2
  have ho := own_new (w.alloc (.cells #[.int .i64 2, .int .i64 3, .slice (some ⟨w.heap.size + 1, 0, none⟩) 6 6] 24)) F6 (by decide) (B := w.heap.size) (by simp)
  rw [World.size_alloc] at ho
  refine bodyPost_ret (v := mV 2 3 (some ⟨w.heap.size + 1, 0, none⟩) 6 6) (by simp [results, Try.results50, go_sem, k0, k1, k2, f0, f1, f2]) rfl ?_
  exact ⟨_, _, rfl, ⟨rfl, ho.nums, wd_F6⟩, by go_grown⟩

abbrev vA (s : Nat) : Vu := Vu.all s 2 3
abbrev vP (s : Nat) : Vu := ⟨(some ⟨s, 0, none⟩), 0, 1, 1, 0, 0, 1, 2, 2⟩
abbrev vT (s : Nat) : Vu := ⟨(some ⟨s, 0, none⟩), 0, 0, 0, 1, 1, 0, 3, 2⟩
abbrev vR1 (s : Nat) : Vu := ⟨(some ⟨s, 0, none⟩), 1, 0, 1, 0, 0, 1, 1, 3⟩
abbrev vR0 (s : Nat) : Vu := ⟨(some ⟨s, 0, none⟩), 0, 0, 1, 0, 0, 1, 1, 3⟩
abbrev vC0 (s : Nat) : Vu := ⟨(some ⟨s, 0, none⟩), 0, 0, 1, 0, 0, 1, 2, 1⟩
abbrev vD (s : Nat) : Vu := ⟨(some ⟨s, 0, none⟩), 0, 0, 1, 1, 0, 1, 2, 1⟩

theorem vk_A (s : Nat) : Vk (vA s) s 3 6 1 := all_vk s (R := 2) (C := 3) (by omega) (by omega) (by omega) (by omega) (n := 6) (by omega)
theorem vk_P (s : Nat) : Vk (vP s) s 3 6 2 := part_vk (vk_A s) (by omega) 0 1 2 2
theorem vk_T (s : Nat) : Vk (vT s) s 3 6 1 := turn_vk (vk_A s)
theorem vk_R1 (s : Nat) : Vk (vR1 s) s 3 6 2 := part_vk (vk_A s) (by omega) 1 0 1 3
theorem vk_R0 (s : Nat) : Vk (vR0 s) s 3 6 2 := part_vk (vk_A s) (by omega) 0 0 1 3
theorem vk_C0 (s : Nat) : Vk (vC0 s) s 3 6 2 := part_vk (vk_A s) (by omega) 0 0 2 1
theorem vk_D (s : Nat) : Vk (vD s) s 3 6 2 := diag_vk (vk_A s) (by omega)
theorem St.pS {W : World} {B s g cap c : Nat} {l : List Int} (h : St W B s g cap c l) : PS W (some ⟨s, 0, none⟩) := fun a e => by
  cases e
  exact ⟨s, _, rfl, h.box⟩
theorem eta_nat {k m : Nat} (h : k < m) : m = 3 → k = 0 ∨ k = 1 ∨ k = 2 := by omega

section
variable {w : World} {B s g cap : Nat} {l : List Int}
theorem k_Of {A : Option Addr} {c : Nat} (h : FL w A 6 c F6) : Calls Try.prog 13 #[mV 2 3 A 6 c] w (NewV w 2 3 F6) := Of_yes h rfl (by omega)
theorem k_P (W : World) : Calls Try.prog 49 #[(vA s).V, .int .i64 0, .int .i64 1, .int .i64 2, .int .i64 2] W (Ans W (vP s).V) := Part_any (vk_A s).bd (by omega) (by omega) W
theorem k_PS (h : St w B s g cap 3 F6) : Calls Try.prog 38 #[(vP s).V, .int .i64 1, .int .i64 1, .float .f64 4621256167635550208] w (Wrote w B s g cap 3 0 G6) := Set_any h (vk_P s) 1 1 (x := 4621256167635550208) (by omega) (by omega)
theorem k_Of1 {A : Option Addr} {c : Nat} {l : List Int} (h : FL w A 1 c l) : Calls Try.prog 13 #[mV 1 2 A 1 c] w (NoV w 2) := Of_no h (.inr ⟨rfl, by omega⟩)
theorem k_New (W : World) : Calls Try.prog 23 #[.int .i64 513, .int .i64 1] W (NoV W 2) := New_no rfl W
theorem k_A10 (h : St w B s g cap 3 G6) : Calls Try.prog 25 #[(vA s).V, .int .i64 1, .int .i64 0] w (Ans w (.float .f64 4616189618054758400)) := At_any h (vk_A s) 1 0
theorem k_T (W : World) : Calls Try.prog 46 #[(vA s).V] W (Ans W (vT s).V) := T_any (vA s) W
theorem k_T01 (h : St w B s g cap 3 G6) : Calls Try.prog 25 #[(vT s).V, .int .i64 0, .int .i64 1] w (Ans w (.float .f64 4616189618054758400)) := At_any h (vk_T s) 0 1
theorem k_R1 (W : World) : Calls Try.prog 47 #[(vA s).V, .int .i64 1] W (Ans W (vR1 s).V) := Row_any (vk_A s).bd (by omega) W
theorem k_R1L (W : World) : Calls Try.prog 31 #[(vR1 s).V] W (Ans W (.int .i64 3)) := Len_any (vk_R1 s).bd W
theorem k_C3 (W : World) : Calls Try.prog 48 #[(vA s).V, .int .i64 3] W (Ans W Vu.zero.V) := Col_any (vk_A s).bd (by omega) W
theorem k_SZ (W : World) : Calls Try.prog 15 #[Vu.zero.V, Vu.zero.V] W (Ans W (.bool true)) := Same_any (B := 0) (s := 0) (g := 0) (cap := 0) (c := 0) (l := []) (n := 0) (B2 := 0) (s2 := 0) (g2 := 0) (cap2 := 0) (c2 := 0) (l2 := []) (n2 := 0) (zero_vk 0 0 0 (K := 1) (by omega)) (fun h => absurd rfl h) (zero_vk 0 0 0 (K := 1) (by omega)) (fun h => absurd rfl h)
theorem k_A12 (h : St w B s g cap 3 G6) : Calls Try.prog 25 #[(vA s).V, .int .i64 1, .int .i64 2] w (Ans w (.float .f64 4621256167635550208)) := At_any h (vk_A s) 1 2
theorem k_D (W : World) : Calls Try.prog 51 #[(vA s).V] W (Ans W (vD s).V) := Diag_any (vk_A s).bd W
theorem k_DG (h : St w B s g cap 3 G6) : Calls Try.prog 35 #[(vD s).V, .int .i64 1] w (Ans w (.float .f64 4617315517961601024)) := Get_any h (vk_D s) 1
theorem k_R0 (W : World) : Calls Try.prog 47 #[(vA s).V, .int .i64 0] W (Ans W (vR0 s).V) := Row_any (vk_A s).bd (by omega) W
theorem k_C0 (W : World) : Calls Try.prog 48 #[(vA s).V, .int .i64 0] W (Ans W (vC0 s).V) := Col_any (vk_A s).bd (by omega) W
theorem sh_RC : shB (vR0 s) (vC0 s) = true := by
  unfold shB
  simp only [beq_self_eq_true, Bool.true_and]
  exact decide_eq_true ⟨0, by decide, 0, by decide, by simp [Vu.pl, Vu.p0, Vu.p1, Vu.ei, Vu.ej]⟩
theorem sh_RR : shB (vR0 s) (vR1 s) = false := by
  unfold shB
  simp only [beq_self_eq_true, Bool.true_and]
  refine decide_eq_false ?_
  rintro ⟨m, hm, k, hk, e⟩
  have e1 := congrArg Prod.fst e
  unfold Vu.pl Vu.p0 Vu.ei Vu.ej at e1
  simp at e1 hm hk
  omega
theorem k_S1 (h : St w B s g cap 3 G6) : Calls Try.prog 42 #[(vR0 s).V, (vC0 s).V] w (Ans w (.bool true)) := by
  have := Shares_any (w := w) (vk_R0 s) (fun _ => ⟨h, rfl⟩) (vk_C0 s).bd h.pS h.pS
  rwa [sh_RC] at this
theorem k_S2 (h : St w B s g cap 3 G6) : Calls Try.prog 42 #[(vR0 s).V, (vR1 s).V] w (Ans w (.bool false)) := by
  have := Shares_any (w := w) (vk_R0 s) (fun _ => ⟨h, rfl⟩) (vk_R1 s).bd h.pS h.pS
  rwa [sh_RR] at this
theorem k_C (h : St w B s g cap 3 G6) : Calls Try.prog 41 #[(vA s).V] w (NewU w 2 3 G6) := by
  have := Copy_yes (vk_A s) h rfl (by simp)
  have e : (vA s).fl 3 G6 = G6 := all_fl s (R := 2) (C := 3) (by omega) (by omega) (by omega) (by omega) rfl
  rwa [e] at this
theorem k_S3 {B2 s2 g2 cap2 : Nat} (h : St w B s g cap 3 G6) (h2 : St w B2 s2 g2 cap2 3 G6) (hne : s2 ≠ s) : Calls Try.prog 42 #[(vA s2).V, (vA s).V] w (Ans w (.bool false)) := by
  have := Shares_any (w := w) (vk_A s2) (fun _ => ⟨h2, rfl⟩) (vk_A s).bd h2.pS h.pS
  have e : shB (vA s2) (vA s) = false := by unfold shB; simp [hne]
  rwa [e] at this
theorem k_S20 (h : St w B s g cap 3 G6) : Calls Try.prog 38 #[(vA s).V, .int .i64 2, .int .i64 0, .float .f64 4607182418800017408] w (Wrote w B s g cap 3 2 G6) := Set_any h (vk_A s) 2 0 (x := 4607182418800017408) (by omega) (by omega)
end

theorem k_SZ2 {w : World} {B s g cap : Nat} (h : St w B s g cap 3 G6) : Calls Try.prog 38 #[Vu.zero.V, .int .i64 0, .int .i64 0, .float .f64 4607182418800017408] w (Wrote w B s g cap 3 1 G6) := Set_any h (zero_vk s 3 6 (K := 1) (by omega)) 0 0 (x := 4607182418800017408) (by omega) (by omega)
theorem St.drew {W : World} {B s g cap c : Nat} {l : List Int} (h : St W B s g cap c l) : St W.drew B s g cap c l := ⟨h.box.drew, h.own, h.ne, h.wd, h.lo, h.len, h.col⟩
theorem o_lit4 : (FloatKind.f64.format.order 4616189618054758400 4616189618054758400 == some .eq) = true := by decide +kernel
theorem o_lit5 : (FloatKind.f64.format.order 4617315517961601024 4617315517961601024 == some .eq) = true := by decide +kernel
theorem o_lit9 : (FloatKind.f64.format.order 4621256167635550208 4621256167635550208 == some .eq) = true := by decide +kernel

set_option maxRecDepth 100000 in
set_option maxHeartbeats 8000000 in
theorem known_any (w : World) : Calls Try.prog 12 #[] w (Ans w (.bool true)) := by
  have o4 := o_lit4
  have o5 := o_lit5
  have o9 := o_lit9
  have hz : IntKind.i64.wrap 0 = 0 := by decide
  go_enter Try.func12, Try.ntmps12
  have bz := Below.refl w.heap.size w
  go_wp2_with fail
  with_reducible refine (two3_any _).mono ?_
  rintro e w1 ⟨A3, c3, rfl, hF, hb⟩
  replace bz := bz.trans (hb.mono bz.size)
  have z1 := bz.size
  go_wp2_with fail
  with_reducible refine (k_Of hF).mono ?_
  rintro e w2 ⟨s, g, cap, rfl, hst, hb⟩
  replace bz := bz.trans (hb.mono bz.size)
  clear hF
  have hlo : w.heap.size ≤ s ∧ w.heap.size ≤ g := by have h1 := hst.lo; have h2 := hst.gt; omega
  have hlt := And.intro hst.lt hst.gt.2
  have D1 := Blk.new w2 (vA s).L 30
  obtain ⟨HD1, eHD1⟩ : ∃ H, w2.heap.size = H := ⟨_, rfl⟩
  rw [eHD1] at D1
  replace hst := hst.on ((Below.refl _ _).alloc (Nat.le_refl _) (.cells (vA s).L.toArray 30))
  replace bz := bz.alloc bz.size (.cells (vA s).L.toArray 30)
  have HHD1 := Lib.hid eHD1
  clear hb
  rw [eHD1] at hlt
  obtain ⟨cD1_0, cD1_1, cD1_2, cD1_3, cD1_4, cD1_5, cD1_6, cD1_7, cD1_8⟩ := Vbx.cells D1
  go_wp2_with fail
  with_reducible refine (k_P _).mono ?_
  rintro e w3 ⟨rfl, hb⟩
  clear cD1_0 cD1_1 cD1_2 cD1_3 cD1_4 cD1_5 cD1_6 cD1_7 cD1_8
  replace hst := hst.on hb
  replace D1 := D1.on hb
  replace bz := bz.trans (hb.mono bz.size)
  clear hb
  go_wp2_with fail
  with_reducible refine (k_PS hst).mono ?_
  rintro e w4 ⟨rfl, hst2, hg⟩
  replace D1 := D1.grown hg (by simp; omega)
  replace bz := bz.grown hg bz.size (fun k e => by cases e; omega)
  replace hst := hst2
  clear hst2 hg
  have hF : FL (w4.alloc (.cells #[.float .f64 4607182418800017408] 37)) (some ⟨w4.heap.size, 0, none⟩) 1 1 [4607182418800017408] := ⟨rfl, (own_new w4 [4607182418800017408] (by decide) (B := 0) (Nat.zero_le _)).nums, fun x hx => by simp at hx; omega⟩
  replace hst := hst.on ((Below.refl _ _).alloc (Nat.le_refl _) (.cells #[.float .f64 4607182418800017408] 37))
  replace D1 := D1.on ((Below.refl _ _).alloc (Nat.le_refl _) (.cells #[.float .f64 4607182418800017408] 37))
  replace bz := bz.alloc bz.size (.cells #[.float .f64 4607182418800017408] 37)
  go_wp2_with fail
  with_reducible refine (k_Of1 hF).mono ?_
  rintro e w5 ⟨rfl, hb⟩
  replace hst := hst.on hb
  replace D1 := D1.on hb
  replace bz := bz.trans (hb.mono bz.size)
  clear hF hb
  replace hst := hst.on ((Below.refl _ _).alloc (Nat.le_refl _) (.cells Vu.zero.L.toArray 30))
  replace D1 := D1.on ((Below.refl _ _).alloc (Nat.le_refl _) (.cells Vu.zero.L.toArray 30))
  replace bz := bz.alloc bz.size (.cells Vu.zero.L.toArray 30)
  go_wp2_with fail
  with_reducible refine (k_New _).mono ?_
  rintro e w6 ⟨rfl, hb⟩
  replace hst := hst.on hb
  replace D1 := D1.on hb
  replace bz := bz.trans (hb.mono bz.size)
  clear hb
  replace hst := hst.on ((Below.refl _ _).alloc (Nat.le_refl _) (.cells Vu.zero.L.toArray 30))
  replace D1 := D1.on ((Below.refl _ _).alloc (Nat.le_refl _) (.cells Vu.zero.L.toArray 30))
  replace bz := bz.alloc bz.size (.cells Vu.zero.L.toArray 30)
  go_wp2_with fail
  generalize (w6.alloc (.cells Vu.zero.L.toArray 30)) = W0 at hst D1 bz ⊢
  replace hst := hst.drew
  replace D1 := D1.drew
  replace bz := bz.drew
  refine wp_region_held_drew (S := fun w9 : World => Vbx w9 HD1 (vA s)) (by kernel_rfl) D1 (fun hS => ?_)
  refine wpAnyH_take (i := 0) (v := ?v0_1) rfl (by kernel_rfl) (by kernel_rfl) (by kernel_rfl) (fun _ _ _ h => h) (Or.inl ⟨by rfl, ?hy0_1⟩) (by assumption) ?rest0_1
  case hy0_1 => (intro w9 hSw; clear hSw; go_simp; try with_reducible rfl)
  try simp only [Act.put, List.setIfInBounds_toArray, List.set_cons_zero, List.set_cons_succ, List.getElem_toArray, List.getElem_cons_zero, List.getElem_cons_succ]
  refine wpAnyH_take (i := 2) (v := ?v2_2) rfl (by kernel_rfl) (by kernel_rfl) (by kernel_rfl) (fun _ _ _ h => h) (Or.inl ⟨by rfl, ?hy2_2⟩) (by assumption) ?rest2_2
  case hy2_2 => (intro w9 hSw; clear hSw; go_simp; try with_reducible rfl)
  try simp only [Act.put, List.setIfInBounds_toArray, List.set_cons_zero, List.set_cons_succ, List.getElem_toArray, List.getElem_cons_zero, List.getElem_cons_succ]
  refine wpAnyH_ready (rs := [1]) (by kernel_rfl) (by simp) ?_
  refine AllReadyH.cons rfl (fun K hK => ?_) AllReadyH.nil
  go_simp
  with_reducible refine (num_any _ _).mono ?_
  rintro e v7 ⟨rfl, rfl⟩
  refine hK.out _ _ D1 (fun hH => ?_)
  clear hK K hS
  have hS := hH
  clear hH
  try simp only [Act.put, List.setIfInBounds_toArray, List.set_cons_zero, List.set_cons_succ, List.getElem_toArray, List.getElem_cons_zero, List.getElem_cons_succ]
  refine wpAnyH_ready (rs := [3]) (by kernel_rfl) (by simp) ?_
  refine AllReadyH.cons rfl (fun K hK => ?_) AllReadyH.nil
  go_simp
  with_reducible refine (num_any _ _).mono ?_
  rintro e v8 ⟨rfl, rfl⟩
  refine hK.out _ _ D1 (fun hH => ?_)
  clear hK K hS
  have hS := hH
  clear hH
  try simp only [Act.put, List.setIfInBounds_toArray, List.set_cons_zero, List.set_cons_succ, List.getElem_toArray, List.getElem_cons_zero, List.getElem_cons_succ]
  refine wpAnyH_take (i := 4) (v := ?v4_3) rfl (by kernel_rfl) (by kernel_rfl) (by kernel_rfl) (fun _ _ _ h => h) (Or.inl ⟨by rfl, ?hy4_3⟩) (by assumption) ?rest4_3
  case hy4_3 => (intro w9 hSw; clear hSw; go_simp; try with_reducible rfl)
  try simp only [Act.put, List.setIfInBounds_toArray, List.set_cons_zero, List.set_cons_succ, List.getElem_toArray, List.getElem_cons_zero, List.getElem_cons_succ]
  refine wpAnyH_take (i := 5) (v := ?v5_4) rfl (by kernel_rfl) (by kernel_rfl) (by kernel_rfl) (fun _ _ _ h => h) (Or.inl ⟨by rfl, ?hy5_4⟩) (by assumption) ?rest5_4
  case hy5_4 => (intro w9 hSw; clear hSw; go_simp; try with_reducible rfl)
  try simp only [Act.put, List.setIfInBounds_toArray, List.set_cons_zero, List.set_cons_succ, List.getElem_toArray, List.getElem_cons_zero, List.getElem_cons_succ]
  refine wpAnyH_take (i := 6) (v := ?v6_5) rfl (by kernel_rfl) (by kernel_rfl) (by kernel_rfl) (fun _ _ _ h => h) (Or.inl ⟨by rfl, ?hy6_5⟩) (by assumption) ?rest6_5
  case hy6_5 => (intro w9 hSw; clear hSw; go_simp; try with_reducible rfl)
  try simp only [Act.put, List.setIfInBounds_toArray, List.set_cons_zero, List.set_cons_succ, List.getElem_toArray, List.getElem_cons_zero, List.getElem_cons_succ]
  refine wpAnyH_take (i := 7) (v := ?v7_6) rfl (by kernel_rfl) (by kernel_rfl) (by kernel_rfl) (fun _ _ _ h => h) (Or.inl ⟨by rfl, ?hy7_6⟩) (by assumption) ?rest7_6
  case hy7_6 => (intro w9 hSw; obtain ⟨k0, k1, k2, k3, k4, k5, k6, k7, k8⟩ := Vbx.cells hSw; go_simp; try with_reducible rfl)
  try simp only [Act.put, List.setIfInBounds_toArray, List.set_cons_zero, List.set_cons_succ, List.getElem_toArray, List.getElem_cons_zero, List.getElem_cons_succ]
  refine wpAnyH_ready (rs := [8]) (by kernel_rfl) (by simp) ?_
  refine AllReadyH.cons rfl (fun K hK => ?_) AllReadyH.nil
  go_simp
  with_reducible refine (k_A10 hst).mono ?_
  rintro e w9 ⟨rfl, hb⟩
  replace hst := hst.on hb
  replace D1 := D1.on hb
  replace bz := bz.trans (hb.mono bz.size)
  clear hb
  refine hK.out _ _ D1 (fun hH => ?_)
  clear hK K hS
  have hS := hH
  clear hH
  try simp only [Act.put, List.setIfInBounds_toArray, List.set_cons_zero, List.set_cons_succ, List.getElem_toArray, List.getElem_cons_zero, List.getElem_cons_succ]
  refine wpAnyH_take (i := 9) (v := ?v9_7) rfl (by kernel_rfl) (by kernel_rfl) (by kernel_rfl) (fun _ _ _ h => h) (Or.inl ⟨by rfl, ?hy9_7⟩) (by assumption) ?rest9_7
  case hy9_7 => (intro w9 hSw; clear hSw; go_simp; try with_reducible rfl)
  try simp only [Act.put, List.setIfInBounds_toArray, List.set_cons_zero, List.set_cons_succ, List.getElem_toArray, List.getElem_cons_zero, List.getElem_cons_succ]
  refine wpAnyH_take (i := 10) (v := ?v10_8) rfl (by kernel_rfl) (by kernel_rfl) (by kernel_rfl) (fun _ _ _ h => h) (Or.inl ⟨by rfl, ?hy10_8⟩) (by assumption) ?rest10_8
  case hy10_8 => (intro w9 hSw; clear hSw; go_simp; try with_reducible rfl)
  try simp only [Act.put, List.setIfInBounds_toArray, List.set_cons_zero, List.set_cons_succ, List.getElem_toArray, List.getElem_cons_zero, List.getElem_cons_succ]
  refine wpAnyH_take (i := 11) (v := ?v11_9) rfl (by kernel_rfl) (by kernel_rfl) (by kernel_rfl) (fun _ _ _ h => h) (Or.inl ⟨by rfl, ?hy11_9⟩) (by assumption) ?rest11_9
  case hy11_9 => (intro w9 hSw; clear hSw; go_simp; try with_reducible rfl)
  try simp only [Act.put, List.setIfInBounds_toArray, List.set_cons_zero, List.set_cons_succ, List.getElem_toArray, List.getElem_cons_zero, List.getElem_cons_succ]
  refine wpAnyH_take (i := 12) (v := ?v12_10) rfl (by kernel_rfl) (by kernel_rfl) (by kernel_rfl) (fun _ _ _ h => h) (Or.inl ⟨by rfl, ?hy12_10⟩) (by assumption) ?rest12_10
  case hy12_10 => (intro w9 hSw; obtain ⟨k0, k1, k2, k3, k4, k5, k6, k7, k8⟩ := Vbx.cells hSw; go_simp; try with_reducible rfl)
  try simp only [Act.put, List.setIfInBounds_toArray, List.set_cons_zero, List.set_cons_succ, List.getElem_toArray, List.getElem_cons_zero, List.getElem_cons_succ]
  refine wpAnyH_ready (rs := [13]) (by kernel_rfl) (by simp) ?_
  refine AllReadyH.cons rfl (fun K hK => ?_) AllReadyH.nil
  go_simp
  with_reducible refine (k_T _).mono ?_
  rintro e w10 ⟨rfl, hb⟩
  replace hst := hst.on hb
  replace D1 := D1.on hb
  replace bz := bz.trans (hb.mono bz.size)
  clear hb
  refine hK.out _ _ D1 (fun hH => ?_)
  clear hK K hS
  have hS := hH
  clear hH
  try simp only [Act.put, List.setIfInBounds_toArray, List.set_cons_zero, List.set_cons_succ, List.getElem_toArray, List.getElem_cons_zero, List.getElem_cons_succ]
  refine wpAnyH_ready (rs := [14]) (by kernel_rfl) (by simp) ?_
  refine AllReadyH.cons rfl (fun K hK => ?_) AllReadyH.nil
  go_simp
  with_reducible refine (k_T01 hst).mono ?_
  rintro e w11 ⟨rfl, hb⟩
  replace hst := hst.on hb
  replace D1 := D1.on hb
  replace bz := bz.trans (hb.mono bz.size)
  clear hb
  refine hK.out _ _ D1 (fun hH => ?_)
  clear hK K hS
  have hS := hH
  clear hH
  try simp only [Act.put, List.setIfInBounds_toArray, List.set_cons_zero, List.set_cons_succ, List.getElem_toArray, List.getElem_cons_zero, List.getElem_cons_succ]
  refine wpAnyH_take (i := 15) (v := ?v15_11) rfl (by kernel_rfl) (by kernel_rfl) (by kernel_rfl) (fun _ _ _ h => h) (Or.inl ⟨by rfl, ?hy15_11⟩) (by assumption) ?rest15_11
  case hy15_11 => (intro w9 hSw; clear hSw; go_simp; try with_reducible rfl)
  try simp only [Act.put, List.setIfInBounds_toArray, List.set_cons_zero, List.set_cons_succ, List.getElem_toArray, List.getElem_cons_zero, List.getElem_cons_succ]
  refine wpAnyH_take (i := 16) (v := ?v16_12) rfl (by kernel_rfl) (by kernel_rfl) (by kernel_rfl) (fun _ _ _ h => h) (Or.inl ⟨by rfl, ?hy16_12⟩) (by assumption) ?rest16_12
  case hy16_12 => (intro w9 hSw; clear hSw; go_simp; try with_reducible rfl)
  try simp only [Act.put, List.setIfInBounds_toArray, List.set_cons_zero, List.set_cons_succ, List.getElem_toArray, List.getElem_cons_zero, List.getElem_cons_succ]
  refine wpAnyH_take (i := 17) (v := ?v17_13) rfl (by kernel_rfl) (by kernel_rfl) (by kernel_rfl) (fun _ _ _ h => h) (Or.inl ⟨by rfl, ?hy17_13⟩) (by assumption) ?rest17_13
  case hy17_13 => (intro w9 hSw; clear hSw; go_simp; try with_reducible rfl)
  try simp only [Act.put, List.setIfInBounds_toArray, List.set_cons_zero, List.set_cons_succ, List.getElem_toArray, List.getElem_cons_zero, List.getElem_cons_succ]
  refine wpAnyH_take (i := 18) (v := ?v18_14) rfl (by kernel_rfl) (by kernel_rfl) (by kernel_rfl) (fun _ _ _ h => h) (Or.inl ⟨by rfl, ?hy18_14⟩) (by assumption) ?rest18_14
  case hy18_14 => (intro w9 hSw; obtain ⟨k0, k1, k2, k3, k4, k5, k6, k7, k8⟩ := Vbx.cells hSw; go_simp; try with_reducible rfl)
  try simp only [Act.put, List.setIfInBounds_toArray, List.set_cons_zero, List.set_cons_succ, List.getElem_toArray, List.getElem_cons_zero, List.getElem_cons_succ]
  refine wpAnyH_ready (rs := [19]) (by kernel_rfl) (by simp) ?_
  refine AllReadyH.cons rfl (fun K hK => ?_) AllReadyH.nil
  go_simp
  with_reducible refine (k_R1 _).mono ?_
  rintro e w12 ⟨rfl, hb⟩
  replace hst := hst.on hb
  replace D1 := D1.on hb
  replace bz := bz.trans (hb.mono bz.size)
  clear hb
  refine hK.out _ _ D1 (fun hH => ?_)
  clear hK K hS
  have hS := hH
  clear hH
  try simp only [Act.put, List.setIfInBounds_toArray, List.set_cons_zero, List.set_cons_succ, List.getElem_toArray, List.getElem_cons_zero, List.getElem_cons_succ]
  refine wpAnyH_ready (rs := [20]) (by kernel_rfl) (by simp) ?_
  refine AllReadyH.cons rfl (fun K hK => ?_) AllReadyH.nil
  go_simp
  with_reducible refine (k_R1L _).mono ?_
  rintro e w13 ⟨rfl, hb⟩
  replace hst := hst.on hb
  replace D1 := D1.on hb
  replace bz := bz.trans (hb.mono bz.size)
  clear hb
  refine hK.out _ _ D1 (fun hH => ?_)
  clear hK K hS
  have hS := hH
  clear hH
  try simp only [Act.put, List.setIfInBounds_toArray, List.set_cons_zero, List.set_cons_succ, List.getElem_toArray, List.getElem_cons_zero, List.getElem_cons_succ]
  refine wpAnyH_take (i := 21) (v := ?v21_15) rfl (by kernel_rfl) (by kernel_rfl) (by kernel_rfl) (fun _ _ _ h => h) (Or.inl ⟨by rfl, ?hy21_15⟩) (by assumption) ?rest21_15
  case hy21_15 => (intro w9 hSw; clear hSw; go_simp; try with_reducible rfl)
  try simp only [Act.put, List.setIfInBounds_toArray, List.set_cons_zero, List.set_cons_succ, List.getElem_toArray, List.getElem_cons_zero, List.getElem_cons_succ]
  refine wpAnyH_take (i := 22) (v := ?v22_16) rfl (by kernel_rfl) (by kernel_rfl) (by kernel_rfl) (fun _ _ _ h => h) (Or.inl ⟨by rfl, ?hy22_16⟩) (by assumption) ?rest22_16
  case hy22_16 => (intro w9 hSw; clear hSw; go_simp; try with_reducible rfl)
  try simp only [Act.put, List.setIfInBounds_toArray, List.set_cons_zero, List.set_cons_succ, List.getElem_toArray, List.getElem_cons_zero, List.getElem_cons_succ]
  refine wpAnyH_take (i := 23) (v := ?v23_17) rfl (by kernel_rfl) (by kernel_rfl) (by kernel_rfl) (fun _ _ _ h => h) (Or.inl ⟨by rfl, ?hy23_17⟩) (by assumption) ?rest23_17
  case hy23_17 => (intro w9 hSw; clear hSw; go_simp; try with_reducible rfl)
  try simp only [Act.put, List.setIfInBounds_toArray, List.set_cons_zero, List.set_cons_succ, List.getElem_toArray, List.getElem_cons_zero, List.getElem_cons_succ]
  refine wpAnyH_take (i := 24) (v := ?v24_18) rfl (by kernel_rfl) (by kernel_rfl) (by kernel_rfl) (fun _ _ _ h => h) (Or.inl ⟨by rfl, ?hy24_18⟩) (by assumption) ?rest24_18
  case hy24_18 => (intro w9 hSw; obtain ⟨k0, k1, k2, k3, k4, k5, k6, k7, k8⟩ := Vbx.cells hSw; go_simp; try with_reducible rfl)
  try simp only [Act.put, List.setIfInBounds_toArray, List.set_cons_zero, List.set_cons_succ, List.getElem_toArray, List.getElem_cons_zero, List.getElem_cons_succ]
  refine wpAnyH_take (i := 26) (v := ?v26_19) rfl (by kernel_rfl) (by kernel_rfl) (by kernel_rfl) (fun _ _ _ h => h) (Or.inl ⟨by rfl, ?hy26_19⟩) (by assumption) ?rest26_19
  case hy26_19 => (intro w9 hSw; clear hSw; go_simp; try with_reducible rfl)
  try simp only [Act.put, List.setIfInBounds_toArray, List.set_cons_zero, List.set_cons_succ, List.getElem_toArray, List.getElem_cons_zero, List.getElem_cons_succ]
  refine wpAnyH_ready (rs := [25]) (by kernel_rfl) (by simp) ?_
  refine AllReadyH.cons rfl (fun K hK => ?_) AllReadyH.nil
  go_simp
  with_reducible refine (k_C3 _).mono ?_
  rintro e w14 ⟨rfl, hb⟩
  replace hst := hst.on hb
  replace D1 := D1.on hb
  replace bz := bz.trans (hb.mono bz.size)
  clear hb
  refine hK.out _ _ D1 (fun hH => ?_)
  clear hK K hS
  have hS := hH
  clear hH
  try simp only [Act.put, List.setIfInBounds_toArray, List.set_cons_zero, List.set_cons_succ, List.getElem_toArray, List.getElem_cons_zero, List.getElem_cons_succ]
  refine wpAnyH_ready (rs := [27]) (by kernel_rfl) (by simp) ?_
  refine AllReadyH.cons rfl (fun K hK => ?_) AllReadyH.nil
  go_simp
  with_reducible refine (k_SZ _).mono ?_
  rintro e w15 ⟨rfl, hb⟩
  replace hst := hst.on hb
  replace D1 := D1.on hb
  replace bz := bz.trans (hb.mono bz.size)
  clear hb
  refine hK.out _ _ D1 (fun hH => ?_)
  clear hK K hS
  have hS := hH
  clear hH
  try simp only [Act.put, List.setIfInBounds_toArray, List.set_cons_zero, List.set_cons_succ, List.getElem_toArray, List.getElem_cons_zero, List.getElem_cons_succ]
  refine wpAnyH_take (i := 28) (v := ?v28_20) rfl (by kernel_rfl) (by kernel_rfl) (by kernel_rfl) (fun _ _ _ h => h) (Or.inl ⟨by rfl, ?hy28_20⟩) (by assumption) ?rest28_20
  case hy28_20 => (intro w9 hSw; clear hSw; go_simp; try with_reducible rfl)
  try simp only [Act.put, List.setIfInBounds_toArray, List.set_cons_zero, List.set_cons_succ, List.getElem_toArray, List.getElem_cons_zero, List.getElem_cons_succ]
  refine wpAnyH_take (i := 29) (v := ?v29_21) rfl (by kernel_rfl) (by kernel_rfl) (by kernel_rfl) (fun _ _ _ h => h) (Or.inl ⟨by rfl, ?hy29_21⟩) (by assumption) ?rest29_21
  case hy29_21 => (intro w9 hSw; clear hSw; go_simp; try with_reducible rfl)
  try simp only [Act.put, List.setIfInBounds_toArray, List.set_cons_zero, List.set_cons_succ, List.getElem_toArray, List.getElem_cons_zero, List.getElem_cons_succ]
  refine wpAnyH_take (i := 30) (v := ?v30_22) rfl (by kernel_rfl) (by kernel_rfl) (by kernel_rfl) (fun _ _ _ h => h) (Or.inl ⟨by rfl, ?hy30_22⟩) (by assumption) ?rest30_22
  case hy30_22 => (intro w9 hSw; obtain ⟨k0, k1, k2, k3, k4, k5, k6, k7, k8⟩ := Vbx.cells hSw; go_simp; try with_reducible rfl)
  try simp only [Act.put, List.setIfInBounds_toArray, List.set_cons_zero, List.set_cons_succ, List.getElem_toArray, List.getElem_cons_zero, List.getElem_cons_succ]
  refine wpAnyH_ready (rs := [31]) (by kernel_rfl) (by simp) ?_
  refine AllReadyH.cons rfl (fun K hK => ?_) AllReadyH.nil
  go_simp
  with_reducible refine (k_A12 hst).mono ?_
  rintro e w16 ⟨rfl, hb⟩
  replace hst := hst.on hb
  replace D1 := D1.on hb
  replace bz := bz.trans (hb.mono bz.size)
  clear hb
  refine hK.out _ _ D1 (fun hH => ?_)
  clear hK K hS
  have hS := hH
  clear hH
  try simp only [Act.put, List.setIfInBounds_toArray, List.set_cons_zero, List.set_cons_succ, List.getElem_toArray, List.getElem_cons_zero, List.getElem_cons_succ]
  refine wpAnyH_take (i := 32) (v := ?v32_23) rfl (by kernel_rfl) (by kernel_rfl) (by kernel_rfl) (fun _ _ _ h => h) (Or.inl ⟨by rfl, ?hy32_23⟩) (by assumption) ?rest32_23
  case hy32_23 => (intro w9 hSw; clear hSw; go_simp; try with_reducible rfl)
  try simp only [Act.put, List.setIfInBounds_toArray, List.set_cons_zero, List.set_cons_succ, List.getElem_toArray, List.getElem_cons_zero, List.getElem_cons_succ]
  refine wpAnyH_take (i := 33) (v := ?v33_24) rfl (by kernel_rfl) (by kernel_rfl) (by kernel_rfl) (fun _ _ _ h => h) (Or.inl ⟨by rfl, ?hy33_24⟩) (by assumption) ?rest33_24
  case hy33_24 => (intro w9 hSw; clear hSw; go_simp; try with_reducible rfl)
  try simp only [Act.put, List.setIfInBounds_toArray, List.set_cons_zero, List.set_cons_succ, List.getElem_toArray, List.getElem_cons_zero, List.getElem_cons_succ]
  refine wpAnyH_take (i := 34) (v := ?v34_25) rfl (by kernel_rfl) (by kernel_rfl) (by kernel_rfl) (fun _ _ _ h => h) (Or.inl ⟨by rfl, ?hy34_25⟩) (by assumption) ?rest34_25
  case hy34_25 => (intro w9 hSw; clear hSw; go_simp; try with_reducible rfl)
  try simp only [Act.put, List.setIfInBounds_toArray, List.set_cons_zero, List.set_cons_succ, List.getElem_toArray, List.getElem_cons_zero, List.getElem_cons_succ]
  refine wpAnyH_take (i := 35) (v := ?v35_26) rfl (by kernel_rfl) (by kernel_rfl) (by kernel_rfl) (fun _ _ _ h => h) (Or.inl ⟨by rfl, ?hy35_26⟩) (by assumption) ?rest35_26
  case hy35_26 => (intro w9 hSw; obtain ⟨k0, k1, k2, k3, k4, k5, k6, k7, k8⟩ := Vbx.cells hSw; go_simp; try with_reducible rfl)
  try simp only [Act.put, List.setIfInBounds_toArray, List.set_cons_zero, List.set_cons_succ, List.getElem_toArray, List.getElem_cons_zero, List.getElem_cons_succ]
  refine wpAnyH_ready (rs := [36]) (by kernel_rfl) (by simp) ?_
  refine AllReadyH.cons rfl (fun K hK => ?_) AllReadyH.nil
  go_simp
  with_reducible refine (k_D _).mono ?_
  rintro e w17 ⟨rfl, hb⟩
  replace hst := hst.on hb
  replace D1 := D1.on hb
  replace bz := bz.trans (hb.mono bz.size)
  clear hb
  refine hK.out _ _ D1 (fun hH => ?_)
  clear hK K hS
  have hS := hH
  clear hH
  try simp only [Act.put, List.setIfInBounds_toArray, List.set_cons_zero, List.set_cons_succ, List.getElem_toArray, List.getElem_cons_zero, List.getElem_cons_succ]
  refine wpAnyH_ready (rs := [37]) (by kernel_rfl) (by simp) ?_
  refine AllReadyH.cons rfl (fun K hK => ?_) AllReadyH.nil
  go_simp
  with_reducible refine (k_DG hst).mono ?_
  rintro e w18 ⟨rfl, hb⟩
  replace hst := hst.on hb
  replace D1 := D1.on hb
  replace bz := bz.trans (hb.mono bz.size)
  clear hb
  refine hK.out _ _ D1 (fun hH => ?_)
  clear hK K hS
  have hS := hH
  clear hH
  try simp only [Act.put, List.setIfInBounds_toArray, List.set_cons_zero, List.set_cons_succ, List.getElem_toArray, List.getElem_cons_zero, List.getElem_cons_succ]
  refine wpAnyH_take (i := 38) (v := ?v38_27) rfl (by kernel_rfl) (by kernel_rfl) (by kernel_rfl) (fun _ _ _ h => h) (Or.inl ⟨by rfl, ?hy38_27⟩) (by assumption) ?rest38_27
  case hy38_27 => (intro w9 hSw; clear hSw; go_simp; try with_reducible rfl)
  try simp only [Act.put, List.setIfInBounds_toArray, List.set_cons_zero, List.set_cons_succ, List.getElem_toArray, List.getElem_cons_zero, List.getElem_cons_succ]
  refine wpAnyH_take (i := 39) (v := ?v39_28) rfl (by kernel_rfl) (by kernel_rfl) (by kernel_rfl) (fun _ _ _ h => h) (Or.inl ⟨by rfl, ?hy39_28⟩) (by assumption) ?rest39_28
  case hy39_28 => (intro w9 hSw; clear hSw; go_simp; try with_reducible rfl)
  try simp only [Act.put, List.setIfInBounds_toArray, List.set_cons_zero, List.set_cons_succ, List.getElem_toArray, List.getElem_cons_zero, List.getElem_cons_succ]
  refine wpAnyH_take (i := 40) (v := ?v40_29) rfl (by kernel_rfl) (by kernel_rfl) (by kernel_rfl) (fun _ _ _ h => h) (Or.inl ⟨by rfl, ?hy40_29⟩) (by assumption) ?rest40_29
  case hy40_29 => (intro w9 hSw; clear hSw; go_simp; try with_reducible rfl)
  try simp only [Act.put, List.setIfInBounds_toArray, List.set_cons_zero, List.set_cons_succ, List.getElem_toArray, List.getElem_cons_zero, List.getElem_cons_succ]
  refine wpAnyH_take (i := 41) (v := ?v41_30) rfl (by kernel_rfl) (by kernel_rfl) (by kernel_rfl) (fun _ _ _ h => h) (Or.inl ⟨by rfl, ?hy41_30⟩) (by assumption) ?rest41_30
  case hy41_30 => (intro w9 hSw; obtain ⟨k0, k1, k2, k3, k4, k5, k6, k7, k8⟩ := Vbx.cells hSw; go_simp; try with_reducible rfl)
  try simp only [Act.put, List.setIfInBounds_toArray, List.set_cons_zero, List.set_cons_succ, List.getElem_toArray, List.getElem_cons_zero, List.getElem_cons_succ]
  refine wpAnyH_take (i := 43) (v := ?v43_31) rfl (by kernel_rfl) (by kernel_rfl) (by kernel_rfl) (fun _ _ _ h => h) (Or.inl ⟨by rfl, ?hy43_31⟩) (by assumption) ?rest43_31
  case hy43_31 => (intro w9 hSw; obtain ⟨k0, k1, k2, k3, k4, k5, k6, k7, k8⟩ := Vbx.cells hSw; go_simp; try with_reducible rfl)
  try simp only [Act.put, List.setIfInBounds_toArray, List.set_cons_zero, List.set_cons_succ, List.getElem_toArray, List.getElem_cons_zero, List.getElem_cons_succ]
  refine wpAnyH_ready (rs := [42]) (by kernel_rfl) (by simp) ?_
  refine AllReadyH.cons rfl (fun K hK => ?_) AllReadyH.nil
  go_simp
  with_reducible refine (k_R0 _).mono ?_
  rintro e w19 ⟨rfl, hb⟩
  replace hst := hst.on hb
  replace D1 := D1.on hb
  replace bz := bz.trans (hb.mono bz.size)
  clear hb
  refine hK.out _ _ D1 (fun hH => ?_)
  clear hK K hS
  have hS := hH
  clear hH
  try simp only [Act.put, List.setIfInBounds_toArray, List.set_cons_zero, List.set_cons_succ, List.getElem_toArray, List.getElem_cons_zero, List.getElem_cons_succ]
  refine wpAnyH_ready (rs := [44]) (by kernel_rfl) (by simp) ?_
  refine AllReadyH.cons rfl (fun K hK => ?_) AllReadyH.nil
  go_simp
  with_reducible refine (k_C0 _).mono ?_
  rintro e w20 ⟨rfl, hb⟩
  replace hst := hst.on hb
  replace D1 := D1.on hb
  replace bz := bz.trans (hb.mono bz.size)
  clear hb
  refine hK.out _ _ D1 (fun hH => ?_)
  clear hK K hS
  have hS := hH
  clear hH
  try simp only [Act.put, List.setIfInBounds_toArray, List.set_cons_zero, List.set_cons_succ, List.getElem_toArray, List.getElem_cons_zero, List.getElem_cons_succ]
  refine wpAnyH_ready (rs := [45]) (by kernel_rfl) (by simp) ?_
  refine AllReadyH.cons rfl (fun K hK => ?_) AllReadyH.nil
  go_simp
  with_reducible refine (k_S1 hst).mono ?_
  rintro e w21 ⟨rfl, hb⟩
  replace hst := hst.on hb
  replace D1 := D1.on hb
  replace bz := bz.trans (hb.mono bz.size)
  clear hb
  refine hK.out _ _ D1 (fun hH => ?_)
  clear hK K hS
  have hS := hH
  clear hH
  try simp only [Act.put, List.setIfInBounds_toArray, List.set_cons_zero, List.set_cons_succ, List.getElem_toArray, List.getElem_cons_zero, List.getElem_cons_succ]
  refine wpAnyH_take (i := 46) (v := ?v46_32) rfl (by kernel_rfl) (by kernel_rfl) (by kernel_rfl) (fun _ _ _ h => h) (Or.inl ⟨by rfl, ?hy46_32⟩) (by assumption) ?rest46_32
  case hy46_32 => (intro w9 hSw; clear hSw; go_simp; try with_reducible rfl)
  try simp only [Act.put, List.setIfInBounds_toArray, List.set_cons_zero, List.set_cons_succ, List.getElem_toArray, List.getElem_cons_zero, List.getElem_cons_succ]
  refine wpAnyH_take (i := 47) (v := ?v47_33) rfl (by kernel_rfl) (by kernel_rfl) (by kernel_rfl) (fun _ _ _ h => h) (Or.inl ⟨by rfl, ?hy47_33⟩) (by assumption) ?rest47_33
  case hy47_33 => (intro w9 hSw; clear hSw; go_simp; try with_reducible rfl)
  try simp only [Act.put, List.setIfInBounds_toArray, List.set_cons_zero, List.set_cons_succ, List.getElem_toArray, List.getElem_cons_zero, List.getElem_cons_succ]
  refine wpAnyH_take (i := 48) (v := ?v48_34) rfl (by kernel_rfl) (by kernel_rfl) (by kernel_rfl) (fun _ _ _ h => h) (Or.inl ⟨by rfl, ?hy48_34⟩) (by assumption) ?rest48_34
  case hy48_34 => (intro w9 hSw; obtain ⟨k0, k1, k2, k3, k4, k5, k6, k7, k8⟩ := Vbx.cells hSw; go_simp; try with_reducible rfl)
  try simp only [Act.put, List.setIfInBounds_toArray, List.set_cons_zero, List.set_cons_succ, List.getElem_toArray, List.getElem_cons_zero, List.getElem_cons_succ]
  refine wpAnyH_take (i := 50) (v := ?v50_35) rfl (by kernel_rfl) (by kernel_rfl) (by kernel_rfl) (fun _ _ _ h => h) (Or.inl ⟨by rfl, ?hy50_35⟩) (by assumption) ?rest50_35
  case hy50_35 => (intro w9 hSw; obtain ⟨k0, k1, k2, k3, k4, k5, k6, k7, k8⟩ := Vbx.cells hSw; go_simp; try with_reducible rfl)
  try simp only [Act.put, List.setIfInBounds_toArray, List.set_cons_zero, List.set_cons_succ, List.getElem_toArray, List.getElem_cons_zero, List.getElem_cons_succ]
  refine wpAnyH_ready (rs := [49]) (by kernel_rfl) (by simp) ?_
  refine AllReadyH.cons rfl (fun K hK => ?_) AllReadyH.nil
  go_simp
  with_reducible refine (k_R0 _).mono ?_
  rintro e w22 ⟨rfl, hb⟩
  replace hst := hst.on hb
  replace D1 := D1.on hb
  replace bz := bz.trans (hb.mono bz.size)
  clear hb
  refine hK.out _ _ D1 (fun hH => ?_)
  clear hK K hS
  have hS := hH
  clear hH
  try simp only [Act.put, List.setIfInBounds_toArray, List.set_cons_zero, List.set_cons_succ, List.getElem_toArray, List.getElem_cons_zero, List.getElem_cons_succ]
  refine wpAnyH_ready (rs := [51]) (by kernel_rfl) (by simp) ?_
  refine AllReadyH.cons rfl (fun K hK => ?_) AllReadyH.nil
  go_simp
  with_reducible refine (k_R1 _).mono ?_
  rintro e w23 ⟨rfl, hb⟩
  replace hst := hst.on hb
  replace D1 := D1.on hb
  replace bz := bz.trans (hb.mono bz.size)
  clear hb
  refine hK.out _ _ D1 (fun hH => ?_)
  clear hK K hS
  have hS := hH
  clear hH
  try simp only [Act.put, List.setIfInBounds_toArray, List.set_cons_zero, List.set_cons_succ, List.getElem_toArray, List.getElem_cons_zero, List.getElem_cons_succ]
  refine wpAnyH_ready (rs := [52]) (by kernel_rfl) (by simp) ?_
  refine AllReadyH.cons rfl (fun K hK => ?_) AllReadyH.nil
  go_simp
  with_reducible refine (k_S2 hst).mono ?_
  rintro e w24 ⟨rfl, hb⟩
  replace hst := hst.on hb
  replace D1 := D1.on hb
  replace bz := bz.trans (hb.mono bz.size)
  clear hb
  refine hK.out _ _ D1 (fun hH => ?_)
  clear hK K hS
  have hS := hH
  clear hH
  try simp only [Act.put, List.setIfInBounds_toArray, List.set_cons_zero, List.set_cons_succ, List.getElem_toArray, List.getElem_cons_zero, List.getElem_cons_succ]
  refine wpAnyH_take (i := 53) (v := ?v53_36) rfl (by kernel_rfl) (by kernel_rfl) (by kernel_rfl) (fun _ _ _ h => h) (Or.inl ⟨by rfl, ?hy53_36⟩) (by assumption) ?rest53_36
  case hy53_36 => (intro w9 hSw; clear hSw; go_simp; try with_reducible rfl)
  try simp only [Act.put, List.setIfInBounds_toArray, List.set_cons_zero, List.set_cons_succ, List.getElem_toArray, List.getElem_cons_zero, List.getElem_cons_succ]
  refine wpAnyH_take (i := 54) (v := ?v54_37) rfl (by kernel_rfl) (by kernel_rfl) (by kernel_rfl) (fun _ _ _ h => h) (Or.inl ⟨by rfl, ?hy54_37⟩) (by assumption) ?rest54_37
  case hy54_37 => (intro w9 hSw; clear hSw; go_simp; try with_reducible rfl)
  try simp only [Act.put, List.setIfInBounds_toArray, List.set_cons_zero, List.set_cons_succ, List.getElem_toArray, List.getElem_cons_zero, List.getElem_cons_succ]
  refine wpAnyH_take (i := 55) (v := ?v55_38) rfl (by kernel_rfl) (by kernel_rfl) (by kernel_rfl) (fun _ _ _ h => h) (Or.inl ⟨by rfl, ?hy55_38⟩) (by assumption) ?rest55_38
  case hy55_38 => (intro w9 hSw; clear hSw; go_simp; try with_reducible rfl)
  try simp only [Act.put, List.setIfInBounds_toArray, List.set_cons_zero, List.set_cons_succ, List.getElem_toArray, List.getElem_cons_zero, List.getElem_cons_succ]
  refine wpAnyH_take (i := 56) (v := ?v56_39) rfl (by kernel_rfl) (by kernel_rfl) (by kernel_rfl) (fun _ _ _ h => h) (Or.inl ⟨by rfl, ?hy56_39⟩) (by assumption) ?rest56_39
  case hy56_39 => (intro w9 hSw; obtain ⟨k0, k1, k2, k3, k4, k5, k6, k7, k8⟩ := Vbx.cells hSw; go_simp; try with_reducible rfl)
  try simp only [Act.put, List.setIfInBounds_toArray, List.set_cons_zero, List.set_cons_succ, List.getElem_toArray, List.getElem_cons_zero, List.getElem_cons_succ]
  refine wpAnyH_take (i := 58) (v := ?v58_40) rfl (by kernel_rfl) (by kernel_rfl) (by kernel_rfl) (fun _ _ _ h => h) (Or.inl ⟨by rfl, ?hy58_40⟩) (by assumption) ?rest58_40
  case hy58_40 => (intro w9 hSw; obtain ⟨k0, k1, k2, k3, k4, k5, k6, k7, k8⟩ := Vbx.cells hSw; go_simp; try with_reducible rfl)
  try simp only [Act.put, List.setIfInBounds_toArray, List.set_cons_zero, List.set_cons_succ, List.getElem_toArray, List.getElem_cons_zero, List.getElem_cons_succ]
  refine wpAnyH_ready (rs := [57]) (by kernel_rfl) (by simp) ?_
  refine AllReadyH.cons rfl (fun K hK => ?_) AllReadyH.nil
  go_simp
  have hlt2 := hst.lt
  with_reducible refine (k_C hst).mono ?_
  rintro e w25 ⟨s2, g2, cap2, rfl, hst2, hb⟩
  replace hst := hst.on hb
  replace D1 := D1.on hb
  replace bz := bz.trans (hb.mono bz.size)
  have hne : s2 ≠ s := by have := hst2.lo; omega
  clear hb hlt2
  refine hK.out _ _ D1 (fun hH => ?_)
  clear hK K hS
  have hS := hH
  clear hH
  try simp only [Act.put, List.setIfInBounds_toArray, List.set_cons_zero, List.set_cons_succ, List.getElem_toArray, List.getElem_cons_zero, List.getElem_cons_succ]
  refine wpAnyH_ready (rs := [59]) (by kernel_rfl) (by simp) ?_
  refine AllReadyH.cons rfl (fun K hK => ?_) AllReadyH.nil
  go_simp
  with_reducible refine (k_S3 hst hst2 hne).mono ?_
  rintro e w26 ⟨rfl, hb⟩
  replace hst := hst.on hb
  replace D1 := D1.on hb
  replace hst2 := hst2.on hb
  replace bz := bz.trans (hb.mono bz.size)
  clear hb hst2 hne
  refine hK.out _ _ D1 (fun hH => ?_)
  clear hK K hS
  have hS := hH
  clear hH
  try simp only [Act.put, List.setIfInBounds_toArray, List.set_cons_zero, List.set_cons_succ, List.getElem_toArray, List.getElem_cons_zero, List.getElem_cons_succ]
  refine wpAnyH_take (i := 60) (v := ?v60_41) rfl (by kernel_rfl) (by kernel_rfl) (by kernel_rfl) (fun _ _ _ h => h) (Or.inl ⟨by rfl, ?hy60_41⟩) (by assumption) ?rest60_41
  case hy60_41 => (intro w9 hSw; clear hSw; go_simp; try with_reducible rfl)
  try simp only [Act.put, List.setIfInBounds_toArray, List.set_cons_zero, List.set_cons_succ, List.getElem_toArray, List.getElem_cons_zero, List.getElem_cons_succ]
  refine wpAnyH_take (i := 61) (v := ?v61_42) rfl (by kernel_rfl) (by kernel_rfl) (by kernel_rfl) (fun _ _ _ h => h) (Or.inl ⟨by rfl, ?hy61_42⟩) (by assumption) ?rest61_42
  case hy61_42 => (intro w9 hSw; clear hSw; go_simp; try with_reducible rfl)
  try simp only [Act.put, List.setIfInBounds_toArray, List.set_cons_zero, List.set_cons_succ, List.getElem_toArray, List.getElem_cons_zero, List.getElem_cons_succ]
  refine wpAnyH_take (i := 62) (v := ?v62_43) rfl (by kernel_rfl) (by kernel_rfl) (by kernel_rfl) (fun _ _ _ h => h) (Or.inl ⟨by rfl, ?hy62_43⟩) (by assumption) ?rest62_43
  case hy62_43 => (intro w9 hSw; clear hSw; go_simp; try with_reducible rfl)
  try simp only [Act.put, List.setIfInBounds_toArray, List.set_cons_zero, List.set_cons_succ, List.getElem_toArray, List.getElem_cons_zero, List.getElem_cons_succ]
  refine wpAnyH_take (i := 63) (v := ?v63_44) rfl (by kernel_rfl) (by kernel_rfl) (by kernel_rfl) (fun _ _ _ h => h) (Or.inl ⟨by rfl, ?hy63_44⟩) (by assumption) ?rest63_44
  case hy63_44 => (intro w9 hSw; clear hSw; go_simp; try with_reducible rfl)
  try simp only [Act.put, List.setIfInBounds_toArray, List.set_cons_zero, List.set_cons_succ, List.getElem_toArray, List.getElem_cons_zero, List.getElem_cons_succ]
  refine wpAnyH_ready (rs := [64]) (by kernel_rfl) (by simp) ?_
  refine AllReadyH.cons rfl (fun K hK => ?_) AllReadyH.nil
  go_simp
  with_reducible refine (num_any _ _).mono ?_
  rintro e v27 ⟨rfl, rfl⟩
  refine hK.out _ _ D1 (fun hH => ?_)
  clear hK K hS
  have hS := hH
  clear hH
  try simp only [Act.put, List.setIfInBounds_toArray, List.set_cons_zero, List.set_cons_succ, List.getElem_toArray, List.getElem_cons_zero, List.getElem_cons_succ]
  refine wpAnyH_take (i := 65) (oi := { dst := some 91, op := Go.Op.binOp Go.BinOp.eql 3 (Go.Operand.tmp 90) (Go.Operand.const (Go.Value.int Go.IntKind.i64 2)) 3, type := 4, pos := "law.go:24", after := #[{ on := 64, ground := Go.Ground.data }, { on := 62, ground := Go.Ground.guard }], guard := some (62, true) }) (v := ?v65_45) (by first | rfl | kernel_rfl) (by kernel_rfl) (by kernel_rfl) (by kernel_rfl) (fun _ _ _ h => h) (Or.inl ⟨by rfl, ?hy65_45⟩) (by assumption) ?rest65_45
  case hy65_45 => (intro w9 hSw; clear hSw; go_simp; try with_reducible rfl)
  try simp only [Act.put, List.setIfInBounds_toArray, List.set_cons_zero, List.set_cons_succ, List.getElem_toArray, List.getElem_cons_zero, List.getElem_cons_succ]
  refine wpAnyH_take (i := 66) (oi := { dst := some 92, op := Go.Op.pick (Go.Operand.tmp 88) (Go.Operand.tmp 91) (Go.Operand.const (Go.Value.bool false)), type := 4, pos := "law.go:24", after := #[{ on := 62, ground := Go.Ground.data }, { on := 65, ground := Go.Ground.data }], guard := none }) (v := ?v66_46) (by first | rfl | kernel_rfl) (by kernel_rfl) (by kernel_rfl) (by kernel_rfl) (fun _ _ _ h => h) (Or.inl ⟨by rfl, ?hy66_46⟩) (by assumption) ?rest66_46
  case hy66_46 => (intro w9 hSw; clear hSw; go_simp; try with_reducible rfl)
  try simp only [Act.put, List.setIfInBounds_toArray, List.set_cons_zero, List.set_cons_succ, List.getElem_toArray, List.getElem_cons_zero, List.getElem_cons_succ]
  refine wpAnyH_take (i := 67) (oi := { dst := some 93, op := Go.Op.move (Go.Operand.tmp 92), type := 4, pos := "law.go:24", after := #[{ on := 66, ground := Go.Ground.data }, { on := 64, ground := Go.Ground.chain }], guard := none }) (v := ?v67_47) (by first | rfl | kernel_rfl) (by kernel_rfl) (by kernel_rfl) (by kernel_rfl) (fun _ _ _ h => h) (Or.inl ⟨by rfl, ?hy67_47⟩) (by assumption) ?rest67_47
  case hy67_47 => (intro w9 hSw; clear hSw; go_simp; try with_reducible rfl)
  try simp only [Act.put, List.setIfInBounds_toArray, List.set_cons_zero, List.set_cons_succ, List.getElem_toArray, List.getElem_cons_zero, List.getElem_cons_succ]
  refine wpAnyH_take (i := 68) (oi := { dst := some 94, op := Go.Op.move (Go.Operand.tmp 7), type := 31, pos := "law.go:24", after := #[{ on := 67, ground := Go.Ground.guard }], guard := some (67, true) }) (v := ?v68_48) (by first | rfl | kernel_rfl) (by kernel_rfl) (by kernel_rfl) (by kernel_rfl) (fun _ _ _ h => h) (Or.inl ⟨by rfl, ?hy68_48⟩) (by assumption) ?rest68_48
  case hy68_48 => (intro w9 hSw; clear hSw; go_simp; try with_reducible rfl)
  try simp only [Act.put, List.setIfInBounds_toArray, List.set_cons_zero, List.set_cons_succ, List.getElem_toArray, List.getElem_cons_zero, List.getElem_cons_succ]
  refine wpAnyH_ready (rs := [69]) (by kernel_rfl) (by simp) ?_
  refine AllReadyH.cons rfl (fun K hK => ?_) AllReadyH.nil
  go_simp
  with_reducible refine (num_any _ _).mono ?_
  rintro e v28 ⟨rfl, rfl⟩
  refine hK.out _ _ D1 (fun hH => ?_)
  clear hK K hS
  have hS := hH
  clear hH
  try simp only [Act.put, List.setIfInBounds_toArray, List.set_cons_zero, List.set_cons_succ, List.getElem_toArray, List.getElem_cons_zero, List.getElem_cons_succ]
  refine wpAnyH_take (i := 70) (oi := { dst := some 96, op := Go.Op.binOp Go.BinOp.eql 3 (Go.Operand.tmp 95) (Go.Operand.const (Go.Value.int Go.IntKind.i64 2)) 3, type := 4, pos := "law.go:24", after := #[{ on := 69, ground := Go.Ground.data }, { on := 67, ground := Go.Ground.guard }], guard := some (67, true) }) (v := ?v70_49) (by first | rfl | kernel_rfl) (by kernel_rfl) (by kernel_rfl) (by kernel_rfl) (fun _ _ _ h => h) (Or.inl ⟨by rfl, ?hy70_49⟩) (by assumption) ?rest70_49
  case hy70_49 => (intro w9 hSw; clear hSw; go_simp; try with_reducible rfl)
  try simp only [Act.put, List.setIfInBounds_toArray, List.set_cons_zero, List.set_cons_succ, List.getElem_toArray, List.getElem_cons_zero, List.getElem_cons_succ]
  refine wpAnyH_take (i := 71) (oi := { dst := some 97, op := Go.Op.pick (Go.Operand.tmp 93) (Go.Operand.tmp 96) (Go.Operand.const (Go.Value.bool false)), type := 4, pos := "law.go:24", after := #[{ on := 67, ground := Go.Ground.data }, { on := 70, ground := Go.Ground.data }], guard := none }) (v := ?v71_50) (by first | rfl | kernel_rfl) (by kernel_rfl) (by kernel_rfl) (by kernel_rfl) (fun _ _ _ h => h) (Or.inl ⟨by rfl, ?hy71_50⟩) (by assumption) ?rest71_50
  case hy71_50 => (intro w9 hSw; clear hSw; go_simp; try with_reducible rfl)
  try simp only [Act.put, List.setIfInBounds_toArray, List.set_cons_zero, List.set_cons_succ, List.getElem_toArray, List.getElem_cons_zero, List.getElem_cons_succ]
  refine wpAnyH_take (i := 72) (oi := { dst := some 98, op := Go.Op.move (Go.Operand.tmp 97), type := 4, pos := "law.go:24", after := #[{ on := 71, ground := Go.Ground.data }, { on := 69, ground := Go.Ground.chain }], guard := none }) (v := ?v72_51) (by first | rfl | kernel_rfl) (by kernel_rfl) (by kernel_rfl) (by kernel_rfl) (fun _ _ _ h => h) (Or.inl ⟨by rfl, ?hy72_51⟩) (by assumption) ?rest72_51
  case hy72_51 => (intro w9 hSw; clear hSw; go_simp; try with_reducible rfl)
  try simp only [Act.put, List.setIfInBounds_toArray, List.set_cons_zero, List.set_cons_succ, List.getElem_toArray, List.getElem_cons_zero, List.getElem_cons_succ]
  refine wpAnyH_take (i := 73) (oi := { dst := some 99, op := Go.Op.load 30 (Go.Operand.tmp 1), type := 30, pos := "law.go:24", after := #[{ on := 72, ground := Go.Ground.guard }], guard := some (72, true) }) (v := ?v73_52) (by first | rfl | kernel_rfl) (by kernel_rfl) (by kernel_rfl) (by kernel_rfl) (fun _ _ _ h => h) (Or.inl ⟨by rfl, ?hy73_52⟩) (by assumption) ?rest73_52
  case hy73_52 => (intro w9 hSw; obtain ⟨k0, k1, k2, k3, k4, k5, k6, k7, k8⟩ := Vbx.cells hSw; go_simp; try with_reducible rfl)
  try simp only [Act.put, List.setIfInBounds_toArray, List.set_cons_zero, List.set_cons_succ, List.getElem_toArray, List.getElem_cons_zero, List.getElem_cons_succ]
  refine wpAnyH_ready (rs := [74]) (by kernel_rfl) (by simp) ?_
  refine AllReadyH.cons rfl (fun K hK => ?_) AllReadyH.nil
  go_simp
  with_reducible refine (k_S20 hst).mono ?_
  rintro e w29 ⟨rfl, hst2, hg⟩
  replace D1 := D1.grown hg (by simp; omega)
  replace bz := bz.grown hg bz.size (fun k e => by cases e; omega)
  replace hst := hst2
  clear hst2 hg
  refine hK.out _ _ D1 (fun hH => ?_)
  clear hK K hS
  have hS := hH
  clear hH
  try simp only [Act.put, List.setIfInBounds_toArray, List.set_cons_zero, List.set_cons_succ, List.getElem_toArray, List.getElem_cons_zero, List.getElem_cons_succ]
  refine wpAnyH_ready (rs := [75]) (by kernel_rfl) (by simp) ?_
  refine AllReadyH.cons rfl (fun K hK => ?_) AllReadyH.nil
  go_simp
  with_reducible refine (num_any _ _).mono ?_
  rintro e v30 ⟨rfl, rfl⟩
  refine hK.out _ _ D1 (fun hH => ?_)
  clear hK K hS
  have hS := hH
  clear hH
  try simp only [Act.put, List.setIfInBounds_toArray, List.set_cons_zero, List.set_cons_succ, List.getElem_toArray, List.getElem_cons_zero, List.getElem_cons_succ]
  refine wpAnyH_take (i := 76) (oi := { dst := some 102, op := Go.Op.binOp Go.BinOp.eql 3 (Go.Operand.tmp 101) (Go.Operand.const (Go.Value.int Go.IntKind.i64 2)) 3, type := 4, pos := "law.go:24", after := #[{ on := 75, ground := Go.Ground.data }, { on := 72, ground := Go.Ground.guard }], guard := some (72, true) }) (v := ?v76_53) (by first | rfl | kernel_rfl) (by kernel_rfl) (by kernel_rfl) (by kernel_rfl) (fun _ _ _ h => h) (Or.inl ⟨by rfl, ?hy76_53⟩) (by assumption) ?rest76_53
  case hy76_53 => (intro w9 hSw; clear hSw; go_simp; try with_reducible rfl)
  try simp only [Act.put, List.setIfInBounds_toArray, List.set_cons_zero, List.set_cons_succ, List.getElem_toArray, List.getElem_cons_zero, List.getElem_cons_succ]
  refine wpAnyH_take (i := 77) (oi := { dst := some 103, op := Go.Op.pick (Go.Operand.tmp 98) (Go.Operand.tmp 102) (Go.Operand.const (Go.Value.bool false)), type := 4, pos := "law.go:24", after := #[{ on := 72, ground := Go.Ground.data }, { on := 76, ground := Go.Ground.data }], guard := none }) (v := ?v77_54) (by first | rfl | kernel_rfl) (by kernel_rfl) (by kernel_rfl) (by kernel_rfl) (fun _ _ _ h => h) (Or.inl ⟨by rfl, ?hy77_54⟩) (by assumption) ?rest77_54
  case hy77_54 => (intro w9 hSw; clear hSw; go_simp; try with_reducible rfl)
  try simp only [Act.put, List.setIfInBounds_toArray, List.set_cons_zero, List.set_cons_succ, List.getElem_toArray, List.getElem_cons_zero, List.getElem_cons_succ]
  refine wpAnyH_take (i := 78) (oi := { dst := some 104, op := Go.Op.move (Go.Operand.tmp 103), type := 4, pos := "law.go:24", after := #[{ on := 77, ground := Go.Ground.data }, { on := 75, ground := Go.Ground.chain }], guard := none }) (v := ?v78_55) (by first | rfl | kernel_rfl) (by kernel_rfl) (by kernel_rfl) (by kernel_rfl) (fun _ _ _ h => h) (Or.inl ⟨by rfl, ?hy78_55⟩) (by assumption) ?rest78_55
  case hy78_55 => (intro w9 hSw; clear hSw; go_simp; try with_reducible rfl)
  try simp only [Act.put, List.setIfInBounds_toArray, List.set_cons_zero, List.set_cons_succ, List.getElem_toArray, List.getElem_cons_zero, List.getElem_cons_succ]
  refine wpAnyH_take (i := 79) (oi := { dst := some 105, op := Go.Op.build 30 #[], type := 30, pos := "law.go:24", after := #[{ on := 78, ground := Go.Ground.guard }], guard := some (78, true) }) (v := ?v79_56) (by first | rfl | kernel_rfl) (by kernel_rfl) (by kernel_rfl) (by kernel_rfl) (fun _ _ _ h => h) (Or.inl ⟨by rfl, ?hy79_56⟩) (by assumption) ?rest79_56
  case hy79_56 => (intro w9 hSw; clear hSw; go_simp; try with_reducible rfl)
  try simp only [Act.put, List.setIfInBounds_toArray, List.set_cons_zero, List.set_cons_succ, List.getElem_toArray, List.getElem_cons_zero, List.getElem_cons_succ]
  refine wpAnyH_ready (rs := [80]) (by kernel_rfl) (by simp) ?_
  refine AllReadyH.cons rfl (fun K hK => ?_) AllReadyH.nil
  go_simp
  with_reducible refine (k_SZ2 hst).mono ?_
  rintro e w31 ⟨rfl, hst2, hg⟩
  replace D1 := D1.grown hg (by simp; omega)
  replace bz := bz.grown hg bz.size (fun k e => by cases e; omega)
  replace hst := hst2
  clear hst2 hg
  refine hK.out _ _ D1 (fun hH => ?_)
  clear hK K hS
  have hS := hH
  clear hH
  try simp only [Act.put, List.setIfInBounds_toArray, List.set_cons_zero, List.set_cons_succ, List.getElem_toArray, List.getElem_cons_zero, List.getElem_cons_succ]
  refine wpAnyH_ready (rs := [81]) (by kernel_rfl) (by simp) ?_
  refine AllReadyH.cons rfl (fun K hK => ?_) AllReadyH.nil
  go_simp
  with_reducible refine (num_any _ _).mono ?_
  rintro e v32 ⟨rfl, rfl⟩
  refine hK.out _ _ D1 (fun hH => ?_)
  clear hK K hS
  have hS := hH
  clear hH
  try simp only [Act.put, List.setIfInBounds_toArray, List.set_cons_zero, List.set_cons_succ, List.getElem_toArray, List.getElem_cons_zero, List.getElem_cons_succ]
  refine wpAnyH_take (i := 82) (oi := { dst := some 108, op := Go.Op.binOp Go.BinOp.eql 3 (Go.Operand.tmp 107) (Go.Operand.const (Go.Value.int Go.IntKind.i64 1)) 3, type := 4, pos := "law.go:24", after := #[{ on := 81, ground := Go.Ground.data }, { on := 78, ground := Go.Ground.guard }], guard := some (78, true) }) (v := ?v82_57) (by first | rfl | kernel_rfl) (by kernel_rfl) (by kernel_rfl) (by kernel_rfl) (fun _ _ _ h => h) (Or.inl ⟨by rfl, ?hy82_57⟩) (by assumption) ?rest82_57
  case hy82_57 => (intro w9 hSw; clear hSw; go_simp; try with_reducible rfl)
  try simp only [Act.put, List.setIfInBounds_toArray, List.set_cons_zero, List.set_cons_succ, List.getElem_toArray, List.getElem_cons_zero, List.getElem_cons_succ]
  refine wpAnyH_take (i := 83) (oi := { dst := some 109, op := Go.Op.pick (Go.Operand.tmp 104) (Go.Operand.tmp 108) (Go.Operand.const (Go.Value.bool false)), type := 4, pos := "law.go:24", after := #[{ on := 78, ground := Go.Ground.data }, { on := 82, ground := Go.Ground.data }], guard := none }) (v := ?v83_58) (by first | rfl | kernel_rfl) (by kernel_rfl) (by kernel_rfl) (by kernel_rfl) (fun _ _ _ h => h) (Or.inl ⟨by rfl, ?hy83_58⟩) (by assumption) ?rest83_58
  case hy83_58 => (intro w9 hSw; clear hSw; go_simp; try with_reducible rfl)
  try simp only [Act.put, List.setIfInBounds_toArray, List.set_cons_zero, List.set_cons_succ, List.getElem_toArray, List.getElem_cons_zero, List.getElem_cons_succ]
  refine wpAnyH_take (i := 84) (oi := { dst := some 0, op := Go.Op.assign (Go.Operand.tmp 109), type := 4, pos := "law.go:24", after := #[{ on := 83, ground := Go.Ground.data }, { on := 81, ground := Go.Ground.chain }, { on := 0, ground := Go.Ground.phase }, { on := 1, ground := Go.Ground.phase }, { on := 2, ground := Go.Ground.phase }, { on := 3, ground := Go.Ground.phase }, { on := 4, ground := Go.Ground.phase }, { on := 5, ground := Go.Ground.phase }, { on := 6, ground := Go.Ground.phase }, { on := 7, ground := Go.Ground.phase }, { on := 8, ground := Go.Ground.phase }, { on := 9, ground := Go.Ground.phase }, { on := 10, ground := Go.Ground.phase }, { on := 11, ground := Go.Ground.phase }, { on := 12, ground := Go.Ground.phase }, { on := 13, ground := Go.Ground.phase }, { on := 14, ground := Go.Ground.phase }, { on := 15, ground := Go.Ground.phase }, { on := 16, ground := Go.Ground.phase }, { on := 17, ground := Go.Ground.phase }, { on := 18, ground := Go.Ground.phase }, { on := 19, ground := Go.Ground.phase }, { on := 20, ground := Go.Ground.phase }, { on := 21, ground := Go.Ground.phase }, { on := 22, ground := Go.Ground.phase }, { on := 23, ground := Go.Ground.phase }, { on := 24, ground := Go.Ground.phase }, { on := 25, ground := Go.Ground.phase }, { on := 26, ground := Go.Ground.phase }, { on := 27, ground := Go.Ground.phase }, { on := 28, ground := Go.Ground.phase }, { on := 29, ground := Go.Ground.phase }, { on := 30, ground := Go.Ground.phase }, { on := 31, ground := Go.Ground.phase }, { on := 32, ground := Go.Ground.phase }, { on := 33, ground := Go.Ground.phase }, { on := 34, ground := Go.Ground.phase }, { on := 35, ground := Go.Ground.phase }, { on := 36, ground := Go.Ground.phase }, { on := 37, ground := Go.Ground.phase }, { on := 38, ground := Go.Ground.phase }, { on := 39, ground := Go.Ground.phase }, { on := 40, ground := Go.Ground.phase }, { on := 41, ground := Go.Ground.phase }, { on := 42, ground := Go.Ground.phase }, { on := 43, ground := Go.Ground.phase }, { on := 44, ground := Go.Ground.phase }, { on := 45, ground := Go.Ground.phase }, { on := 46, ground := Go.Ground.phase }, { on := 47, ground := Go.Ground.phase }, { on := 48, ground := Go.Ground.phase }, { on := 49, ground := Go.Ground.phase }, { on := 50, ground := Go.Ground.phase }, { on := 51, ground := Go.Ground.phase }, { on := 52, ground := Go.Ground.phase }, { on := 53, ground := Go.Ground.phase }, { on := 54, ground := Go.Ground.phase }, { on := 55, ground := Go.Ground.phase }, { on := 56, ground := Go.Ground.phase }, { on := 57, ground := Go.Ground.phase }, { on := 58, ground := Go.Ground.phase }, { on := 59, ground := Go.Ground.phase }, { on := 60, ground := Go.Ground.phase }, { on := 61, ground := Go.Ground.phase }, { on := 62, ground := Go.Ground.phase }, { on := 63, ground := Go.Ground.phase }, { on := 64, ground := Go.Ground.phase }, { on := 65, ground := Go.Ground.phase }, { on := 66, ground := Go.Ground.phase }, { on := 67, ground := Go.Ground.phase }, { on := 68, ground := Go.Ground.phase }, { on := 69, ground := Go.Ground.phase }, { on := 70, ground := Go.Ground.phase }, { on := 71, ground := Go.Ground.phase }, { on := 72, ground := Go.Ground.phase }, { on := 73, ground := Go.Ground.phase }, { on := 74, ground := Go.Ground.phase }, { on := 75, ground := Go.Ground.phase }, { on := 76, ground := Go.Ground.phase }, { on := 77, ground := Go.Ground.phase }, { on := 78, ground := Go.Ground.phase }, { on := 79, ground := Go.Ground.phase }, { on := 80, ground := Go.Ground.phase }, { on := 81, ground := Go.Ground.phase }, { on := 82, ground := Go.Ground.phase }, { on := 83, ground := Go.Ground.phase }], guard := none }) (v := ?v84_59) (by first | rfl | kernel_rfl) (by kernel_rfl) (by kernel_rfl) (by kernel_rfl) (fun _ _ _ h => h) (Or.inl ⟨by rfl, ?hy84_59⟩) (by assumption) ?rest84_59
  case hy84_59 => (intro w9 hSw; clear hSw; go_simp; try with_reducible rfl)
  try simp only [Act.put, List.setIfInBounds_toArray, List.set_cons_zero, List.set_cons_succ, List.getElem_toArray, List.getElem_cons_zero, List.getElem_cons_succ]
  refine wpAnyH_done (by kernel_rfl) ?_ _
  go_wp2_with fail
  go_ret
  exact ⟨rfl, bz⟩
end Go.Proofs.Ytceoefgjjekgaaa
